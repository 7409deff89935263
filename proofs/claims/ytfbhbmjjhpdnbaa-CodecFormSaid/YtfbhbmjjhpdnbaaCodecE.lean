/-
  The chapter's examples all hold: the contract of the examples' function; and of the function that asks whether no number stands ahead.
-/
import Derived.Test.YtfbhbmjjhpdnbaaCodecD
namespace Go.Proofs.Ytfbhbmjjhpdnbaa
open Go.ChangeShapes Go.WideShapes Go.ChangeAt Go.RowKit
set_option linter.unusedVariables false
attribute [local go_sem] bs_size bs_app bs_cut bs_tl bs_at

theorem num_i (i : Int) (h0 : 0 ≤ i) (h1 : i < 65536) (w : World) : Calls Try.prog 8 #[.int .u64 i] w fun e w' => e = .returned (str (numL i.toNat)) ∧ Below w.heap.size w w' := by
  have := num_any i.toNat (by unfold top64; omega) w
  rwa [Int.toNat_of_nonneg h0] at this
set_option maxRecDepth 100000 in
theorem no_yes (l : List UInt8) (hl : l.length ≤ 1048576) (hr : readL l = none) (w : World) : Calls Try.prog 20 #[str l] w fun e w' => e = .returned (.bool true) ∧ Below w.heap.size w w' := by
  have HR := Lib.hid hr
  clear hr
  go_enter Try.func20, Try.ntmps20
  go_wp2_with (go_at_call 14; refine (read_none HR.out (read_any l hl _)).mono ?_; rintro e w' ⟨rfl, hb⟩)
  go_ret
  exact ⟨rfl, hb⟩
theorem e0 : numL 0 = [0] := by simp [numL]
theorem e247 : numL 247 = [247] := by simp [numL]
theorem e248 : numL 248 = [248, 248] := by rw [numL_large _ (by omega)]; simp [dz_pos, dz_zero]
theorem e300 : numL 300 = [249, 1, 44] := by rw [numL_large _ (by omega)]; simp [dz_pos, dz_zero]
theorem eI0 : intL (-1) = [0] := by rw [intL_in _ (by omega) (by omega)]; exact e0
theorem eI246 : intL 246 = [247] := by rw [intL_in _ (by omega) (by omega)]; exact e247
theorem eI247 : intL 247 = [248, 248] := by rw [intL_in _ (by omega) (by omega)]; exact e248
theorem eT : textL [97, 98] = [2, 97, 98] := by simp [textL, numL]
theorem eR : readL [249, 1, 44, 120] = some (300, [120]) := by
  have := read_put 300 [120] (by omega); rw [e300] at this; exact this
theorem eN1 : readL [248, 5] = none := readL_bad _ _ (by decide) (by decide) (.inr (by decide))
theorem eN2 : readL [249, 0, 248] = none := readL_bad _ _ (by decide) (by decide) (.inl (by decide))
theorem eN3 : readL [248] = none := readL_cut _ _ (by decide) (by decide)
set_option maxRecDepth 100000 in
theorem coded_any (w : World) : Calls Try.prog 7 #[] w fun e w' => e = .returned (.bool true) ∧ Below w.heap.size w w' := by
  go_enter Try.func7, Try.ntmps7
  go_wp2_with fail
  refine (read_some eR (read_any _ (by decide) _)).mono ?_; rintro e w1 ⟨rfl, hb1⟩
  go_wp2_with fail
  refine (num_i _ (by decide) (by decide) _).mono ?_; rintro e w2 ⟨rfl, hb2⟩
  rw [show (0 : Int).toNat = 0 from rfl, e0]
  go_wp2_with fail
  refine (num_i _ (by decide) (by decide) _).mono ?_; rintro e w3 ⟨rfl, hb3⟩
  rw [show (247 : Int).toNat = 247 from rfl, e247]
  go_wp2_with fail
  refine (num_i _ (by decide) (by decide) _).mono ?_; rintro e w4 ⟨rfl, hb4⟩
  rw [show (248 : Int).toNat = 248 from rfl, e248]
  go_wp2_with fail
  refine (num_i _ (by decide) (by decide) _).mono ?_; rintro e w5 ⟨rfl, hb5⟩
  rw [show (300 : Int).toNat = 300 from rfl, e300]
  go_wp2_with fail
  refine (no_yes _ (by decide) eN1 _).mono ?_; rintro e w6 ⟨rfl, hb6⟩
  go_wp2_with fail
  refine (no_yes _ (by decide) eN2 _).mono ?_; rintro e w7 ⟨rfl, hb7⟩
  go_wp2_with fail
  refine (no_yes _ (by decide) eN3 _).mono ?_; rintro e w8 ⟨rfl, hb8⟩
  go_wp2_with fail
  refine (int_any _ (by decide) (by decide) _).mono ?_; rintro e w9 ⟨rfl, hb9⟩
  rw [eI0]
  go_wp2_with fail
  refine (int_any _ (by decide) (by decide) _).mono ?_; rintro e w10 ⟨rfl, hb10⟩
  rw [eI246]
  go_wp2_with fail
  refine (int_any _ (by decide) (by decide) _).mono ?_; rintro e w11 ⟨rfl, hb11⟩
  rw [eI247]
  go_wp2_with fail
  refine (text_any [97, 98] (by decide) _).mono ?_; rintro e w12 ⟨rfl, hb12⟩
  rw [eT]
  go_wp2_with fail
  go_ret
  have hb2' := (hb1).trans (hb2.mono (hb1).size)
  have hb3' := (hb2').trans (hb3.mono (hb2').size)
  have hb4' := (hb3').trans (hb4.mono (hb3').size)
  have hb5' := (hb4').trans (hb5.mono (hb4').size)
  have hb6' := (hb5').trans (hb6.mono (hb5').size)
  have hb7' := (hb6').trans (hb7.mono (hb6').size)
  have hb8' := (hb7').trans (hb8.mono (hb7').size)
  have hb9' := (hb8').trans (hb9.mono (hb8').size)
  have hb10' := (hb9').trans (hb10.mono (hb9').size)
  have hb11' := (hb10').trans (hb11.mono (hb10').size)
  have hb12' := (hb11').trans (hb12.mono (hb11').size)
  exact ⟨rfl, hb12'⟩
theorem unint_told {P : Program} {f : FuncId} {l r : List UInt8} {n : Int} {b : Bool} {w : World} (h : unintT l = (n, r, b)) (c : Calls P f #[str l] w (UnintTold l w)) :
    Calls P f #[str l] w fun e w' => e = three n .i64 r b ∧ Below w.heap.size w w' := c.mono fun e w' hh => by rw [UnintTold, h] at hh; exact hh
theorem cut_told {P : Program} {f : FuncId} {l a r : List UInt8} {b : Bool} {w : World} (h : cutT l = (a, r, b)) (c : Calls P f #[str l] w (CutTold l w)) :
    Calls P f #[str l] w fun e w' => e = texts a r b ∧ Below w.heap.size w w' := c.mono fun e w' hh => by rw [CutTold, h] at hh; exact hh
end Go.Proofs.Ytfbhbmjjhpdnbaa
