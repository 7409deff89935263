/-
  Proved here: for every unsigned number, every uint16 and every text, the law of stage 2 that what is put stands ahead of whatever is behind it and is told so, and that of what is cut off nothing is told, returns true, and leaves its arguments as they were. Conditions: none.
-/
import Derived.Test.YtfbhbmjjhpdnbaaRows
import Derived.Test.YtfbhbmjjhpdnbaaCodecE
import Derived.WalkKit
import Derived.ProofKit
import Derived.OpenShut
import Derived.ShutString
import Derived.ChangeOld
import Derived.Carry
namespace Go.Proofs.Ytfbhbmjjhpdnbaa.codecBack
open Go.ChangeShapes Go.WideShapes Go.ChangeAt Go.RowKit
open Go.ChangeMaps (open_string shut_string)
set_option linter.unusedVariables false
attribute [local go_sem] bs_size bs_app bs_cut bs_tl bs_at

theorem own : ownKnob Try.prog.godebug = none := by kernel_rfl
theorem laidOut : laidOutB Try.prog = true := by kernel_rfl

theorem unint_put (m : Nat) (X : List UInt8) (h : m ≤ 65535) : unintT (numL m ++ X) = ((m : Int) - 1, X, true) := unintT_some (read_put m X (by omega)) (by omega)
theorem cut_put (l X : List UInt8) (h : l.length ≤ 500) : cutT (textL l ++ X) = (l, X, true) := by
  have e : readL (textL l ++ X) = some (l.length, l ++ X) := by unfold textL; rw [List.append_assoc]; exact read_put _ _ (by omega)
  rw [cutT_some e (by simp)]; simp
theorem unint_cut (m : Nat) (h : m ≤ 65535) : unintT ((numL m).take ((numL m).length - 1)) = (0, [], false) :=
  unintT_none (read_cut m _ (by omega) (by have := (numL_len m (by omega)).2; omega))
theorem cut_cut (l : List UInt8) (h : l.length ≤ 500) : cutT ((textL l).take ((textL l).length - 1)) = ([], [], false) := by
  have hp := (numL_len l.length (by omega)).2
  rcases Nat.eq_zero_or_pos l.length with h0 | h0
  · have : l = [] := List.eq_nil_of_length_eq_zero h0
    subst this
    exact cutT_none (read_cut 0 _ (by omega) (by simp [textL] at hp ⊢; omega))
  · have e : (textL l).take ((textL l).length - 1) = numL l.length ++ l.take (l.length - 1) := by
      unfold textL
      rw [List.length_append, List.take_append, List.take_of_length_le (by omega)]
      congr 2; omega
    rw [e]
    exact cutT_big (read_put _ _ (by omega)) (by rw [List.length_take]; omega)
set_option maxRecDepth 100000 in
theorem walk (w : World) (a0 : Int) (w0 : (Lit.int .u64 a0).wf = true) (a1 : Int) (w1 : (Lit.int .u16 a1).wf = true) (s2 : ByteArray) (w2 : s2.size ≤ maxLen) :
    Calls Try.prog 5 #[.int .u64 a0, .int .u16 a1, .string s2] w fun e w' => e = .returned (.bool true) ∧ Below w.heap.size w w' := by
  obtain ⟨p0, q0⟩ := bounds_u64 w0
  obtain ⟨n, rfl⟩ := Int.eq_ofNat_of_zero_le p0
  obtain ⟨p1, q1⟩ := bounds_u16 w1
  obtain ⟨m, rfl⟩ := Int.eq_ofNat_of_zero_le p1
  obtain ⟨l, rfl⟩ : ∃ l, s2 = bs l := ⟨_, bs_list s2⟩
  by_cases hl : l.length > 500
  · go_enter Try.func5, Try.ntmps5
    go_wp2_with fail
    refine (coded_any _).mono ?_; rintro e w1 ⟨rfl, hb1⟩
    go_wp2
    go_ret
    exact ⟨rfl, hb1⟩
  have h1 : l.length ≤ 1048576 := by omega
  have hn : n < top64 := by unfold top64; omega
  have n9 := (numL_len n hn).1
  have n0 := (numL_len n hn).2
  have m9 := (numL_len m (by omega)).1
  have m0 := (numL_len m (by omega)).2
  have l9 := (numL_len l.length (by omega)).1
  have l0 := (numL_len l.length (by omega)).2
  have ht : (textL l).length = (numL l.length).length + l.length := by simp [textL]
  have t0 : (textL l).length ≤ 509 := by omega
  have t1 : l.length < (textL l).length := by omega
  have hi := intL_in ((m : Int) - 1) (by omega) (by omega)
  rw [show ((m : Int) - 1 + 1).toNat = m by omega] at hi
  have R1 := read_put n (numL m ++ (textL l ++ l)) hn
  have R2 := unint_put m (textL l ++ l) (by omega)
  have R3 := cut_put l l (by omega)
  have HR1 := Lib.hid R1
  have HR2 := Lib.hid R2
  have HR3 := Lib.hid R3
  clear R1 R2 R3 ht
  have z1 : ¬ numL n = [] := by intro h; rw [h] at n0; simp at n0
  have z2 : ¬ numL m = [] := by intro h; rw [h] at m0; simp at m0
  have y1 : (((numL n).length : Int) == 0) = false := by simp; exact z1
  have y2 : (((numL m).length : Int) == 0) = false := by simp; exact z2
  go_enter Try.func5, Try.ntmps5
  go_wp2_with fail
  refine (num_any n hn _).mono ?_; rintro e w1 ⟨rfl, hb1⟩
  go_wp2_with fail
  refine (int_any _ (by omega) (by omega) _).mono ?_; rintro e w2 ⟨rfl, hb2⟩
  go_wp2_with fail
  refine (text_any l h1 _).mono ?_; rintro e w3 ⟨rfl, hb3⟩
  go_wp2_with fail
  refine (read_some HR1.out (read_any _ (by simp only [List.length_append]; omega) _)).mono ?_; rintro e w4 ⟨rfl, hb4⟩
  go_wp2_with fail
  refine (unint_told HR2.out (unint_any _ (by simp only [List.length_append]; omega) _)).mono ?_; rintro e w5 ⟨rfl, hb5⟩
  go_wp2_with fail
  refine (cut_told HR3.out (cut_any _ (by simp only [List.length_append]; omega) _)).mono ?_; rintro e w6 ⟨rfl, hb6⟩
  go_wp2_with fail
  refine (unint_told (unint_cut m (by omega)) (unint_any _ (by rw [List.length_take]; omega) _)).mono ?_; rintro e w7 ⟨rfl, hb7⟩
  go_wp2_with fail
  refine (cut_told (cut_cut l (by omega)) (cut_any _ (by rw [List.length_take]; omega) _)).mono ?_; rintro e w8 ⟨rfl, hb8⟩
  go_wp2_with fail
  refine (no_yes _ (by rw [List.length_take]; omega) (read_cut n _ hn (by omega)) _).mono ?_; rintro e w9 ⟨rfl, hb9⟩
  go_wp2_with fail
  refine (coded_any _).mono ?_; rintro e w10 ⟨rfl, hb10⟩
  go_wp2
  go_ret
  have c2 := (hb1).trans (hb2.mono (hb1).size)
  have c3 := (c2).trans (hb3.mono (c2).size)
  have c4 := (c3).trans (hb4.mono (c3).size)
  have c5 := (c4).trans (hb5.mono (c4).size)
  have c6 := (c5).trans (hb6.mono (c5).size)
  have c7 := (c6).trans (hb7.mono (c6).size)
  have c8 := (c7).trans (hb8.mono (c7).size)
  have c9 := (c8).trans (hb9.mono (c8).size)
  have c10 := (c9).trans (hb10.mono (c9).size)
  exact ⟨rfl, c10⟩

set_option maxRecDepth 100000 in
theorem lifted (os : Os) (started : os.Started) (H : Type) (enc : TypeId × Value → H) :
    ReturnsInHanded {} Try.checked os 5 .any (Rows.codecBackSpec.pre6 enc Try.prog Try.f5 Rows.codecBackRow.domain false) (Rows.codecBackSpec.post enc Try.prog Try.f5 false true false false) := by
  refine returnsInHanded_of_change (C := Try.checked) own started (by kernel_rfl) Try.func5
    (ChangeSpec.witness6 (enc := enc) (C := Try.checked) false ⟨#[], #[.int .u64 0, .int .u16 0, .string ByteArray.empty], []⟩ 8 (by kernel_rfl) (by kernel_rfl) (by kernel_rfl) (by kernel_rfl)) ?_
  intro W base args ds gs before hval0 hW hcnd _
  have hval : ∀ (j : Nat) t v, Try.f5.params[j]? = some t → args[j]? = some v → Value.okWide Try.prog W .any base t v := hval0
  have hW' := hW
  obtain ⟨p, q, hA0, hV, rfl, hfz, hnd⟩ := hW
  have hA : DataW.TrodAll enc Try.prog W 0 (fun _ => true) true Try.f5.params.toList args.toList ds p := hA0
  rw [Try.params5] at hA hval
  obtain ⟨v0, vs0, d0, ds0, p0, q0, hargs, rfl, rfl, h0, r0⟩ := trodAll_cons hA
  obtain ⟨v1, vs1, d1, ds1, p1, q1, rfl, rfl, rfl, h1, r1⟩ := trodAll_cons r0
  obtain ⟨v2, vs2, d2, ds2, p2, q2, rfl, rfl, rfl, h2, r2⟩ := trodAll_cons r1
  obtain ⟨rfl, rfl, rfl⟩ := trodAll_nil r2
  obtain rfl : args = #[v0, v1, v2] := by cases args; simp_all
  obtain ⟨rfl, rfl⟩ := trodVars_none hV
  have k0 := h0
  have lt0 : ∀ x ∈ p0, x.block < W.heap.size := by obtain ⟨m, hm⟩ := k0; exact DataW.trod_lt m _ _ _ hm
  have k1 := h1
  have lt1 : ∀ x ∈ p1, x.block < W.heap.size := by obtain ⟨m, hm⟩ := k1; exact DataW.trod_lt m _ _ _ hm
  have k2 := h2
  have lt2 : ∀ x ∈ p2, x.block < W.heap.size := by obtain ⟨m, hm⟩ := k2; exact DataW.trod_lt m _ _ _ hm
  obtain ⟨a0, rfl, rfl, rfl, w0⟩ := open_int Try.underlying22 (hval 0 22 v0 rfl rfl) h0
  obtain ⟨a1, rfl, rfl, rfl, w1⟩ := open_int Try.underlying35 (hval 1 35 v1 rfl rfl) h1
  obtain ⟨s2, rfl, rfl, rfl, w2⟩ := open_string Try.underlying9 (hval 2 9 v2 rfl rfl) h2
  clear hA0 hval0
  refine (walk W a0 w0 a1 w1 s2 w2).mono fun e W' ⟨he, bel⟩ => ?_
  subst he
  exact ⟨_, rfl, _, _, _, [], _, [], hW', trodAll_mk1 (shut_bool Try.underlying4 _), (trodAll_cons_mk (Below.trod laidOut (by kernel_rfl) (of_decide_eq_true (by kernel_rfl)) k0 bel lt0) (trodAll_cons_mk (Below.trod laidOut (by kernel_rfl) (of_decide_eq_true (by kernel_rfl)) k1 bel lt1) (trodAll_cons_mk (Below.trod laidOut (by kernel_rfl) (of_decide_eq_true (by kernel_rfl)) k2 bel lt2) trodAll_mk0))), rfl, bel.frame _, fun h => by cases h⟩

theorem over : Rows.codecBackRow.holds Try.pinned (OpenSpec.ofChange Rows.codecBackSpec) :=
  OpenClaim.holds_of_wide 5 Try.f5 rfl rfl rfl rfl rfl rfl rfl ⟨rfl, rfl, rfl, rfl, rfl⟩ rfl rfl rfl rfl rfl (by kernel_rfl) Try.func5 (by kernel_rfl)
    (of_decide_eq_true (by kernel_rfl)) (by unfold Func.isWrapper; first | (rw [if_pos (by decide +kernel)]; kernel_rfl) | (rw [if_neg (by decide +kernel)]; exact ⟨rfl, rfl⟩))
    (fun os started H enc _ => lifted os started H enc)

theorem proved : Rows.CodecBackSaid := over
#print axioms proved
end Go.Proofs.Ytfbhbmjjhpdnbaa.codecBack
