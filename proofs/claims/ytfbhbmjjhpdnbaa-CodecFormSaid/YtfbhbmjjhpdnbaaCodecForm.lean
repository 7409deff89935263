/-
  Proved here: for every text, the law of stage 2 that what is read of bytes has just the bytes that stood there, and that nothing is told as zero, returns true, and leaves its argument as it was. Conditions: none.
-/
import Derived.Test.YtfbhbmjjhpdnbaaRows
import Derived.Test.YtfbhbmjjhpdnbaaCodecE
import Derived.WalkKit
import Derived.ProofKit
import Derived.OpenShut
import Derived.ShutString
import Derived.ChangeOld
import Derived.Carry
namespace Go.Proofs.Ytfbhbmjjhpdnbaa.codecForm
open Go.ChangeShapes Go.WideShapes Go.ChangeAt Go.RowKit
open Go.ChangeMaps (open_string shut_string)
set_option linter.unusedVariables false
attribute [local go_sem] bs_size bs_app bs_cut bs_tl bs_at

theorem own : ownKnob Try.prog.godebug = none := by kernel_rfl
theorem laidOut : laidOutB Try.prog = true := by kernel_rfl

set_option maxRecDepth 100000 in
theorem walk (w : World) (s0 : ByteArray) (w0 : s0.size ≤ maxLen) :
    Calls Try.prog 6 #[.string s0] w fun e w' => e = .returned (.bool true) ∧ Below w.heap.size w w' := by
  obtain ⟨l, rfl⟩ : ∃ l, s0 = bs l := ⟨_, bs_list s0⟩
  by_cases hl : l.length > 1000
  · go_enter Try.func6, Try.ntmps6
    go_wp2_with fail
    refine (coded_any _).mono ?_; rintro e w1 ⟨rfl, hb1⟩
    go_wp2
    go_ret
    exact ⟨rfl, hb1⟩
  have h1 : l.length ≤ 1048576 := by omega
  cases hr : readL l with
  | none =>
    have HR := Lib.hid hr
    clear hr
    go_enter Try.func6, Try.ntmps6
    go_wp2_with fail
    refine (read_none HR.out (read_any l h1 _)).mono ?_; rintro e w1 ⟨rfl, hb1⟩
    go_wp2_with fail
    refine (unint_told (unintT_none HR.out) (unint_any l h1 _)).mono ?_; rintro e w2 ⟨rfl, hb2⟩
    go_wp2_with fail
    refine (cut_told (cutT_none HR.out) (cut_any l h1 _)).mono ?_; rintro e w3 ⟨rfl, hb3⟩
    go_wp2_with fail
    refine (coded_any _).mono ?_; rintro e w4 ⟨rfl, hb4⟩
    go_wp2
    go_ret
    have c2 := (hb1).trans (hb2.mono (hb1).size)
    have c3 := (c2).trans (hb3.mono (c2).size)
    have c4 := (c3).trans (hb4.mono (c3).size)
    exact ⟨rfl, c4⟩
  | some x =>
    obtain ⟨n, r⟩ := x
    obtain ⟨hput, hn64⟩ := put_read l n r hr
    have hrl := read_rest hr
    have hr9 : (numL n).length ≤ 9 := (numL_len n hn64).1
    have hnt : n < top64 := hn64
    have HR := Lib.hid hr
    clear hr hn64
    have hrr : r.length ≤ 1000 := by omega
    have hla : (numL n ++ r).length = l.length := by rw [hput]
    by_cases hb : (n : Int) > 1099511627777
    · by_cases hc : r.length < n
      · have HP := Lib.hid hput
        have HA := Lib.hid hla
        clear hput hla
        have hu := unintT_big HR.out hb
        have ht := cutT_big HR.out hc
        have HU := Lib.hid hu
        have HT := Lib.hid ht
        clear hu ht
        go_enter Try.func6, Try.ntmps6
        go_wp2_with fail
        refine (read_some HR.out (read_any l h1 _)).mono ?_; rintro e w1 ⟨rfl, hb1⟩
        go_wp2_with fail
        refine (unint_told HU.out (unint_any l h1 _)).mono ?_; rintro e w2 ⟨rfl, hb2⟩
        go_wp2_with fail
        refine (cut_told HT.out (cut_any l h1 _)).mono ?_; rintro e w3 ⟨rfl, hb3⟩
        go_wp2_with fail
        refine (num_any n hnt _).mono ?_; rintro e w4 ⟨rfl, hb4⟩
        have hp2 := HP.out
        go_wp2_with fail
        refine (coded_any _).mono ?_; rintro e w5 ⟨rfl, hb5⟩
        go_wp2
        go_ret
        have c2 := (hb1).trans (hb2.mono (hb1).size)
        have c3 := (c2).trans (hb3.mono (c2).size)
        have c4 := (c3).trans (hb4.mono (c3).size)
        have c5 := (c4).trans (hb5.mono (c4).size)
        exact ⟨rfl, c5⟩
      · exfalso; omega
    · by_cases hc : r.length < n
      · have HP := Lib.hid hput
        have HA := Lib.hid hla
        clear hput hla
        have hu := unintT_some HR.out hb
        have ht := cutT_big HR.out hc
        have HU := Lib.hid hu
        have HT := Lib.hid ht
        clear hu ht
        have hi := intL_in ((n : Int) - 1) (by omega) (by omega)
        rw [show ((n : Int) - 1 + 1).toNat = n by omega] at hi
        go_enter Try.func6, Try.ntmps6
        go_wp2_with fail
        refine (read_some HR.out (read_any l h1 _)).mono ?_; rintro e w1 ⟨rfl, hb1⟩
        go_wp2_with fail
        refine (unint_told HU.out (unint_any l h1 _)).mono ?_; rintro e w2 ⟨rfl, hb2⟩
        go_wp2_with fail
        refine (cut_told HT.out (cut_any l h1 _)).mono ?_; rintro e w3 ⟨rfl, hb3⟩
        go_wp2_with fail
        refine (num_any n hnt _).mono ?_; rintro e w4 ⟨rfl, hb4⟩
        have hp2 := HP.out
        go_wp2_with fail
        refine (int_any _ (by omega) (by omega) _).mono ?_; rintro e w5 ⟨rfl, hb5⟩
        go_wp2_with fail
        refine (coded_any _).mono ?_; rintro e w6 ⟨rfl, hb6⟩
        go_wp2
        go_ret
        have c2 := (hb1).trans (hb2.mono (hb1).size)
        have c3 := (c2).trans (hb3.mono (c2).size)
        have c4 := (c3).trans (hb4.mono (c3).size)
        have c5 := (c4).trans (hb5.mono (c4).size)
        have c6 := (c5).trans (hb6.mono (c5).size)
        exact ⟨rfl, c6⟩
      · have HP := Lib.hid hput
        have HA := Lib.hid hla
        clear hput hla
        have hu := unintT_some HR.out hb
        have ht := cutT_some HR.out hc
        have HU := Lib.hid hu
        have HT := Lib.hid ht
        clear hu ht
        have hi := intL_in ((n : Int) - 1) (by omega) (by omega)
        rw [show ((n : Int) - 1 + 1).toNat = n by omega] at hi
        have htx : textL (r.take n) = numL n ++ r.take n := by unfold textL; rw [List.length_take, Nat.min_eq_left (by omega)]
        have hj : numL n ++ r.take n ++ r.drop n = numL n ++ r := by rw [List.append_assoc, List.take_append_drop]
        have hj2 : (numL n ++ r.take n ++ r.drop n).length = l.length := by rw [hj, HP.out]
        have HX := Lib.hid htx
        have HJ := Lib.hid hj
        clear htx hj hj2
        go_enter Try.func6, Try.ntmps6
        go_wp2_with fail
        refine (read_some HR.out (read_any l h1 _)).mono ?_; rintro e w1 ⟨rfl, hb1⟩
        go_wp2_with fail
        refine (unint_told HU.out (unint_any l h1 _)).mono ?_; rintro e w2 ⟨rfl, hb2⟩
        go_wp2_with fail
        refine (cut_told HT.out (cut_any l h1 _)).mono ?_; rintro e w3 ⟨rfl, hb3⟩
        go_wp2_with fail
        refine (num_any n hnt _).mono ?_; rintro e w4 ⟨rfl, hb4⟩
        have hp2 := HP.out
        go_wp2_with fail
        refine (int_any _ (by omega) (by omega) _).mono ?_; rintro e w5 ⟨rfl, hb5⟩
        go_wp2_with fail
        refine (text_any (r.take n) (by rw [List.length_take]; omega) _).mono ?_; rintro e w6 ⟨rfl, hb6⟩
        have hx2 := HX.out
        have hj2 := HJ.out
        go_wp2_with fail
        refine (coded_any _).mono ?_; rintro e w7 ⟨rfl, hb7⟩
        go_wp2
        go_ret
        have c2 := (hb1).trans (hb2.mono (hb1).size)
        have c3 := (c2).trans (hb3.mono (c2).size)
        have c4 := (c3).trans (hb4.mono (c3).size)
        have c5 := (c4).trans (hb5.mono (c4).size)
        have c6 := (c5).trans (hb6.mono (c5).size)
        have c7 := (c6).trans (hb7.mono (c6).size)
        exact ⟨rfl, c7⟩

set_option maxRecDepth 100000 in
theorem lifted (os : Os) (started : os.Started) (H : Type) (enc : TypeId × Value → H) :
    ReturnsInHanded {} Try.checked os 6 .any (Rows.codecFormSpec.pre6 enc Try.prog Try.f6 Rows.codecFormRow.domain false) (Rows.codecFormSpec.post enc Try.prog Try.f6 false true false false) := by
  refine returnsInHanded_of_change (C := Try.checked) own started (by kernel_rfl) Try.func6
    (ChangeSpec.witness6 (enc := enc) (C := Try.checked) false ⟨#[], #[.string ByteArray.empty], []⟩ 8 (by kernel_rfl) (by kernel_rfl) (by kernel_rfl) (by kernel_rfl)) ?_
  intro W base args ds gs before hval0 hW hcnd _
  have hval : ∀ (j : Nat) t v, Try.f6.params[j]? = some t → args[j]? = some v → Value.okWide Try.prog W .any base t v := hval0
  have hW' := hW
  obtain ⟨p, q, hA0, hV, rfl, hfz, hnd⟩ := hW
  have hA : DataW.TrodAll enc Try.prog W 0 (fun _ => true) true Try.f6.params.toList args.toList ds p := hA0
  rw [Try.params6] at hA hval
  obtain ⟨v0, vs0, d0, ds0, p0, q0, hargs, rfl, rfl, h0, r0⟩ := trodAll_cons hA
  obtain ⟨rfl, rfl, rfl⟩ := trodAll_nil r0
  obtain rfl : args = #[v0] := by cases args; simp_all
  obtain ⟨rfl, rfl⟩ := trodVars_none hV
  have k0 := h0
  have lt0 : ∀ x ∈ p0, x.block < W.heap.size := by obtain ⟨m, hm⟩ := k0; exact DataW.trod_lt m _ _ _ hm
  obtain ⟨s0, rfl, rfl, rfl, w0⟩ := open_string Try.underlying9 (hval 0 9 v0 rfl rfl) h0
  clear hA0 hval0
  refine (walk W s0 w0).mono fun e W' ⟨he, bel⟩ => ?_
  subst he
  exact ⟨_, rfl, _, _, _, [], _, [], hW', trodAll_mk1 (shut_bool Try.underlying4 _), (trodAll_cons_mk (Below.trod laidOut (by kernel_rfl) (of_decide_eq_true (by kernel_rfl)) k0 bel lt0) trodAll_mk0), rfl, bel.frame _, fun h => by cases h⟩

theorem over : Rows.codecFormRow.holds Try.pinned (OpenSpec.ofChange Rows.codecFormSpec) :=
  OpenClaim.holds_of_wide 6 Try.f6 rfl rfl rfl rfl rfl rfl rfl ⟨rfl, rfl, rfl, rfl, rfl⟩ rfl rfl rfl rfl rfl (by kernel_rfl) Try.func6 (by kernel_rfl)
    (of_decide_eq_true (by kernel_rfl)) (by unfold Func.isWrapper; first | (rw [if_pos (by decide +kernel)]; kernel_rfl) | (rw [if_neg (by decide +kernel)]; exact ⟨rfl, rfl⟩))
    (fun os started H enc _ => lifted os started H enc)

theorem proved : Rows.CodecFormSaid := over
#print axioms proved
end Go.Proofs.Ytfbhbmjjhpdnbaa.codecForm
