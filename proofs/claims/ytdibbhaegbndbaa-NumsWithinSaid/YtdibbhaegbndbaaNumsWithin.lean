/-
  Proved here: for every three int32, the law of stage 1 on sums, differences and products that stay within returns true, and leaves its arguments as they were. Conditions: none.
-/
import Derived.Test.YtdibbhaegbndbaaRows
import Derived.Test.YtdibbhaegbndbaaNumsF
import Derived.WalkKit
import Derived.ProofKit
import Derived.OpenShut
namespace Go.Proofs.Ytdibbhaegbndbaa.numsWithin
open Go.ChangeShapes Go.WideShapes Go.ChangeAt Go.RowKit
set_option linter.unusedVariables false

theorem own : ownKnob Try.prog.godebug = none := by kernel_rfl

theorem walk (a0 : Int) (a1 : Int) (a2 : Int) (w0 : (Lit.int .i32 a0).wf = true) (w1 : (Lit.int .i32 a1).wf = true) (w2 : (Lit.int .i32 a2).wf = true) (w : World) :
    Calls Try.prog 4 #[.int .i32 a0, .int .i32 a1, .int .i32 a2] w fun e w' => e = .returned (.bool true) ∧ Grown w w' := by
  obtain ⟨p0, q0⟩ := bounds_i32 w0
  obtain ⟨p1, q1⟩ := bounds_i32 w1
  obtain ⟨p2, q2⟩ := bounds_i32 w2
  obtain ⟨r1, s1⟩ := prod_small p0 q0 p1 q1
  obtain ⟨r2, s2⟩ := prod_small p0 q0 p2 q2
  obtain ⟨r3, s3⟩ := prod_small p1 q1 p2 q2
  go_enter Try.func4, Try.ntmps4
  go_wp2_with fail
  refine (add_in a0 a1 (by omega) (by omega) (by omega) (by omega) (by omega) (by omega) _).mono ?_
  rintro e w' ⟨rfl, rfl⟩
  go_wp2_with fail
  refine (sub_in a0 a1 (by omega) (by omega) (by omega) (by omega) (by omega) (by omega) _).mono ?_
  rintro e w' ⟨rfl, rfl⟩
  go_wp2_with fail
  refine (mul_in a0 a1 (by omega) (by omega) (by omega) (by omega) (by omega) (by omega) _).mono ?_
  rintro e w' ⟨rfl, rfl⟩
  go_wp2_with fail
  refine (add_in a0 a1 (by omega) (by omega) (by omega) (by omega) (by omega) (by omega) _).mono ?_
  rintro e w' ⟨rfl, rfl⟩
  go_wp2_with fail
  refine (mul_parts a0 a1 a2 (by omega) (by omega) (by omega) (by omega) _).mono ?_
  rintro e w' ⟨rfl, rfl⟩
  go_wp2_with fail
  refine (mul_in a0 a2 (by omega) (by omega) (by omega) (by omega) (by omega) (by omega) _).mono ?_
  rintro e w' ⟨rfl, rfl⟩
  go_wp2_with fail
  refine (mul_in a1 a2 (by omega) (by omega) (by omega) (by omega) (by omega) (by omega) _).mono ?_
  rintro e w' ⟨rfl, rfl⟩
  go_wp2_with fail
  refine (add_any (a0 * a2) (a1 * a2) (by omega) (by omega) (by omega) (by omega) _).mono ?_
  rintro e w' ⟨rfl, rfl⟩
  go_wp2_with fail
  by_cases hx : 0 ≤ a0
  · refine (add_any 9223372036854775807 a0 (by omega) (by omega) (by omega) (by omega) _).mono ?_
    rw [sat_hi (by omega)]
    rintro e w' ⟨rfl, rfl⟩
    go_wp2_with fail
    refine (sub_any (-9223372036854775808) a0 (by omega) (by omega) (by omega) (by omega) _).mono ?_
    rw [sat_lo (by omega)]
    rintro e w' ⟨rfl, rfl⟩
    go_wp2_with fail
    refine (sub_any (-9223372036854775808) 0 (by omega) (by omega) (by omega) (by omega) _).mono ?_
    rw [sat_lo (by omega)]
    rintro e w' ⟨rfl, rfl⟩
    go_wp2_with fail
    all_goals
      refine (add_any (-9223372036854775808) _ (by omega) (by omega) (by omega) (by omega) _).mono ?_
      rw [sat_in (by omega) (by omega)]
      rintro e w' ⟨rfl, rfl⟩
      go_wp2_with fail
      refine (counted_any _).mono ?_
      rintro e w' ⟨rfl, rfl⟩
      go_wp2_with fail
      go_ret
      exact ⟨rfl, by repeat (first | exact Grown.refl _ | apply Grown.drew | apply Grown.alloc)⟩
  · have hb : (9223372036854775807 + a0 == 9223372036854775807) = false := by rw [beq_eq_false_iff_ne]; omega
    have hd : decide (0 ≤ a0) = false := by rw [decide_eq_false_iff_not]; exact hx
    refine (add_any 9223372036854775807 a0 (by omega) (by omega) (by omega) (by omega) _).mono ?_
    rw [sat_in (by omega) (by omega)]
    rintro e w' ⟨rfl, rfl⟩
    go_wp2_with fail
    refine (sub_any (-9223372036854775808) a0 (by omega) (by omega) (by omega) (by omega) _).mono ?_
    rw [sat_in (by omega) (by omega)]
    rintro e w' ⟨rfl, rfl⟩
    go_wp2_with fail
    refine (sub_any (-9223372036854775808 - a0) 0 (by omega) (by omega) (by omega) (by omega) _).mono ?_
    rw [sat_in (by omega) (by omega)]
    rintro e w' ⟨rfl, rfl⟩
    go_wp2_with fail
    all_goals
      refine (add_any (-9223372036854775808) _ (by omega) (by omega) (by omega) (by omega) _).mono ?_
      rw [sat_in (by omega) (by omega)]
      rintro e w' ⟨rfl, rfl⟩
      go_wp2_with fail
      refine (counted_any _).mono ?_
      rintro e w' ⟨rfl, rfl⟩
      go_wp2_with fail
      go_ret
      exact ⟨rfl, by repeat (first | exact Grown.refl _ | apply Grown.drew | apply Grown.alloc)⟩

set_option maxRecDepth 100000 in
theorem lifted (os : Os) (started : os.Started) (H : Type) (enc : TypeId × Value → H) :
    ReturnsInHanded {} Try.checked os 4 .any (Rows.numsWithinSpec.pre6 enc Try.prog Try.f4 Rows.numsWithinRow.domain false) (Rows.numsWithinSpec.post enc Try.prog Try.f4 false true false false) := by
  refine returnsInHanded_of_change (C := Try.checked) own started (by kernel_rfl) Try.func4
    (ChangeSpec.witness6 (enc := enc) (C := Try.checked) false ⟨#[], #[.int .i32 0, .int .i32 0, .int .i32 0], []⟩ 8 (by kernel_rfl) (by kernel_rfl) (by kernel_rfl) (by kernel_rfl)) ?_
  intro W base args ds gs before hval0 hW hcnd _
  have hval : ∀ (j : Nat) t v, Try.f4.params[j]? = some t → args[j]? = some v → Value.okWide Try.prog W .any base t v := hval0
  have hW' := hW
  obtain ⟨p, q, hA0, hV, rfl, hfz, hnd⟩ := hW
  have hA : DataW.TrodAll enc Try.prog W 0 (fun _ => true) true Try.f4.params.toList args.toList ds p := hA0
  rw [Try.params4] at hA hval
  obtain ⟨v0, vs0, d0, ds0, p0, q0, hargs, rfl, rfl, h0, r0⟩ := trodAll_cons hA
  obtain ⟨v1, vs1, d1, ds1, p1, q1, rfl, rfl, rfl, h1, r1⟩ := trodAll_cons r0
  obtain ⟨v2, vs2, d2, ds2, p2, q2, rfl, rfl, rfl, h2, r2⟩ := trodAll_cons r1
  obtain ⟨rfl, rfl, rfl⟩ := trodAll_nil r2
  obtain rfl : args = #[v0, v1, v2] := by cases args; simp_all
  obtain ⟨rfl, rfl⟩ := trodVars_none hV
  obtain ⟨a0, rfl, rfl, rfl, w0⟩ := open_int Try.underlying21 (hval 0 21 v0 rfl rfl) h0
  obtain ⟨a1, rfl, rfl, rfl, w1⟩ := open_int Try.underlying21 (hval 1 21 v1 rfl rfl) h1
  obtain ⟨a2, rfl, rfl, rfl, w2⟩ := open_int Try.underlying21 (hval 2 21 v2 rfl rfl) h2
  clear hA0 hval0
  simp only [List.append_nil] at hW'
  refine (walk a0 a1 a2 w0 w1 w2 W).mono fun e W' ⟨he, hg⟩ => ?_
  subst he
  exact ⟨_, rfl, post_of_same (pa := []) (pv := []) hW' (fun _ _ _ => (trodAll_cons_mk (shut_bool Try.underlying4 _) trodAll_mk0)) (fun sp _ => (trodAll_cons_mk (shut_int Try.underlying21 w0) (trodAll_cons_mk (shut_int Try.underlying21 w1) (trodAll_cons_mk (shut_int Try.underlying21 w2) trodAll_mk0)))) (fun _ _ => rfl) rfl
    (hg.frame _) hg.2.1 (ok_one (by kernel_rfl) rfl (okWide_bool_mk Try.underlying4 _))⟩

theorem over : Rows.numsWithinRow.holds Try.pinned (OpenSpec.ofChange Rows.numsWithinSpec) :=
  OpenClaim.holds_of_wide 4 Try.f4 rfl rfl rfl rfl rfl rfl rfl ⟨rfl, rfl, rfl, rfl, rfl⟩ rfl rfl rfl rfl rfl (by kernel_rfl) Try.func4 (by kernel_rfl)
    (of_decide_eq_true (by kernel_rfl)) (by unfold Func.isWrapper; first | (rw [if_pos (by decide +kernel)]; kernel_rfl) | (rw [if_neg (by decide +kernel)]; exact ⟨rfl, rfl⟩))
    (fun os started H enc _ => lifted os started H enc)

theorem proved : Rows.NumsWithinSaid :=
  over
#print axioms proved
end Go.Proofs.Ytdibbhaegbndbaa.numsWithin
