/-
  Contracts of the document's product and of its size of a number.
-/
import Derived.Test.YtdibbhaegbndbaaNumsC
namespace Go.Proofs.Ytdibbhaegbndbaa
open Go.ChangeShapes Go.WideShapes Go.ChangeAt Go.RowKit

theorem size_neg (x : Int) (n1 : 1 ≤ x) (n2 : x ≤ 9223372036854775808) (w : World) :
    Calls Try.prog 21 #[.int .i64 (-x)] w fun e w' => e = .returned (.int .u64 x) ∧ w = w' := by
  go_enter Try.func21, Try.ntmps21
  go_wp2
  go_ret
  exact ⟨ret_int (by omega), rfl⟩
theorem size_pos (n : Int) (n1 : 0 ≤ n) (n2 : n ≤ 9223372036854775807) (w : World) :
    Calls Try.prog 21 #[.int .i64 n] w fun e w' => e = .returned (.int .u64 n) ∧ w = w' := by
  go_enter Try.func21, Try.ntmps21
  go_wp2
  go_ret
  exact ⟨ret_int (by omega), rfl⟩
theorem div_over (M x y : Int) (h : 1 ≤ x) : (M / x < y ↔ M < x * y) := by
  rw [Int.ediv_lt_iff_lt_mul (by omega), Int.mul_comm]

theorem rmul_nn (x y : Int) (x1 : 1 ≤ x) (x2 : x ≤ 9223372036854775808) (y1 : 1 ≤ y) (y2 : y ≤ 9223372036854775808) (w : World) :
    Calls Try.prog 11 #[.int .i64 (-x), .int .i64 (-y)] w fun e w' => e = .returned (.int .i64 (sat (x * y))) ∧ w = w' := by
  have sx : decide (0 < x) = true := by rw [decide_eq_true_iff]; omega
  have sy : decide (0 < y) = true := by rw [decide_eq_true_iff]; omega
  have hx : (x != 0) = true := by rw [bne_iff_ne]; omega
  have h0 : 0 ≤ x * y := Int.mul_nonneg (by omega) (by omega)
  by_cases ho : 9223372036854775807 < x * y
  · have hd : decide (9223372036854775807 / x < y) = true := by rw [decide_eq_true_iff, div_over _ _ _ (by omega)]; exact ho
    go_enter Try.func11, Try.ntmps11
    go_wp2_with fail
    refine (size_neg x x1 x2 _).mono ?_
    rintro e w' ⟨rfl, rfl⟩
    go_wp2_with fail
    refine (size_neg y y1 y2 _).mono ?_
    rintro e w' ⟨rfl, rfl⟩
    go_wp2
    go_ret
    exact ⟨ret_int (sat_hi (by omega)).symm, rfl⟩
  · have hd : decide (9223372036854775807 / x < y) = false := by rw [decide_eq_false_iff_not, div_over _ _ _ (by omega)]; exact ho
    have hp : x * y ≤ 9223372036854775807 := by omega
    go_enter Try.func11, Try.ntmps11
    go_wp2_with fail
    refine (size_neg x x1 x2 _).mono ?_
    rintro e w' ⟨rfl, rfl⟩
    go_wp2_with fail
    refine (size_neg y y1 y2 _).mono ?_
    rintro e w' ⟨rfl, rfl⟩
    go_wp2
    go_ret
    exact ⟨ret_int (sat_in (by omega) (by omega)).symm, rfl⟩
theorem rmul_np (x y : Int) (x1 : 1 ≤ x) (x2 : x ≤ 9223372036854775808) (y1 : 0 ≤ y) (y2 : y ≤ 9223372036854775807) (w : World) :
    Calls Try.prog 11 #[.int .i64 (-x), .int .i64 y] w fun e w' => e = .returned (.int .i64 (sat (-(x * y)))) ∧ w = w' := by
  have sx : decide (0 < x) = true := by rw [decide_eq_true_iff]; omega
  have sy : decide (y < 0) = false := by rw [decide_eq_false_iff_not]; omega
  have hx : (x != 0) = true := by rw [bne_iff_ne]; omega
  have h0 : 0 ≤ x * y := Int.mul_nonneg (by omega) (by omega)
  by_cases ho : 9223372036854775808 < x * y
  · have hd : decide (9223372036854775808 / x < y) = true := by rw [decide_eq_true_iff, div_over _ _ _ (by omega)]; exact ho
    go_enter Try.func11, Try.ntmps11
    go_wp2_with fail
    refine (size_neg x x1 x2 _).mono ?_
    rintro e w' ⟨rfl, rfl⟩
    go_wp2_with fail
    refine (size_pos y y1 y2 _).mono ?_
    rintro e w' ⟨rfl, rfl⟩
    go_wp2
    go_ret
    exact ⟨ret_int (sat_lo (by omega)).symm, rfl⟩
  · have hd : decide (9223372036854775808 / x < y) = false := by rw [decide_eq_false_iff_not, div_over _ _ _ (by omega)]; exact ho
    have hp : x * y ≤ 9223372036854775808 := by omega
    by_cases hz : 0 < x * y
    all_goals
      go_enter Try.func11, Try.ntmps11
      go_wp2_with fail
      refine (size_neg x x1 x2 _).mono ?_
      rintro e w' ⟨rfl, rfl⟩
      go_wp2_with fail
      refine (size_pos y y1 y2 _).mono ?_
      rintro e w' ⟨rfl, rfl⟩
      go_wp2
      go_ret
      exact ⟨ret_int (by rw [sat_in (by omega) (by omega)]; omega), rfl⟩
theorem rmul_pn (x y : Int) (x1 : 0 ≤ x) (x2 : x ≤ 9223372036854775807) (y1 : 1 ≤ y) (y2 : y ≤ 9223372036854775808) (w : World) :
    Calls Try.prog 11 #[.int .i64 x, .int .i64 (-y)] w fun e w' => e = .returned (.int .i64 (sat (-(x * y)))) ∧ w = w' := by
  have sx : decide (x < 0) = false := by rw [decide_eq_false_iff_not]; omega
  have sy : decide (0 < y) = true := by rw [decide_eq_true_iff]; omega
  by_cases hx0 : x = 0
  · subst hx0
    go_enter Try.func11, Try.ntmps11
    go_wp2_with fail
    refine (size_pos 0 (by omega) (by omega) _).mono ?_
    rintro e w' ⟨rfl, rfl⟩
    go_wp2_with fail
    refine (size_neg y y1 y2 _).mono ?_
    rintro e w' ⟨rfl, rfl⟩
    go_wp2
    go_ret
    exact ⟨ret_int (by first | rfl | (simp; rfl)), rfl⟩
  have hx : (x != 0) = true := by rw [bne_iff_ne]; omega
  have h0 : 1 ≤ x * y := Int.mul_pos (show 0 < x by omega) (by omega)
  have hx1 : 1 ≤ x := by omega
  by_cases ho : 9223372036854775808 < x * y
  · have hd : decide (9223372036854775808 / x < y) = true := by rw [decide_eq_true_iff, div_over _ _ _ (by omega)]; exact ho
    go_enter Try.func11, Try.ntmps11
    go_wp2_with fail
    refine (size_pos x x1 x2 _).mono ?_
    rintro e w' ⟨rfl, rfl⟩
    go_wp2_with fail
    refine (size_neg y y1 y2 _).mono ?_
    rintro e w' ⟨rfl, rfl⟩
    go_wp2
    go_ret
    exact ⟨ret_int (sat_lo (by omega)).symm, rfl⟩
  · have hd : decide (9223372036854775808 / x < y) = false := by rw [decide_eq_false_iff_not, div_over _ _ _ (by omega)]; exact ho
    have hp : x * y ≤ 9223372036854775808 := by omega
    go_enter Try.func11, Try.ntmps11
    go_wp2_with fail
    refine (size_pos x x1 x2 _).mono ?_
    rintro e w' ⟨rfl, rfl⟩
    go_wp2_with fail
    refine (size_neg y y1 y2 _).mono ?_
    rintro e w' ⟨rfl, rfl⟩
    go_wp2
    go_ret
    exact ⟨ret_int (by rw [sat_in (by omega) (by omega)]; omega), rfl⟩
theorem rmul_pp (x y : Int) (x1 : 0 ≤ x) (x2 : x ≤ 9223372036854775807) (y1 : 0 ≤ y) (y2 : y ≤ 9223372036854775807) (w : World) :
    Calls Try.prog 11 #[.int .i64 x, .int .i64 y] w fun e w' => e = .returned (.int .i64 (sat (x * y))) ∧ w = w' := by
  have sx : decide (x < 0) = false := by rw [decide_eq_false_iff_not]; omega
  have sy : decide (y < 0) = false := by rw [decide_eq_false_iff_not]; omega
  by_cases hx0 : x = 0
  · subst hx0
    go_enter Try.func11, Try.ntmps11
    go_wp2_with fail
    refine (size_pos 0 (by omega) (by omega) _).mono ?_
    rintro e w' ⟨rfl, rfl⟩
    go_wp2_with fail
    refine (size_pos y y1 y2 _).mono ?_
    rintro e w' ⟨rfl, rfl⟩
    go_wp2
    go_ret
    exact ⟨ret_int (by first | rfl | (simp; rfl)), rfl⟩
  have hx : (x != 0) = true := by rw [bne_iff_ne]; omega
  have h0 : 0 ≤ x * y := Int.mul_nonneg (by omega) (by omega)
  have hx1 : 1 ≤ x := by omega
  by_cases ho : 9223372036854775807 < x * y
  · have hd : decide (9223372036854775807 / x < y) = true := by rw [decide_eq_true_iff, div_over _ _ _ (by omega)]; exact ho
    go_enter Try.func11, Try.ntmps11
    go_wp2_with fail
    refine (size_pos x x1 x2 _).mono ?_
    rintro e w' ⟨rfl, rfl⟩
    go_wp2_with fail
    refine (size_pos y y1 y2 _).mono ?_
    rintro e w' ⟨rfl, rfl⟩
    go_wp2
    go_ret
    exact ⟨ret_int (sat_hi (by omega)).symm, rfl⟩
  · have hd : decide (9223372036854775807 / x < y) = false := by rw [decide_eq_false_iff_not, div_over _ _ _ (by omega)]; exact ho
    have hp : x * y ≤ 9223372036854775807 := by omega
    go_enter Try.func11, Try.ntmps11
    go_wp2_with fail
    refine (size_pos x x1 x2 _).mono ?_
    rintro e w' ⟨rfl, rfl⟩
    go_wp2_with fail
    refine (size_pos y y1 y2 _).mono ?_
    rintro e w' ⟨rfl, rfl⟩
    go_wp2
    go_ret
    exact ⟨ret_int (sat_in (by omega) (by omega)).symm, rfl⟩
theorem rmul_any (a b : Int) (a1 : -9223372036854775808 ≤ a) (a2 : a ≤ 9223372036854775807) (b1 : -9223372036854775808 ≤ b) (b2 : b ≤ 9223372036854775807) (w : World) :
    Calls Try.prog 11 #[.int .i64 a, .int .i64 b] w fun e w' => e = .returned (.int .i64 (sat (a * b))) ∧ w = w' := by
  by_cases na : a < 0
  · obtain ⟨x, rfl⟩ : ∃ x, a = -x := ⟨-a, by omega⟩
    by_cases nb : b < 0
    · obtain ⟨y, rfl⟩ : ∃ y, b = -y := ⟨-b, by omega⟩
      rw [Int.neg_mul_neg]; exact rmul_nn x y (by omega) (by omega) (by omega) (by omega) w
    · rw [Int.neg_mul]; exact rmul_np x b (by omega) (by omega) (by omega) (by omega) w
  · by_cases nb : b < 0
    · obtain ⟨y, rfl⟩ : ∃ y, b = -y := ⟨-b, by omega⟩
      rw [Int.mul_neg]; exact rmul_pn a y (by omega) (by omega) (by omega) (by omega) w
    · exact rmul_pp a b (by omega) (by omega) (by omega) (by omega) w
end Go.Proofs.Ytdibbhaegbndbaa
