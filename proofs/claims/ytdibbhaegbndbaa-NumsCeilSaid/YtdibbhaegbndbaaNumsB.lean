/-
  Contracts of the quotient and the place on a ring, and of the document's answers beside them.
-/
import Derived.Test.YtdibbhaegbndbaaNumsA
import Derived.Lib.Hide
namespace Go.Proofs.Ytdibbhaegbndbaa
open Go.ChangeShapes Go.WideShapes Go.ChangeAt Go.RowKit

def ceil (a b : Int) : Int := if b < 1 ∨ a < 1 then 0 else (a - 1) / b + 1
theorem ceil_exact (a b : Int) (hb : 1 ≤ b) (ha : 1 ≤ a) (h : a % b = 0) : a / b = ceil a b := by
  unfold ceil; rw [if_neg (by omega)]
  obtain ⟨k, rfl⟩ := Int.dvd_of_emod_eq_zero h
  rw [Int.mul_ediv_cancel_left _ (by omega)]
  have : (b * k - 1) / b = k - 1 := by
    rw [show b * k - 1 = (b - 1) + b * (k - 1) from by rw [Int.mul_sub]; omega, Int.add_mul_ediv_left _ _ (by omega), Int.ediv_eq_zero_of_lt (by omega) (by omega)]; omega
  omega
theorem ceil_more (a b : Int) (hb : 1 ≤ b) (ha : 1 ≤ a) (h : ¬ a % b = 0) : a / b + 1 = ceil a b := by
  unfold ceil; rw [if_neg (by omega)]
  have h0 := Int.emod_nonneg a (show b ≠ 0 by omega)
  have h1 := Int.emod_lt_of_pos a (show 0 < b by omega)
  have e := Int.mul_ediv_add_emod a b
  have : (a - 1) / b = a / b := by
    rw [show a - 1 = (a % b - 1) + b * (a / b) from by omega, Int.add_mul_ediv_left _ _ (by omega), Int.ediv_eq_zero_of_lt (by omega) (by omega)]; omega
  omega
theorem ceil_room (a b : Int) (hb : 1 ≤ b) (ha : 1 ≤ a) (h : ¬ a % b = 0) : a / b + 1 ≤ a := by
  by_cases hb1 : b = 1
  · subst hb1; simp at h
  have e := Int.mul_ediv_add_emod a b
  have h0 := Int.emod_nonneg a (show b ≠ 0 by omega)
  have hq : 0 ≤ a / b := Int.ediv_nonneg (by omega) (by omega)
  have : 2 * (a / b) ≤ b * (a / b) := Int.mul_le_mul_of_nonneg_right (by omega) hq
  omega
theorem ceil_zero (b : Int) : ceil 0 b = 0 := by unfold ceil; rw [if_pos (by omega)]
theorem ceil_low (a b : Int) (h : b < 1) : ceil a b = 0 := by unfold ceil; rw [if_pos (by omega)]
theorem ceil_neg (a b : Int) (h : a < 1) : ceil a b = 0 := by unfold ceil; rw [if_pos (by omega)]

theorem ceil_any (a b : Int) (a1 : -9223372036854775808 ≤ a) (a2 : a ≤ 9223372036854775807) (b1 : -9223372036854775808 ≤ b) (b2 : b ≤ 9223372036854775807) (w : World) :
    Calls Try.prog 14 #[.int .i64 a, .int .i64 b] w fun e w' => e = .returned (.int .i64 (ceil a b)) ∧ w = w' := by
  by_cases h0 : b < 1
  · go_enter Try.func14, Try.ntmps14
    go_wp2
    go_ret
    exact ⟨ret_int (ceil_low a b h0).symm, rfl⟩
  by_cases h1 : a < 0
  · go_enter Try.func14, Try.ntmps14
    go_wp2
    go_ret
    exact ⟨ret_int (ceil_neg a b (by omega)).symm, rfl⟩
  have hq : 0 ≤ a / b := Int.ediv_nonneg (by omega) (by omega)
  have hq2 : a / b ≤ a := Int.ediv_le_self _ (by omega)
  by_cases h2 : a % b = 0
  · have hb : (a % b != 0) = false := by simp [h2]
    have H := Lib.hid h2; clear h2
    go_enter Try.func14, Try.ntmps14
    go_wp2
    go_ret
    refine ⟨ret_int ?_, rfl⟩
    by_cases h3 : a = 0
    · subst h3; rw [ceil_zero]; simp
    · exact ceil_exact a b (by omega) (by omega) H.out
  · have hb : (a % b != 0) = true := by simp [h2]
    have h3 : a ≠ 0 := by intro h; subst h; simp at h2
    have hr := ceil_room a b (by omega) (by omega) h2
    go_enter Try.func14, Try.ntmps14
    go_wp2
    go_ret
    exact ⟨ret_int (ceil_more a b (by omega) (by omega) h2), rfl⟩
theorem rceil_any (a b : Int) (a1 : -9223372036854775808 ≤ a) (a2 : a ≤ 9223372036854775807) (b1 : -9223372036854775808 ≤ b) (b2 : b ≤ 9223372036854775807) (w : World) :
    Calls Try.prog 15 #[.int .i64 a, .int .i64 b] w fun e w' => e = .returned (.int .i64 (ceil a b)) ∧ w = w' := by
  by_cases h0 : b < 1
  · go_enter Try.func15, Try.ntmps15
    go_wp2
    go_ret
    exact ⟨ret_int (ceil_low a b h0).symm, rfl⟩
  by_cases h1 : a < 1
  · go_enter Try.func15, Try.ntmps15
    go_wp2
    go_ret
    exact ⟨ret_int (ceil_neg a b h1).symm, rfl⟩
  have hq : 0 ≤ (a - 1) / b := Int.ediv_nonneg (by omega) (by omega)
  have hq2 : (a - 1) / b ≤ a - 1 := Int.ediv_le_self _ (by omega)
  go_enter Try.func15, Try.ntmps15
  go_wp2
  go_ret
  exact ⟨ret_int (by unfold ceil; rw [if_neg (by omega)]), rfl⟩
def ring (a b : Int) : Int := if b < 1 then 0 else a % b
theorem ring_low (a b : Int) (h : b < 1) : 0 = ring a b := (if_pos h).symm
theorem ring_high (a b : Int) (h : 1 ≤ b) : a % b = ring a b := by unfold ring; rw [if_neg (by omega)]
theorem tmod_low (a b : Int) (hb : 1 ≤ b) (ha : a ≤ 0) : a.tmod b ≤ 0 ∧ -b < a.tmod b ∧ a % b = if a.tmod b < 0 then a.tmod b + b else 0 := by
  have e : a.tmod b = -((-a) % b) := by
    rw [← Int.tmod_eq_emod_of_nonneg (show 0 ≤ -a by omega), Int.neg_tmod]; omega
  have n0 := Int.emod_nonneg (-a) (show b ≠ 0 by omega)
  have n1 := Int.emod_lt_of_pos (-a) (show 0 < b by omega)
  refine ⟨by omega, by omega, ?_⟩
  have d := Int.mul_ediv_add_emod (-a) b
  have f : a % b = a.tmod b % b := by
    rw [show a = a.tmod b + b * (-((-a) / b)) from by rw [e, Int.mul_neg]; omega, Int.add_mul_emod_self_left]
    rw [show a.tmod b + b * (-((-a) / b)) = a from by rw [e, Int.mul_neg]; omega]
  rw [f]
  split
  · rw [← Int.add_emod_right]; exact Int.emod_eq_of_lt (by omega) (by omega)
  · rw [show a.tmod b = 0 from by omega]; simp
theorem ring_ref (a b : Int) (hb : 1 ≤ b) (ha : a < 0) : b - 1 + (a + 1).tmod b = a % b ∧ 0 ≤ b - 1 + (a + 1).tmod b ∧ b - 1 + (a + 1).tmod b < b := by
  have e : (a + 1).tmod b = -((-(a + 1)) % b) := by
    rw [← Int.tmod_eq_emod_of_nonneg (show 0 ≤ -(a + 1) by omega), Int.neg_tmod]; omega
  have n0 := Int.emod_nonneg (-(a + 1)) (show b ≠ 0 by omega)
  have n1 := Int.emod_lt_of_pos (-(a + 1)) (show 0 < b by omega)
  have d := Int.mul_ediv_add_emod (-(a + 1)) b
  refine ⟨?_, by omega, by omega⟩
  have g : a = (b - 1 + (a + 1).tmod b) + b * (-((-(a + 1)) / b) - 1) := by rw [e, Int.mul_sub, Int.mul_neg]; omega
  have f : a % b = ((b - 1 + (a + 1).tmod b) + b * (-((-(a + 1)) / b) - 1)) % b := by rw [← g]
  rw [f, Int.add_mul_emod_self_left, Int.emod_eq_of_lt (by omega) (by omega)]
theorem ring_any (a b : Int) (a1 : -9223372036854775808 ≤ a) (a2 : a ≤ 9223372036854775807) (b1 : -9223372036854775808 ≤ b) (b2 : b ≤ 9223372036854775807) (w : World) :
    Calls Try.prog 16 #[.int .i64 a, .int .i64 b] w fun e w' => e = .returned (.int .i64 (ring a b)) ∧ w = w' := by
  by_cases h0 : b < 1
  · go_enter Try.func16, Try.ntmps16
    go_wp2
    go_ret
    exact ⟨ret_int (ring_low a b h0), rfl⟩
  have m0 := Int.emod_nonneg a (show b ≠ 0 by omega)
  have m1 := Int.emod_lt_of_pos a (show 0 < b by omega)
  by_cases h1 : 0 ≤ a
  · have hd : decide (a % b < 0) = false := by simp; omega
    go_enter Try.func16, Try.ntmps16
    go_wp2
    go_ret
    exact ⟨ret_int (ring_high a b (by omega)), rfl⟩
  · obtain ⟨t1, t2, t3⟩ := tmod_low a b (by omega) (by omega)
    have H3 := Lib.hid t3; clear t3
    by_cases h2 : a.tmod b < 0
    all_goals
      go_enter Try.func16, Try.ntmps16
      go_wp2
      go_ret
      exact ⟨ret_int (by rw [← ring_high a b (by omega), H3.out]; omega), rfl⟩
theorem rring_any (a b : Int) (a1 : -9223372036854775808 ≤ a) (a2 : a ≤ 9223372036854775807) (b1 : -9223372036854775808 ≤ b) (b2 : b ≤ 9223372036854775807) (w : World) :
    Calls Try.prog 17 #[.int .i64 a, .int .i64 b] w fun e w' => e = .returned (.int .i64 (ring a b)) ∧ w = w' := by
  by_cases h0 : b < 1
  · go_enter Try.func17, Try.ntmps17
    go_wp2
    go_ret
    exact ⟨ret_int (ring_low a b h0), rfl⟩
  by_cases h1 : 0 ≤ a
  · go_enter Try.func17, Try.ntmps17
    go_wp2
    go_ret
    exact ⟨ret_int (ring_high a b (by omega)), rfl⟩
  · obtain ⟨t1, t2, t3⟩ := ring_ref a b (by omega) (by omega)
    have H1 := Lib.hid t1; clear t1
    go_enter Try.func17, Try.ntmps17
    go_wp2
    go_ret
    exact ⟨ret_int (by rw [← ring_high a b (by omega), H1.out]), rfl⟩
end Go.Proofs.Ytdibbhaegbndbaa
