/-
  Contracts of the product and of the document's product: what each returns, for every pair of ints.
-/
import Derived.Test.YtdibbhaegbndbaaNumsB
namespace Go.Proofs.Ytdibbhaegbndbaa
open Go.ChangeShapes Go.WideShapes Go.ChangeAt Go.RowKit

theorem tdiv_back (a b : Int) (hb : b ≠ 0) : (a * b).tdiv b = a := Int.mul_tdiv_cancel a hb
/-- a wrapped product that divides back is the product, unless the sign tells otherwise -/
theorem mul_back (a b : Int) (a1 : -9223372036854775808 ≤ a) (a2 : a ≤ 9223372036854775807) (b1 : -9223372036854775808 ≤ b) (b2 : b ≤ 9223372036854775807)
    (a0 : a ≠ 0) (b0 : b ≠ 0) (hout : a * b < -9223372036854775808 ∨ 9223372036854775807 < a * b) (hq : wrap64 ((wrap64 (a * b)).tdiv b) = a) :
    (wrap64 (a * b) < 0 ↔ ((a < 0 ∧ b < 0) ∨ (¬ a < 0 ∧ ¬ b < 0))) := by
  generalize hp : wrap64 (a * b) = p at *
  have hp1 : -9223372036854775808 ≤ p ∧ p ≤ 9223372036854775807 ∧ ∃ k : Int, p = a * b + 18446744073709551616 * k := by
    rw [← hp]; unfold wrap64; exact ⟨by omega, by omega, -((a * b + 9223372036854775808) / 18446744073709551616), by omega⟩
  obtain ⟨hp1, hp2, k, hk⟩ := hp1
  have hd := Int.mul_tdiv_add_tmod p b
  have hm1 := Int.tmod_lt_of_pos
  have hr : -(b.natAbs : Int) < p.tmod b ∧ p.tmod b < b.natAbs := by
    have h := Int.natAbs_tmod p b
    have h2 : p.natAbs % b.natAbs < b.natAbs := Nat.mod_lt _ (by omega)
    omega
  generalize ht : p.tmod b = t at *
  generalize hqq : p.tdiv b = q at *
  by_cases hm : q ≤ 9223372036854775807 ∧ -9223372036854775808 ≤ q
  · exfalso
    have : wrap64 q = q := by unfold wrap64; omega
    rw [this] at hq; subst hq
    rw [Int.mul_comm] at hd
    omega
  · -- the only quotient that is beyond: the least one by -1
    have hb1 : b = -1 := by
      have hn : q.natAbs * b.natAbs ≤ p.natAbs := by
        rw [← hqq, Int.natAbs_tdiv]; exact Nat.div_mul_le_self _ _
      have : ¬ 2 ≤ b.natAbs := by
        intro h2
        have := Nat.mul_le_mul_left q.natAbs h2
        omega
      have hb2 : b = 1 ∨ b = -1 := by omega
      rcases hb2 with h | h
      · exfalso; subst h; simp at hqq; omega
      · exact h
    subst hb1
    have hq1 : q = -p := by rw [← hqq]; simp
    have hpm : p = -9223372036854775808 := by omega
    have ha : a = -9223372036854775808 := by rw [← hq, hq1, hpm]; unfold wrap64; omega
    subst ha hpm; simp

theorem mul_signs (a b : Int) (a0 : a ≠ 0) (b0 : b ≠ 0) : (a * b < 0 ↔ ((a < 0 ∧ ¬ b < 0) ∨ (¬ a < 0 ∧ b < 0))) := by
  rcases Int.lt_or_gt_of_ne a0 with h | h <;> rcases Int.lt_or_gt_of_ne b0 with h' | h'
  · have := Int.mul_pos_of_neg_of_neg h h'; omega
  · have := Int.mul_neg_of_neg_of_pos h h'; omega
  · have := Int.mul_neg_of_pos_of_neg h h'; omega
  · have := Int.mul_pos h h'; omega

theorem mul_any (a b : Int) (a1 : -9223372036854775808 ≤ a) (a2 : a ≤ 9223372036854775807) (b1 : -9223372036854775808 ≤ b) (b2 : b ≤ 9223372036854775807) (w : World) :
    Calls Try.prog 10 #[.int .i64 a, .int .i64 b] w fun e w' => e = .returned (.int .i64 (sat (a * b))) ∧ w = w' := by
  by_cases a0 : a = 0
  · have H := Lib.hid a0
    have hb : (a == 0) = true := by simp [a0]
    clear a0
    go_enter Try.func10, Try.ntmps10
    go_wp2
    go_ret
    exact ⟨ret_int (by rw [H.out, Int.zero_mul]; rfl), rfl⟩
  by_cases b0 : b = 0
  · have H := Lib.hid b0
    have ha : (a == 0) = false := by simp [a0]
    have hb : (b == 0) = true := by simp [b0]
    clear b0
    go_enter Try.func10, Try.ntmps10
    go_wp2
    go_ret
    exact ⟨ret_int (by rw [H.out, Int.mul_zero]; rfl), rfl⟩
  have ha : (a == 0) = false := by simp [a0]
  have hb : (b == 0) = false := by simp [b0]
  by_cases hin : -9223372036854775808 ≤ a * b ∧ a * b ≤ 9223372036854775807
  · obtain ⟨i1, i2⟩ := hin
    have hq : (a * b).tdiv b = a := tdiv_back a b b0
    have hfin : sat (a * b) = a * b := sat_in i1 i2
    have Hf := Lib.hid hfin; clear hfin
    have hs := mul_signs a b a0 b0
    by_cases na : a < 0
    all_goals by_cases nb : b < 0
    all_goals
      first | (have hs2 : decide (a * b < 0) = true := by rw [decide_eq_true_iff]; omega) | (have hs2 : decide (a * b < 0) = false := by rw [decide_eq_false_iff_not]; omega)
      clear hs
      go_enter Try.func10, Try.ntmps10
      go_wp2
      go_ret
      exact ⟨ret_int Hf.out.symm, rfl⟩
  · have hout : a * b < -9223372036854775808 ∨ 9223372036854775807 < a * b := by omega
    have hs := mul_signs a b a0 b0
    have Hs := Lib.hid hs; clear hs
    have Ho := Lib.hid hout; clear hout hin
    by_cases hq : wrap64 ((wrap64 (a * b)).tdiv b) = a
    · have hm := mul_back a b a1 a2 b1 b2 a0 b0 Ho.out hq
      have hqb : (wrap64 ((wrap64 (a * b)).tdiv b) == a) = true := by simp [hq]
      clear hq
      by_cases na : a < 0
      all_goals by_cases nb : b < 0
      all_goals
        first | (have hs2 : decide (wrap64 (a * b) < 0) = true := by rw [decide_eq_true_iff]; omega) | (have hs2 : decide (wrap64 (a * b) < 0) = false := by rw [decide_eq_false_iff_not]; omega)
        clear hm
        go_enter Try.func10, Try.ntmps10
        go_wp2
        go_ret
        have h1 := Hs.out; have h2 := Ho.out
        exact ⟨ret_int (by first | (rw [sat_hi]; omega) | (rw [sat_lo]; omega)), rfl⟩
    · have hqb : (wrap64 ((wrap64 (a * b)).tdiv b) == a) = false := by simp [hq]
      clear hq
      by_cases na : a < 0
      all_goals by_cases nb : b < 0
      all_goals
        go_enter Try.func10, Try.ntmps10
        go_wp2
        go_ret
        have h1 := Hs.out; have h2 := Ho.out
        exact ⟨ret_int (by first | (rw [sat_hi]; omega) | (rw [sat_lo]; omega)), rfl⟩
end Go.Proofs.Ytdibbhaegbndbaa
