/-
  What a rounded-up quotient and a place on a ring are: plain arithmetic.
-/
import Derived.Test.YtdibbhaegbndbaaNumsE
namespace Go.Proofs.Ytdibbhaegbndbaa

theorem ceil_least (a b : Int) (ha : 0 ≤ a) (hb : 1 ≤ b) : 0 ≤ ceil a b ∧ ceil a b ≤ a ∧ a ≤ ceil a b * b ∧ (0 < ceil a b → (ceil a b - 1) * b < a ∧ 0 ≤ (ceil a b - 1) * b) ∧ ceil a b * b < a + b := by
  by_cases h0 : a = 0
  · subst h0; rw [ceil_zero]; omega
  have e := Int.mul_ediv_add_emod (a - 1) b
  have m0 := Int.emod_nonneg (a - 1) (show b ≠ 0 by omega)
  have m1 := Int.emod_lt_of_pos (a - 1) (show 0 < b by omega)
  have q0 : 0 ≤ (a - 1) / b := Int.ediv_nonneg (by omega) (by omega)
  have q1 : (a - 1) / b ≤ a - 1 := Int.ediv_le_self _ (by omega)
  have hc : ceil a b = (a - 1) / b + 1 := by unfold ceil; rw [if_neg (by omega)]
  rw [hc, Int.add_mul, show (a - 1) / b + 1 - 1 = (a - 1) / b from by omega, Int.mul_comm]
  have : 0 ≤ b * ((a - 1) / b) := Int.mul_nonneg (by omega) q0
  omega
theorem ring_facts (n b : Int) (hb : 1 ≤ b) : 0 ≤ ring n b ∧ ring n b < b ∧ (n - ring n b).tmod b = 0 ∧ ring (n + b) b = ring n b := by
  rw [← ring_high n b hb, ← ring_high (n + b) b hb]
  refine ⟨Int.emod_nonneg n (by omega), Int.emod_lt_of_pos n (by omega), ?_, by simp⟩
  exact Int.tmod_eq_zero_of_dvd (Int.dvd_self_sub_emod)
end Go.Proofs.Ytdibbhaegbndbaa
