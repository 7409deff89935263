/-
  Sums, differences and products that stay within, and those at the edges.
-/
import Derived.Test.YtdibbhaegbndbaaNumsE
namespace Go.Proofs.Ytdibbhaegbndbaa
open Go.ChangeShapes Go.WideShapes Go.ChangeAt Go.RowKit

theorem prod_small {a b : Int} (a1 : -2147483648 ≤ a) (a2 : a ≤ 2147483647) (b1 : -2147483648 ≤ b) (b2 : b ≤ 2147483647) : -4611686018427387904 ≤ a * b ∧ a * b ≤ 4611686018427387904 := by
  have h : (a * b).natAbs ≤ 2147483648 * 2147483648 := by rw [Int.natAbs_mul]; exact Nat.mul_le_mul (by omega) (by omega)
  omega
theorem add_in (a b : Int) (a1 : -9223372036854775808 ≤ a) (a2 : a ≤ 9223372036854775807) (b1 : -9223372036854775808 ≤ b) (b2 : b ≤ 9223372036854775807) (c1 : -9223372036854775808 ≤ a + b) (c2 : a + b ≤ 9223372036854775807) (w : World) :
    Calls Try.prog 6 #[.int .i64 a, .int .i64 b] w fun e w' => e = .returned (.int .i64 (a + b)) ∧ w = w' := by
  refine (add_any a b a1 a2 b1 b2 w).mono ?_
  rintro e w' ⟨rfl, rfl⟩; exact ⟨ret_int (sat_in c1 c2), rfl⟩
theorem sub_in (a b : Int) (a1 : -9223372036854775808 ≤ a) (a2 : a ≤ 9223372036854775807) (b1 : -9223372036854775808 ≤ b) (b2 : b ≤ 9223372036854775807) (c1 : -9223372036854775808 ≤ a - b) (c2 : a - b ≤ 9223372036854775807) (w : World) :
    Calls Try.prog 8 #[.int .i64 a, .int .i64 b] w fun e w' => e = .returned (.int .i64 (a - b)) ∧ w = w' := by
  refine (sub_any a b a1 a2 b1 b2 w).mono ?_
  rintro e w' ⟨rfl, rfl⟩; exact ⟨ret_int (sat_in c1 c2), rfl⟩
theorem mul_in (a b : Int) (a1 : -9223372036854775808 ≤ a) (a2 : a ≤ 9223372036854775807) (b1 : -9223372036854775808 ≤ b) (b2 : b ≤ 9223372036854775807) (c1 : -9223372036854775808 ≤ a * b) (c2 : a * b ≤ 9223372036854775807) (w : World) :
    Calls Try.prog 10 #[.int .i64 a, .int .i64 b] w fun e w' => e = .returned (.int .i64 (a * b)) ∧ w = w' := by
  refine (mul_any a b a1 a2 b1 b2 w).mono ?_
  rintro e w' ⟨rfl, rfl⟩; exact ⟨ret_int (sat_in c1 c2), rfl⟩
theorem mul_parts (a b c : Int) (d1 : -9223372036854775808 ≤ a + b) (d2 : a + b ≤ 9223372036854775807) (c1 : -9223372036854775808 ≤ c) (c2 : c ≤ 9223372036854775807) (w : World) :
    Calls Try.prog 10 #[.int .i64 (a + b), .int .i64 c] w fun e w' => e = .returned (.int .i64 (sat (a * c + b * c))) ∧ w = w' := by
  refine (mul_any (a + b) c d1 d2 c1 c2 w).mono ?_
  rintro e w' ⟨rfl, rfl⟩; exact ⟨ret_int (by rw [Int.add_mul]), rfl⟩
end Go.Proofs.Ytdibbhaegbndbaa
