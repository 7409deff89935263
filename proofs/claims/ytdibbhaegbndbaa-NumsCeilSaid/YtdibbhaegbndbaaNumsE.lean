/-
  The chapter's examples all hold: the contract of the examples' function.
-/
import Derived.Test.YtdibbhaegbndbaaNumsD
namespace Go.Proofs.Ytdibbhaegbndbaa
open Go.ChangeShapes Go.WideShapes Go.ChangeAt Go.RowKit

theorem add_edge (w : World) : Calls Try.prog 6 #[.int .i64 9223372036854775807, .int .i64 1] w fun e w' => e = .returned (.int .i64 9223372036854775807) ∧ w = w' := by
  refine (add_any _ _ (by omega) (by omega) (by omega) (by omega) w).mono ?_
  rintro e w' ⟨rfl, rfl⟩; exact ⟨ret_int (sat_hi (by omega)), rfl⟩
theorem sub_edge (w : World) : Calls Try.prog 8 #[.int .i64 (-9223372036854775808), .int .i64 1] w fun e w' => e = .returned (.int .i64 (-9223372036854775808)) ∧ w = w' := by
  refine (sub_any _ _ (by omega) (by omega) (by omega) (by omega) w).mono ?_
  rintro e w' ⟨rfl, rfl⟩; exact ⟨ret_int (sat_lo (by omega)), rfl⟩
theorem mul_edge (w : World) : Calls Try.prog 10 #[.int .i64 (-9223372036854775808), .int .i64 (-1)] w fun e w' => e = .returned (.int .i64 9223372036854775807) ∧ w = w' := by
  refine (mul_any _ _ (by omega) (by omega) (by omega) (by omega) w).mono ?_
  rintro e w' ⟨rfl, rfl⟩; exact ⟨ret_int (sat_hi (by omega)), rfl⟩
theorem counted_any (w : World) :
    Calls Try.prog 18 #[] w fun e w' => e = .returned (.bool true) ∧ w = w' := by
  go_enter Try.func18, Try.ntmps18
  go_wp2_with (first | (go_at_call 6; refine (add_edge _).mono ?_; rintro e w' ⟨rfl, rfl⟩) | (go_at_call 8; refine (sub_edge _).mono ?_; rintro e w' ⟨rfl, rfl⟩) | (go_at_call 10; refine (mul_edge _).mono ?_; rintro e w' ⟨rfl, rfl⟩))
  go_wp2
  go_ret
  exact ⟨rfl, rfl⟩
end Go.Proofs.Ytdibbhaegbndbaa
