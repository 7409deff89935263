/-
  Counters: whatever is added, and whatever is refused.
-/
import Derived.Test.YtpgmpfhhmnnejaaCountsG
namespace Go.Proofs.Ytpgmpfhhmnnejaa
open Go.ChangeShapes Go.WideShapes Go.ChangeAt Go.RowKit
set_option linter.unusedVariables false
set_option maxRecDepth 100000 in
theorem play_out (i : Int) (ad : Option Addr) (n cap : Nat) (w : World) (hn : 100 < n) :
    Calls Try.prog 3 #[.int .i64 i, .slice ad n cap] w (ToldB true w) := by
  go_enter Try.func3, Try.ntmps3
  go_wp2_with (first
    | (go_at_call 6; refine (added_any _).mono ?_; rintro e w4 ⟨rfl, k4⟩))
  go_ret
  exact ⟨rfl, k4⟩
set_option maxRecDepth 100000 in
theorem play_no (i : Int) (hi : i < 1 ∨ 64 < i) (ad : Option Addr) (n cap : Nat) (w : World) (hn : n ≤ 100) :
    Calls Try.prog 3 #[.int .i64 i, .slice ad n cap] w (ToldB true w) := by
  have NW := hide (fun w => new_not hi w)
  have RW := hide (fun w => rnew_not hi w)
  clear hi
  go_enter Try.func3, Try.ntmps3
  go_wp2_with (first
    | (go_at_call 7; refine (unhide NW _).mono ?_; rintro e w2 ⟨rfl, rfl⟩)
    | (go_at_call 8; refine (unhide RW _).mono ?_; rintro e w3 ⟨rfl, rfl⟩)
    | (go_at_call 6; refine (added_any _).mono ?_; rintro e w4 ⟨rfl, k4⟩))
  go_ret
  exact ⟨rfl, k4⟩
theorem play_any (i : Int) (ad : Option Addr) (l : List AT) (cap : Nat) (w : World) (h : ActsIn w ad l) :
    Calls Try.prog 3 #[.int .i64 i, .slice ad l.length cap] w (ToldB true w) := by
  by_cases hl : l.length ≤ 100
  · by_cases hi : i < 1 ∨ 64 < i
    · exact play_no i hi ad l.length cap w hl
    · obtain ⟨n, rfl⟩ := Int.eq_ofNat_of_zero_le (show 0 ≤ i by omega)
      exact play_in n (by omega) (by omega) ad l cap w hl h
  · exact play_out i ad l.length cap w (by omega)
end Go.Proofs.Ytpgmpfhhmnnejaa
