/-
  Buckets: whatever is done with one, and whatever is refused.
-/
import Derived.Test.YthnppnihpelbaaaBucketsG
namespace Go.Proofs.Ythnppnihpelbaaa
open Go.ChangeShapes Go.WideShapes Go.ChangeAt Go.RowKit
set_option linter.unusedVariables false
set_option maxRecDepth 100000 in
theorem play_out (c r : Int) (ad : Option Addr) (n cap : Nat) (w : World) (hn : 150 < n) :
    Calls Try.prog 3 #[.int .i64 c, .int .i64 r, .slice ad n cap] w (ToldB true w) := by
  go_enter Try.func3, Try.ntmps3
  go_wp2_with (first
    | (go_at_call 6; refine (filled_any _).mono ?_; rintro e w4 ⟨rfl, k4⟩))
  go_ret
  exact ⟨rfl, k4⟩
set_option maxRecDepth 100000 in
theorem play_no (c r : Int) (hm : mayB c r = false) (ad : Option Addr) (n cap : Nat) (w : World) (hn : n ≤ 150) :
    Calls Try.prog 3 #[.int .i64 c, .int .i64 r, .slice ad n cap] w (ToldB true w) := by
  have NW := hide (fun w => new_no hm w)
  have RW := hide (fun w => rnew_no hm w)
  clear hm
  go_enter Try.func3, Try.ntmps3
  go_wp2_with (first
    | (go_at_call 7; refine (unhide NW _).mono ?_; rintro e w2 ⟨rfl, rfl⟩)
    | (go_at_call 8; refine (unhide RW _).mono ?_; rintro e w3 ⟨rfl, rfl⟩)
    | (go_at_call 6; refine (filled_any _).mono ?_; rintro e w4 ⟨rfl, k4⟩))
  go_ret
  exact ⟨rfl, k4⟩
theorem play_any (c r : Int) (ad : Option Addr) (l : List AT) (cap : Nat) (w : World) (h : ActsIn w ad l) :
    Calls Try.prog 3 #[.int .i64 c, .int .i64 r, .slice ad l.length cap] w (ToldB true w) := by
  by_cases hl : l.length ≤ 150
  · cases hm : mayB c r with
    | true => exact play_in c r hm ad l cap w hl h
    | false => exact play_no c r hm ad l.length cap w hl
  · exact play_out c r ad l.length cap w (by omega)
end Go.Proofs.Ythnppnihpelbaaa
