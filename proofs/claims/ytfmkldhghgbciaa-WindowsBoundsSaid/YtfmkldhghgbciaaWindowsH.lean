/-
  Windows: acts that are too many are not gone through.
-/
import Derived.Test.YtfmkldhghgbciaaWindowsG
namespace Go.Proofs.Ytfmkldhghgbciaa
open Go.ChangeShapes Go.WideShapes Go.ChangeAt Go.RowKit
set_option linter.unusedVariables false
set_option maxRecDepth 100000 in
theorem bounds_out (q : Nat) (hq : q ≤ 255) (ad : Option Addr) (n : Nat) (cap : Nat) (w : World) (hn : 200 < n) :
    Calls Try.prog 5 #[.int .u8 (q : Int), .slice ad n cap] w (ToldB true w) := by
  go_enter Try.func5, Try.ntmps5
  go_wp2_with (first
    | (go_at_call 6; refine (framed_any _).mono ?_; rintro e w4 ⟨rfl, k4⟩))
  go_ret
  exact ⟨rfl, k4⟩
theorem bounds_any (q : Nat) (hq : q ≤ 255) (ad : Option Addr) (l : List AT) (cap : Nat) (w : World) (h : ActsIn w ad l) :
    Calls Try.prog 5 #[.int .u8 (q : Int), .slice ad l.length cap] w (ToldB true w) := by
  by_cases hl : l.length ≤ 200
  · exact bounds_in q hq ad l cap w hl h
  · exact bounds_out q hq ad l.length cap w (by omega)
end Go.Proofs.Ytfmkldhghgbciaa
