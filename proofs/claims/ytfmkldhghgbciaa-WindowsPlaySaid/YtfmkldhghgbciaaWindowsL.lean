/-
  Windows: whatever is done with one, and whatever is refused.
-/
import Derived.Test.YtfmkldhghgbciaaWindowsK
namespace Go.Proofs.Ytfmkldhghgbciaa
open Go.ChangeShapes Go.WideShapes Go.ChangeAt Go.RowKit
set_option linter.unusedVariables false
set_option maxRecDepth 100000 in
theorem play_out (c i j : Int) (ad : Option Addr) (n cap : Nat) (w : World) (hn : 200 < n) :
    Calls Try.prog 3 #[.int .i64 c, .agg #[.int .i64 i, .int .i64 j], .slice ad n cap] w (ToldB true w) := by
  go_enter Try.func3, Try.ntmps3
  go_wp2_with (first
    | (refine wpL_box rfl 22 (.tmp 1) rfl #[.int .i64 i, .int .i64 j] rfl ?_; intro x0 w1 e1 k1 g1 z1)
    | (go_at_call 6; refine (framed_any _).mono ?_; rintro e w4 ⟨rfl, k4⟩))
  go_ret
  exact ⟨rfl, k1.andNo k4⟩
set_option maxRecDepth 100000 in
theorem play_no (c i j : Int) (hm : mayB c i j = false) (ad : Option Addr) (n cap : Nat) (w : World) (hn : n ≤ 200) :
    Calls Try.prog 3 #[.int .i64 c, .agg #[.int .i64 i, .int .i64 j], .slice ad n cap] w (ToldB true w) := by
  have NW := hide (fun w => new_no hm w)
  have RW := hide (fun w => rnew_no hm w)
  clear hm
  go_enter Try.func3, Try.ntmps3
  go_wp2_with (first
    | (refine wpL_box rfl 22 (.tmp 1) rfl #[.int .i64 i, .int .i64 j] rfl ?_; intro x0 w1 e1 k1 g1 z1; have c0 := cellAt g1 0 (.int .i64 i) (by rfl); have c1 := cellAt g1 1 (.int .i64 j) (by rfl))
    | (go_at_call 7; refine (unhide NW _).mono ?_; rintro e w2 ⟨rfl, rfl⟩)
    | (go_at_call 8; refine (unhide RW _).mono ?_; rintro e w3 ⟨rfl, rfl⟩)
    | (go_at_call 6; refine (framed_any _).mono ?_; rintro e w4 ⟨rfl, k4⟩))
  go_ret
  exact ⟨rfl, k1.andNo k4⟩
theorem play_any (c i j : Int) (ad : Option Addr) (l : List AT) (cap : Nat) (w : World) (h : ActsIn w ad l) :
    Calls Try.prog 3 #[.int .i64 c, .agg #[.int .i64 i, .int .i64 j], .slice ad l.length cap] w (ToldB true w) := by
  by_cases hl : l.length ≤ 200
  · cases hm : mayB c i j with
    | true => exact play_in c i j hm ad l cap w hl h
    | false => exact play_no c i j hm ad l.length cap w hl
  · exact play_out c i j ad l.length cap w (by omega)
end Go.Proofs.Ytfmkldhghgbciaa
