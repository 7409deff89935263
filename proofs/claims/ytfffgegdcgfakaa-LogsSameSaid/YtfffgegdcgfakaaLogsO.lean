/-
  Logs: acts that are too many are not gone through.
-/
import Derived.Test.YtfffgegdcgfakaaLogsN
namespace Go.Proofs.Ytfffgegdcgfakaa
open Go.ChangeShapes Go.WideShapes Go.ChangeAt Go.RowKit
set_option maxRecDepth 100000 in
theorem logssame_any (ad : Option Addr) (l : List AT) (cap : Nat) (which : Int) (hw : 0 ≤ which ∧ which ≤ 255) (w : World) (h : ActsIn w ad l) (hm : l.length ≤ 9223372036854775807) :
    Calls Try.prog 5 #[.slice ad l.length cap, .int .u8 which] w (ToldN (.bool true) w) := by
  cases hg : greatL l 50
  · exact same_in ad l cap which hw w h hg
  · have HG := hide (great_any ad l cap 50 w (by omega) h hm)
    rw [hg] at HG
    clear h hm hg hw
    go_enter Try.func5, Try.ntmps5
    go_wp2_with (first
      | (go_at_call 6; refine (unhide HG).mono ?_; rintro e w1 ⟨rfl, k1⟩)
      | (go_at_call 7; (with_reducible refine (logged_any _).mono ?_); rintro e w24 ⟨rfl, k24⟩))
    go_ret
    exact ⟨rfl, k1.andNo k24⟩
end Go.Proofs.Ytfffgegdcgfakaa
