/-
  Logs: acts that are too many are not gone through.
-/
import Derived.Test.YtfffgegdcgfakaaLogsT
namespace Go.Proofs.Ytfffgegdcgfakaa
open Go.ChangeShapes Go.WideShapes Go.ChangeAt Go.RowKit
set_option maxRecDepth 100000 in
theorem logsplay_any (ad : Option Addr) (l : List AT) (cap : Nat) (w : World) (h : ActsIn w ad l) (hm : l.length ≤ 9223372036854775807) :
    Calls Try.prog 3 #[.slice ad l.length cap] w (ToldN (.bool true) w) := by
  cases hg : greatL l 50
  · exact play_in ad l cap w h hg
  · have HG := hide (great_any ad l cap 50 w (by omega) h hm)
    rw [hg] at HG
    clear h hm hg
    go_enter Try.func3, Try.ntmps3
    go_wp2_with (first
      | (go_at_call 6; refine (unhide HG).mono ?_; rintro e w1 ⟨rfl, k1⟩)
      | (go_at_call 7; (with_reducible refine (logged_any _).mono ?_); rintro e w24 ⟨rfl, k24⟩))
    go_ret
    exact ⟨rfl, k1.andNo k24⟩
end Go.Proofs.Ytfffgegdcgfakaa
