/-
  Keys with values: acts that are too many are not gone through.
-/
import Derived.Test.YtbccebdhdppegaaKvV
namespace Go.Proofs.Ytbccebdhdppegaa
open Go.ChangeShapes Go.WideShapes Go.ChangeAt Go.RowKit
theorem kvplay_any (ad : Option Addr) (l : List AT) (cap : Nat) (w : World) (h : ActsIn w ad l) (hm : l.length ≤ 9223372036854775807) :
    Calls Try.prog 3 #[.slice ad l.length cap] w (ToldN (.bool true) w) := by
  cases hg : greatL l 100
  · exact play_in ad l cap w h hg
  · have HG := hide (great_any ad l cap 100 w (by omega) h hm)
    rw [hg] at HG
    clear h hm hg
    go_enter Try.func3, Try.ntmps3
    go_wp2_with (first
      | (go_at_call 6; refine (unhide HG).mono ?_; rintro e w1 ⟨rfl, k1⟩)
      | (go_at_call 7; (with_reducible refine (stored_any _).mono ?_); rintro e w24 ⟨rfl, k24⟩))
    go_ret
    exact ⟨rfl, k1.andNo k24⟩
end Go.Proofs.Ytbccebdhdppegaa
