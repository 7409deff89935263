/-
  Links: what is sent is delivered once, whatever is given.
-/
import Derived.Test.YtngldlfobdiipaaLinksW
namespace Go.Proofs.Ytngldlfobdiipaa.Lk
open Go.ChangeShapes Go.WideShapes Go.ChangeAt Go.RowKit
set_option linter.unusedVariables false
set_option maxRecDepth 100000 in
theorem once_big (ad ad2 : Option Addr) (n n2 : Nat) (cap cap2 : Nat) (w : World) (hb : 60 < n) :
    Calls Try.prog 5 #[.slice ad n cap, .slice ad2 n2 cap2] w (ToldN (.bool true) w) := by
  have i1 : 60 < (n : Int) := by omega
  go_enter Try.func5, Try.ntmps5
  go_wp2_with (go_at_call 7; (with_reducible refine (mailed_any _).mono ?_); rintro e w5 ⟨rfl, k5⟩)
  go_ret
  exact ⟨rfl, k5⟩
set_option maxRecDepth 100000 in
theorem once_big2 (ad ad2 : Option Addr) (n n2 : Nat) (cap cap2 : Nat) (w : World) (h : n ≤ 60) (hb : 60 < n2) :
    Calls Try.prog 5 #[.slice ad n cap, .slice ad2 n2 cap2] w (ToldN (.bool true) w) := by
  have i1 : ¬ 60 < (n : Int) := by omega
  have i2 : 60 < (n2 : Int) := by omega
  go_enter Try.func5, Try.ntmps5
  go_wp2_with (go_at_call 7; (with_reducible refine (mailed_any _).mono ?_); rintro e w5 ⟨rfl, k5⟩)
  go_ret
  exact ⟨rfl, k5⟩
theorem once_any (ad ad2 : Option Addr) (l l2 : List Nat) (cap cap2 : Nat) (w : World) (h : BytesIn w ad l) (h2 : BytesIn w ad2 l2) :
    Calls Try.prog 5 #[.slice ad l.length cap, .slice ad2 l2.length cap2] w (ToldN (.bool true) w) := by
  by_cases e : l.length ≤ 60
  · by_cases e2 : l2.length ≤ 60
    · exact once_in ad ad2 l l2 cap cap2 w h h2 e e2
    · exact once_big2 ad ad2 _ _ cap cap2 w e (by omega)
  · exact once_big ad ad2 _ _ cap cap2 w (by omega)
end Go.Proofs.Ytngldlfobdiipaa.Lk
