/-
  Chains: contracts of nodeAt, Head, Tail, Next, Prev, Since.
-/
import Derived.Test.YtfplgmkbhpdmjaaChainsC
import Derived.Deep.RegionHeld3
namespace Go.Proofs.Ytfplgmkbhpdmjaa.Ch
open Go.ChangeShapes Go.WideShapes Go.ChangeAt Go.RowKit
set_option linter.unusedVariables false
theorem info_ch : (Try.prog.info? 31).map (·.size) = some 3 := by kernel_rfl
theorem zero_ch : (Try.prog.info? 31).bind (·.zero) = some (.agg (chC cZero (.slice none 0 0))) := by kernel_rfl
theorem nodeA_bad {c : CT} (h : good c = false) (i : Int) : nodeA c i = -1 := by unfold nodeA; rw [if_neg (by simp [h])]
theorem nodeA_lo {c : CT} {i : Int} (h : i < 0) : nodeA c i = -1 := by unfold nodeA; rw [if_neg (by omega)]
theorem nodeA_hi {c : CT} {i : Int} (h : (c.ms.length : Int) ≤ i) : nodeA c i = -1 := by
  unfold nodeA
  rw [List.getElem?_eq_none (by omega)]
  split <;> rfl
theorem nodeA_at {c : CT} {k : Nat} {x : MT} (h : good c = true) (hx : c.ms[k]? = some x) : nodeA c (k : Int) = x.node := by
  unfold nodeA
  rw [if_pos ⟨h, by omega⟩, Int.toNat_natCast, hx]
section
variable {w : World} {ad : Option Addr} {cap : Nat} {c : CT}
theorem check_yes (h : Sl w ad cap c.ms) (g : good c = true) : Calls Try.prog 54 #[chV c (.slice ad c.ms.length cap)] w (ToldN (.int .i64 0) w) := by
  have := check_any h
  rwa [chk_yes g] at this
theorem check_no (h : Sl w ad cap c.ms) (g : good c = false) : Calls Try.prog 54 #[chV c (.slice ad c.ms.length cap)] w (ToldN (.int .i64 2) w) := by
  have := check_any h
  rwa [chk_no g] at this
end
end Go.Proofs.Ytfplgmkbhpdmjaa.Ch
