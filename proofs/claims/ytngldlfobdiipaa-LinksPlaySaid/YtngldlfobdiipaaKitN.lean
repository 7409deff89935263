/-
  What most texts share: hidden facts; told: a value, and of what was there nothing has turned.
-/
import Derived.Test.YtngldlfobdiipaaKitM
namespace Go.Proofs.Ytngldlfobdiipaa
open Go.ChangeShapes Go.WideShapes Go.ChangeAt Go.RowKit
set_option linter.unusedVariables false
theorem hide {p : Prop} (h : p) : Hid p := h
theorem unhide {p : Prop} (h : Hid p) : p := h
theorem ret_int {k : IntKind} {a b : Int} (h : a = b) : Ending.returned (.int k a) = .returned (.int k b) := by rw [h]
/-- told: v, and of what was there nothing has turned -/
def ToldN (v : Value) (w : World) (e : Ending) (w' : World) : Prop := e = .returned v ∧ Chg noBlk w w'
theorem ToldN.below {v : Value} {w w' : World} {e : Ending} (h : ToldN v w e w') : e = .returned v ∧ Below w.heap.size w w' := ⟨h.1, h.2.belowNo⟩
theorem Chg.past {a b d : World} {c : Nat} (h : Chg noBlk a b) (k : Chg (oneBlk c) b d) (hc : a.heap.size ≤ c) : Chg noBlk a d := h.trans k fun i hi e => by have e : i = c := e; omega
end Go.Proofs.Ytngldlfobdiipaa
