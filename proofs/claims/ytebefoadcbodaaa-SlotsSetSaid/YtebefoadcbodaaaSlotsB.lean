/-
  Slots: an outcome in its cells; a slot; it is set through sync.Once.
-/
import Derived.Test.YtebefoadcbodaaaSlotsA
namespace Go.Proofs.Ytebefoadcbodaaa
open Go.ChangeShapes Go.WideShapes Go.ChangeAt Go.RowKit
set_option linter.unusedVariables false
/-- an outcome -/
structure OT where
  k : Int
  r : Int
  c : Int
  v : ByteArray
  n : Int
  t : Int
def OT.cells (o : OT) : List Value := [.int .i64 o.k, .int .i64 o.r, .int .i64 o.c, .string o.v, .int .i64 o.n, .int .i64 o.t]
/-- none: zero -/
def oZero : OT := ⟨0, 0, 0, ByteArray.empty, 0, 0⟩
theorem OT.one (o : OT) : ∀ u ∈ o.cells, u.oneCell' = true := by intro u hu; simp [OT.cells] at hu; rcases hu with rfl | rfl | rfl | rfl | rfl | rfl <;> rfl
/-- a slot's cells: is it made, is it done, the lock, the outcome, is it set -/
def slotC (made : Bool) (d m : Int) (o : OT) (s : Int) : Array Value := #[.bool made, .int .u32 d, .int .i32 m, .int .u32 0, .int .i64 o.k, .int .i64 o.r, .int .i64 o.c, .string o.v, .int .i64 o.n, .int .i64 o.t, .int .u32 s]
theorem slotC_done (made : Bool) (d m s : Int) (o : OT) (x : Int) : (slotC made d m o s).setIfInBounds 1 (.int .u32 x) = slotC made x m o s := rfl
theorem slotC_lock (made : Bool) (d m s : Int) (o : OT) (x : Int) : (slotC made d m o s).setIfInBounds 2 (.int .i32 x) = slotC made d x o s := rfl
theorem slotC_set (made : Bool) (d m s : Int) (o : OT) (x : Int) : (slotC made d m o s).setIfInBounds 10 (.int .u32 x) = slotC made d m o x := rfl
theorem slotC_put (made : Bool) (d m s : Int) (o q : OT) : laidIn (slotC made d m o s) 4 q.cells = slotC made d m q s := rfl
theorem slotC_take (made : Bool) (d m s : Int) (o : OT) : ∀ j v, o.cells[j]? = some v → (slotC made d m o s)[4 + j]? = some v := by
  intro j v h
  have : j < 6 := by have := (List.getElem?_eq_some_iff.1 h).1; simpa [OT.cells] using this
  rcases (show j = 0 ∨ j = 1 ∨ j = 2 ∨ j = 3 ∨ j = 4 ∨ j = 5 by omega) with rfl | rfl | rfl | rfl | rfl | rfl <;> exact h
/-- at p lies a slot with these cells -/
def SlotIs (w : World) (p : Nat) (cs : Array Value) : Prop := w.heap[p]? = some (.cells cs 48 (0, 0))
theorem info_outcome : (Try.prog.info? 29).map (·.size) = some 6 := by kernel_rfl
theorem info_bool : (Try.prog.info? 4).map (·.size) = some 1 := by kernel_rfl
section
variable {w w' : World} {p po ps pf : Nat} {o q : OT} {d m s : Int} {z : Array Value}
theorem SlotIs.no (h : SlotIs w p z) (c : Chg noBlk w w') : SlotIs w' p z := c.at h id
theorem SlotIs.lt (h : SlotIs w p z) : p < w.heap.size := lt_of_block h
set_option maxHeartbeats 400000 in
/-- the function that is handed to Do -/
theorem laid_by (h : SlotIs w p (slotC true d m q s)) (ho : w.heap[po]? = some (.cells o.cells.toArray 29 (0, 0))) (hs : w.heap[ps]? = some (.cells #[.pointer (some ⟨p, 0, none⟩)] 24 (0, 0))) (hf : w.heap[pf]? = some (.cells #[.bool false] 4 (0, 0)))
    (n1 : po ≠ p) (n2 : ps ≠ p) (n3 : pf ≠ p) :
    Calls Try.prog 14 #[.pointer (some ⟨po, 0, none⟩), .pointer (some ⟨ps, 0, none⟩), .pointer (some ⟨pf, 0, none⟩)] w (fun e w' => e = .returned (.tuple #[]) ∧ Chg (twoBlk p pf) w w' ∧ SlotIs w' p (slotC true d m o 1) ∧ w'.heap[pf]? = some (.cells #[.bool true] 4 (0, 0))) := by
  have H := hide h
  have HO := hide ho
  have HS := hide hs
  have HF := hide hf
  have cs := cellAt hs 0 _ rfl
  clear h ho hs hf
  go_enter Try.func14, Try.ntmps14
  go_wp2_with (first
    | (have tk := g2; clear tk; refine wpL_get rfl 24 (.tmp 1) rfl ps 0 rfl _ _ _ (k2.at (unhide HS) n2) _ Try.underlying24 rfl _ rfl ?_)
    | (refine wpL_get rfl 24 (.tmp 1) rfl ps 0 rfl _ _ _ (unhide HS) _ Try.underlying24 rfl _ rfl ?_)
    | (refine wpL_load rfl 29 (.tmp 0) rfl po rfl o.cells.toArray _ _ (unhide HO) _ Try.underlying29 rfl info_outcome ?_)
    | (refine wpL_put rfl 29 (.tmp 6) (.tmp 4) rfl p 4 o.cells rfl rfl _ _ (unhide H) (by show 4 + 6 ≤ 11; omega) info_outcome o.one ?_; intro w2 k2 g2 z2)
    | (go_at_call 15; refine (bstore (k := 10) g2 rfl).mono ?_; rintro e w3 ⟨rfl, k3, g3, z3⟩)
    | (refine wpL_set rfl 4 (.tmp 2) (.const (.bool true)) rfl pf 0 (.bool true) rfl rfl rfl info_bool _ _ (k3.at (k2.at (unhide HF) n3) n3) (by decide) ?_; intro w4 k4 g4 z4))
  go_end0
  refine ⟨rfl, ?_, ?_, g4⟩
  · exact ((k2.trans k3 fun _ _ e => e).mono (T := twoBlk p pf) fun _ _ e => .inl e).trans k4 fun _ _ e => .inr e
  · rw [slotC_put, slotC_set] at g3
    exact k4.at g3 (fun e => n3 (Eq.symm e))
end
end Go.Proofs.Ytebefoadcbodaaa
