/-
  Slots: sync.Once for one goroutine: not yet done, and done.
-/
import Derived.Test.YtebefoadcbodaaaSlotsB
namespace Go.Proofs.Ytebefoadcbodaaa
open Go.ChangeShapes Go.WideShapes Go.ChangeAt Go.RowKit
set_option linter.unusedVariables false
/-- the slot is set to o, and that is told -/
def Laid (p pf : Nat) (o : OT) (w : World) (e : Ending) (w' : World) : Prop := e = .returned (.tuple #[]) ∧ Chg (twoBlk p pf) w w' ∧ SlotIs w' p (slotC true 1 0 o 1) ∧ w'.heap[pf]? = some (.cells #[.bool true] 4 (0, 0))
section
variable {w w' : World} {p po ps pf : Nat} {o q : OT} {d m s : Int} {z : Array Value}
theorem slow_end {w1 w2 w3 w4 : World} (n3 : pf ≠ p) (k1 : Chg (oneBlk p) w w1) (k2 : Chg (twoBlk p pf) w1 w2) (f2 : w2.heap[pf]? = some (.cells #[.bool true] 4 (0, 0))) (k3 : Chg (oneBlk p) w2 w3) (k4 : Chg (oneBlk p) w3 w4)
    (g4 : w4.heap[p]? = some (.cells ((slotC true 1 1 o 1).setIfInBounds 2 (.int .i32 0)) 48 (0, 0))) : Laid p pf o w (.returned (.tuple #[])) w4 :=
  ⟨rfl, (((k1.mono fun _ _ e => .inl e).trans k2 fun _ _ e => e).trans k3 fun _ _ e => .inl e).trans k4 fun _ _ e => .inl e, g4, k4.at (k3.at f2 n3) n3⟩
set_option maxRecDepth 100000 in
set_option maxHeartbeats 800000 in
theorem slow_at (h : SlotIs w p (slotC true 0 0 q 0)) (ho : w.heap[po]? = some (.cells o.cells.toArray 29 (0, 0))) (hs : w.heap[ps]? = some (.cells #[.pointer (some ⟨p, 0, none⟩)] 24 (0, 0))) (hf : w.heap[pf]? = some (.cells #[.bool false] 4 (0, 0)))
    (n1 : po ≠ p) (n2 : ps ≠ p) (n3 : pf ≠ p) :
    Calls Try.prog 17 #[.pointer (some ⟨p, 1, none⟩), .func (.func 14) #[] #[.pointer (some ⟨po, 0, none⟩), .pointer (some ⟨ps, 0, none⟩), .pointer (some ⟨pf, 0, none⟩)]] w (Laid p pf o w) := by
  have L := hide (lock_at (k := 2) h rfl)
  have HO := hide ho
  have HS := hide hs
  have HF := hide hf
  have hnot : ∀ (x : Bool) (w : World), (Op.unary .not (.bool x)).run Try.prog w = .ok (.bool (!x)) w := fun _ _ => rfl
  clear h ho hs hf
  go_enter_defers Try.func17, Try.ntmps17
  go_wp2_with (first
    | (go_at_call 21; refine (unhide L).mono ?_; rintro e w1 ⟨rfl, k1, g1, z1⟩; have G1 := hide (show SlotIs w1 p (slotC true 0 1 q 0) from g1))
    | (go_at_call 16; refine (bload (n := 0) (cellAt (unhide G1) 1 _ rfl)).mono ?_; rintro e w2 ⟨rfl, rfl⟩)
    | (go_at_call 14; refine (laid_by (unhide G1) (k1.at (unhide HO) n1) (k1.at (unhide HS) n2) (k1.at (unhide HF) n3) n1 n2 n3).mono ?_; rintro e w3 ⟨rfl, k3, g3, f3⟩))
  refine leaves_cons (f := 15) (args := #[.pointer (some ⟨p, 1, none⟩), .bool true]) (by simp) (by simp [go_sem]) ?_
  refine (bstore_d (k := 1) .returning g3 rfl).mono ?_
  rintro e u' w4 ⟨rfl, rfl, k4, g4, z4⟩
  refine leaves_cons (f := 22) (args := #[.pointer (some ⟨p, 2, none⟩)]) (by simp [settle]) (by simp [go_sem]) ?_
  refine (unlock_d (k := 2) _ g4 rfl).mono ?_
  rintro e u' w5 ⟨rfl, rfl, k5, g5, z5⟩
  have E := slow_end n3 k1 k3 f3 k4 k5 g5
  exact ⟨.tuple #[], results_none rfl _ _ _, E⟩
set_option maxRecDepth 100000 in
set_option maxHeartbeats 800000 in
theorem do_at (h : SlotIs w p (slotC true 0 0 q 0)) (ho : w.heap[po]? = some (.cells o.cells.toArray 29 (0, 0))) (hs : w.heap[ps]? = some (.cells #[.pointer (some ⟨p, 0, none⟩)] 24 (0, 0))) (hf : w.heap[pf]? = some (.cells #[.bool false] 4 (0, 0)))
    (n1 : po ≠ p) (n2 : ps ≠ p) (n3 : pf ≠ p) :
    Calls Try.prog 13 #[.pointer (some ⟨p, 1, none⟩), .func (.func 14) #[] #[.pointer (some ⟨po, 0, none⟩), .pointer (some ⟨ps, 0, none⟩), .pointer (some ⟨pf, 0, none⟩)]] w (Laid p pf o w) := by
  have S := hide (slow_at h ho hs hf n1 n2 n3)
  have B := hide (bload (n := 0) (cellAt h 1 _ rfl))
  have hnot : ∀ (x : Bool) (w : World), (Op.unary .not (.bool x)).run Try.prog w = .ok (.bool (!x)) w := fun _ _ => rfl
  clear h ho hs hf
  go_enter Try.func13, Try.ntmps13
  go_wp2_with (first
    | (go_at_call 16; refine (unhide B).mono ?_; rintro e w1 ⟨rfl, rfl⟩)
    | (go_at_call 17; refine (unhide S).mono ?_; rintro e w2 ⟨rfl, H2⟩))
  go_end0
  exact ⟨rfl, H2⟩
/-- done already: nothing is done -/
theorem do_done (h : SlotIs w p (slotC true 1 0 q 1)) (f : Value) :
    Calls Try.prog 13 #[.pointer (some ⟨p, 1, none⟩), f] w (Told (.tuple #[]) w) := by
  have B := hide (bload (n := 1) (cellAt h 1 _ rfl))
  have hnot : ∀ (x : Bool) (w : World), (Op.unary .not (.bool x)).run Try.prog w = .ok (.bool (!x)) w := fun _ _ => rfl
  clear h
  go_enter Try.func13, Try.ntmps13
  go_wp2_with (first
    | (go_at_call 16; refine (unhide B).mono ?_; rintro e w1 ⟨rfl, rfl⟩))
  go_end0
  exact ⟨rfl, rfl⟩
end
end Go.Proofs.Ytebefoadcbodaaa
