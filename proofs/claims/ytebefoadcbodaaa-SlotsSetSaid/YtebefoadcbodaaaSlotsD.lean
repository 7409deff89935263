/-
  Contracts of slots: New, Set, Get; of ones that are none.
-/
import Derived.Test.YtebefoadcbodaaaSlotsC
namespace Go.Proofs.Ytebefoadcbodaaa
open Go.ChangeShapes Go.WideShapes Go.ChangeAt Go.RowKit
set_option linter.unusedVariables false
/-- it may be set -/
def OT.may (o : OT) : Bool := o.k == 1 || o.k == 2 || o.k == 3
/-- told: v, and of what was there nothing has turned -/
def ToldN (v : Value) (w : World) (e : Ending) (w' : World) : Prop := e = .returned v ∧ Chg noBlk w w'
theorem zero_outcome : (Try.prog.info? 29).bind (·.zero) = some (.agg oZero.cells.toArray) := by kernel_rfl
theorem zero_bool : (Try.prog.info? 4).bind (·.zero) = some (.bool false) := by kernel_rfl
theorem built_made : Try.prog.built 48 [(0, .bool true)] = some (slotC true 0 0 oZero 0) := by rfl
theorem built_zero : Try.prog.built 48 [] = some (slotC false 0 0 oZero 0) := by rfl
theorem built_outcome : Try.prog.built 29 [] = some oZero.cells.toArray := by rfl
theorem built_kind (k : Int) : Try.prog.built 29 [(0, .int .i64 k)] = some (OT.cells ⟨k, 0, 0, ByteArray.empty, 0, 0⟩).toArray := by rfl
/-- told: a new slot -/
def MadeS (w : World) (e : Ending) (w' : World) : Prop := ∃ p, e = .returned (.pointer (some ⟨p, 0, none⟩)) ∧ w.heap.size = p ∧ Chg noBlk w w' ∧ SlotIs w' p (slotC true 0 0 oZero 0)
theorem new_s (w : World) : Calls Try.prog 7 #[] w (MadeS w) := by
  go_enter Try.func7, Try.ntmps7
  go_wp2_with (first
    | (refine wpL_build rfl 48 #[(0, .const (.bool true))] rfl (slotC true 0 0 oZero 0) built_made ?_)
    | (refine wpL_box rfl 48 (.tmp 1) rfl _ rfl ?_; intro b w3 e3 k3 g3 z3))
  go_ret
  exact ⟨b, rfl, e3, k3, g3⟩
section
variable {w w' : World} {p : Nat} {o q : OT} {d m s : Int} {z : Array Value} {v : Value}
theorem end_any (o : OT) (w : World) : Calls Try.prog 12 #[.agg o.cells.toArray] w (ToldN (.bool o.may) w) := by
  have e : o.may = (o.k == 1 || o.k == 2 || o.k == 3) := rfl
  generalize o.may = y at e
  go_enter Try.func12, Try.ntmps12
  go_wp2_with (first
    | (refine wpL_box rfl 29 (.tmp 0) rfl o.cells.toArray rfl ?_; intro b w3 e3 k3 g3 z3; have c1 := cellAt g3 0 (.int .i64 o.k) rfl))
  all_goals (go_ret; refine ⟨?_, k3⟩; rw [e]; simp_all)
end
/-- a slot that New did not make -/
def SNone (w : World) (v : Value) : Prop := v = .pointer none ∨ ∃ b, v = .pointer (some ⟨b, 0, none⟩) ∧ SlotIs w b (slotC false 0 0 oZero 0)
section
variable {w w' : World} {p : Nat} {o q : OT} {d m s : Int} {z : Array Value} {v : Value}
theorem SNone.no (h : SNone w v) (k : Chg noBlk w w') : SNone w' v := by
  rcases h with rfl | ⟨b, rfl, h⟩
  · exact .inl rfl
  · exact .inr ⟨b, rfl, h.no k⟩
/-- an outcome's six cells -/
theorem six {b : Nat} {T : TypeId} (h : w.heap[b]? = some (.cells o.cells.toArray T (0, 0))) : w.cell? ⟨b, 0, none⟩ = some (.int .i64 o.k) ∧ w.cell? ⟨b, 1, none⟩ = some (.int .i64 o.r) ∧ w.cell? ⟨b, 2, none⟩ = some (.int .i64 o.c) ∧ w.cell? ⟨b, 3, none⟩ = some (.string o.v) ∧ w.cell? ⟨b, 4, none⟩ = some (.int .i64 o.n) ∧ w.cell? ⟨b, 5, none⟩ = some (.int .i64 o.t) :=
  ⟨cellAt h 0 _ rfl, cellAt h 1 _ rfl, cellAt h 2 _ rfl, cellAt h 3 _ rfl, cellAt h 4 _ rfl, cellAt h 5 _ rfl⟩
set_option maxHeartbeats 400000 in
theorem set_none (o : OT) (h : SNone w v) : Calls Try.prog 10 #[v, .agg o.cells.toArray] w (ToldN (.bool false) w) := by
  rcases h with rfl | ⟨b, rfl, h⟩
  · go_enter Try.func10, Try.ntmps10
    go_wp2_with (first
      | (refine wpL_box1 rfl 24 (.tmp 0) rfl (.pointer none) rfl rfl ?_; intro b2 w2 e2 k2 g2 z2)
      | (refine wpL_box rfl 29 (.tmp 1) rfl o.cells.toArray rfl ?_; intro b3 w3 e3 k3 g3 z3; have c2 := cellAt (k3.at g2 id) 0 _ rfl))
    go_ret
    exact ⟨rfl, k2.andNo k3⟩
  · have H := hide h
    clear h
    go_enter Try.func10, Try.ntmps10
    go_wp2_with (first
      | (refine wpL_box1 rfl 24 (.tmp 0) rfl (.pointer (some ⟨b, 0, none⟩)) rfl rfl ?_; intro b2 w2 e2 k2 g2 z2)
      | (refine wpL_box rfl 29 (.tmp 1) rfl o.cells.toArray rfl ?_; intro b3 w3 e3 k3 g3 z3; have c2 := cellAt (k3.at g2 id) 0 (.pointer (some ⟨b, 0, none⟩)) rfl; have c3 := cellAt ((unhide H).no (k2.andNo k3)) 0 (.bool false) rfl))
    go_ret
    exact ⟨rfl, k2.andNo k3⟩
set_option maxHeartbeats 400000 in
theorem set_not (h : SlotIs w p (slotC true d m q s)) (hm : o.may = false) : Calls Try.prog 10 #[.pointer (some ⟨p, 0, none⟩), .agg o.cells.toArray] w (ToldN (.bool false) w) := by
  have H := hide h
  have I := hide (fun w => end_any o w)
  rw [hm] at I
  clear h hm
  go_enter Try.func10, Try.ntmps10
  go_wp2_with (first
    | (refine wpL_box1 rfl 24 (.tmp 0) rfl (.pointer (some ⟨p, 0, none⟩)) rfl rfl ?_; intro b2 w2 e2 k2 g2 z2)
    | (refine wpL_box rfl 29 (.tmp 1) rfl o.cells.toArray rfl ?_; intro b3 w3 e3 k3 g3 z3; have c2 := cellAt (k3.at g2 id) 0 (.pointer (some ⟨p, 0, none⟩)) rfl; have c3 := cellAt ((unhide H).no (k2.andNo k3)) 0 (.bool true) rfl; obtain ⟨l0, l1, l2, l3, l4, l5⟩ := six g3)
    | (go_at_call 12; refine (unhide I w3).mono ?_; rintro e w4 ⟨rfl, k4⟩))
  go_ret
  exact ⟨rfl, (k2.andNo k3).andNo k4⟩
/-- done already: nothing is set -/
theorem set_again (h : SlotIs w p (slotC true 1 0 q 1)) (hm : o.may = true) : Calls Try.prog 10 #[.pointer (some ⟨p, 0, none⟩), .agg o.cells.toArray] w (ToldN (.bool false) w) := by
  have H := hide h
  have I := hide (fun w => end_any o w)
  rw [hm] at I
  have hmf : ∀ (fn : Fn) (first cap : Array Value) (w : World), (Instr.makeFunc fn first cap).run Try.prog w = .ok (.func fn first cap) w := fun _ _ _ _ => rfl
  clear h hm
  go_enter Try.func10, Try.ntmps10
  go_wp2_with (first
    | (refine wpL_box1 rfl 24 (.tmp 0) rfl (.pointer (some ⟨p, 0, none⟩)) rfl rfl ?_; intro b2 w2 e2 k2 g2 z2)
    | (refine wpL_box rfl 29 (.tmp 1) rfl o.cells.toArray rfl ?_; intro b3 w3 e3 k3 g3 z3; have c2 := cellAt (k3.at g2 id) 0 (.pointer (some ⟨p, 0, none⟩)) rfl; have c3 := cellAt ((unhide H).no (k2.andNo k3)) 0 (.bool true) rfl; obtain ⟨l0, l1, l2, l3, l4, l5⟩ := six g3)
    | (go_at_call 12; refine (unhide I w3).mono ?_; rintro e w4 ⟨rfl, k4⟩)
    | (refine wpL_alloc1 rfl 4 rfl (.bool false) zero_bool rfl ?_; intro b5 w5 e5 k5 g5 z5)
    | (refine wpL_set rfl 4 (.tmp 5) (.const (.bool false)) rfl b5 0 (.bool false) rfl rfl rfl info_bool _ _ g5 (by decide) ?_; intro w6 k6 g6 z6)
    | (have tk := g6; clear tk; refine wpL_get rfl 24 (.tmp 2) rfl b2 0 rfl _ _ _ (k6.at (k5.at (k4.at (k3.at g2 id) id) id) (fun e => by have e : b2 = b5 := e; have := k3.size; have := k4.size; omega)) _ Try.underlying24 rfl _ rfl ?_)
    | (go_at_call 13; refine (do_done (k6.at ((unhide H).no (((k2.andNo k3).andNo k4).andNo k5)) (fun e => by have e : p = b5 := e; have := (unhide H).lt; have := k2.size; have := k3.size; have := k4.size; omega)) _).mono ?_; rintro e w7 ⟨rfl, rfl⟩)
    | (refine wpL_get rfl 4 (.tmp 5) rfl b5 0 rfl _ _ _ g6 _ Try.underlying4 rfl _ rfl ?_))
  go_ret
  exact ⟨rfl, (((k2.andNo k3).andNo k4).andNo k5).trans k6 fun i hi e => by have e : i = b5 := e; have := k2.size; have := k3.size; have := k4.size; omega⟩
/-- told: v; behind it the slot's cells are these -/
def DidS (p : Nat) (v : Value) (z : Array Value) (w : World) (e : Ending) (w' : World) : Prop := e = .returned v ∧ Chg (oneBlk p) w w' ∧ SlotIs w' p z
theorem first_end {w2 w5 w6 w7 : World} {b5 : Nat} (k2 : Chg noBlk w w2) (hb : w2.heap.size = b5) (k5 : Chg noBlk w2 w5) (k6 : Chg (oneBlk b5) w5 w6) (k7 : Chg (twoBlk p b5) w6 w7) : Chg (oneBlk p) w w7 :=
  (((k2.andNo k5).trans k6 fun i hi e => by have e : i = b5 := e; have := k2.size; omega).no (oneBlk p)).trans k7 fun i hi e => by
    rcases e with e | e
    · exact e
    · have := k2.size; omega
set_option maxHeartbeats 400000 in
/-- the first time -/
theorem set_first (h : SlotIs w p (slotC true 0 0 q 0)) (hm : o.may = true) : Calls Try.prog 10 #[.pointer (some ⟨p, 0, none⟩), .agg o.cells.toArray] w (DidS p (.bool true) (slotC true 1 0 o 1) w) := by
  have H := hide h
  have I := hide (fun w => end_any o w)
  rw [hm] at I
  have hmf : ∀ (fn : Fn) (first cap : Array Value) (w : World), (Instr.makeFunc fn first cap).run Try.prog w = .ok (.func fn first cap) w := fun _ _ _ _ => rfl
  have hp := h.lt
  clear h hm
  go_enter Try.func10, Try.ntmps10
  go_wp2_with (first
    | (refine wpL_box1 rfl 24 (.tmp 0) rfl (.pointer (some ⟨p, 0, none⟩)) rfl rfl ?_; intro b2 w2 e2 k2 g2 z2)
    | (refine wpL_box rfl 29 (.tmp 1) rfl o.cells.toArray rfl ?_; intro b3 w3 e3 k3 g3 z3; have c2 := cellAt (k3.at g2 id) 0 (.pointer (some ⟨p, 0, none⟩)) rfl; have c3 := cellAt ((unhide H).no (k2.andNo k3)) 0 (.bool true) rfl; obtain ⟨l0, l1, l2, l3, l4, l5⟩ := six g3)
    | (go_at_call 12; refine (unhide I w3).mono ?_; rintro e w4 ⟨rfl, k4⟩)
    | (refine wpL_alloc1 rfl 4 rfl (.bool false) zero_bool rfl ?_; intro b5 w5 e5 k5 g5 z5)
    | (refine wpL_set rfl 4 (.tmp 5) (.const (.bool false)) rfl b5 0 (.bool false) rfl rfl rfl info_bool _ _ g5 (by decide) ?_; intro w6 k6 g6 z6)
    | (have tk := g6; clear tk; refine wpL_get rfl 24 (.tmp 2) rfl b2 0 rfl _ _ _ (k6.at (k5.at (k4.at (k3.at g2 id) id) id) (fun e => by have e : b2 = b5 := e; have := k3.size; have := k4.size; omega)) _ Try.underlying24 rfl _ rfl ?_)
    | (go_at_call 13; refine (do_at (o := o) (q := q) (k6.at ((unhide H).no (((k2.andNo k3).andNo k4).andNo k5)) (fun e => by have e : p = b5 := e; have := k2.size; have := k3.size; have := k4.size; omega)) (k6.at (k5.at (k4.at g3 id) id) (fun e => by have e : b3 = b5 := e; have := k4.size; omega)) (k6.at (k5.at (k4.at (k3.at g2 id) id) id) (fun e => by have e : b2 = b5 := e; have := k3.size; have := k4.size; omega)) g6 (by have := k2.size; omega) (by omega) (by have := k2.size; have := k3.size; have := k4.size; omega)).mono ?_; rintro e w7 ⟨rfl, k7, g7, f7⟩)
    | (refine wpL_get rfl 4 (.tmp 5) rfl b5 0 rfl _ _ _ f7 _ Try.underlying4 rfl _ rfl ?_))
  go_ret
  exact ⟨rfl, first_end ((k2.andNo k3).andNo k4) e5 k5 k6 k7, g7⟩
end
/-- what lies at p: a slot without an outcome, or with one -/
def stC (x : Option OT) : Array Value := match x with | none => slotC true 0 0 oZero 0 | some o => slotC true 1 0 o 1
/-- the slot behind it -/
def setX (x : Option OT) (o : OT) : Option OT := match x with | none => if o.may then some o else none | some q => some q
section
variable {w w' : World} {p : Nat} {o q : OT} {x : Option OT} {v : Value}
theorem set_any (h : SlotIs w p (stC x)) (o : OT) : Calls Try.prog 10 #[.pointer (some ⟨p, 0, none⟩), .agg o.cells.toArray] w (DidS p (.bool (o.may && x.isNone)) (stC (setX x o)) w) := by
  cases hm : o.may with
  | false =>
    cases x with
    | none => exact (set_not h hm).mono fun e w' ⟨he, hc⟩ => ⟨he, hc.no _, by simpa [setX, hm] using h.no hc⟩
    | some q => exact (set_not h hm).mono fun e w' ⟨he, hc⟩ => ⟨he, hc.no _, h.no hc⟩
  | true =>
    cases x with
    | none =>
      have e : setX none o = some o := by simp [setX, hm]
      rw [e]
      exact set_first h hm
    | some q => exact (set_again h hm).mono fun e w' ⟨he, hc⟩ => ⟨he, hc.no _, h.no hc⟩
/-! ### Get -/
set_option maxHeartbeats 400000 in
theorem get_no (h : SlotIs w p (slotC true 0 0 oZero 0) ∨ SlotIs w p (slotC false 0 0 oZero 0)) : Calls Try.prog 11 #[.pointer (some ⟨p, 0, none⟩)] w (ToldN (.tuple #[.agg oZero.cells.toArray, .bool false]) w) := by
  have B : Hid (∀ w', Chg noBlk w w' → Calls Try.prog 16 #[.pointer (some ⟨p, 10, none⟩)] w' (Told (.bool (0 != 0)) w')) := by
    rcases h with h | h <;> exact hide (fun w' k => bload (n := 0) (cellAt (h.no k) 10 _ rfl))
  clear h
  go_enter Try.func11, Try.ntmps11
  go_wp2_with (first
    | (refine wpL_alloc rfl 29 rfl oZero.cells.toArray zero_outcome ?_; intro b2 w2 e2 k2 g2 z2)
    | (go_at_call 16; refine (unhide B w2 k2).mono ?_; rintro e w3 ⟨rfl, rfl⟩)
    | (refine wpL_build rfl 29 #[] rfl oZero.cells.toArray built_outcome ?_)
    | (refine wpL_store rfl 29 (.tmp 2) (.tmp 13) rfl b2 oZero.cells.toArray rfl rfl _ _ g2 info_outcome rfl (all_oneCell_toArray (OT.one _)) ?_; intro w4 k4 g4 z4))
  refine bodyPost_ret (results_row_tmp rfl _ _ b2 _ oZero.cells.toArray _ _ rfl g4 Try.underlying29 rfl info_outcome) rfl ?_
  exact ⟨rfl, k2.trans k4 fun i hi e => by have e : i = b2 := e; omega⟩
theorem get_nil (w : World) : Calls Try.prog 11 #[.pointer none] w (ToldN (.tuple #[.agg oZero.cells.toArray, .bool false]) w) := by
  go_enter Try.func11, Try.ntmps11
  go_wp2_with (first
    | (refine wpL_alloc rfl 29 rfl oZero.cells.toArray zero_outcome ?_; intro b2 w2 e2 k2 g2 z2)
    | (refine wpL_build rfl 29 #[] rfl oZero.cells.toArray built_outcome ?_)
    | (refine wpL_store rfl 29 (.tmp 2) (.tmp 13) rfl b2 oZero.cells.toArray rfl rfl _ _ g2 info_outcome rfl (all_oneCell_toArray (OT.one _)) ?_; intro w4 k4 g4 z4))
  refine bodyPost_ret (results_row_tmp rfl _ _ b2 _ oZero.cells.toArray _ _ rfl g4 Try.underlying29 rfl info_outcome) rfl ?_
  exact ⟨rfl, k2.trans k4 fun i hi e => by have e : i = b2 := e; omega⟩
theorem get_none (h : SNone w v) : Calls Try.prog 11 #[v] w (ToldN (.tuple #[.agg oZero.cells.toArray, .bool false]) w) := by
  rcases h with rfl | ⟨b, rfl, h⟩
  · exact get_nil w
  · exact get_no (.inr h)
set_option maxHeartbeats 400000 in
theorem get_yes (h : SlotIs w p (slotC true 1 0 o 1)) : Calls Try.prog 11 #[.pointer (some ⟨p, 0, none⟩)] w (ToldN (.tuple #[.agg o.cells.toArray, .bool true]) w) := by
  have B : Hid (∀ w', Chg noBlk w w' → Calls Try.prog 16 #[.pointer (some ⟨p, 10, none⟩)] w' (Told (.bool (1 != 0)) w')) := hide (fun w' k => bload (n := 1) (cellAt (h.no k) 10 _ rfl))
  have H := hide h
  clear h
  go_enter Try.func11, Try.ntmps11
  go_wp2_with (first
    | (refine wpL_alloc rfl 29 rfl oZero.cells.toArray zero_outcome ?_; intro b2 w2 e2 k2 g2 z2)
    | (go_at_call 16; refine (unhide B w2 k2).mono ?_; rintro e w3 ⟨rfl, rfl⟩)
    | (refine wpL_take rfl 29 (.tmp 16) rfl p 4 rfl o.cells _ _ _ ((unhide H).no k2) (slotC_take _ _ _ _ _) _ Try.underlying29 rfl info_outcome ?_)
    | (refine wpL_store rfl 29 (.tmp 2) (.tmp 17) rfl b2 o.cells.toArray rfl rfl _ _ g2 info_outcome rfl (all_oneCell_toArray (OT.one _)) ?_; intro w4 k4 g4 z4))
  refine bodyPost_ret (results_row_tmp rfl _ _ b2 _ o.cells.toArray _ _ rfl g4 Try.underlying29 rfl info_outcome) rfl ?_
  exact ⟨rfl, k2.trans k4 fun i hi e => by have e : i = b2 := e; omega⟩
theorem get_any (h : SlotIs w p (stC x)) : Calls Try.prog 11 #[.pointer (some ⟨p, 0, none⟩)] w (ToldN (.tuple #[.agg (x.getD oZero).cells.toArray, .bool x.isSome]) w) := by
  cases x with
  | none => exact get_no (.inl h)
  | some o => exact get_yes h
end
end Go.Proofs.Ytebefoadcbodaaa
