/-
  Slots in the laws: told the same; the chapter's slot.
-/
import Derived.Test.YtebefoadcbodaaaSlotsD
namespace Go.Proofs.Ytebefoadcbodaaa
open Go.ChangeShapes Go.WideShapes Go.ChangeAt Go.RowKit
set_option linter.unusedVariables false
theorem Chg.past {a b d : World} {c : Nat} (h : Chg noBlk a b) (k : Chg (oneBlk c) b d) (hc : a.heap.size ≤ c) : Chg noBlk a d := h.trans k fun i hi e => by have e : i = c := e; omega
theorem eq_self (o : OT) (w : World) : (Op.equalIn 10000 29 (.agg o.cells.toArray) (.agg o.cells.toArray)).run Try.prog w = .ok true w := by
  rw [run_equalIn_struct w 9999 _ _ _ Try.underlying29 (by kernel_rfl)]
  simp [go_sem, OT.cells, Op.eqFields]
theorem eq_self6 (k r c : Int) (v : ByteArray) (n t : Int) (w : World) : (Op.equalIn 10000 29 (.agg #[.int .i64 k, .int .i64 r, .int .i64 c, .string v, .int .i64 n, .int .i64 t]) (.agg #[.int .i64 k, .int .i64 r, .int .i64 c, .string v, .int .i64 n, .int .i64 t])).run Try.prog w = .ok true w := eq_self ⟨k, r, c, v, n, t⟩ w
attribute [local go_sem ↓] eq_self eq_self6
section
variable {w w' : World} {p : Nat} {o q : OT} {x : Option OT} {v : Value} {y : Bool}
theorem same_of (G : Hid (∀ w', Chg noBlk w w' → Calls Try.prog 11 #[v] w' (ToldN (.tuple #[.agg o.cells.toArray, .bool y]) w'))) : Calls Try.prog 9 #[v, .agg o.cells.toArray, .bool y] w (ToldN (.bool true) w) := by
  have hb : (y == y) = true := by simp
  go_enter Try.func9, Try.ntmps9
  go_wp2_with (first
    | (refine wpL_box rfl 29 (.tmp 1) rfl o.cells.toArray rfl ?_; intro b2 w2 e2 k2 g2 z2)
    | (go_at_call 11; refine (unhide G w2 k2).mono ?_; rintro e w3 ⟨rfl, k3⟩)
    | (refine wpL_alloc rfl 29 rfl oZero.cells.toArray zero_outcome ?_; intro b4 w4 e4 k4 g4 z4)
    | (refine wpL_store rfl 29 (.tmp 7) (.tmp 12) rfl b4 o.cells.toArray rfl rfl _ _ g4 info_outcome rfl (all_oneCell_toArray o.one) ?_; intro w5 k5 g5 z5)
    | (refine wpL_load rfl 29 (.tmp 7) rfl b4 rfl o.cells.toArray _ _ g5 _ Try.underlying29 rfl info_outcome ?_)
    | (refine wpL_load rfl 29 (.tmp 4) rfl b2 rfl o.cells.toArray _ _ (k5.at (k4.at (k3.at g2 id) id) (fun e => by have e : b2 = b4 := e; have := k3.size; omega)) _ Try.underlying29 rfl info_outcome ?_))
  go_ret
  exact ⟨rfl, ((k2.andNo k3).andNo k4).trans k5 fun i hi e => by have e : i = b4 := e; have := k2.size; have := k3.size; omega⟩
theorem same_any (h : SlotIs w p (stC x)) : Calls Try.prog 9 #[.pointer (some ⟨p, 0, none⟩), .agg (x.getD oZero).cells.toArray, .bool x.isSome] w (ToldN (.bool true) w) :=
  same_of (hide fun w' k => get_any (h.no k))
theorem same_none (h : SNone w v) : Calls Try.prog 9 #[v, .agg oZero.cells.toArray, .bool false] w (ToldN (.bool true) w) :=
  same_of (hide fun w' k => get_none (h.no k))
/-- an outcome of that kind, all else zero -/
def oKind (k : Int) : OT := ⟨k, 0, 0, ByteArray.empty, 0, 0⟩
set_option maxRecDepth 100000 in
set_option maxHeartbeats 800000 in
theorem once_true (w : World) : Calls Try.prog 6 #[] w (ToldN (.bool true) w) := by
  have hmk := hide (fun k => built_kind k)
  go_enter Try.func6, Try.ntmps6
  go_wp2_with (first
    | (go_at_call 7; refine (new_s w).mono ?_; rintro e w1 ⟨p, rfl, e1, k1, g1⟩)
    | (have tk := k7; clear tk; go_at_call 11; refine (get_yes (o := oKind 3) (SlotIs.no g6 k7)).mono ?_; rintro e w8 ⟨rfl, k8⟩)
    | (go_at_call 11; refine (get_no (.inl g1)).mono ?_; rintro e w2 ⟨rfl, k2⟩)
    | (refine wpL_alloc rfl 29 rfl oZero.cells.toArray zero_outcome ?_; first | (have tk := k8; clear tk; intro b9 w9 e9 k9 g9 z9) | intro b3 w3 e3 k3 g3 z3)
    | (refine wpL_store rfl 29 (.tmp 2) (.tmp 13) rfl b3 oZero.cells.toArray rfl rfl _ _ g3 info_outcome rfl (all_oneCell_toArray oZero.one) ?_; intro w4 k4 g4 z4; have G4 : SlotIs w4 p (slotC true 0 0 oZero 0) := k4.at ((SlotIs.no g1 k2).no k3) (fun e => by have e : p = b3 := e; have := SlotIs.lt g1; have := k2.size; omega))
    | (refine wpL_build rfl 29 #[] rfl oZero.cells.toArray built_outcome ?_)
    | (refine wpL_build rfl 29 #[(0, .const (.int .i64 3))] rfl (oKind 3).cells.toArray (unhide hmk 3) ?_)
    | (refine wpL_build rfl 29 #[(0, .const (.int .i64 1))] rfl (oKind 1).cells.toArray (unhide hmk 1) ?_)
    | (have tk := k6; clear tk; go_at_call 10; refine (set_again (o := oKind 1) g6 rfl).mono ?_; rintro e w7 ⟨rfl, k7⟩)
    | (have tk := k5; clear tk; go_at_call 10; refine (set_first (o := oKind 3) (SlotIs.no G4 k5) rfl).mono ?_; rintro e w6 ⟨rfl, k6, g6⟩)
    | (go_at_call 10; refine (set_not (o := oZero) G4 rfl).mono ?_; rintro e w5 ⟨rfl, k5⟩)
    | (refine wpL_store rfl 29 (.tmp 7) (.tmp 27) rfl b9 (oKind 3).cells.toArray rfl rfl _ _ g9 info_outcome rfl (all_oneCell_toArray (oKind 3).one) ?_; intro w10 k10 g10 z10; have c10 := cellAt g10 0 (.int .i64 3) rfl))
  go_ret
  have s1 := k1.size
  have s2 := k2.size
  have A := ((k1.andNo k2).andNo k3).past k4 (by omega)
  have B := (A.andNo k5).past k6 (by omega)
  have C := ((B.andNo k7).andNo k8).andNo k9
  have s9 := ((B.andNo k7).andNo k8).size
  exact ⟨rfl, C.past k10 (by omega)⟩
end
end Go.Proofs.Ytebefoadcbodaaa
