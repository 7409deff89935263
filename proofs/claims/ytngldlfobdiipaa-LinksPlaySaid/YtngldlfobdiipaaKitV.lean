/-
  Facts of no program: a struct in the midst of a block, read and written.
-/
import Derived.Test.YtngldlfobdiipaaKitS
namespace Go.Proofs.Ytngldlfobdiipaa
open Go.ChangeShapes Go.WideShapes Go.ChangeAt Go.RowKit
set_option linter.unusedVariables false
/-- the block's cells behind it -/
def laidIn (cs : Array Value) (o : Nat) (vs : List Value) : Array Value := (cs.toList.take o ++ vs ++ cs.toList.drop (o + vs.length)).toArray
theorem setCells_heap (P : Program) {w : World} {b o : Nat} {cs : Array Value} {t : TypeId} {vs : List Value} (h : w.heap[b]? = some (.cells cs t (0, 0))) (ho : o + vs.length ≤ cs.size) (h1 : ∀ v ∈ vs, v.oneCell' = true) :
    (w.setCells b o vs).heap[b]? = some (.cells (laidIn cs o vs) t (0, 0)) := by
  rw [setCells_row P h ho h1]
  exact setRow_heap w b cs _ t _ h
theorem setCells_size (w : World) (b : Nat) : ∀ (vs : List Value) (o : Nat), (w.setCells b o vs).heap.size = w.heap.size
  | [], _ => rfl
  | v :: r, o => (setCells_size (w.setCell ⟨b, o, none⟩ v) b r (o + 1)).trans (by simp [World.setCell])
section
variable {P : Program} {ops : Array Oper} {rest : List Oper} {o : Oper} {a : Act} {w : World} {Q : Exit → Act → World → Prop}
/-- a struct in the midst of a block written -/
theorem wpL_put (hgd : o.guard = none) (T : TypeId) (x y : Operand) (ho : o.op = .store T x y) (b k : Nat) (vs : List Value) (hx : a.eval x = .pointer (some ⟨b, k, none⟩)) (hy : a.eval y = .agg vs.toArray)
    (old : Array Value) (t : TypeId) (hb : w.heap[b]? = some (.cells old t (0, 0))) (hk : k + vs.length ≤ old.size) (hi : (P.info? T).map (·.size) = some vs.length) (h1 : ∀ v ∈ vs, v.oneCell' = true)
    (h : ∀ w', Chg (oneBlk b) w w' → w'.heap[b]? = some (.cells (laidIn old k vs) t (0, 0)) → w'.heap.size = w.heap.size → wpList P ops Q rest (a.put o.dst undef) w') : wpList P ops Q (o :: rest) a w :=
  wpList_store_mid hgd T x y ho b k vs.toArray hx hy (fun j hj => ⟨by rw [cellAt hb (k + j) _ (Array.getElem?_eq_getElem (by simp at hj; omega))]; rfl, freeAt hb _⟩) (by simpa using hi) (all_oneCell_toArray h1)
    (h _ (setCells_chg w b vs k) (setCells_heap P hb hk h1) (setCells_size w b vs k))
/-- a struct in the midst of a block read -/
theorem wpL_take (hgd : o.guard = none) (T : TypeId) (x : Operand) (ho : o.op = .load T x) (b k : Nat) (hx : a.eval x = .pointer (some ⟨b, k, none⟩)) (vs : List Value)
    (cs : Array Value) (t : TypeId) (fr : Nat × Nat) (hb : w.heap[b]? = some (.cells cs t fr)) (hv : ∀ j v, vs[j]? = some v → cs[k + j]? = some v)
    (d : TypeDesc) (hu : P.underlying T = some d) (hd : d.isRow = true) (hi : (P.info? T).map (·.size) = some vs.length)
    (h : wpList P ops Q rest (a.put o.dst (.agg vs.toArray)) w) : wpList P ops Q (o :: rest) a w :=
  wpList_load_mid hgd T x ho b k hx vs d (fun j v hj => cellAt hb _ _ (hv j v hj)) hu hd hi h
end
section
variable {P : Program} {ops : Array Oper} {rest : List Oper} {o : Oper} {a : Act} {w : World} {Q : Exit → Act → World → Prop}
/-- a value of one cell laid into a new variable -/
theorem wpL_box1 (hgd : o.guard = none) (T : TypeId) (x : Operand) (ho : o.op = .box T x) (v : Value) (hx : a.eval x = v) (hv : v.oneCell' = true)
    (h : ∀ (b : Nat) (w' : World), w.heap.size = b → Chg noBlk w w' → w'.heap[b]? = some (.cells #[v] T (0, 0)) → w'.heap.size = b + 1 → wpList P ops Q rest (a.put o.dst (.pointer (some ⟨b, 0, none⟩))) w') : wpList P ops Q (o :: rest) a w :=
  wpList_plain hgd fun K hK => by
    unfold Oper.wp execOp
    have hcs : v.cells = #[v] := by
      cases v <;> first | rfl | simp [Value.oneCell'] at hv
    have hrun : (Instr.box T v).run P w = .ok (.pointer (some ⟨w.heap.size, 0, none⟩)) (w.alloc (.cells #[v] T)) := by
      simp [Instr.box, newVar, newRow, hcs]
    simp only [ho, hx, hrun, Sem.run_bind, Result.andThen_ok]
    exact hK _ _ (h _ _ rfl ((Chg.refl _ _).alloc _) (heap_alloc_new w _) (by simp))
/-- a new variable of one cell -/
theorem wpL_alloc1 (hgd : o.guard = none) (T : TypeId) (ho : o.op = .alloc T) (z : Value) (hz : (P.info? T).bind (·.zero) = some z) (hv : z.oneCell' = true)
    (h : ∀ (b : Nat) (w' : World), w.heap.size = b → Chg noBlk w w' → w'.heap[b]? = some (.cells #[z] T (0, 0)) → w'.heap.size = b + 1 → wpList P ops Q rest (a.put o.dst (.pointer (some ⟨b, 0, none⟩))) w') : wpList P ops Q (o :: rest) a w :=
  wpList_plain hgd fun K hK => by
    unfold Oper.wp execOp
    have hcs : z.cells = #[z] := by
      cases z <;> first | rfl | simp [Value.oneCell'] at hv
    cases hq : P.info? T with
    | none => simp [hq] at hz
    | some i =>
      have hi : i.zero = some z := by simpa [hq] using hz
      have hrun : (Instr.alloc T true (.tuple #[])).run P w = .ok (.pointer (some ⟨w.heap.size, 0, none⟩)) (w.alloc (.cells #[z] T)) := by
        simp [Instr.alloc, zeroValue, typeInfo, hq, hi, newVar, newRow, hcs]
      simp only [ho, hrun, Sem.run_bind, Result.andThen_ok]
      exact hK _ _ (h _ _ rfl ((Chg.refl _ _).alloc _) (heap_alloc_new w _) (by simp))
end
#print axioms wpL_box1
#print axioms wpL_alloc1
#print axioms wpL_put
#print axioms wpL_take
end Go.Proofs.Ytngldlfobdiipaa
