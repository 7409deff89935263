/-
  Facts of no program: rows of equal length in a block.
-/
import Derived.Test.YtngldlfobdiipaaKitM
import Derived.Laws.MakeOwn
import Derived.RegionTactic
namespace Go.Proofs.Ytngldlfobdiipaa
open Go.ChangeShapes Go.WideShapes Go.ChangeAt Go.RowKit
set_option linter.unusedVariables false
theorem flat_len (m : Nat) : ∀ (ps : List (List Value)), (∀ c ∈ ps, c.length = m) → ps.flatten.length = ps.length * m
  | [], _ => by simp
  | c :: r, h => by
    have := flat_len m r fun x hx => h x (by simp [hx])
    have hc := h c (by simp)
    simp only [List.flatten_cons, List.length_append, List.length_cons, Nat.add_mul]; omega
theorem flat_at (m : Nat) : ∀ (ps : List (List Value)), (∀ c ∈ ps, c.length = m) → ∀ (k : Nat) (c : List Value), ps[k]? = some c → ∀ j, j < m → ps.flatten[k * m + j]? = c[j]?
  | [], _, k, c, hk, _, _ => by simp at hk
  | d :: r, h, 0, c, hk, j, hj => by
    have hd := h d (by simp)
    simp only [List.getElem?_cons_zero, Option.some.injEq] at hk
    subst hk
    simp only [List.flatten_cons, Nat.zero_mul, Nat.zero_add]
    rw [List.getElem?_append_left (by omega)]
  | d :: r, h, k + 1, c, hk, j, hj => by
    have hd := h d (by simp)
    have ih := flat_at m r (fun x hx => h x (by simp [hx])) k c (by simpa using hk) j hj
    simp only [List.flatten_cons]
    rw [List.getElem?_append_right (by rw [Nat.add_mul]; omega), ← ih]
    congr 1
    rw [Nat.add_mul]; omega
theorem flat_set (m : Nat) : ∀ (ps : List (List Value)), (∀ c ∈ ps, c.length = m) → ∀ (k : Nat) (c : List Value), k < ps.length → c.length = m → ps.flatten.take (k * m) ++ c ++ ps.flatten.drop (k * m + c.length) = (ps.set k c).flatten
  | [], _, k, c, hk, _ => by simp at hk
  | d :: r, h, 0, c, hk, hc => by
    have hd := h d (by simp)
    simp only [List.flatten_cons, Nat.zero_mul, Nat.zero_add, List.take_zero, List.nil_append, List.set_cons_zero]
    rw [List.drop_append_of_le_length (by omega), List.drop_of_length_le (by omega)]; rfl
  | d :: r, h, k + 1, c, hk, hc => by
    have hd := h d (by simp)
    have ih := flat_set m r (fun x hx => h x (by simp [hx])) k c (by simpa using hk) hc
    simp only [List.flatten_cons, List.set_cons_succ]
    rw [← ih, Nat.add_mul, Nat.one_mul, List.take_append, List.take_of_length_le (l := d) (by omega), List.drop_append, List.drop_of_length_le (l := d) (by omega)]
    simp only [List.nil_append, List.append_assoc]
    rw [show k * m + m - d.length = k * m by omega, show k * m + m + c.length - d.length = k * m + c.length by omega]
theorem len_set {m : Nat} {ps : List (List Value)} (h : ∀ c ∈ ps, c.length = m) (k : Nat) {c : List Value} (hc : c.length = m) : ∀ d ∈ ps.set k c, d.length = m := fun d hd => by
  rcases List.mem_or_eq_of_mem_set hd with h1 | h1
  · exact h d h1
  · rw [h1]; exact hc
theorem setCells_row (P : Program) {w : World} {g o : Nat} {cur : Array Value} {t : TypeId} {vs : List Value} (hg : w.heap[g]? = some (.cells cur t (0, 0))) (ho : o + vs.length ≤ cur.size) (h1 : ∀ v ∈ vs, v.oneCell' = true) :
    w.setCells g o vs = w.setRow g (cur.toList.take o ++ vs ++ cur.toList.drop (o + vs.length)).toArray := by
  have r1 := run_storeCells_at P g o t vs 0 cur w hg (by simpa using ho) h1
  have r2 := run_storeCells_cells (P := P) g o vs 0 w (fun j hj => by simp [World.cell?, hg]; omega) (fun j hj => by simp [World.frozen?, hg]) h1
  rw [r1] at r2
  simp only [Nat.add_zero, Result.ok.injEq, true_and] at r2
  exact r2.symm
/-- rows of m cells each in the block b -/
structure RowsAt (w : World) (b : Nat) (T : TypeId) (m : Nat) (ps : List (List Value)) : Prop where
  at_ : w.heap[b]? = some (.cells ps.flatten.toArray T (0, 0))
  len : ∀ c ∈ ps, c.length = m
section
variable {w w' : World} {b : Nat} {T : TypeId} {m : Nat} {ps : List (List Value)} {S : Nat → Prop}
theorem RowsAt.kept (h : RowsAt w b T m ps) (k : Chg S w w') (hn : ¬ S b) : RowsAt w' b T m ps := ⟨k.at h.at_ hn, h.len⟩
theorem RowsAt.lt (h : RowsAt w b T m ps) : b < w.heap.size := lt_of_block h.at_
theorem RowsAt.range (h : RowsAt w b T m ps) {k : Nat} {c : List Value} (hk : ps[k]? = some c) : w.rangeAt b (k * m) c := fun j v hv => by
  have hc : c.length = m := h.len c (List.mem_of_getElem? hk)
  have hj : j < m := by have := (List.getElem?_eq_some_iff.1 hv).1; omega
  refine cellAt h.at_ _ _ ?_
  have := flat_at m ps h.len k c hk j hj
  rw [hv] at this
  simpa using this
theorem RowsAt.there (h : RowsAt w b T m ps) {k : Nat} (hk : k < ps.length) : w.there b (k * m) m := fun j hj => by
  have := flat_at m ps h.len k _ (List.getElem?_eq_getElem hk) j hj
  have hc : ps[k].length = m := h.len _ (List.getElem_mem hk)
  refine ⟨?_, freeAt h.at_ _⟩
  rw [List.getElem?_eq_getElem (l := ps[k]) (by omega)] at this
  rw [cellAt h.at_ (k * m + j) _ (by simpa using this)]; rfl
theorem RowsAt.set (P : Program) (h : RowsAt w b T m ps) {k : Nat} (hk : k < ps.length) {c : List Value} (hc : c.length = m) (h1 : ∀ v ∈ c, v.oneCell' = true) :
    RowsAt (w.setCells b (k * m) c) b T m (ps.set k c) ∧ Chg (oneBlk b) w (w.setCells b (k * m) c) := by
  have hfl := flat_len m ps h.len
  have hle : k * m + c.length ≤ ps.flatten.toArray.size := by
    rw [List.size_toArray, hfl, hc]
    have : (k + 1) * m ≤ ps.length * m := Nat.mul_le_mul_right _ hk
    rw [Nat.add_mul, Nat.one_mul] at this; exact this
  have e := setCells_row P h.at_ hle h1
  rw [e]
  refine ⟨⟨?_, len_set h.len k hc⟩, setRow_chg w b _⟩
  have := setRow_heap w b _ (List.take (k * m) ps.flatten.toArray.toList ++ c ++ List.drop (k * m + c.length) ps.flatten.toArray.toList).toArray T _ h.at_
  rw [this]
  congr 2
  rw [flat_set m ps h.len k c hk hc]
end
/-- a variable of n cells -/
def VarAt (w : World) (b : Nat) (T : TypeId) (n : Nat) : Prop := ∃ cur : Array Value, w.heap[b]? = some (.cells cur T (0, 0)) ∧ cur.size = n
/-- since w1 only that variable has turned, and what is new -/
def Base (w1 : World) (b : Nat) (T : TypeId) (n : Nat) (w : World) : Prop := Chg (oneBlk b) w1 w ∧ VarAt w b T n
section
variable {w w1 w' : World} {b : Nat} {T : TypeId} {n : Nat}
theorem VarAt.there (h : VarAt w b T n) : w.there b 0 n := fun j hj => by
  obtain ⟨cur, h1, h2⟩ := h
  refine ⟨?_, freeAt h1 _⟩
  rw [cellAt h1 (0 + j) (cur[0 + j]'(by omega)) (by simp)]; rfl
theorem VarAt.setCells (P : Program) (h : VarAt w b T n) {cs : Array Value} (hn : cs.size = n) (h1 : cs.all (·.oneCell') = true) : (w.setCells b 0 cs.toList).heap[b]? = some (.cells cs T (0, 0)) ∧ Chg (oneBlk b) w (w.setCells b 0 cs.toList) := by
  obtain ⟨cur, h2, h3⟩ := h
  have e := setCells_row P h2 (o := 0) (vs := cs.toList) (by simp; omega) (fun v hv => (Array.all_eq_true_iff_forall_mem.1 h1) v (by simpa using hv))
  rw [e]
  refine ⟨?_, setRow_chg w b _⟩
  rw [setRow_heap w b cur _ T _ h2]
  simp only [List.take_zero, List.nil_append, Array.length_toList, Nat.zero_add]
  rw [List.drop_of_length_le (by simp; omega), List.append_nil]
theorem VarAt.thereAt (h : VarAt w b T n) (o m : Nat) (hm : o + m ≤ n) : w.there b o m := fun j hj => by
  obtain ⟨cur, h1, h2⟩ := h
  refine ⟨?_, freeAt h1 _⟩
  rw [cellAt h1 (o + j) (cur[o + j]'(by omega)) (by simp)]; rfl
theorem VarAt.setAt (P : Program) (h : VarAt w b T n) (o : Nat) {cs : List Value} (hn : o + cs.length ≤ n) (h1 : ∀ v ∈ cs, v.oneCell' = true) : VarAt (w.setCells b o cs) b T n ∧ Chg (oneBlk b) w (w.setCells b o cs) := by
  obtain ⟨cur, h2, h3⟩ := h
  have e := setCells_row P h2 (o := o) (vs := cs) (by omega) h1
  rw [e]
  exact ⟨⟨_, setRow_heap w b cur _ T _ h2, by simp; omega⟩, setRow_chg w b _⟩
theorem Base.setAt (P : Program) (h : Base w1 b T n w) (o : Nat) {cs : List Value} (hn : o + cs.length ≤ n) (h1 : ∀ v ∈ cs, v.oneCell' = true) : Base w1 b T n (w.setCells b o cs) := by
  obtain ⟨e1, e2⟩ := h.2.setAt P o hn h1
  exact ⟨h.1.trans e2 fun _ _ e => e, e1⟩
theorem RowsAt.var {m : Nat} {ps : List (List Value)} (h : RowsAt w b T m ps) : VarAt w b T (ps.length * m) := ⟨_, h.at_, by rw [List.size_toArray, flat_len m ps h.len]⟩
theorem Base.mk' (h : VarAt w b T n) : Base w b T n w := ⟨Chg.refl _ _, h⟩
theorem Base.drew (h : Base w1 b T n w) : Base w1 b T n w.drew := ⟨h.1.drew, h.2⟩
theorem Base.drewN (h : Base w1 b T n w) (d : Nat) : Base w1 b T n (w.drewN d) := ⟨h.1.drewN d, h.2⟩
theorem Base.andNo (h : Base w1 b T n w) (k : Chg noBlk w w') : Base w1 b T n w' := ⟨h.1.andNo k, by obtain ⟨cur, h1, h2⟩ := h.2; exact ⟨cur, k.at h1 id, h2⟩⟩
theorem Base.setCells (P : Program) (h : Base w1 b T n w) {cs : Array Value} (hn : cs.size = n) (h1 : cs.all (·.oneCell') = true) : Base w1 b T n (w.setCells b 0 cs.toList) := by
  obtain ⟨e1, e2⟩ := h.2.setCells P hn h1
  exact ⟨h.1.trans e2 fun _ _ e => e, cs, e1, hn⟩
end
/-! ### made, cleared -/
theorem made_rep (z : List Value) (n : Nat) (hz : 0 < z.length) : madeCells z.toArray (n * z.length) = (List.replicate n z).flatten.toArray := by
  apply Array.toList_inj.1
  apply List.ext_getElem?
  intro i
  have hfl := flat_len z.length (List.replicate n z) (fun c hc => by rw [List.eq_of_mem_replicate hc])
  rw [List.length_replicate] at hfl
  by_cases hi : i < n * z.length
  · have hq : i / z.length < n := Nat.div_lt_of_lt_mul (by rw [Nat.mul_comm]; exact hi)
    have hr : i % z.length < z.length := Nat.mod_lt _ hz
    have h := flat_at z.length (List.replicate n z) (fun c hc => by rw [List.eq_of_mem_replicate hc]) (i / z.length) z (by simp [hq]) (i % z.length) hr
    rw [Nat.mul_comm, Nat.div_add_mod] at h
    show _ = (List.replicate n z).flatten[i]?
    rw [h]
    simp [madeCells, hi, hr]
  · have h1 : (madeCells z.toArray (n * z.length)).toList[i]? = none := by rw [List.getElem?_eq_none]; simp [madeCells]; omega
    have h2 : (List.replicate n z).flatten.toArray.toList[i]? = none := by rw [List.getElem?_eq_none]; simp [hfl] at *; omega
    rw [h1, h2]
theorem zero_rep (z : List Value) (n : Nat) (hz : 0 < z.length) : Builtin.zeroCells z.toArray n = (List.replicate n z).flatten.toArray := by
  have := made_rep z n hz
  unfold madeCells at this
  simpa [Builtin.zeroCells] using this
section
variable {P : Program} {ops : Array Oper} {rest : List Oper} {o : Oper} {a : Act} {w : World} {Q : Exit → Act → World → Prop}
/-- n new elements -/
theorem wpL_make (hgd : o.guard = none) (T : TypeId) (x y : Operand) (ho : o.op = .makeSlice T x y) (e : TypeId) (z : List Value) (bytes : Nat) (ht : P.underlying T = some (.slice e)) (hi : (P.info? e).map (fun i => (i.zero, i.size, i.bytes)) = some (some (.agg z.toArray), z.length, bytes)) (hz : 0 < z.length)
    (n : Nat) (hx : a.eval x = .int .i64 (n : Int)) (hy : a.eval y = .int .i64 (n : Int)) (hb : bytes * n ≤ 281474976710656) (hn : n ≤ 1000000)
    (h : ∀ (b : Nat) (w' : World), w.heap.size = b → Chg noBlk w w' → w'.heap[b]? = some (.cells (List.replicate n z).flatten.toArray e (0, 0)) → w'.heap.size = b + 1 → wpList P ops Q rest (a.put o.dst (.slice (some ⟨b, 0, none⟩) n n)) w') : wpList P ops Q (o :: rest) a w :=
  wpList_plain hgd fun K hK => by
    unfold Oper.wp execOp
    cases hq : P.info? e with
    | none => simp [hq] at hi
    | some i =>
      simp only [hq, Option.map_some, Option.some.injEq, Prod.mk.injEq] at hi
      obtain ⟨h1, h2, h3⟩ := hi
      have hrun := run_make (P := P) w T e i (.agg z.toArray) ht hq h1 .i64 .i64 (n : Int) (n : Int) (by omega) (by omega) (by rw [h3]; omega) (by omega)
      simp only [Int.toNat_natCast, Value.cells, h2, made_rep z n hz] at hrun
      simp only [ho, hx, hy, hrun, Sem.run_bind, Result.andThen_ok]
      exact hK _ _ (h _ _ rfl ((Chg.refl _ _).alloc _) (heap_alloc_new w _) (by simp))
/-- elements made zero -/
theorem run_clear (T ty e : TypeId) (z : List Value) (ht : P.underlying T = some (.slice e)) (hi : (P.info? e).bind (·.zero) = some (.agg z.toArray)) (hz : 0 < z.length) (h1 : ∀ v ∈ z, v.oneCell' = true) (b off n c : Nat) (hn : 0 < n) (hth : w.there b off (n * z.length)) :
    (Builtin.clear_ #[T] ty #[.slice (some ⟨b, off, none⟩) n c]).run P w = .ok (.tuple #[]) (w.setCells b off (List.replicate n z).flatten) := by
  cases hq : P.info? e with
  | none => simp [hq] at hi
  | some i =>
    have hz' : i.zero = some (.agg z.toArray) := by simpa [hq] using hi
    have hfl : (List.replicate n z).flatten.length = n * z.length := by
      simp
    have hst := run_storeCells_cells (P := P) b off (List.replicate n z).flatten 0 w (fun j hj => by simpa using (hth j (by omega)).1) (fun j hj => by simpa using (hth j (by omega)).2)
      (fun v hv => by
        obtain ⟨l, hl, hv⟩ := List.mem_flatten.1 hv
        rw [List.eq_of_mem_replicate hl] at hv; exact h1 v hv)
    simp only [Nat.add_zero] at hst
    obtain ⟨m, rfl⟩ : ∃ m, n = m + 1 := ⟨n - 1, by omega⟩
    simp [Builtin.clear_, run_underlying ht, zeroValue, typeInfo, hq, hz', Value.cells, zero_rep z (m + 1) hz, hst]
/-- at a list of operations -/
theorem wpL_clear (hgd : o.guard = none) (x : Operand) (T : TypeId) (ho : o.op = .call { callee := .builtin .clear, args := #[x], argTypes := #[T] }) (e : TypeId) (z : List Value) (ht : P.underlying T = some (.slice e)) (hi : (P.info? e).bind (·.zero) = some (.agg z.toArray)) (hz : 0 < z.length) (h1 : ∀ v ∈ z, v.oneCell' = true)
    (b off n c : Nat) (hx : a.eval x = .slice (some ⟨b, off, none⟩) n c) (hn : 0 < n) (hth : w.there b off (n * z.length)) (h : wpList P ops Q rest (a.put o.dst (.tuple #[])) (w.setCells b off (List.replicate n z).flatten)) : wpList P ops Q (o :: rest) a w :=
  wpList_plain hgd fun K hK => by
    unfold Oper.wp execOp
    simp only [ho, resolve, invoke, builtin, Sem.run_bind, Sem.run_pure, Result.andThen_ok, List.map_toArray, List.map_cons, List.map_nil, hx, run_clear (P := P) T o.type e z ht hi hz h1 b off n c hn hth]
    exact hK _ _ h
/-- at a step of a region that draws -/
theorem step_clear {K : Act → World → Prop} {E : Prop} (hgd : o.guard = none) (x : Operand) (T : TypeId) (ho : o.op = .call { callee := .builtin .clear, args := #[x], argTypes := #[T] }) (e : TypeId) (z : List Value) (ht : P.underlying T = some (.slice e)) (hi : (P.info? e).bind (·.zero) = some (.agg z.toArray)) (hz : 0 < z.length) (h1 : ∀ v ∈ z, v.oneCell' = true)
    (b off n c : Nat) (hx : a.eval x = .slice (some ⟨b, off, none⟩) n c) (hn : 0 < n) (hth : w.there b off (n * z.length)) (h : ∀ w', Hid (w' = w.setCells b off (List.replicate n z).flatten) → K (a.put o.dst (.tuple #[])) w') :
    if Region.wanted o (yielded ops a.tmps) = true then Oper.wp P o a w K Q else E := by
  have hw : Region.wanted o (yielded ops a.tmps) = true := by simp [Region.wanted, hgd]
  rw [if_pos hw]
  unfold Oper.wp execOp
  simp only [ho, resolve, invoke, builtin, Sem.run_bind, Sem.run_pure, Result.andThen_ok, List.map_toArray, List.map_cons, List.map_nil, hx, run_clear (P := P) T o.type e z ht hi hz h1 b off n c hn hth]
  exact h _ rfl
end
theorem Base.cleared (P : Program) {w w1 w' : World} {b : Nat} {T : TypeId} {n : Nat} (h : Base w1 b T n w) {off k : Nat} {z : List Value} (hw : Hid (w' = w.setCells b off (List.replicate k z).flatten)) (hn : off + k * z.length ≤ n) (h1 : ∀ v ∈ z, v.oneCell' = true) : Base w1 b T n w' := by
  rw [hw.out]
  exact h.setAt P off (by simpa using hn) (fun v hv => by
    obtain ⟨l, hl, hv⟩ := List.mem_flatten.1 hv
    rw [List.eq_of_mem_replicate hl] at hv; exact h1 v hv)
theorem RowsAt.cleared (P : Program) {w w' : World} {b : Nat} {T : TypeId} {m : Nat} {ps : List (List Value)} (h : RowsAt w b T m ps) {k : Nat} (hk : k < ps.length) {z : List Value} (hz : z.length = m) (h1 : ∀ v ∈ z, v.oneCell' = true) (hw : Hid (w' = w.setCells b (k * m) (List.replicate 1 z).flatten)) : RowsAt w' b T m (ps.set k z) ∧ Chg (oneBlk b) w w' := by
  rw [hw.out, show (List.replicate 1 z).flatten = z by simp]
  exact h.set P hk hz h1
#print axioms RowsAt.set
#print axioms step_clear
#print axioms wpL_make
end Go.Proofs.Ytngldlfobdiipaa
