/-
  Facts of no program: an argument's fields, whatever its nesting; a slice's cells.
-/
import Derived.Test.YtngldlfobdiipaaKitR
import Derived.Deep.Slices
import Derived.Deep.Fields
import Derived.Deep.Grids
import Derived.Great.BuildSlice
namespace Go.Proofs.Ytngldlfobdiipaa
open Go.ChangeShapes Go.WideShapes Go.ChangeAt Go.RowKit Go.Deep
set_option linter.unusedVariables false
section
variable {H : Type} {enc : TypeId × Value → H} {P : Program} {w : World} {base : Nat} {spare : Nat → Bool} {held : Bool} {fuel : Nat} {t : TypeId} {cs : List Value} {x : DataW H × List MemPlace}
/-- a field of a struct: its cells -/
theorem field_sub {fs : Array Field} (ht : P.underlying t = some (.struct fs)) (h : DataW.trod enc P w base spare held fuel t cs = some x) (i off : Nat) (T : TypeId) (m : Nat) (hf : (fs[i]?).map (fun f => (f.offset, f.type)) = some (off, T)) (hm : P.cellsOf T = m) :
    ∃ sub n y, DataW.trod enc P w base spare held n T sub = some y ∧ ∀ j, j < m → sub[j]? = cs[off + j]? := by
  obtain ⟨xs, n, _, _, _, hl, hg⟩ := DataW.trod_struct ht h
  cases hq : fs[i]? with
  | none => simp [hq] at hf
  | some f =>
    simp only [hq, Option.map_some, Option.some.injEq, Prod.mk.injEq] at hf
    obtain ⟨rfl, rfl⟩ := hf
    subst hm
    have hi := hg i f hq
    have hlt : i < fs.size := (Array.getElem?_eq_some_iff.1 hq).1
    rw [List.getElem?_eq_getElem (by omega)] at hi
    exact ⟨_, n, _, hi, fun j hj => by rw [List.getElem?_take, if_pos hj, List.getElem?_drop]⟩
theorem int_at {fs : Array Field} (ht : P.underlying t = some (.struct fs)) (h : DataW.trod enc P w base spare held fuel t cs = some x) (i off : Nat) (T : TypeId) (hf : (fs[i]?).map (fun f => (f.offset, f.type)) = some (off, T)) {k : IntKind} (hk : P.underlying T = some (.int k)) (h1 : P.cellsOf T = 1) :
    ∃ n, cs[off]? = some (.int k n) ∧ (Lit.int k n).wf = true := by
  obtain ⟨sub, m, y, hy, hj⟩ := field_sub ht h i off T 1 hf h1
  obtain ⟨n, e, _, hw⟩ := DataW.trod_int hk hy
  have := hj 0 (by omega)
  rw [e] at this
  exact ⟨n, by simpa using this.symm, hw⟩
theorem string_at {fs : Array Field} (ht : P.underlying t = some (.struct fs)) (h : DataW.trod enc P w base spare held fuel t cs = some x) (i off : Nat) (T : TypeId) (hf : (fs[i]?).map (fun f => (f.offset, f.type)) = some (off, T)) (hk : P.underlying T = some .string) (h1 : P.cellsOf T = 1) :
    ∃ s : ByteArray, cs[off]? = some (.string s) ∧ s.size ≤ maxLen := by
  obtain ⟨sub, m, y, hy, hj⟩ := field_sub ht h i off T 1 hf h1
  obtain ⟨s, e, _, hw⟩ := DataW.trod_string hk hy
  have := hj 0 (by omega)
  rw [e] at this
  exact ⟨s, by simpa using this.symm, hw⟩
theorem struct_len {fs : Array Field} (ht : P.underlying t = some (.struct fs)) (h : DataW.trod enc P w base spare held fuel t cs = some x) : cs.length = P.cellsOf t := by
  obtain ⟨_, _, _, _, hl, _⟩ := DataW.trod_struct ht h; exact hl
/-- a slice of elements of m cells each: nil, or where its cells are -/
theorem slice_rows {e : TypeId} {m : Nat} (hm : P.cellsOf e = m) (ht : P.underlying t = some (.slice e)) (h : DataW.trod enc P w base spare held fuel t cs = some x) :
    cs = [.slice none 0 0] ∨ ∃ (ad : Addr) (len cap : Nat) (rows : List (List Value)), cs = [.slice (some ad) len cap] ∧ len ≤ cap ∧ cap ≤ maxLen ∧ rows.length = len ∧
      ∀ i r, rows[i]? = some r → r.length = m ∧ (∃ n y, DataW.trod enc P w base spare held n e r = some y) ∧ ∀ j v, r[j]? = some v → w.cell? (ad.add (i * m + j)) = some v := by
  subst hm
  rcases open_slice ht h with ⟨h0, _⟩ | ⟨a, len, cap, q, n, D, Pl, hcs, hb, hl, hmx, hq, hx, hi⟩
  · exact .inl h0
  · right
    have hlq : len ≤ q := by rw [hq]; split <;> omega
    have : ∀ k, k ≤ len → ∃ rows : List (List Value), rows.length = k ∧ ∀ i r, rows[i]? = some r → r.length = P.cellsOf e ∧ (∃ n y, DataW.trod enc P w base spare held n e r = some y) ∧ ∀ j v, r[j]? = some v → w.cell? (a.add (i * P.cellsOf e + j)) = some v := by
      intro k
      induction k with
      | zero => intro _; exact ⟨[], rfl, by simp⟩
      | succ k ih =>
        intro hk
        obtain ⟨rows, h1, h2⟩ := ih (by omega)
        obtain ⟨cs', hc, ht'⟩ := hi k (by omega)
        obtain ⟨_, hcl, hat⟩ := World.cells?_some hc
        refine ⟨rows ++ [cs'], by simp [h1], fun i r hr => ?_⟩
        by_cases hik : i < rows.length
        · rw [List.getElem?_append_left hik] at hr; exact h2 i r hr
        · have hi2 : i = rows.length := by
            have := (List.getElem?_eq_some_iff.1 hr).1; simp at this; omega
          subst hi2
          simp at hr
          subst hr
          refine ⟨hcl, ⟨n, _, ht'⟩, fun j v hv => ?_⟩
          have hj : j < P.cellsOf e := by have := (List.getElem?_eq_some_iff.1 hv).1; omega
          have := hat j hj
          rw [h1, ← add_add, this]; exact hv
    obtain ⟨rows, h1, h2⟩ := this len (Nat.le_refl _)
    exact ⟨a, len, cap, rows, hcs, hl, hmx, h1, h2⟩
theorem spot_none {w : World} {ad : Addr} {v : Value} (h : w.cell? (ad.add 0) = some v) : ∃ b off, ad = ⟨b, off, none⟩ := by
  obtain ⟨b, off, spot⟩ := ad
  cases spot with
  | none => exact ⟨b, off, rfl⟩
  | some s => exfalso; revert h; unfold Addr.add World.cell?; split <;> simp_all
end
/-- rows' cells, one behind the other -/
theorem rows_reads {w : World} {m : Nat} {ad : Addr} {cap : Nat} (rows : List (List Value)) (hl : ∀ r ∈ rows, r.length = m) (h1 : ∀ r ∈ rows, ∀ v ∈ r, v.oneCell' = true) (hm : 0 < m) (hcap : rows.length ≤ cap)
    (h : ∀ i r, rows[i]? = some r → ∀ j v, r[j]? = some v → w.cell? (ad.add (i * m + j)) = some v) : Reads w m (.slice (some ad) rows.length cap) rows.length rows.flatten := by
  refine ⟨flat_len m rows hl, fun u hu => ?_, .inr ⟨ad, cap, rfl, hcap, fun q u hu => ?_⟩⟩
  · obtain ⟨r, hr, hu⟩ := List.mem_flatten.1 hu
    exact h1 r hr u hu
  · have hq : q < rows.length * m := by have := (List.getElem?_eq_some_iff.1 hu).1; rwa [flat_len m rows hl] at this
    have hi : q / m < rows.length := Nat.div_lt_of_lt_mul (by rw [Nat.mul_comm]; exact hq)
    have hf := flat_at m rows hl (q / m) _ (List.getElem?_eq_getElem hi) (q % m) (Nat.mod_lt _ hm)
    have e : q / m * m + q % m = q := by rw [Nat.mul_comm]; exact Nat.div_add_mod q m
    rw [e, hu] at hf
    have := h (q / m) _ (List.getElem?_eq_getElem hi) (q % m) u hf.symm
    rwa [e] at this
theorem fold_set : ∀ (l : List Value) (k : Nat) (A : Array Value), A.size = k + l.length → ((l.zipIdx k).foldl (fun cs x => cs.setIfInBounds x.2 x.1) A).toList = A.toList.take k ++ l
  | [], k, A, h => by
    simp only [List.zipIdx_nil, List.foldl_nil, List.append_nil]
    rw [List.take_of_length_le (by simp at h ⊢; omega)]
  | c :: l, k, A, h => by
    simp only [List.length_cons] at h
    rw [List.zipIdx_cons, List.foldl_cons, fold_set l (k + 1) _ (by simp; omega)]
    simp only [Array.toList_setIfInBounds]
    rw [List.take_succ_eq_append_getElem (by simp; omega), List.take_set_of_le (Nat.le_refl _)]
    simp
theorem fill_one (pl : Nat → Option (Nat × Nat)) (A cs : Array Value) (n : Nat) (hp : pl 0 = some (0, n)) (hcs : cs.size = n) (hA : A.size = n) : Instr.fill pl A [(0, .agg cs)] = some cs := by
  subst hcs
  have h := fold_set cs.toList 0 A (by simp; omega)
  simp only [List.take_zero, List.nil_append] at h
  have e : cs.zipIdx.foldl (fun cs (x : Value × Nat) => cs.setIfInBounds (0 + x.2) x.1) A = cs := by
    apply Array.toList_inj.1
    rw [← Array.foldl_toList, Array.toList_zipIdx]
    simpa using h
  simp [Instr.fill, hp, Value.cells, hA]
  simpa using e
/-- a slice of one element -/
theorem wpL_one {P : Program} {ops : Array Oper} {rest : List Oper} {o : Oper} {a : Act} {w : World} {Q : Exit → Act → World → Prop} (hgd : o.guard = none) (T : TypeId) (x : Operand) (ho : o.op = .buildSlice T 1 #[(0, x)]) (e : TypeId) (z : Array Value) (ht : P.underlying T = some (.slice e))
    (hi : (P.info? e).map (fun i => (i.zero, i.size)) = some (some (.agg z), z.size)) (hz : 0 < z.size) (hz2 : z.size ≤ 1000) (cs : Array Value) (hx : a.eval x = .agg cs) (hcs : cs.size = z.size)
    (h : ∀ (b : Nat) (w' : World), w.heap.size = b → Chg noBlk w w' → w'.heap[b]? = some (.cells cs e (0, 0)) → w'.heap.size = b + 1 → wpList P ops Q rest (a.put o.dst (.slice (some ⟨b, 0, none⟩) 1 1)) w') : wpList P ops Q (o :: rest) a w := by
  cases hq : P.info? e with
  | none => simp [hq] at hi
  | some i =>
    simp only [hq, Option.map_some, Option.some.injEq, Prod.mk.injEq] at hi
    obtain ⟨h1, h2⟩ := hi
    have hf : Instr.fill (fun j => some (j * i.size, i.size)) ((Array.range (1 * i.size)).map ((Value.agg z).cells[· % (Value.agg z).cells.size]!)) [(0, .agg cs)] = some cs := by
      have hA : ((Array.range (1 * i.size)).map ((Value.agg z).cells[· % (Value.agg z).cells.size]!)).size = cs.size := by simp [h2, hcs]
      generalize (Array.range (1 * i.size)).map ((Value.agg z).cells[· % (Value.agg z).cells.size]!) = A at hA
      exact fill_one _ A cs i.size (by simp) (by rw [hcs, h2]) (by rw [hA, hcs, h2])
    refine wpList_buildSlice hgd T e 1 #[(0, x)] ho cs i (.agg z) ht hq h1 (by rw [h2]; omega) (by rw [h2]; omega) ?_ (h _ _ rfl ((Chg.refl _ _).alloc _) (heap_alloc_new w _) (by simp))
    simp only [List.map_toArray, List.map_cons, List.map_nil, hx]
    exact hf
#print axioms slice_rows
#print axioms wpL_one
#print axioms rows_reads
end Go.Proofs.Ytngldlfobdiipaa
