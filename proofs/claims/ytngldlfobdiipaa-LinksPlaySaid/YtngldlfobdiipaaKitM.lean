/-
  Facts of no program: what a call changes, block by block; operations met with the world behind them under a name of its own.
-/
import Derived.WalkKit
import Derived.ProofKit
import Derived.Lib.Hide
import Derived.Below
import Derived.OneCell
import Derived.Deep.MidRow
import Derived.Deep.AppendLies
import Derived.Laws.AppendOwnNone
import Derived.Laws.ResultCell
import Derived.Laws.NewBlocks
import Derived.Deep.Draws
namespace Go.Proofs.Ytngldlfobdiipaa
open Go.ChangeShapes Go.WideShapes Go.ChangeAt Go.RowKit
set_option linter.unusedVariables false

/-! ### What a call changes -/
/-- no block -/
def noBlk : Nat → Prop := fun _ => False
/-- one block -/
def oneBlk (b : Nat) : Nat → Prop := fun k => k = b
/-- two blocks -/
def twoBlk (b c : Nat) : Nat → Prop := fun k => k = b ∨ k = c
/-- of what was there, only blocks of S have turned -/
structure Chg (S : Nat → Prop) (w w' : World) : Prop where
  os : w'.os = w.os
  tape : w'.tape = w.tape
  output : w'.output = w.output
  size : w.heap.size ≤ w'.heap.size
  block : ∀ k, k < w.heap.size → ¬ S k → w'.heap[k]? = w.heap[k]?
section
variable {S T : Nat → Prop} {a b c w w' : World}
theorem Chg.refl (S : Nat → Prop) (w : World) : Chg S w w := ⟨rfl, rfl, rfl, Nat.le_refl _, fun _ _ _ => rfl⟩
theorem Chg.trans (h : Chg S a b) (k : Chg T b c) (hT : ∀ i, i < a.heap.size → T i → S i) : Chg S a c :=
  ⟨k.os.trans h.os, k.tape.trans h.tape, k.output.trans h.output, Nat.le_trans h.size k.size,
    fun i hi hn => (k.block i (Nat.lt_of_lt_of_le hi h.size) (fun ht => hn (hT i hi ht))).trans (h.block i hi hn)⟩
theorem Chg.mono (h : Chg S a b) (hs : ∀ i, i < a.heap.size → S i → T i) : Chg T a b :=
  ⟨h.os, h.tape, h.output, h.size, fun i hi hn => h.block i hi (fun k => hn (hs i hi k))⟩
theorem Chg.no (h : Chg noBlk a b) (S : Nat → Prop) : Chg S a b := h.mono fun _ _ k => k.elim
theorem Chg.andNo (h : Chg S a b) (k : Chg noBlk b c) : Chg S a c := h.trans k fun _ _ k => k.elim
theorem Chg.below (h : Chg S a b) {B : Nat} (hS : ∀ i, S i → B ≤ i) (hB : B ≤ a.heap.size) : Below B a b :=
  ⟨h.os, h.tape, h.output, h.size, fun k hk => h.block k (Nat.lt_of_lt_of_le hk hB) (fun hs => by have := hS k hs; omega)⟩
theorem Chg.belowNo (h : Chg noBlk a b) : Below a.heap.size a b := h.below (fun _ k => k.elim) (Nat.le_refl _)
theorem Chg.ofBelow (h : Below a.heap.size a b) : Chg noBlk a b := ⟨h.os, h.tape, h.output, h.size, fun k hk _ => h.block k hk⟩
theorem Chg.at (h : Chg S w w') {k : Nat} {o : Obj} (hk : w.heap[k]? = some o) (hn : ¬ S k) : w'.heap[k]? = some o :=
  (h.block k (lt_of_block hk) hn).trans hk
theorem Chg.lt (h : Chg S w w') {k : Nat} (hk : k < w.heap.size) : k < w'.heap.size := Nat.lt_of_lt_of_le hk h.size
theorem Chg.cell (h : Chg S w w') {p : Addr} {v : Value} (hc : w.cell? p = some v) (hn : ¬ S p.block) : w'.cell? p = some v :=
  (World.cell?_of_block (h.block p.block (World.block_lt_of_cell? w p hc) hn)).trans hc
theorem Chg.alloc (h : Chg S a w) (o : Obj) : Chg S a (w.alloc o) :=
  h.trans (T := noBlk) ⟨rfl, rfl, rfl, by simp, fun k hk _ => Below.heap_alloc w o k hk⟩ fun _ _ k => k.elim
theorem Chg.drewN (h : Chg S a w) (n : Nat) : Chg S a (w.drewN n) := ⟨h.os, h.tape, h.output, h.size, h.block⟩
theorem Chg.drew (h : Chg S a w) : Chg S a w.drew := ⟨h.os, h.tape, h.output, h.size, h.block⟩
theorem Chg.setCell (h : Chg S a w) {p : Addr} (hp : p.block < a.heap.size → S p.block) (u : Value) : Chg S a (w.setCell p u) :=
  h.trans (T := oneBlk p.block) ⟨rfl, rfl, rfl, by simp [World.setCell], fun k hk hn => Below.heap_setCell w p u k hn⟩ fun i hi e => by have e : i = p.block := e; rw [e] at hi ⊢; exact hp hi
theorem Chg.grown (w : World) {row : Option Nat} (h : w.grownBy w' row) : Chg (fun k => some k = row) w w' := ⟨h.os, h.tape, h.output, h.size, fun k hk hn => h.block k hk hn⟩
end
theorem heap_drewN (w : World) (n : Nat) : (w.drewN n).heap = w.heap := rfl
theorem heap_drew (w : World) : w.drew.heap = w.heap := rfl
theorem setCell_heap {w : World} {b o : Nat} {cs : Array Value} {t : TypeId} {fr : Nat × Nat} (v : Value) (h : w.heap[b]? = some (.cells cs t fr)) : (w.setCell ⟨b, o, none⟩ v).heap[b]? = some (.cells (cs.setIfInBounds o v) t fr) := by
  rw [setCell_eq_setRow w b o cs t fr v h]; exact setRow_heap w b cs _ t _ h
theorem setRow_chg (w : World) (b : Nat) (cs : Array Value) : Chg (oneBlk b) w (w.setRow b cs) :=
  ⟨rfl, rfl, rfl, by simp, fun k _ hk => setRow_other w b k _ hk⟩
theorem setCell_chg (w : World) (b o : Nat) (v : Value) : Chg (oneBlk b) w (w.setCell ⟨b, o, none⟩ v) :=
  ⟨rfl, rfl, rfl, by simp [World.setCell], fun k _ hk => Below.heap_setCell w _ v k hk⟩

/-! ### Operations, the world behind them a letter -/
section
variable {P : Program} {ops : Array Oper} {rest : List Oper} {o : Oper} {a : Act} {w : World} {Q : Exit → Act → World → Prop}
/-- a new variable -/
theorem wpL_alloc (hgd : o.guard = none) (T : TypeId) (ho : o.op = .alloc T) (z : Array Value) (hz : (P.info? T).bind (·.zero) = some (.agg z))
    (h : ∀ (b : Nat) (w' : World), w.heap.size = b → Chg noBlk w w' → w'.heap[b]? = some (.cells z T (0, 0)) → w'.heap.size = b + 1 → wpList P ops Q rest (a.put o.dst (.pointer (some ⟨b, 0, none⟩))) w') : wpList P ops Q (o :: rest) a w :=
  wpList_plain hgd fun K hK => by
    unfold Oper.wp execOp
    cases hq : P.info? T with
    | none => simp [hq] at hz
    | some i =>
      have hi : i.zero = some (.agg z) := by simpa [hq] using hz
      have hrun : (Instr.alloc T true (.tuple #[])).run P w = .ok (.pointer (some ⟨w.heap.size, 0, none⟩)) (w.alloc (.cells z T)) := by
        simp [Instr.alloc, zeroValue, typeInfo, hq, hi, newVar, newRow, Value.cells]
      simp only [ho, hrun, Sem.run_bind, Result.andThen_ok]
      exact hK _ _ (h _ _ rfl ((Chg.refl _ _).alloc _) (heap_alloc_new w _) (by simp))
/-- a value laid into a new variable -/
theorem wpL_box (hgd : o.guard = none) (T : TypeId) (x : Operand) (ho : o.op = .box T x) (z : Array Value) (hx : a.eval x = .agg z)
    (h : ∀ (b : Nat) (w' : World), w.heap.size = b → Chg noBlk w w' → w'.heap[b]? = some (.cells z T (0, 0)) → w'.heap.size = b + 1 → wpList P ops Q rest (a.put o.dst (.pointer (some ⟨b, 0, none⟩))) w') : wpList P ops Q (o :: rest) a w :=
  wpList_plain hgd fun K hK => by
    unfold Oper.wp execOp
    have hrun : (Instr.box T (.agg z)).run P w = .ok (.pointer (some ⟨w.heap.size, 0, none⟩)) (w.alloc (.cells z T)) := by
      simp [Instr.box, newVar, newRow, Value.cells]
    simp only [ho, hx, hrun, Sem.run_bind, Result.andThen_ok]
    exact hK _ _ (h _ _ rfl ((Chg.refl _ _).alloc _) (heap_alloc_new w _) (by simp))
/-- a whole variable read -/
theorem wpL_load (hgd : o.guard = none) (T : TypeId) (x : Operand) (ho : o.op = .load T x) (b : Nat) (hx : a.eval x = .pointer (some ⟨b, 0, none⟩))
    (cs : Array Value) (t : TypeId) (fr : Nat × Nat) (hb : w.heap[b]? = some (.cells cs t fr)) (d : TypeDesc) (hu : P.underlying T = some d) (hd : (match d with | .struct _ | .array _ _ => true | _ => false) = true) (hi : (P.info? T).map (·.size) = some cs.size)
    (h : wpList P ops Q rest (a.put o.dst (.agg cs)) w) : wpList P ops Q (o :: rest) a w :=
  wpList_load_row hgd T x ho b hx t cs fr d hb hu hd hi h
/-- a whole variable written -/
theorem wpL_store (hgd : o.guard = none) (T : TypeId) (x y : Operand) (ho : o.op = .store T x y) (b : Nat) (cs : Array Value) (hx : a.eval x = .pointer (some ⟨b, 0, none⟩)) (hy : a.eval y = .agg cs)
    (old : Array Value) (t : TypeId) (hb : w.heap[b]? = some (.cells old t (0, 0))) (hi : (P.info? T).map (·.size) = some cs.size) (hs : old.size = cs.size) (h1 : cs.all (·.oneCell') = true)
    (h : ∀ w', Chg (oneBlk b) w w' → w'.heap[b]? = some (.cells cs t (0, 0)) → w'.heap.size = w.heap.size → wpList P ops Q rest (a.put o.dst undef) w') : wpList P ops Q (o :: rest) a w :=
  wpList_store_row hgd T x y ho b cs hx hy t old hb hi hs h1 (h _ (setRow_chg w b cs) (setRow_heap w b old _ t _ hb) (by simp))
/-- one cell written -/
theorem wpL_set (hgd : o.guard = none) (T : TypeId) (x y : Operand) (ho : o.op = .store T x y) (b k : Nat) (v : Value) (hx : a.eval x = .pointer (some ⟨b, k, none⟩)) (hy : a.eval y = v) (hv : v.oneCell' = true)
    (hi : (P.info? T).map (·.size) = some 1)
    (old : Array Value) (t : TypeId) (hb : w.heap[b]? = some (.cells old t (0, 0))) (hk : k < old.size)
    (h : ∀ w', Chg (oneBlk b) w w' → w'.heap[b]? = some (.cells (old.setIfInBounds k v) t (0, 0)) → w'.heap.size = w.heap.size → wpList P ops Q rest (a.put o.dst undef) w') : wpList P ops Q (o :: rest) a w :=
  wpList_plain hgd fun K hK => by
    unfold Oper.wp execOp
    cases hq : P.info? T with
    | none => simp [hq] at hi
    | some i =>
      have hz : i.size = 1 := by simpa [hq] using hi
      have hc : w.cell? ⟨b, k, none⟩ = some old[k] := by simp [World.cell?, hb, hk]
      have hf : w.frozen? ⟨b, k, none⟩ = false := by simp [World.frozen?, hb]
      have hcs : v.cells = #[v] := by
        cases v <;> first | rfl | simp [Value.oneCell'] at hv
      have hadd : (⟨b, k, none⟩ : Addr).add 0 = ⟨b, k, none⟩ := by unfold Addr.add; split <;> simp_all
      have hrun : (Instr.storeAt T (.pointer (some ⟨b, k, none⟩)) v).run P w = .ok () (w.setCell ⟨b, k, none⟩ v) := by
        have hst := run_store P w ⟨b, k, none⟩ v .plain hv
        rw [hc] at hst
        simp [hf] at hst
        simp [Instr.storeAt, Instr.sureAddr, storeVar, sizeOf, typeInfo, hq, hz, hcs, storeCells, hadd, hst]
      simp only [ho, hx, hy, hrun, Sem.run_bind, Result.andThen_ok, Sem.run_pure]
      refine hK _ _ (h _ (setCell_chg w b k v) (setCell_heap v hb) (by simp [World.setCell]))
end
/-- a block's cell -/
theorem cellAt {w : World} {b : Nat} {cs : Array Value} {t : TypeId} {fr : Nat × Nat} (h : w.heap[b]? = some (.cells cs t fr)) (j : Nat) (v : Value) (hv : cs[j]? = some v) : w.cell? ⟨b, j, none⟩ = some v := by
  rw [cell_of_row w b j cs t fr h]; exact hv
theorem freeAt {w : World} {b : Nat} {cs : Array Value} {t : TypeId} (h : w.heap[b]? = some (.cells cs t (0, 0))) (j : Nat) : w.frozen? ⟨b, j, none⟩ = false := by simp [World.frozen?, h]

/-! ### A slice's cells -/
/-- the value s is a slice of n elements that reads as the cells xs -/
def Reads (w : World) (size : Nat) (s : Value) (n : Nat) (xs : List Value) : Prop :=
  xs.length = n * size ∧ (∀ u ∈ xs, u.oneCell' = true) ∧ ((s = .slice none 0 0 ∧ n = 0) ∨ ∃ ad cap, s = .slice (some ad) n cap ∧ n ≤ cap ∧ ∀ j u, xs[j]? = some u → w.cell? (ad.add j) = some u)
/-- it reads so, and its cells lie in a block of S, and may be written -/
def Holds (w : World) (S : Nat → Prop) (size : Nat) (s : Value) (n : Nat) (xs : List Value) : Prop :=
  xs.length = n * size ∧ (∀ u ∈ xs, u.oneCell' = true) ∧ ((s = .slice none 0 0 ∧ n = 0) ∨
    ∃ g off cap, s = .slice (some ⟨g, off, none⟩) n cap ∧ S g ∧ g < w.heap.size ∧ n ≤ cap ∧ ∀ j u, xs[j]? = some u → w.cell? ⟨g, off + j, none⟩ = some u ∧ w.frozen? ⟨g, off + j, none⟩ = false)
section
variable {w w' : World} {S T : Nat → Prop} {size : Nat} {s : Value} {n : Nat} {xs : List Value}
theorem Holds.reads (h : Holds w S size s n xs) : Reads w size s n xs := by
  obtain ⟨h1, h2, h3⟩ := h
  refine ⟨h1, h2, ?_⟩
  rcases h3 with h3 | ⟨g, off, cap, rfl, hS, hg, hn, hc⟩
  · exact .inl h3
  · exact .inr ⟨_, cap, rfl, hn, fun j u hu => by rw [Addr.add_mid]; exact (hc j u hu).1⟩
theorem Holds.kept (h : Holds w S size s n xs) (k : Chg T w w') (hd : ∀ i, i < w.heap.size → S i → ¬ T i) : Holds w' S size s n xs := by
  obtain ⟨h1, h2, h3⟩ := h
  refine ⟨h1, h2, ?_⟩
  rcases h3 with h3 | ⟨g, off, cap, rfl, hS, hg, hn, hc⟩
  · exact .inl h3
  · refine .inr ⟨g, off, cap, rfl, hS, k.lt hg, hn, fun j u hu => ⟨k.cell (hc j u hu).1 (hd g hg hS), ?_⟩⟩
    rw [World.frozen?_of_block (w := w) (k.block g hg (hd g hg hS))]; exact (hc j u hu).2
theorem Holds.mono (h : Holds w S size s n xs) (k : ∀ i, i < w.heap.size → S i → T i) : Holds w T size s n xs := by
  obtain ⟨h1, h2, h3⟩ := h
  refine ⟨h1, h2, ?_⟩
  rcases h3 with h3 | ⟨g, off, cap, rfl, hS, hg, r⟩
  · exact .inl h3
  · exact .inr ⟨g, off, cap, rfl, k g hg hS, hg, r⟩
theorem Reads.kept (h : Reads w size s n xs) (k : Chg T w w') (hd : ∀ i, s.ownBlock = some i → 0 < n → ¬ T i) : Reads w' size s n xs := by
  obtain ⟨h1, h2, h3⟩ := h
  refine ⟨h1, h2, ?_⟩
  rcases h3 with h3 | ⟨ad, cap, rfl, hn, hc⟩
  · exact .inl h3
  · refine .inr ⟨ad, cap, rfl, hn, fun j u hu => k.cell (hc j u hu) ?_⟩
    have : (ad.add j).block = ad.block := by unfold Addr.add; split <;> rfl
    rw [this]
    refine hd _ rfl ?_
    have := (List.getElem?_eq_some_iff.1 hu).1
    rcases Nat.eq_zero_or_pos n with h0 | h0
    · subst h0; omega
    · exact h0
theorem Reads.nil (w : World) (size : Nat) : Reads w size (.slice none 0 0) 0 [] := ⟨by simp, by simp, .inl ⟨rfl, rfl⟩⟩
theorem Holds.nil (w : World) (S : Nat → Prop) (size : Nat) : Holds w S size (.slice none 0 0) 0 [] := ⟨by simp, by simp, .inl ⟨rfl, rfl⟩⟩
theorem holds_own {base : Nat} {e : TypeId} (h : w.ownsRow base e size s n xs) (h1 : ∀ u ∈ xs, u.oneCell' = true) : Holds w (fun k => s.ownBlock = some k) size s n xs := by
  refine ⟨h.1, h1, ?_⟩
  rcases h.2 with h2 | ⟨g, cap, cur, rfl, hb, hg, hn, hm, hc, ht⟩
  · exact .inl h2
  · refine .inr ⟨g, 0, cap, rfl, rfl, lt_of_block hg, hn, fun j u hu => ⟨?_, freeAt hg _⟩⟩
    rw [Nat.zero_add]
    have : cur[j]? = some u := by
      rw [← ht, List.getElem?_take] at hu
      split at hu
      · simpa using hu
      · cases hu
    exact cellAt hg j u this
end
section
variable {P : Program} {ops : Array Oper} {rest : List Oper} {o : Oper} {a : Act} {w : World} {Q : Exit → Act → World → Prop}
/-- one cell read -/
theorem wpL_get (hgd : o.guard = none) (T : TypeId) (x : Operand) (ho : o.op = .load T x) (b k : Nat) (hx : a.eval x = .pointer (some ⟨b, k, none⟩))
    (cs : Array Value) (t : TypeId) (fr : Nat × Nat) (hb : w.heap[b]? = some (.cells cs t fr)) (d : TypeDesc) (hu : P.underlying T = some d) (hd : (match d with | .struct _ | .array _ _ => true | _ => false) = false) (v : Value) (hv : cs[k]? = some v)
    (h : wpList P ops Q rest (a.put o.dst v) w) : wpList P ops Q (o :: rest) a w :=
  wpList_plain hgd fun K hK => by
    unfold Oper.wp execOp
    have hc := cellAt hb k v hv
    have hagg : (isAgg T).run P w = .ok false w := by
      unfold isAgg
      rw [Sem.run_bind, run_underlying hu w]
      cases d <;> simp_all
    have hrun : (Instr.loadAt T (.pointer (some ⟨b, k, none⟩))).run P w = .ok v w := by
      simp [Instr.loadAt, Instr.sureAddr, loadVar, Sem.run_bind, hagg, hc]
    simp only [ho, hx, hrun, Sem.run_bind, Result.andThen_ok]
    exact hK _ _ h
/-- a slice of the call's own with another one's elements behind it -/
theorem wpL_append (hgd : o.guard = none) (s x : Operand) (t : TypeId) (ho : o.op = .call { callee := .builtin .append, args := #[s, x], argTypes := #[t, t] })
    (e : TypeId) (z : Value) (size bytes : Nat) (ht : P.underlying t = some (.slice e)) (hi : (P.info? e).map (fun i => (i.zero, i.size, i.bytes)) = some (some z, size, bytes)) (hzs : z.cells.size = size) (hsz : 0 < size)
    (v : Value) (n : Nat) (xs : List Value) (hs : a.eval s = v) (hown : w.ownsRow 0 e size v n xs)
    (y : Value) (m : Nat) (news : List Value) (hx : a.eval x = y) (hr : Reads w size y m news) (h63 : n + m ≤ maxLen) (hbytes : (n + m) * bytes ≤ 140737488355328)
    (h : ∀ v' w', Chg (fun k => v.ownBlock = some k) w w' → w'.ownsRow 0 e size v' (n + m) (xs ++ news) → (v'.ownBlock = v.ownBlock ∨ v'.ownBlock = some w.heap.size) → wpList P ops Q rest (a.put o.dst v') w') : wpList P ops Q (o :: rest) a w := by
  cases hq : P.info? e with
  | none => simp [hq] at hi
  | some i =>
    simp only [hq, Option.map_some, Option.some.injEq, Prod.mk.injEq] at hi
    obtain ⟨hz, hsize, hby⟩ := hi
    obtain ⟨hl, h1, hh⟩ := hr
    rcases hh with ⟨rfl, rfl⟩ | ⟨ad, cap, rfl, _, hc⟩
    · have hn : news = [] := List.eq_nil_of_length_eq_zero (by simpa using hl)
      subst hn
      refine wpList_append_own_none hgd s x t ho 0 e i size ht hq v n xs hs hown hx (h v w (Chg.refl _ _) ?_ (.inl rfl))
      simpa using hown
    · refine wpList_plain hgd fun K hK => ?_
      obtain ⟨v', w', hr, h2, h3, _, h5⟩ := run_append_own_at (P := P) w 0 t o.type e i z size bytes ht hq hz hsize hby hzs hsz v n xs hown ad m cap news hl hc h1 h63 hbytes (Nat.zero_le _)
      unfold Oper.wp execOp
      simp only [ho, resolve, invoke, builtin, Sem.run_bind, Sem.run_pure, Result.andThen_ok, List.map_toArray, List.map_cons, List.map_nil, hs, hx, hr]
      exact hK _ _ (h v' w' ((Chg.grown w h3).mono fun _ _ e => e.symm) h2 h5)
/-- the elements in a new slice -/
theorem wpL_clone (hgd : o.guard = none) (x : Operand) (t : TypeId) (ho : o.op = .call { callee := .builtin .append, args := #[.const (.slice none 0 0), x], argTypes := #[t, t] })
    (e : TypeId) (z : Value) (size bytes : Nat) (ht : P.underlying t = some (.slice e)) (hi : (P.info? e).map (fun i => (i.zero, i.size, i.bytes)) = some (some z, size, bytes)) (hzs : z.cells.size = size) (hsz : 0 < size)
    (y : Value) (m : Nat) (news : List Value) (hx : a.eval x = y) (hr : Reads w size y m news) (h63 : m ≤ maxLen) (hbytes : m * bytes ≤ 140737488355328)
    (h : ∀ v' w', Chg noBlk w w' → w'.ownsRow 0 e size v' m news → (∀ k, v'.ownBlock = some k → k = w.heap.size) → v'.oneCell' = true → wpList P ops Q rest (a.put o.dst v') w') : wpList P ops Q (o :: rest) a w := by
  refine wpL_append hgd _ x t ho e z size bytes ht hi hzs hsz (.slice none 0 0) 0 [] rfl (World.ownsRow_nil _ _ _ _) y m news hx hr (by omega) (by simpa using hbytes) fun v' w' k o1 o2 => ?_
  rw [Nat.zero_add, List.nil_append] at o1
  refine h v' w' (k.mono fun _ _ e => by simp [Value.ownBlock] at e) o1 (fun k hk => ?_) ?_
  · rcases o2 with o2 | o2 <;> rw [hk] at o2 <;> simp_all [Value.ownBlock]
  · rcases o1.2 with ⟨rfl, _⟩ | ⟨g, cap, cur, rfl, _⟩ <;> rfl
end
/-- a value built -/
theorem wpL_build {P : Program} {ops : Array Oper} {rest : List Oper} {o : Oper} {a : Act} {w : World} {Q : Exit → Act → World → Prop} (hgd : o.guard = none) (T : TypeId) (parts : Array (Nat × Operand)) (ho : o.op = .build T parts) (cells : Array Value)
    (hb : P.built T (parts.map fun (i, x) => (i, a.eval x)).toList = some cells) (h : wpList P ops Q rest (a.put o.dst (.agg cells)) w) : wpList P ops Q (o :: rest) a w :=
  wpList_build hgd T parts ho (by rw [hb]; rfl) (by rw [hb]; exact h)
/-- two results: a variable whole, and a slot -/
theorem results_row_tmp {P : Program} {fn : Func} {p u : Tmp} {ty : TypeId} (h : fn.results = #[.cell p ty, .tmp u]) (tmps : Array Value) (w : World) (g : Nat) (t : TypeId) (cs : Array Value) (fr : Nat × Nat) (d : TypeDesc)
    (hp : tmps.getD p undef = .pointer (some ⟨g, 0, none⟩)) (hg : w.heap[g]? = some (.cells cs t fr))
    (hu : P.underlying ty = some d) (hd : (match d with | .struct _ | .array _ _ => true | _ => false) = true) (hi : (P.info? ty).map (·.size) = some cs.size) :
    (results fn tmps).run P w = .ok (.tuple #[.agg cs, tmps.getD u undef]) w := by
  rw [results_cell_tmp h, hp]
  simp only [asAddr, Sem.run_pure, Result.andThen_ok, run_loadVar_row w g t ty cs fr d hg hu hd hi]
#print axioms wpL_clone
end Go.Proofs.Ytngldlfobdiipaa
