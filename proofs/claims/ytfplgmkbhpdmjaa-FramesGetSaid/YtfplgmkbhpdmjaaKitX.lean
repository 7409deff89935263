/-
  Texts of this seat, one behind the other.
-/
import Derived.WalkKit
import Derived.ProofKit
import Derived.Lib.Hide
import Derived.Below
import Derived.OneCell
import Derived.Deep.MidRow
import Derived.Deep.AppendLies
import Derived.Laws.AppendOwnNone
import Derived.Laws.ResultCell
import Derived.Laws.NewBlocks
import Derived.Deep.Draws
import Derived.Laws.MakeOwn
import Derived.RegionTactic
import Derived.Deep.QuietTactic
import Derived.Deep.Slices
import Derived.Deep.Fields
import Derived.Deep.Grids
import Derived.Great.BuildSlice
import Derived.Laws.OwnMore
import Derived.OpenShut
/-
  Facts of no program: what a call changes, block by block; operations met with the world behind them under a name of its own.
-/
namespace Go.Proofs.Ytfplgmkbhpdmjaa
open Go.ChangeShapes Go.WideShapes Go.ChangeAt Go.RowKit
set_option linter.unusedVariables false

/-! ### What a call changes -/
/-- no block -/
def noBlk : Nat → Prop := fun _ => False
/-- one block -/
def oneBlk (b : Nat) : Nat → Prop := fun k => k = b
/-- two blocks -/
def twoBlk (b c : Nat) : Nat → Prop := fun k => k = b ∨ k = c
/-- of what was there, only blocks of S have turned -/
structure Chg (S : Nat → Prop) (w w' : World) : Prop where
  os : w'.os = w.os
  tape : w'.tape = w.tape
  output : w'.output = w.output
  size : w.heap.size ≤ w'.heap.size
  block : ∀ k, k < w.heap.size → ¬ S k → w'.heap[k]? = w.heap[k]?
section
variable {S T : Nat → Prop} {a b c w w' : World}
theorem Chg.refl (S : Nat → Prop) (w : World) : Chg S w w := ⟨rfl, rfl, rfl, Nat.le_refl _, fun _ _ _ => rfl⟩
theorem Chg.trans (h : Chg S a b) (k : Chg T b c) (hT : ∀ i, i < a.heap.size → T i → S i) : Chg S a c :=
  ⟨k.os.trans h.os, k.tape.trans h.tape, k.output.trans h.output, Nat.le_trans h.size k.size,
    fun i hi hn => (k.block i (Nat.lt_of_lt_of_le hi h.size) (fun ht => hn (hT i hi ht))).trans (h.block i hi hn)⟩
theorem Chg.mono (h : Chg S a b) (hs : ∀ i, i < a.heap.size → S i → T i) : Chg T a b :=
  ⟨h.os, h.tape, h.output, h.size, fun i hi hn => h.block i hi (fun k => hn (hs i hi k))⟩
theorem Chg.no (h : Chg noBlk a b) (S : Nat → Prop) : Chg S a b := h.mono fun _ _ k => k.elim
theorem Chg.andNo (h : Chg S a b) (k : Chg noBlk b c) : Chg S a c := h.trans k fun _ _ k => k.elim
theorem Chg.below (h : Chg S a b) {B : Nat} (hS : ∀ i, S i → B ≤ i) (hB : B ≤ a.heap.size) : Below B a b :=
  ⟨h.os, h.tape, h.output, h.size, fun k hk => h.block k (Nat.lt_of_lt_of_le hk hB) (fun hs => by have := hS k hs; omega)⟩
theorem Chg.belowNo (h : Chg noBlk a b) : Below a.heap.size a b := h.below (fun _ k => k.elim) (Nat.le_refl _)
theorem Chg.ofBelow (h : Below a.heap.size a b) : Chg noBlk a b := ⟨h.os, h.tape, h.output, h.size, fun k hk _ => h.block k hk⟩
theorem Chg.at (h : Chg S w w') {k : Nat} {o : Obj} (hk : w.heap[k]? = some o) (hn : ¬ S k) : w'.heap[k]? = some o :=
  (h.block k (lt_of_block hk) hn).trans hk
theorem Chg.lt (h : Chg S w w') {k : Nat} (hk : k < w.heap.size) : k < w'.heap.size := Nat.lt_of_lt_of_le hk h.size
theorem Chg.cell (h : Chg S w w') {p : Addr} {v : Value} (hc : w.cell? p = some v) (hn : ¬ S p.block) : w'.cell? p = some v :=
  (World.cell?_of_block (h.block p.block (World.block_lt_of_cell? w p hc) hn)).trans hc
theorem Chg.alloc (h : Chg S a w) (o : Obj) : Chg S a (w.alloc o) :=
  h.trans (T := noBlk) ⟨rfl, rfl, rfl, by simp, fun k hk _ => Below.heap_alloc w o k hk⟩ fun _ _ k => k.elim
theorem Chg.drewN (h : Chg S a w) (n : Nat) : Chg S a (w.drewN n) := ⟨h.os, h.tape, h.output, h.size, h.block⟩
theorem Chg.drew (h : Chg S a w) : Chg S a w.drew := ⟨h.os, h.tape, h.output, h.size, h.block⟩
theorem Chg.setCell (h : Chg S a w) {p : Addr} (hp : p.block < a.heap.size → S p.block) (u : Value) : Chg S a (w.setCell p u) :=
  h.trans (T := oneBlk p.block) ⟨rfl, rfl, rfl, by simp [World.setCell], fun k hk hn => Below.heap_setCell w p u k hn⟩ fun i hi e => by have e : i = p.block := e; rw [e] at hi ⊢; exact hp hi
theorem Chg.grown (w : World) {row : Option Nat} (h : w.grownBy w' row) : Chg (fun k => some k = row) w w' := ⟨h.os, h.tape, h.output, h.size, fun k hk hn => h.block k hk hn⟩
end
theorem heap_drewN (w : World) (n : Nat) : (w.drewN n).heap = w.heap := rfl
theorem heap_drew (w : World) : w.drew.heap = w.heap := rfl
theorem setCell_heap {w : World} {b o : Nat} {cs : Array Value} {t : TypeId} {fr : Nat × Nat} (v : Value) (h : w.heap[b]? = some (.cells cs t fr)) : (w.setCell ⟨b, o, none⟩ v).heap[b]? = some (.cells (cs.setIfInBounds o v) t fr) := by
  rw [setCell_eq_setRow w b o cs t fr v h]; exact setRow_heap w b cs _ t _ h
theorem setRow_chg (w : World) (b : Nat) (cs : Array Value) : Chg (oneBlk b) w (w.setRow b cs) :=
  ⟨rfl, rfl, rfl, by simp, fun k _ hk => setRow_other w b k _ hk⟩
theorem setCell_chg (w : World) (b o : Nat) (v : Value) : Chg (oneBlk b) w (w.setCell ⟨b, o, none⟩ v) :=
  ⟨rfl, rfl, rfl, by simp [World.setCell], fun k _ hk => Below.heap_setCell w _ v k hk⟩

/-! ### Operations, the world behind them a letter -/
section
variable {P : Program} {ops : Array Oper} {rest : List Oper} {o : Oper} {a : Act} {w : World} {Q : Exit → Act → World → Prop}
/-- a new variable -/
theorem wpL_alloc (hgd : o.guard = none) (T : TypeId) (ho : o.op = .alloc T) (z : Array Value) (hz : (P.info? T).bind (·.zero) = some (.agg z))
    (h : ∀ (b : Nat) (w' : World), w.heap.size = b → Chg noBlk w w' → w'.heap[b]? = some (.cells z T (0, 0)) → w'.heap.size = b + 1 → wpList P ops Q rest (a.put o.dst (.pointer (some ⟨b, 0, none⟩))) w') : wpList P ops Q (o :: rest) a w :=
  wpList_plain hgd fun K hK => by
    unfold Oper.wp execOp
    cases hq : P.info? T with
    | none => simp [hq] at hz
    | some i =>
      have hi : i.zero = some (.agg z) := by simpa [hq] using hz
      have hrun : (Instr.alloc T true (.tuple #[])).run P w = .ok (.pointer (some ⟨w.heap.size, 0, none⟩)) (w.alloc (.cells z T)) := by
        simp [Instr.alloc, zeroValue, typeInfo, hq, hi, newVar, newRow, Value.cells]
      simp only [ho, hrun, Sem.run_bind, Result.andThen_ok]
      exact hK _ _ (h _ _ rfl ((Chg.refl _ _).alloc _) (heap_alloc_new w _) (by simp))
/-- a value laid into a new variable -/
theorem wpL_box (hgd : o.guard = none) (T : TypeId) (x : Operand) (ho : o.op = .box T x) (z : Array Value) (hx : a.eval x = .agg z)
    (h : ∀ (b : Nat) (w' : World), w.heap.size = b → Chg noBlk w w' → w'.heap[b]? = some (.cells z T (0, 0)) → w'.heap.size = b + 1 → wpList P ops Q rest (a.put o.dst (.pointer (some ⟨b, 0, none⟩))) w') : wpList P ops Q (o :: rest) a w :=
  wpList_plain hgd fun K hK => by
    unfold Oper.wp execOp
    have hrun : (Instr.box T (.agg z)).run P w = .ok (.pointer (some ⟨w.heap.size, 0, none⟩)) (w.alloc (.cells z T)) := by
      simp [Instr.box, newVar, newRow, Value.cells]
    simp only [ho, hx, hrun, Sem.run_bind, Result.andThen_ok]
    exact hK _ _ (h _ _ rfl ((Chg.refl _ _).alloc _) (heap_alloc_new w _) (by simp))
/-- a whole variable read -/
theorem wpL_load (hgd : o.guard = none) (T : TypeId) (x : Operand) (ho : o.op = .load T x) (b : Nat) (hx : a.eval x = .pointer (some ⟨b, 0, none⟩))
    (cs : Array Value) (t : TypeId) (fr : Nat × Nat) (hb : w.heap[b]? = some (.cells cs t fr)) (d : TypeDesc) (hu : P.underlying T = some d) (hd : (match d with | .struct _ | .array _ _ => true | _ => false) = true) (hi : (P.info? T).map (·.size) = some cs.size)
    (h : wpList P ops Q rest (a.put o.dst (.agg cs)) w) : wpList P ops Q (o :: rest) a w :=
  wpList_load_row hgd T x ho b hx t cs fr d hb hu hd hi h
/-- a whole variable written -/
theorem wpL_store (hgd : o.guard = none) (T : TypeId) (x y : Operand) (ho : o.op = .store T x y) (b : Nat) (cs : Array Value) (hx : a.eval x = .pointer (some ⟨b, 0, none⟩)) (hy : a.eval y = .agg cs)
    (old : Array Value) (t : TypeId) (hb : w.heap[b]? = some (.cells old t (0, 0))) (hi : (P.info? T).map (·.size) = some cs.size) (hs : old.size = cs.size) (h1 : cs.all (·.oneCell') = true)
    (h : ∀ w', Chg (oneBlk b) w w' → w'.heap[b]? = some (.cells cs t (0, 0)) → w'.heap.size = w.heap.size → wpList P ops Q rest (a.put o.dst undef) w') : wpList P ops Q (o :: rest) a w :=
  wpList_store_row hgd T x y ho b cs hx hy t old hb hi hs h1 (h _ (setRow_chg w b cs) (setRow_heap w b old _ t _ hb) (by simp))
/-- one cell written -/
theorem wpL_set (hgd : o.guard = none) (T : TypeId) (x y : Operand) (ho : o.op = .store T x y) (b k : Nat) (v : Value) (hx : a.eval x = .pointer (some ⟨b, k, none⟩)) (hy : a.eval y = v) (hv : v.oneCell' = true)
    (hi : (P.info? T).map (·.size) = some 1)
    (old : Array Value) (t : TypeId) (hb : w.heap[b]? = some (.cells old t (0, 0))) (hk : k < old.size)
    (h : ∀ w', Chg (oneBlk b) w w' → w'.heap[b]? = some (.cells (old.setIfInBounds k v) t (0, 0)) → w'.heap.size = w.heap.size → wpList P ops Q rest (a.put o.dst undef) w') : wpList P ops Q (o :: rest) a w :=
  wpList_plain hgd fun K hK => by
    unfold Oper.wp execOp
    cases hq : P.info? T with
    | none => simp [hq] at hi
    | some i =>
      have hz : i.size = 1 := by simpa [hq] using hi
      have hc : w.cell? ⟨b, k, none⟩ = some old[k] := by simp [World.cell?, hb, hk]
      have hf : w.frozen? ⟨b, k, none⟩ = false := by simp [World.frozen?, hb]
      have hcs : v.cells = #[v] := by
        cases v <;> first | rfl | simp [Value.oneCell'] at hv
      have hadd : (⟨b, k, none⟩ : Addr).add 0 = ⟨b, k, none⟩ := by unfold Addr.add; split <;> simp_all
      have hrun : (Instr.storeAt T (.pointer (some ⟨b, k, none⟩)) v).run P w = .ok () (w.setCell ⟨b, k, none⟩ v) := by
        have hst := run_store P w ⟨b, k, none⟩ v .plain hv
        rw [hc] at hst
        simp [hf] at hst
        simp [Instr.storeAt, Instr.sureAddr, storeVar, sizeOf, typeInfo, hq, hz, hcs, storeCells, hadd, hst]
      simp only [ho, hx, hy, hrun, Sem.run_bind, Result.andThen_ok, Sem.run_pure]
      refine hK _ _ (h _ (setCell_chg w b k v) (setCell_heap v hb) (by simp [World.setCell]))
end
/-- a block's cell -/
theorem cellAt {w : World} {b : Nat} {cs : Array Value} {t : TypeId} {fr : Nat × Nat} (h : w.heap[b]? = some (.cells cs t fr)) (j : Nat) (v : Value) (hv : cs[j]? = some v) : w.cell? ⟨b, j, none⟩ = some v := by
  rw [cell_of_row w b j cs t fr h]; exact hv
theorem freeAt {w : World} {b : Nat} {cs : Array Value} {t : TypeId} (h : w.heap[b]? = some (.cells cs t (0, 0))) (j : Nat) : w.frozen? ⟨b, j, none⟩ = false := by simp [World.frozen?, h]

/-! ### A slice's cells -/
/-- the value s is a slice of n elements that reads as the cells xs -/
def Reads (w : World) (size : Nat) (s : Value) (n : Nat) (xs : List Value) : Prop :=
  xs.length = n * size ∧ (∀ u ∈ xs, u.oneCell' = true) ∧ ((s = .slice none 0 0 ∧ n = 0) ∨ ∃ ad cap, s = .slice (some ad) n cap ∧ n ≤ cap ∧ ∀ j u, xs[j]? = some u → w.cell? (ad.add j) = some u)
/-- it reads so, and its cells lie in a block of S, and may be written -/
def Holds (w : World) (S : Nat → Prop) (size : Nat) (s : Value) (n : Nat) (xs : List Value) : Prop :=
  xs.length = n * size ∧ (∀ u ∈ xs, u.oneCell' = true) ∧ ((s = .slice none 0 0 ∧ n = 0) ∨
    ∃ g off cap, s = .slice (some ⟨g, off, none⟩) n cap ∧ S g ∧ g < w.heap.size ∧ n ≤ cap ∧ ∀ j u, xs[j]? = some u → w.cell? ⟨g, off + j, none⟩ = some u ∧ w.frozen? ⟨g, off + j, none⟩ = false)
section
variable {w w' : World} {S T : Nat → Prop} {size : Nat} {s : Value} {n : Nat} {xs : List Value}
theorem Holds.reads (h : Holds w S size s n xs) : Reads w size s n xs := by
  obtain ⟨h1, h2, h3⟩ := h
  refine ⟨h1, h2, ?_⟩
  rcases h3 with h3 | ⟨g, off, cap, rfl, hS, hg, hn, hc⟩
  · exact .inl h3
  · exact .inr ⟨_, cap, rfl, hn, fun j u hu => by rw [Addr.add_mid]; exact (hc j u hu).1⟩
theorem Holds.kept (h : Holds w S size s n xs) (k : Chg T w w') (hd : ∀ i, i < w.heap.size → S i → ¬ T i) : Holds w' S size s n xs := by
  obtain ⟨h1, h2, h3⟩ := h
  refine ⟨h1, h2, ?_⟩
  rcases h3 with h3 | ⟨g, off, cap, rfl, hS, hg, hn, hc⟩
  · exact .inl h3
  · refine .inr ⟨g, off, cap, rfl, hS, k.lt hg, hn, fun j u hu => ⟨k.cell (hc j u hu).1 (hd g hg hS), ?_⟩⟩
    rw [World.frozen?_of_block (w := w) (k.block g hg (hd g hg hS))]; exact (hc j u hu).2
theorem Holds.mono (h : Holds w S size s n xs) (k : ∀ i, i < w.heap.size → S i → T i) : Holds w T size s n xs := by
  obtain ⟨h1, h2, h3⟩ := h
  refine ⟨h1, h2, ?_⟩
  rcases h3 with h3 | ⟨g, off, cap, rfl, hS, hg, r⟩
  · exact .inl h3
  · exact .inr ⟨g, off, cap, rfl, k g hg hS, hg, r⟩
theorem Reads.kept (h : Reads w size s n xs) (k : Chg T w w') (hd : ∀ i, s.ownBlock = some i → 0 < n → ¬ T i) : Reads w' size s n xs := by
  obtain ⟨h1, h2, h3⟩ := h
  refine ⟨h1, h2, ?_⟩
  rcases h3 with h3 | ⟨ad, cap, rfl, hn, hc⟩
  · exact .inl h3
  · refine .inr ⟨ad, cap, rfl, hn, fun j u hu => k.cell (hc j u hu) ?_⟩
    have : (ad.add j).block = ad.block := by unfold Addr.add; split <;> rfl
    rw [this]
    refine hd _ rfl ?_
    have := (List.getElem?_eq_some_iff.1 hu).1
    rcases Nat.eq_zero_or_pos n with h0 | h0
    · subst h0; omega
    · exact h0
theorem Reads.nil (w : World) (size : Nat) : Reads w size (.slice none 0 0) 0 [] := ⟨by simp, by simp, .inl ⟨rfl, rfl⟩⟩
theorem Holds.nil (w : World) (S : Nat → Prop) (size : Nat) : Holds w S size (.slice none 0 0) 0 [] := ⟨by simp, by simp, .inl ⟨rfl, rfl⟩⟩
theorem holds_own {base : Nat} {e : TypeId} (h : w.ownsRow base e size s n xs) (h1 : ∀ u ∈ xs, u.oneCell' = true) : Holds w (fun k => s.ownBlock = some k) size s n xs := by
  refine ⟨h.1, h1, ?_⟩
  rcases h.2 with h2 | ⟨g, cap, cur, rfl, hb, hg, hn, hm, hc, ht⟩
  · exact .inl h2
  · refine .inr ⟨g, 0, cap, rfl, rfl, lt_of_block hg, hn, fun j u hu => ⟨?_, freeAt hg _⟩⟩
    rw [Nat.zero_add]
    have : cur[j]? = some u := by
      rw [← ht, List.getElem?_take] at hu
      split at hu
      · simpa using hu
      · cases hu
    exact cellAt hg j u this
end
section
variable {P : Program} {ops : Array Oper} {rest : List Oper} {o : Oper} {a : Act} {w : World} {Q : Exit → Act → World → Prop}
/-- one cell read -/
theorem wpL_get (hgd : o.guard = none) (T : TypeId) (x : Operand) (ho : o.op = .load T x) (b k : Nat) (hx : a.eval x = .pointer (some ⟨b, k, none⟩))
    (cs : Array Value) (t : TypeId) (fr : Nat × Nat) (hb : w.heap[b]? = some (.cells cs t fr)) (d : TypeDesc) (hu : P.underlying T = some d) (hd : (match d with | .struct _ | .array _ _ => true | _ => false) = false) (v : Value) (hv : cs[k]? = some v)
    (h : wpList P ops Q rest (a.put o.dst v) w) : wpList P ops Q (o :: rest) a w :=
  wpList_plain hgd fun K hK => by
    unfold Oper.wp execOp
    have hc := cellAt hb k v hv
    have hagg : (isAgg T).run P w = .ok false w := by
      unfold isAgg
      rw [Sem.run_bind, run_underlying hu w]
      cases d <;> simp_all
    have hrun : (Instr.loadAt T (.pointer (some ⟨b, k, none⟩))).run P w = .ok v w := by
      simp [Instr.loadAt, Instr.sureAddr, loadVar, Sem.run_bind, hagg, hc]
    simp only [ho, hx, hrun, Sem.run_bind, Result.andThen_ok]
    exact hK _ _ h
/-- a slice of the call's own with another one's elements behind it -/
theorem wpL_append (hgd : o.guard = none) (s x : Operand) (t : TypeId) (ho : o.op = .call { callee := .builtin .append, args := #[s, x], argTypes := #[t, t] })
    (e : TypeId) (z : Value) (size bytes : Nat) (ht : P.underlying t = some (.slice e)) (hi : (P.info? e).map (fun i => (i.zero, i.size, i.bytes)) = some (some z, size, bytes)) (hzs : z.cells.size = size) (hsz : 0 < size)
    (v : Value) (n : Nat) (xs : List Value) (hs : a.eval s = v) (hown : w.ownsRow 0 e size v n xs)
    (y : Value) (m : Nat) (news : List Value) (hx : a.eval x = y) (hr : Reads w size y m news) (h63 : n + m ≤ maxLen) (hbytes : (n + m) * bytes ≤ 140737488355328)
    (h : ∀ v' w', Chg (fun k => v.ownBlock = some k) w w' → w'.ownsRow 0 e size v' (n + m) (xs ++ news) → (v'.ownBlock = v.ownBlock ∨ v'.ownBlock = some w.heap.size) → wpList P ops Q rest (a.put o.dst v') w') : wpList P ops Q (o :: rest) a w := by
  cases hq : P.info? e with
  | none => simp [hq] at hi
  | some i =>
    simp only [hq, Option.map_some, Option.some.injEq, Prod.mk.injEq] at hi
    obtain ⟨hz, hsize, hby⟩ := hi
    obtain ⟨hl, h1, hh⟩ := hr
    rcases hh with ⟨rfl, rfl⟩ | ⟨ad, cap, rfl, _, hc⟩
    · have hn : news = [] := List.eq_nil_of_length_eq_zero (by simpa using hl)
      subst hn
      refine wpList_append_own_none hgd s x t ho 0 e i size ht hq v n xs hs hown hx (h v w (Chg.refl _ _) ?_ (.inl rfl))
      simpa using hown
    · refine wpList_plain hgd fun K hK => ?_
      obtain ⟨v', w', hr, h2, h3, _, h5⟩ := run_append_own_at (P := P) w 0 t o.type e i z size bytes ht hq hz hsize hby hzs hsz v n xs hown ad m cap news hl hc h1 h63 hbytes (Nat.zero_le _)
      unfold Oper.wp execOp
      simp only [ho, resolve, invoke, builtin, Sem.run_bind, Sem.run_pure, Result.andThen_ok, List.map_toArray, List.map_cons, List.map_nil, hs, hx, hr]
      exact hK _ _ (h v' w' ((Chg.grown w h3).mono fun _ _ e => e.symm) h2 h5)
/-- the elements in a new slice -/
theorem wpL_clone (hgd : o.guard = none) (x : Operand) (t : TypeId) (ho : o.op = .call { callee := .builtin .append, args := #[.const (.slice none 0 0), x], argTypes := #[t, t] })
    (e : TypeId) (z : Value) (size bytes : Nat) (ht : P.underlying t = some (.slice e)) (hi : (P.info? e).map (fun i => (i.zero, i.size, i.bytes)) = some (some z, size, bytes)) (hzs : z.cells.size = size) (hsz : 0 < size)
    (y : Value) (m : Nat) (news : List Value) (hx : a.eval x = y) (hr : Reads w size y m news) (h63 : m ≤ maxLen) (hbytes : m * bytes ≤ 140737488355328)
    (h : ∀ v' w', Chg noBlk w w' → w'.ownsRow 0 e size v' m news → (∀ k, v'.ownBlock = some k → k = w.heap.size) → v'.oneCell' = true → wpList P ops Q rest (a.put o.dst v') w') : wpList P ops Q (o :: rest) a w := by
  refine wpL_append hgd _ x t ho e z size bytes ht hi hzs hsz (.slice none 0 0) 0 [] rfl (World.ownsRow_nil _ _ _ _) y m news hx hr (by omega) (by simpa using hbytes) fun v' w' k o1 o2 => ?_
  rw [Nat.zero_add, List.nil_append] at o1
  refine h v' w' (k.mono fun _ _ e => by simp [Value.ownBlock] at e) o1 (fun k hk => ?_) ?_
  · rcases o2 with o2 | o2 <;> rw [hk] at o2 <;> simp_all [Value.ownBlock]
  · rcases o1.2 with ⟨rfl, _⟩ | ⟨g, cap, cur, rfl, _⟩ <;> rfl
end
/-- a value built -/
theorem wpL_build {P : Program} {ops : Array Oper} {rest : List Oper} {o : Oper} {a : Act} {w : World} {Q : Exit → Act → World → Prop} (hgd : o.guard = none) (T : TypeId) (parts : Array (Nat × Operand)) (ho : o.op = .build T parts) (cells : Array Value)
    (hb : P.built T (parts.map fun (i, x) => (i, a.eval x)).toList = some cells) (h : wpList P ops Q rest (a.put o.dst (.agg cells)) w) : wpList P ops Q (o :: rest) a w :=
  wpList_build hgd T parts ho (by rw [hb]; rfl) (by rw [hb]; exact h)
/-- two results: a variable whole, and a slot -/
theorem results_row_tmp {P : Program} {fn : Func} {p u : Tmp} {ty : TypeId} (h : fn.results = #[.cell p ty, .tmp u]) (tmps : Array Value) (w : World) (g : Nat) (t : TypeId) (cs : Array Value) (fr : Nat × Nat) (d : TypeDesc)
    (hp : tmps.getD p undef = .pointer (some ⟨g, 0, none⟩)) (hg : w.heap[g]? = some (.cells cs t fr))
    (hu : P.underlying ty = some d) (hd : (match d with | .struct _ | .array _ _ => true | _ => false) = true) (hi : (P.info? ty).map (·.size) = some cs.size) :
    (results fn tmps).run P w = .ok (.tuple #[.agg cs, tmps.getD u undef]) w := by
  rw [results_cell_tmp h, hp]
  simp only [asAddr, Sem.run_pure, Result.andThen_ok, run_loadVar_row w g t ty cs fr d hg hu hd hi]
end Go.Proofs.Ytfplgmkbhpdmjaa
/-
  What most texts share: hidden facts; told: a value, and of what was there nothing has turned.
-/
namespace Go.Proofs.Ytfplgmkbhpdmjaa
open Go.ChangeShapes Go.WideShapes Go.ChangeAt Go.RowKit
set_option linter.unusedVariables false
theorem hide {p : Prop} (h : p) : Hid p := h
theorem unhide {p : Prop} (h : Hid p) : p := h
theorem ret_int {k : IntKind} {a b : Int} (h : a = b) : Ending.returned (.int k a) = .returned (.int k b) := by rw [h]
/-- told: v, and of what was there nothing has turned -/
def ToldN (v : Value) (w : World) (e : Ending) (w' : World) : Prop := e = .returned v ∧ Chg noBlk w w'
theorem ToldN.below {v : Value} {w w' : World} {e : Ending} (h : ToldN v w e w') : e = .returned v ∧ Below w.heap.size w w' := ⟨h.1, h.2.belowNo⟩
theorem Chg.past {a b d : World} {c : Nat} (h : Chg noBlk a b) (k : Chg (oneBlk c) b d) (hc : a.heap.size ≤ c) : Chg noBlk a d := h.trans k fun i hi e => by have e : i = c := e; omega
end Go.Proofs.Ytfplgmkbhpdmjaa
/-
  Facts of no program: rows of equal length in a block.
-/
namespace Go.Proofs.Ytfplgmkbhpdmjaa
open Go.ChangeShapes Go.WideShapes Go.ChangeAt Go.RowKit
set_option linter.unusedVariables false
theorem flat_len (m : Nat) : ∀ (ps : List (List Value)), (∀ c ∈ ps, c.length = m) → ps.flatten.length = ps.length * m
  | [], _ => by simp
  | c :: r, h => by
    have := flat_len m r fun x hx => h x (by simp [hx])
    have hc := h c (by simp)
    simp only [List.flatten_cons, List.length_append, List.length_cons, Nat.add_mul]; omega
theorem flat_at (m : Nat) : ∀ (ps : List (List Value)), (∀ c ∈ ps, c.length = m) → ∀ (k : Nat) (c : List Value), ps[k]? = some c → ∀ j, j < m → ps.flatten[k * m + j]? = c[j]?
  | [], _, k, c, hk, _, _ => by simp at hk
  | d :: r, h, 0, c, hk, j, hj => by
    have hd := h d (by simp)
    simp only [List.getElem?_cons_zero, Option.some.injEq] at hk
    subst hk
    simp only [List.flatten_cons, Nat.zero_mul, Nat.zero_add]
    rw [List.getElem?_append_left (by omega)]
  | d :: r, h, k + 1, c, hk, j, hj => by
    have hd := h d (by simp)
    have ih := flat_at m r (fun x hx => h x (by simp [hx])) k c (by simpa using hk) j hj
    simp only [List.flatten_cons]
    rw [List.getElem?_append_right (by rw [Nat.add_mul]; omega), ← ih]
    congr 1
    rw [Nat.add_mul]; omega
theorem flat_set (m : Nat) : ∀ (ps : List (List Value)), (∀ c ∈ ps, c.length = m) → ∀ (k : Nat) (c : List Value), k < ps.length → c.length = m → ps.flatten.take (k * m) ++ c ++ ps.flatten.drop (k * m + c.length) = (ps.set k c).flatten
  | [], _, k, c, hk, _ => by simp at hk
  | d :: r, h, 0, c, hk, hc => by
    have hd := h d (by simp)
    simp only [List.flatten_cons, Nat.zero_mul, Nat.zero_add, List.take_zero, List.nil_append, List.set_cons_zero]
    rw [List.drop_append_of_le_length (by omega), List.drop_of_length_le (by omega)]; rfl
  | d :: r, h, k + 1, c, hk, hc => by
    have hd := h d (by simp)
    have ih := flat_set m r (fun x hx => h x (by simp [hx])) k c (by simpa using hk) hc
    simp only [List.flatten_cons, List.set_cons_succ]
    rw [← ih, Nat.add_mul, Nat.one_mul, List.take_append, List.take_of_length_le (l := d) (by omega), List.drop_append, List.drop_of_length_le (l := d) (by omega)]
    simp only [List.nil_append, List.append_assoc]
    rw [show k * m + m - d.length = k * m by omega, show k * m + m + c.length - d.length = k * m + c.length by omega]
theorem len_set {m : Nat} {ps : List (List Value)} (h : ∀ c ∈ ps, c.length = m) (k : Nat) {c : List Value} (hc : c.length = m) : ∀ d ∈ ps.set k c, d.length = m := fun d hd => by
  rcases List.mem_or_eq_of_mem_set hd with h1 | h1
  · exact h d h1
  · rw [h1]; exact hc
theorem setCells_row (P : Program) {w : World} {g o : Nat} {cur : Array Value} {t : TypeId} {vs : List Value} (hg : w.heap[g]? = some (.cells cur t (0, 0))) (ho : o + vs.length ≤ cur.size) (h1 : ∀ v ∈ vs, v.oneCell' = true) :
    w.setCells g o vs = w.setRow g (cur.toList.take o ++ vs ++ cur.toList.drop (o + vs.length)).toArray := by
  have r1 := run_storeCells_at P g o t vs 0 cur w hg (by simpa using ho) h1
  have r2 := run_storeCells_cells (P := P) g o vs 0 w (fun j hj => by simp [World.cell?, hg]; omega) (fun j hj => by simp [World.frozen?, hg]) h1
  rw [r1] at r2
  simp only [Nat.add_zero, Result.ok.injEq, true_and] at r2
  exact r2.symm
/-- rows of m cells each in the block b -/
structure RowsAt (w : World) (b : Nat) (T : TypeId) (m : Nat) (ps : List (List Value)) : Prop where
  at_ : w.heap[b]? = some (.cells ps.flatten.toArray T (0, 0))
  len : ∀ c ∈ ps, c.length = m
section
variable {w w' : World} {b : Nat} {T : TypeId} {m : Nat} {ps : List (List Value)} {S : Nat → Prop}
theorem RowsAt.kept (h : RowsAt w b T m ps) (k : Chg S w w') (hn : ¬ S b) : RowsAt w' b T m ps := ⟨k.at h.at_ hn, h.len⟩
theorem RowsAt.lt (h : RowsAt w b T m ps) : b < w.heap.size := lt_of_block h.at_
theorem RowsAt.range (h : RowsAt w b T m ps) {k : Nat} {c : List Value} (hk : ps[k]? = some c) : w.rangeAt b (k * m) c := fun j v hv => by
  have hc : c.length = m := h.len c (List.mem_of_getElem? hk)
  have hj : j < m := by have := (List.getElem?_eq_some_iff.1 hv).1; omega
  refine cellAt h.at_ _ _ ?_
  have := flat_at m ps h.len k c hk j hj
  rw [hv] at this
  simpa using this
theorem RowsAt.there (h : RowsAt w b T m ps) {k : Nat} (hk : k < ps.length) : w.there b (k * m) m := fun j hj => by
  have := flat_at m ps h.len k _ (List.getElem?_eq_getElem hk) j hj
  have hc : ps[k].length = m := h.len _ (List.getElem_mem hk)
  refine ⟨?_, freeAt h.at_ _⟩
  rw [List.getElem?_eq_getElem (l := ps[k]) (by omega)] at this
  rw [cellAt h.at_ (k * m + j) _ (by simpa using this)]; rfl
theorem RowsAt.set (P : Program) (h : RowsAt w b T m ps) {k : Nat} (hk : k < ps.length) {c : List Value} (hc : c.length = m) (h1 : ∀ v ∈ c, v.oneCell' = true) :
    RowsAt (w.setCells b (k * m) c) b T m (ps.set k c) ∧ Chg (oneBlk b) w (w.setCells b (k * m) c) := by
  have hfl := flat_len m ps h.len
  have hle : k * m + c.length ≤ ps.flatten.toArray.size := by
    rw [List.size_toArray, hfl, hc]
    have : (k + 1) * m ≤ ps.length * m := Nat.mul_le_mul_right _ hk
    rw [Nat.add_mul, Nat.one_mul] at this; exact this
  have e := setCells_row P h.at_ hle h1
  rw [e]
  refine ⟨⟨?_, len_set h.len k hc⟩, setRow_chg w b _⟩
  have := setRow_heap w b _ (List.take (k * m) ps.flatten.toArray.toList ++ c ++ List.drop (k * m + c.length) ps.flatten.toArray.toList).toArray T _ h.at_
  rw [this]
  congr 2
  rw [flat_set m ps h.len k c hk hc]
end
/-- a variable of n cells -/
def VarAt (w : World) (b : Nat) (T : TypeId) (n : Nat) : Prop := ∃ cur : Array Value, w.heap[b]? = some (.cells cur T (0, 0)) ∧ cur.size = n
/-- since w1 only that variable has turned, and what is new -/
def Base (w1 : World) (b : Nat) (T : TypeId) (n : Nat) (w : World) : Prop := Chg (oneBlk b) w1 w ∧ VarAt w b T n
section
variable {w w1 w' : World} {b : Nat} {T : TypeId} {n : Nat}
theorem VarAt.there (h : VarAt w b T n) : w.there b 0 n := fun j hj => by
  obtain ⟨cur, h1, h2⟩ := h
  refine ⟨?_, freeAt h1 _⟩
  rw [cellAt h1 (0 + j) (cur[0 + j]'(by omega)) (by simp)]; rfl
theorem VarAt.setCells (P : Program) (h : VarAt w b T n) {cs : Array Value} (hn : cs.size = n) (h1 : cs.all (·.oneCell') = true) : (w.setCells b 0 cs.toList).heap[b]? = some (.cells cs T (0, 0)) ∧ Chg (oneBlk b) w (w.setCells b 0 cs.toList) := by
  obtain ⟨cur, h2, h3⟩ := h
  have e := setCells_row P h2 (o := 0) (vs := cs.toList) (by simp; omega) (fun v hv => (Array.all_eq_true_iff_forall_mem.1 h1) v (by simpa using hv))
  rw [e]
  refine ⟨?_, setRow_chg w b _⟩
  rw [setRow_heap w b cur _ T _ h2]
  simp only [List.take_zero, List.nil_append, Array.length_toList, Nat.zero_add]
  rw [List.drop_of_length_le (by simp; omega), List.append_nil]
theorem VarAt.thereAt (h : VarAt w b T n) (o m : Nat) (hm : o + m ≤ n) : w.there b o m := fun j hj => by
  obtain ⟨cur, h1, h2⟩ := h
  refine ⟨?_, freeAt h1 _⟩
  rw [cellAt h1 (o + j) (cur[o + j]'(by omega)) (by simp)]; rfl
theorem VarAt.setAt (P : Program) (h : VarAt w b T n) (o : Nat) {cs : List Value} (hn : o + cs.length ≤ n) (h1 : ∀ v ∈ cs, v.oneCell' = true) : VarAt (w.setCells b o cs) b T n ∧ Chg (oneBlk b) w (w.setCells b o cs) := by
  obtain ⟨cur, h2, h3⟩ := h
  have e := setCells_row P h2 (o := o) (vs := cs) (by omega) h1
  rw [e]
  exact ⟨⟨_, setRow_heap w b cur _ T _ h2, by simp; omega⟩, setRow_chg w b _⟩
theorem Base.setAt (P : Program) (h : Base w1 b T n w) (o : Nat) {cs : List Value} (hn : o + cs.length ≤ n) (h1 : ∀ v ∈ cs, v.oneCell' = true) : Base w1 b T n (w.setCells b o cs) := by
  obtain ⟨e1, e2⟩ := h.2.setAt P o hn h1
  exact ⟨h.1.trans e2 fun _ _ e => e, e1⟩
theorem RowsAt.var {m : Nat} {ps : List (List Value)} (h : RowsAt w b T m ps) : VarAt w b T (ps.length * m) := ⟨_, h.at_, by rw [List.size_toArray, flat_len m ps h.len]⟩
theorem Base.mk' (h : VarAt w b T n) : Base w b T n w := ⟨Chg.refl _ _, h⟩
theorem Base.drew (h : Base w1 b T n w) : Base w1 b T n w.drew := ⟨h.1.drew, h.2⟩
theorem Base.drewN (h : Base w1 b T n w) (d : Nat) : Base w1 b T n (w.drewN d) := ⟨h.1.drewN d, h.2⟩
theorem Base.andNo (h : Base w1 b T n w) (k : Chg noBlk w w') : Base w1 b T n w' := ⟨h.1.andNo k, by obtain ⟨cur, h1, h2⟩ := h.2; exact ⟨cur, k.at h1 id, h2⟩⟩
theorem Base.setCells (P : Program) (h : Base w1 b T n w) {cs : Array Value} (hn : cs.size = n) (h1 : cs.all (·.oneCell') = true) : Base w1 b T n (w.setCells b 0 cs.toList) := by
  obtain ⟨e1, e2⟩ := h.2.setCells P hn h1
  exact ⟨h.1.trans e2 fun _ _ e => e, cs, e1, hn⟩
end
/-! ### made, cleared -/
theorem made_rep (z : List Value) (n : Nat) (hz : 0 < z.length) : madeCells z.toArray (n * z.length) = (List.replicate n z).flatten.toArray := by
  apply Array.toList_inj.1
  apply List.ext_getElem?
  intro i
  have hfl := flat_len z.length (List.replicate n z) (fun c hc => by rw [List.eq_of_mem_replicate hc])
  rw [List.length_replicate] at hfl
  by_cases hi : i < n * z.length
  · have hq : i / z.length < n := Nat.div_lt_of_lt_mul (by rw [Nat.mul_comm]; exact hi)
    have hr : i % z.length < z.length := Nat.mod_lt _ hz
    have h := flat_at z.length (List.replicate n z) (fun c hc => by rw [List.eq_of_mem_replicate hc]) (i / z.length) z (by simp [hq]) (i % z.length) hr
    rw [Nat.mul_comm, Nat.div_add_mod] at h
    show _ = (List.replicate n z).flatten[i]?
    rw [h]
    simp [madeCells, hi, hr]
  · have h1 : (madeCells z.toArray (n * z.length)).toList[i]? = none := by rw [List.getElem?_eq_none]; simp [madeCells]; omega
    have h2 : (List.replicate n z).flatten.toArray.toList[i]? = none := by rw [List.getElem?_eq_none]; simp [hfl] at *; omega
    rw [h1, h2]
theorem zero_rep (z : List Value) (n : Nat) (hz : 0 < z.length) : Builtin.zeroCells z.toArray n = (List.replicate n z).flatten.toArray := by
  have := made_rep z n hz
  unfold madeCells at this
  simpa [Builtin.zeroCells] using this
section
variable {P : Program} {ops : Array Oper} {rest : List Oper} {o : Oper} {a : Act} {w : World} {Q : Exit → Act → World → Prop}
/-- n new elements -/
theorem wpL_make (hgd : o.guard = none) (T : TypeId) (x y : Operand) (ho : o.op = .makeSlice T x y) (e : TypeId) (z : List Value) (bytes : Nat) (ht : P.underlying T = some (.slice e)) (hi : (P.info? e).map (fun i => (i.zero, i.size, i.bytes)) = some (some (.agg z.toArray), z.length, bytes)) (hz : 0 < z.length)
    (n : Nat) (hx : a.eval x = .int .i64 (n : Int)) (hy : a.eval y = .int .i64 (n : Int)) (hb : bytes * n ≤ 281474976710656) (hn : n ≤ 1000000)
    (h : ∀ (b : Nat) (w' : World), w.heap.size = b → Chg noBlk w w' → w'.heap[b]? = some (.cells (List.replicate n z).flatten.toArray e (0, 0)) → w'.heap.size = b + 1 → wpList P ops Q rest (a.put o.dst (.slice (some ⟨b, 0, none⟩) n n)) w') : wpList P ops Q (o :: rest) a w :=
  wpList_plain hgd fun K hK => by
    unfold Oper.wp execOp
    cases hq : P.info? e with
    | none => simp [hq] at hi
    | some i =>
      simp only [hq, Option.map_some, Option.some.injEq, Prod.mk.injEq] at hi
      obtain ⟨h1, h2, h3⟩ := hi
      have hrun := run_make (P := P) w T e i (.agg z.toArray) ht hq h1 .i64 .i64 (n : Int) (n : Int) (by omega) (by omega) (by rw [h3]; omega) (by omega)
      simp only [Int.toNat_natCast, Value.cells, h2, made_rep z n hz] at hrun
      simp only [ho, hx, hy, hrun, Sem.run_bind, Result.andThen_ok]
      exact hK _ _ (h _ _ rfl ((Chg.refl _ _).alloc _) (heap_alloc_new w _) (by simp))
/-- elements made zero -/
theorem run_clear (T ty e : TypeId) (z : List Value) (ht : P.underlying T = some (.slice e)) (hi : (P.info? e).bind (·.zero) = some (.agg z.toArray)) (hz : 0 < z.length) (h1 : ∀ v ∈ z, v.oneCell' = true) (b off n c : Nat) (hn : 0 < n) (hth : w.there b off (n * z.length)) :
    (Builtin.clear_ #[T] ty #[.slice (some ⟨b, off, none⟩) n c]).run P w = .ok (.tuple #[]) (w.setCells b off (List.replicate n z).flatten) := by
  cases hq : P.info? e with
  | none => simp [hq] at hi
  | some i =>
    have hz' : i.zero = some (.agg z.toArray) := by simpa [hq] using hi
    have hfl : (List.replicate n z).flatten.length = n * z.length := by
      simp
    have hst := run_storeCells_cells (P := P) b off (List.replicate n z).flatten 0 w (fun j hj => by simpa using (hth j (by omega)).1) (fun j hj => by simpa using (hth j (by omega)).2)
      (fun v hv => by
        obtain ⟨l, hl, hv⟩ := List.mem_flatten.1 hv
        rw [List.eq_of_mem_replicate hl] at hv; exact h1 v hv)
    simp only [Nat.add_zero] at hst
    obtain ⟨m, rfl⟩ : ∃ m, n = m + 1 := ⟨n - 1, by omega⟩
    simp [Builtin.clear_, run_underlying ht, zeroValue, typeInfo, hq, hz', Value.cells, zero_rep z (m + 1) hz, hst]
/-- at a list of operations -/
theorem wpL_clear (hgd : o.guard = none) (x : Operand) (T : TypeId) (ho : o.op = .call { callee := .builtin .clear, args := #[x], argTypes := #[T] }) (e : TypeId) (z : List Value) (ht : P.underlying T = some (.slice e)) (hi : (P.info? e).bind (·.zero) = some (.agg z.toArray)) (hz : 0 < z.length) (h1 : ∀ v ∈ z, v.oneCell' = true)
    (b off n c : Nat) (hx : a.eval x = .slice (some ⟨b, off, none⟩) n c) (hn : 0 < n) (hth : w.there b off (n * z.length)) (h : wpList P ops Q rest (a.put o.dst (.tuple #[])) (w.setCells b off (List.replicate n z).flatten)) : wpList P ops Q (o :: rest) a w :=
  wpList_plain hgd fun K hK => by
    unfold Oper.wp execOp
    simp only [ho, resolve, invoke, builtin, Sem.run_bind, Sem.run_pure, Result.andThen_ok, List.map_toArray, List.map_cons, List.map_nil, hx, run_clear (P := P) T o.type e z ht hi hz h1 b off n c hn hth]
    exact hK _ _ h
/-- at a step of a region that draws -/
theorem step_clear {K : Act → World → Prop} {E : Prop} (hgd : o.guard = none) (x : Operand) (T : TypeId) (ho : o.op = .call { callee := .builtin .clear, args := #[x], argTypes := #[T] }) (e : TypeId) (z : List Value) (ht : P.underlying T = some (.slice e)) (hi : (P.info? e).bind (·.zero) = some (.agg z.toArray)) (hz : 0 < z.length) (h1 : ∀ v ∈ z, v.oneCell' = true)
    (b off n c : Nat) (hx : a.eval x = .slice (some ⟨b, off, none⟩) n c) (hn : 0 < n) (hth : w.there b off (n * z.length)) (h : ∀ w', Hid (w' = w.setCells b off (List.replicate n z).flatten) → K (a.put o.dst (.tuple #[])) w') :
    if Region.wanted o (yielded ops a.tmps) = true then Oper.wp P o a w K Q else E := by
  have hw : Region.wanted o (yielded ops a.tmps) = true := by simp [Region.wanted, hgd]
  rw [if_pos hw]
  unfold Oper.wp execOp
  simp only [ho, resolve, invoke, builtin, Sem.run_bind, Sem.run_pure, Result.andThen_ok, List.map_toArray, List.map_cons, List.map_nil, hx, run_clear (P := P) T o.type e z ht hi hz h1 b off n c hn hth]
  exact h _ rfl
end
theorem Base.cleared (P : Program) {w w1 w' : World} {b : Nat} {T : TypeId} {n : Nat} (h : Base w1 b T n w) {off k : Nat} {z : List Value} (hw : Hid (w' = w.setCells b off (List.replicate k z).flatten)) (hn : off + k * z.length ≤ n) (h1 : ∀ v ∈ z, v.oneCell' = true) : Base w1 b T n w' := by
  rw [hw.out]
  exact h.setAt P off (by simpa using hn) (fun v hv => by
    obtain ⟨l, hl, hv⟩ := List.mem_flatten.1 hv
    rw [List.eq_of_mem_replicate hl] at hv; exact h1 v hv)
theorem RowsAt.cleared (P : Program) {w w' : World} {b : Nat} {T : TypeId} {m : Nat} {ps : List (List Value)} (h : RowsAt w b T m ps) {k : Nat} (hk : k < ps.length) {z : List Value} (hz : z.length = m) (h1 : ∀ v ∈ z, v.oneCell' = true) (hw : Hid (w' = w.setCells b (k * m) (List.replicate 1 z).flatten)) : RowsAt w' b T m (ps.set k z) ∧ Chg (oneBlk b) w w' := by
  rw [hw.out, show (List.replicate 1 z).flatten = z by simp]
  exact h.set P hk hz h1
end Go.Proofs.Ytfplgmkbhpdmjaa
/-
  Facts of no program: elements of one cell each, made new.
-/
namespace Go.Proofs.Ytfplgmkbhpdmjaa
open Go.ChangeShapes Go.WideShapes Go.ChangeAt Go.RowKit
set_option linter.unusedVariables false
theorem made_one (z : Value) (n : Nat) : madeCells #[z] n = (List.replicate n z).toArray := by
  apply Array.toList_inj.1
  apply List.ext_getElem?
  intro i
  by_cases hi : i < n
  · simp [madeCells, hi, Nat.mod_one]
  · simp [madeCells, hi]
/-- n new elements of one cell each, no structs -/
theorem wpL_make1 {P : Program} {ops : Array Oper} {rest : List Oper} {o : Oper} {a : Act} {w : World} {Q : Exit → Act → World → Prop} (hgd : o.guard = none) (T : TypeId) (x y : Operand) (ho : o.op = .makeSlice T x y) (e : TypeId) (z : Value) (bytes : Nat) (ht : P.underlying T = some (.slice e)) (hi : (P.info? e).map (fun i => (i.zero, i.size, i.bytes)) = some (some z, 1, bytes)) (hz : z.cells = #[z])
    (n : Nat) (hx : a.eval x = .int .i64 (n : Int)) (hy : a.eval y = .int .i64 (n : Int)) (hb : bytes * n ≤ 281474976710656) (hn : n ≤ 1000000)
    (h : ∀ (b : Nat) (w' : World), w.heap.size = b → Chg noBlk w w' → w'.heap[b]? = some (.cells (List.replicate n z).toArray e (0, 0)) → w'.heap.size = b + 1 → wpList P ops Q rest (a.put o.dst (.slice (some ⟨b, 0, none⟩) n n)) w') : wpList P ops Q (o :: rest) a w :=
  wpList_plain hgd fun K hK => by
    unfold Oper.wp execOp
    cases hq : P.info? e with
    | none => simp [hq] at hi
    | some i =>
      simp only [hq, Option.map_some, Option.some.injEq, Prod.mk.injEq] at hi
      obtain ⟨h1, h2, h3⟩ := hi
      have hrun := run_make (P := P) w T e i z ht hq h1 .i64 .i64 (n : Int) (n : Int) (by omega) (by omega) (by rw [h3]; omega) (by omega)
      simp only [Int.toNat_natCast, hz, h2, Nat.mul_one, made_one z n] at hrun
      simp only [ho, hx, hy, hrun, Sem.run_bind, Result.andThen_ok]
      exact hK _ _ (h _ _ rfl ((Chg.refl _ _).alloc _) (heap_alloc_new w _) (by simp))
/-- told: v, and nothing has turned -/
def Told (v : Value) (w : World) (e : Ending) (w' : World) : Prop := e = .returned v ∧ w = w'
/-- a call that turns nothing, in a region that draws -/
theorem quiet_told {P : Program} {f : FuncId} {args : Array Value} {w : World} {n : Nat} {v : Value} (h : Calls P f args (w.drewN n) (Told v (w.drewN n))) : Calls P f args (w.drewN n) fun e w'' => e = .returned v ∧ ∃ m, w'' = w.drewN m :=
  Calls.quiet_of_same (h.mono fun _ _ ⟨a, b⟩ => ⟨a, b.symm⟩)
end Go.Proofs.Ytfplgmkbhpdmjaa
/-
  Facts of no program: an argument's fields, whatever its nesting; a slice's cells.
-/
namespace Go.Proofs.Ytfplgmkbhpdmjaa
open Go.ChangeShapes Go.WideShapes Go.ChangeAt Go.RowKit Go.Deep
set_option linter.unusedVariables false
section
variable {H : Type} {enc : TypeId × Value → H} {P : Program} {w : World} {base : Nat} {spare : Nat → Bool} {held : Bool} {fuel : Nat} {t : TypeId} {cs : List Value} {x : DataW H × List MemPlace}
/-- a field of a struct: its cells -/
theorem field_sub {fs : Array Field} (ht : P.underlying t = some (.struct fs)) (h : DataW.trod enc P w base spare held fuel t cs = some x) (i off : Nat) (T : TypeId) (m : Nat) (hf : (fs[i]?).map (fun f => (f.offset, f.type)) = some (off, T)) (hm : P.cellsOf T = m) :
    ∃ sub n y, DataW.trod enc P w base spare held n T sub = some y ∧ ∀ j, j < m → sub[j]? = cs[off + j]? := by
  obtain ⟨xs, n, _, _, _, hl, hg⟩ := DataW.trod_struct ht h
  cases hq : fs[i]? with
  | none => simp [hq] at hf
  | some f =>
    simp only [hq, Option.map_some, Option.some.injEq, Prod.mk.injEq] at hf
    obtain ⟨rfl, rfl⟩ := hf
    subst hm
    have hi := hg i f hq
    have hlt : i < fs.size := (Array.getElem?_eq_some_iff.1 hq).1
    rw [List.getElem?_eq_getElem (by omega)] at hi
    exact ⟨_, n, _, hi, fun j hj => by rw [List.getElem?_take, if_pos hj, List.getElem?_drop]⟩
theorem int_at {fs : Array Field} (ht : P.underlying t = some (.struct fs)) (h : DataW.trod enc P w base spare held fuel t cs = some x) (i off : Nat) (T : TypeId) (hf : (fs[i]?).map (fun f => (f.offset, f.type)) = some (off, T)) {k : IntKind} (hk : P.underlying T = some (.int k)) (h1 : P.cellsOf T = 1) :
    ∃ n, cs[off]? = some (.int k n) ∧ (Lit.int k n).wf = true := by
  obtain ⟨sub, m, y, hy, hj⟩ := field_sub ht h i off T 1 hf h1
  obtain ⟨n, e, _, hw⟩ := DataW.trod_int hk hy
  have := hj 0 (by omega)
  rw [e] at this
  exact ⟨n, by simpa using this.symm, hw⟩
theorem string_at {fs : Array Field} (ht : P.underlying t = some (.struct fs)) (h : DataW.trod enc P w base spare held fuel t cs = some x) (i off : Nat) (T : TypeId) (hf : (fs[i]?).map (fun f => (f.offset, f.type)) = some (off, T)) (hk : P.underlying T = some .string) (h1 : P.cellsOf T = 1) :
    ∃ s : ByteArray, cs[off]? = some (.string s) ∧ s.size ≤ maxLen := by
  obtain ⟨sub, m, y, hy, hj⟩ := field_sub ht h i off T 1 hf h1
  obtain ⟨s, e, _, hw⟩ := DataW.trod_string hk hy
  have := hj 0 (by omega)
  rw [e] at this
  exact ⟨s, by simpa using this.symm, hw⟩
theorem struct_len {fs : Array Field} (ht : P.underlying t = some (.struct fs)) (h : DataW.trod enc P w base spare held fuel t cs = some x) : cs.length = P.cellsOf t := by
  obtain ⟨_, _, _, _, hl, _⟩ := DataW.trod_struct ht h; exact hl
/-- a slice of elements of m cells each: nil, or where its cells are -/
theorem slice_rows {e : TypeId} {m : Nat} (hm : P.cellsOf e = m) (ht : P.underlying t = some (.slice e)) (h : DataW.trod enc P w base spare held fuel t cs = some x) :
    cs = [.slice none 0 0] ∨ ∃ (ad : Addr) (len cap : Nat) (rows : List (List Value)), cs = [.slice (some ad) len cap] ∧ len ≤ cap ∧ cap ≤ maxLen ∧ rows.length = len ∧
      ∀ i r, rows[i]? = some r → r.length = m ∧ (∃ n y, DataW.trod enc P w base spare held n e r = some y) ∧ ∀ j v, r[j]? = some v → w.cell? (ad.add (i * m + j)) = some v := by
  subst hm
  rcases open_slice ht h with ⟨h0, _⟩ | ⟨a, len, cap, q, n, D, Pl, hcs, hb, hl, hmx, hq, hx, hi⟩
  · exact .inl h0
  · right
    have hlq : len ≤ q := by rw [hq]; split <;> omega
    have : ∀ k, k ≤ len → ∃ rows : List (List Value), rows.length = k ∧ ∀ i r, rows[i]? = some r → r.length = P.cellsOf e ∧ (∃ n y, DataW.trod enc P w base spare held n e r = some y) ∧ ∀ j v, r[j]? = some v → w.cell? (a.add (i * P.cellsOf e + j)) = some v := by
      intro k
      induction k with
      | zero => intro _; exact ⟨[], rfl, by simp⟩
      | succ k ih =>
        intro hk
        obtain ⟨rows, h1, h2⟩ := ih (by omega)
        obtain ⟨cs', hc, ht'⟩ := hi k (by omega)
        obtain ⟨_, hcl, hat⟩ := World.cells?_some hc
        refine ⟨rows ++ [cs'], by simp [h1], fun i r hr => ?_⟩
        by_cases hik : i < rows.length
        · rw [List.getElem?_append_left hik] at hr; exact h2 i r hr
        · have hi2 : i = rows.length := by
            have := (List.getElem?_eq_some_iff.1 hr).1; simp at this; omega
          subst hi2
          simp at hr
          subst hr
          refine ⟨hcl, ⟨n, _, ht'⟩, fun j v hv => ?_⟩
          have hj : j < P.cellsOf e := by have := (List.getElem?_eq_some_iff.1 hv).1; omega
          have := hat j hj
          rw [h1, ← add_add, this]; exact hv
    obtain ⟨rows, h1, h2⟩ := this len (Nat.le_refl _)
    exact ⟨a, len, cap, rows, hcs, hl, hmx, h1, h2⟩
theorem spot_none {w : World} {ad : Addr} {v : Value} (h : w.cell? (ad.add 0) = some v) : ∃ b off, ad = ⟨b, off, none⟩ := by
  obtain ⟨b, off, spot⟩ := ad
  cases spot with
  | none => exact ⟨b, off, rfl⟩
  | some s => exfalso; revert h; unfold Addr.add World.cell?; split <;> simp_all
end
/-- rows' cells, one behind the other -/
theorem rows_reads {w : World} {m : Nat} {ad : Addr} {cap : Nat} (rows : List (List Value)) (hl : ∀ r ∈ rows, r.length = m) (h1 : ∀ r ∈ rows, ∀ v ∈ r, v.oneCell' = true) (hm : 0 < m) (hcap : rows.length ≤ cap)
    (h : ∀ i r, rows[i]? = some r → ∀ j v, r[j]? = some v → w.cell? (ad.add (i * m + j)) = some v) : Reads w m (.slice (some ad) rows.length cap) rows.length rows.flatten := by
  refine ⟨flat_len m rows hl, fun u hu => ?_, .inr ⟨ad, cap, rfl, hcap, fun q u hu => ?_⟩⟩
  · obtain ⟨r, hr, hu⟩ := List.mem_flatten.1 hu
    exact h1 r hr u hu
  · have hq : q < rows.length * m := by have := (List.getElem?_eq_some_iff.1 hu).1; rwa [flat_len m rows hl] at this
    have hi : q / m < rows.length := Nat.div_lt_of_lt_mul (by rw [Nat.mul_comm]; exact hq)
    have hf := flat_at m rows hl (q / m) _ (List.getElem?_eq_getElem hi) (q % m) (Nat.mod_lt _ hm)
    have e : q / m * m + q % m = q := by rw [Nat.mul_comm]; exact Nat.div_add_mod q m
    rw [e, hu] at hf
    have := h (q / m) _ (List.getElem?_eq_getElem hi) (q % m) u hf.symm
    rwa [e] at this
theorem fold_set : ∀ (l : List Value) (k : Nat) (A : Array Value), A.size = k + l.length → ((l.zipIdx k).foldl (fun cs x => cs.setIfInBounds x.2 x.1) A).toList = A.toList.take k ++ l
  | [], k, A, h => by
    simp only [List.zipIdx_nil, List.foldl_nil, List.append_nil]
    rw [List.take_of_length_le (by simp at h ⊢; omega)]
  | c :: l, k, A, h => by
    simp only [List.length_cons] at h
    rw [List.zipIdx_cons, List.foldl_cons, fold_set l (k + 1) _ (by simp; omega)]
    simp only [Array.toList_setIfInBounds]
    rw [List.take_succ_eq_append_getElem (by simp; omega), List.take_set_of_le (Nat.le_refl _)]
    simp
theorem fill_one (pl : Nat → Option (Nat × Nat)) (A cs : Array Value) (n : Nat) (hp : pl 0 = some (0, n)) (hcs : cs.size = n) (hA : A.size = n) : Instr.fill pl A [(0, .agg cs)] = some cs := by
  subst hcs
  have h := fold_set cs.toList 0 A (by simp; omega)
  simp only [List.take_zero, List.nil_append] at h
  have e : cs.zipIdx.foldl (fun cs (x : Value × Nat) => cs.setIfInBounds (0 + x.2) x.1) A = cs := by
    apply Array.toList_inj.1
    rw [← Array.foldl_toList, Array.toList_zipIdx]
    simpa using h
  simp [Instr.fill, hp, Value.cells, hA]
  simpa using e
/-- a slice of one element -/
theorem wpL_one {P : Program} {ops : Array Oper} {rest : List Oper} {o : Oper} {a : Act} {w : World} {Q : Exit → Act → World → Prop} (hgd : o.guard = none) (T : TypeId) (x : Operand) (ho : o.op = .buildSlice T 1 #[(0, x)]) (e : TypeId) (z : Array Value) (ht : P.underlying T = some (.slice e))
    (hi : (P.info? e).map (fun i => (i.zero, i.size)) = some (some (.agg z), z.size)) (hz : 0 < z.size) (hz2 : z.size ≤ 1000) (cs : Array Value) (hx : a.eval x = .agg cs) (hcs : cs.size = z.size)
    (h : ∀ (b : Nat) (w' : World), w.heap.size = b → Chg noBlk w w' → w'.heap[b]? = some (.cells cs e (0, 0)) → w'.heap.size = b + 1 → wpList P ops Q rest (a.put o.dst (.slice (some ⟨b, 0, none⟩) 1 1)) w') : wpList P ops Q (o :: rest) a w := by
  cases hq : P.info? e with
  | none => simp [hq] at hi
  | some i =>
    simp only [hq, Option.map_some, Option.some.injEq, Prod.mk.injEq] at hi
    obtain ⟨h1, h2⟩ := hi
    have hf : Instr.fill (fun j => some (j * i.size, i.size)) ((Array.range (1 * i.size)).map ((Value.agg z).cells[· % (Value.agg z).cells.size]!)) [(0, .agg cs)] = some cs := by
      have hA : ((Array.range (1 * i.size)).map ((Value.agg z).cells[· % (Value.agg z).cells.size]!)).size = cs.size := by simp [h2, hcs]
      generalize (Array.range (1 * i.size)).map ((Value.agg z).cells[· % (Value.agg z).cells.size]!) = A at hA
      exact fill_one _ A cs i.size (by simp) (by rw [hcs, h2]) (by rw [hA, hcs, h2])
    refine wpList_buildSlice hgd T e 1 #[(0, x)] ho cs i (.agg z) ht hq h1 (by rw [h2]; omega) (by rw [h2]; omega) ?_ (h _ _ rfl ((Chg.refl _ _).alloc _) (heap_alloc_new w _) (by simp))
    simp only [List.map_toArray, List.map_cons, List.map_nil, hx]
    exact hf
end Go.Proofs.Ytfplgmkbhpdmjaa
/-
  Facts of no program: a slice of structs, handed in: a list, each in its cells.
-/
namespace Go.Proofs.Ytfplgmkbhpdmjaa
open Go.ChangeShapes Go.WideShapes Go.ChangeAt Go.RowKit Go.Deep
set_option linter.unusedVariables false
/-- the elements lie in the slice's cells, m each, and are as they should be -/
def RowsIn {α : Type} (cells : α → List Value) (Ok : α → Prop) (m : Nat) (w : World) (ad : Option Addr) (l : List α) : Prop :=
  ∀ (i : Nat) a, l[i]? = some a → Ok a ∧ ∃ b off, ad = some ⟨b, off, none⟩ ∧ w.rangeAt b (off + i * m) (cells a)
theorem rows_in {α H : Type} {enc : TypeId × Value → H} {P : Program} {w : World} {base : Nat} {spare : Nat → Bool} {held : Bool} {fuel : Nat} {t e : TypeId} {x : DataW H × List MemPlace} (cells : α → List Value) (Ok : α → Prop) (m : Nat) (hm : P.cellsOf e = m) (h1 : 0 < m) (ht : P.underlying t = some (.slice e))
    (hdec : ∀ cs n y, DataW.trod enc P w base spare held n e cs = some y → ∃ a, cs = cells a ∧ Ok a) {ad : Option Addr} {len cap : Nat} (h : DataW.trod enc P w base spare held fuel t [.slice ad len cap] = some x) :
    ∃ l : List α, l.length = len ∧ len ≤ 9223372036854775807 ∧ RowsIn cells Ok m w ad l := by
  rcases slice_rows hm ht h with h0 | ⟨a, ln, cp, rows, h0, hl, hmx, hrl, hrows⟩
  · simp only [List.cons.injEq, Value.slice.injEq, and_true] at h0
    obtain ⟨rfl, rfl, rfl⟩ := h0
    exact ⟨[], rfl, by omega, fun i a h => by simp at h⟩
  · simp only [List.cons.injEq, Value.slice.injEq, and_true] at h0
    obtain ⟨rfl, rfl, rfl⟩ := h0
    have hsub : ∀ k, k ≤ rows.length → ∃ l : List α, l.length = k ∧ ∀ (i : Nat) (a : α), l[i]? = some a → rows[i]? = some (cells a) ∧ Ok a := by
      intro k
      induction k with
      | zero => intro _; exact ⟨[], rfl, by simp⟩
      | succ k ih =>
        intro hk
        obtain ⟨l, h1, h2⟩ := ih (by omega)
        have hr := List.getElem?_eq_getElem (l := rows) (i := k) (by omega)
        obtain ⟨_, ⟨n, y, ht⟩, _⟩ := hrows k _ hr
        obtain ⟨b, hb, hok⟩ := hdec _ _ _ ht
        refine ⟨l ++ [b], by simp [h1], fun i c hc => ?_⟩
        by_cases hi : i < l.length
        · rw [List.getElem?_append_left hi] at hc; exact h2 i c hc
        · have hi2 : i = l.length := by
            have := (List.getElem?_eq_some_iff.1 hc).1; simp at this; omega
          subst hi2
          simp at hc
          subst hc
          rw [h1, hr, hb]; exact ⟨rfl, hok⟩
    obtain ⟨l, e1, h2⟩ := hsub rows.length (Nat.le_refl _)
    refine ⟨l, by omega, by unfold maxLen at hmx; omega, fun i b hb => ?_⟩
    obtain ⟨e1, e2⟩ := h2 i b hb
    refine ⟨e2, ?_⟩
    obtain ⟨_, _, hcell⟩ := hrows i _ e1
    obtain ⟨r0, hr0⟩ : ∃ r, rows[0]? = some r := by
      have := (List.getElem?_eq_some_iff.1 e1).1
      exact ⟨_, List.getElem?_eq_getElem (by omega)⟩
    obtain ⟨l0, _, hc0⟩ := hrows 0 r0 hr0
    have z0 := hc0 0 _ (List.getElem?_eq_getElem (by omega))
    rw [Nat.zero_mul] at z0
    obtain ⟨g, off, rfl⟩ := spot_none z0
    refine ⟨g, off, rfl, fun j v hv => ?_⟩
    have := hcell j v hv
    rw [Addr.add_mid] at this
    rwa [Nat.add_assoc]
theorem range_kept {w w' : World} {b o : Nat} {cs : List Value} (h : w.rangeAt b o cs) (k : Chg noBlk w w') : w'.rangeAt b o cs := fun j v hv => k.cell (h j v hv) id
end Go.Proofs.Ytfplgmkbhpdmjaa
/-
  Facts of no program: a list of ints that is the call's own, in a slice of its own; a slice of bytes, handed in.
-/
namespace Go.Proofs.Ytfplgmkbhpdmjaa
open Go.ChangeShapes Go.WideShapes Go.ChangeAt Go.RowKit
set_option linter.unusedVariables false
/-- the slice v, whose block is new since w0 and not b, holds the ints ts -/
structure Ints (e : TypeId) (w0 : World) (b : Nat) (w : World) (v : Value) (ts : List Int) : Prop where
  own : w.ownsRow 0 e 1 v ts.length (ts.map (.int .i64 ·))
  new : ∀ g, v.ownBlock = some g → w0.heap.size ≤ g ∧ g ≠ b
section
variable {e : TypeId} {w0 w w' : World} {b : Nat} {v v' : Value} {ts : List Int} {S : Nat → Prop}
theorem owns_kept {base size n : Nat} {xs : List Value} (h : w.ownsRow base e size v n xs) (k : Chg S w w') (hS : ∀ g, v.ownBlock = some g → ¬ S g) : w'.ownsRow base e size v n xs := by
  refine ⟨h.1, ?_⟩
  rcases h.2 with h2 | ⟨g, cap, cur, rfl, hb, hg, rest⟩
  · exact .inl h2
  · exact .inr ⟨g, cap, cur, rfl, hb, k.at hg (hS g rfl), rest⟩
theorem Ints.nil (e : TypeId) (w0 : World) (b : Nat) (w : World) : Ints e w0 b w (.slice none 0 0) [] := ⟨World.ownsRow_nil _ _ _ _, fun g h => by simp [Value.ownBlock] at h⟩
theorem Ints.kept (h : Ints e w0 b w v ts) (k : Chg S w w') (hS : ∀ g, w0.heap.size ≤ g → g ≠ b → ¬ S g) : Ints e w0 b w' v ts :=
  ⟨owns_kept h.own k fun g hg => hS g (h.new g hg).1 (h.new g hg).2, h.new⟩
/-- as a slice, with its cells -/
theorem Ints.cells (h : Ints e w0 b w v ts) : ∃ ad cap, v = .slice ad ts.length cap ∧ ∀ (j : Nat) t, ts[j]? = some t → ∃ g, ad = some ⟨g, 0, none⟩ ∧ w.cell? ⟨g, j, none⟩ = some (.int .i64 t) := by
  rcases h.own.2 with ⟨rfl, h2⟩ | ⟨g, cap, cur, rfl, hb, hg, hn, hm, hc, ht⟩
  · refine ⟨none, 0, ?_, fun j t hj => ?_⟩
    · rw [h2]
    · have : ts = [] := List.eq_nil_of_length_eq_zero h2
      rw [this] at hj; simp at hj
  · refine ⟨_, cap, rfl, fun j t hj => ⟨g, rfl, cellAt hg j _ ?_⟩⟩
    have h1 : (ts.map (Value.int .i64 ·))[j]? = some (.int .i64 t) := by simp [hj]
    rw [← ht, List.getElem?_take] at h1
    split at h1
    · simpa using h1
    · cases h1
/-- one more behind them -/
theorem Ints.push {t : Int} (h : Ints e w0 b w v ts) (o : w'.ownsRow 0 e 1 v' (ts.length + 1) (ts.map (.int .i64 ·) ++ [.int .i64 t])) (hv : v'.ownBlock = v.ownBlock ∨ v'.ownBlock = some w.heap.size) (hw : w0.heap.size ≤ w.heap.size) (hb : b < w.heap.size) : Ints e w0 b w' v' (ts ++ [t]) := by
  refine ⟨by simpa using o, fun g hg => ?_⟩
  rcases hv with hv | hv
  · exact h.new g (hv ▸ hg)
  · rw [hv] at hg
    simp at hg
    subst hg
    exact ⟨hw, by omega⟩
/-- one int in a slice of its own -/
theorem reads_new (w : World) (x : Value) (hx : x.oneCell' = true) : Reads (w.alloc (.cells #[x] e)) 1 (.slice (some ⟨w.heap.size, 0, none⟩) 1 1) 1 [x] := by
  refine ⟨by simp, by simpa using hx, .inr ⟨_, 1, rfl, Nat.le_refl _, fun j u hu => ?_⟩⟩
  obtain ⟨rfl, rfl⟩ : j = 0 ∧ u = x := by
    match j, hu with
    | 0, hu => exact ⟨rfl, by simpa using hu.symm⟩
  rw [Addr.add_mid]
  exact cellAt (heap_alloc_new w (.cells #[u] e)) 0 _ rfl
end
/-- a byte, as a slice's element -/
def byteCells' (n : Nat) : List Value := [.int .u8 (n : Int)]
theorem trod_u8 {H : Type} {P : Program} {t : TypeId} {enc : TypeId × Value → H} {w : World} {base : Nat} {spare : Nat → Bool} {held : Bool} {fuel : Nat} {cs : List Value} {x : DataW H × List MemPlace} (hu : P.underlying t = some (.int .u8))
    (h : DataW.trod enc P w base spare held fuel t cs = some x) : ∃ n : Nat, cs = byteCells' n ∧ n ≤ 255 := by
  obtain ⟨y, hy, _, wy⟩ := DataW.trod_int hu h
  obtain ⟨p0, q0⟩ := bounds_u8 wy
  obtain ⟨q, rfl⟩ := Int.eq_ofNat_of_zero_le p0
  exact ⟨q, hy, by omega⟩
end Go.Proofs.Ytfplgmkbhpdmjaa
/-
  Facts of no program: elements of several cells each, one behind the other; a slice of the call's own that has them.
-/
namespace Go.Proofs.Ytfplgmkbhpdmjaa
open Go.ChangeShapes Go.WideShapes Go.ChangeAt Go.RowKit
set_option linter.unusedVariables false
section
variable {α : Type} {c : α → List Value} {m : Nat}
/-- the elements' cells, one behind the other -/
def flatC (c : α → List Value) (L : List α) : List Value := (L.map c).flatten
theorem flatC_cells (hm : ∀ x, (c x).length = m) (L : List α) : ∀ d ∈ L.map c, d.length = m := fun d hd => by
  obtain ⟨x, _, rfl⟩ := List.mem_map.1 hd; exact hm x
theorem flatC_length (hm : ∀ x, (c x).length = m) (L : List α) : (flatC c L).length = L.length * m := by
  unfold flatC; rw [flat_len m _ (flatC_cells hm L), List.length_map]
theorem flatC_one (h1 : ∀ x, ∀ u ∈ c x, u.oneCell' = true) (L : List α) : ∀ u ∈ flatC c L, u.oneCell' = true := fun u hu => by
  obtain ⟨d, hd, hu⟩ := List.mem_flatten.1 hu
  obtain ⟨x, _, rfl⟩ := List.mem_map.1 hd
  exact h1 x u hu
theorem flatC_app (L M : List α) : flatC c L ++ flatC c M = flatC c (L ++ M) := by unfold flatC; simp
theorem flatC_single (x : α) : flatC c [x] = c x := by unfold flatC; simp
theorem flatC_snoc (L : List α) (x : α) : flatC c L ++ c x = flatC c (L ++ [x]) := by rw [← flatC_app, flatC_single]
theorem flatC_get (hm : ∀ x, (c x).length = m) {L : List α} {i : Nat} {x : α} (h : L[i]? = some x) {j : Nat} (hj : j < m) : (flatC c L)[i * m + j]? = (c x)[j]? := by
  unfold flatC
  exact flat_at m _ (flatC_cells hm L) i (c x) (by rw [List.getElem?_map, h]; rfl) j hj
/-- v is a slice of the call's own, that has L -/
def OwnL (w : World) (e : TypeId) (c : α → List Value) (m : Nat) (v : Value) (L : List α) : Prop := w.ownsRow 0 e m v L.length (flatC c L)
theorem ownL_nil (w : World) (e : TypeId) (c : α → List Value) (m : Nat) : OwnL w e c m (.slice none 0 0) [] := World.ownsRow_nil _ _ _ _
variable {w w' : World} {e : TypeId} {v : Value} {L : List α} {S : Nat → Prop}
theorem OwnL.kept (h : OwnL w e c m v L) (k : Chg S w w') (hS : ∀ g, v.ownBlock = some g → ¬ S g) : OwnL w' e c m v L := owns_kept h k hS
theorem OwnL.no (h : OwnL w e c m v L) (k : Chg noBlk w w') : OwnL w' e c m v L := h.kept k fun _ _ => id
theorem OwnL.block (h : OwnL w e c m v L) {g : Nat} (hg : v.ownBlock = some g) : ∃ cur, w.heap[g]? = some (.cells cur e (0, 0)) := by
  rcases h.2 with ⟨rfl, _⟩ | ⟨g', cap, cur, rfl, _, hb, _⟩
  · cases hg
  · obtain rfl : g' = g := Option.some.inj hg
    exact ⟨cur, hb⟩
theorem OwnL.lt (h : OwnL w e c m v L) {g : Nat} (hg : v.ownBlock = some g) : g < w.heap.size := by
  obtain ⟨cur, hb⟩ := h.block hg
  exact lt_of_block hb
theorem OwnL.one (h : OwnL w e c m v L) : v.oneCell' = true := by
  rcases h.2 with ⟨rfl, _⟩ | ⟨g', cap, cur, rfl, _⟩ <;> rfl
theorem OwnL.reads (h : OwnL w e c m v L) (h1 : ∀ x, ∀ u ∈ c x, u.oneCell' = true) : Reads w m v L.length (flatC c L) := (holds_own h (flatC_one h1 L)).reads
/-- as a slice, with its elements -/
theorem OwnL.form (h : OwnL w e c m v L) (hm : ∀ x, (c x).length = m) : ∃ ad cap, v = .slice ad L.length cap ∧ L.length ≤ cap ∧ cap ≤ maxLen ∧ RowsIn c (fun _ => True) m w ad L := by
  rcases h.2 with ⟨rfl, hz⟩ | ⟨g, cap, cur, rfl, hbase, hb, r1, r2, r3, r4⟩
  · have : L = [] := List.eq_nil_of_length_eq_zero hz
    subst this
    exact ⟨none, 0, rfl, by simp, by unfold maxLen; omega, fun i a h => by simp at h⟩
  · refine ⟨some ⟨g, 0, none⟩, cap, rfl, r1, r2, fun i x hx => ⟨trivial, g, 0, rfl, fun j u hu => ?_⟩⟩
    have hj : j < m := by
      have := (List.getElem?_eq_some_iff.1 hu).1
      rwa [hm] at this
    have e := flatC_get hm hx hj
    rw [hu] at e
    have := World.ownsRow.cells h (g := g) rfl (i * m + j) u e
    rwa [Addr.add_mid, ← Nat.add_assoc] at this
theorem rows_no {Ok : α → Prop} {ad : Option Addr} (h : RowsIn c Ok m w ad L) (k : Chg noBlk w w') : RowsIn c Ok m w' ad L := fun i x hx => by
  obtain ⟨t, g, off, e, hr⟩ := h i x hx
  exact ⟨t, g, off, e, range_kept hr k⟩
theorem rows_take {Ok : α → Prop} {ad : Option Addr} (h : RowsIn c Ok m w ad L) (k : Nat) : RowsIn c Ok m w ad (L.take k) := fun i x hx => h i x (by
  rw [List.getElem?_take] at hx
  split at hx
  · exact hx
  · cases hx)
theorem ownL_of {n : Nat} {xs : List Value} (h : w.ownsRow 0 e m v n xs) (hn : n = L.length) (hx : xs = flatC c L) : OwnL w e c m v L := by subst hn; subst hx; exact h
end
/-- blocks of two types are two -/
theorem ne_type {w : World} {b g : Nat} {c1 c2 : Array Value} {T1 T2 : TypeId} {f1 f2 : Nat × Nat} (h1 : w.heap[b]? = some (.cells c1 T1 f1)) (h2 : w.heap[g]? = some (.cells c2 T2 f2)) (h : T1 ≠ T2) : b ≠ g := fun e => by
  subst e
  rw [h1] at h2
  injection h2 with h2
  injection h2 with h3 h4
  exact h h4
/-- a slice of one new element -/
theorem reads_new1 {W W' : World} {cs : List Value} {t : TypeId} {m : Nat} (k : Chg noBlk (W.alloc (.cells cs.toArray t)) W') (hm : cs.length = m) (h1 : ∀ u ∈ cs, u.oneCell' = true) : Reads W' m (.slice (some ⟨W.heap.size, 0, none⟩) 1 1) 1 cs := by
  refine ⟨by omega, h1, .inr ⟨_, 1, rfl, by omega, fun j u hu => ?_⟩⟩
  rw [Addr.add_mid]
  exact cellAt (k.at (heap_alloc_new W _) id) (0 + j) u (by rw [Nat.zero_add]; simpa using hu)
theorem reads_at1 {W : World} {cs : List Value} {t : TypeId} {m b : Nat} (h : W.heap[b]? = some (.cells cs.toArray t (0, 0))) (hm : cs.length = m) (h1 : ∀ u ∈ cs, u.oneCell' = true) : Reads W m (.slice (some ⟨b, 0, none⟩) 1 1) 1 cs := by
  refine ⟨by omega, h1, .inr ⟨_, 1, rfl, by omega, fun j u hu => ?_⟩⟩
  rw [Addr.add_mid]
  exact cellAt h (0 + j) u (by rw [Nat.zero_add]; simpa using hu)
/-- of one slice of the call's own, one more element -/
theorem ownL_grew {α : Type} {c : α → List Value} {m : Nat} {w' : World} {e : TypeId} {v' : Value} {L : List α} {x : α} (h : w'.ownsRow 0 e m v' (L.length + 1) (flatC c L ++ c x)) : OwnL w' e c m v' (L ++ [x]) :=
  ownL_of h (by simp) (flatC_snoc L x)
end Go.Proofs.Ytfplgmkbhpdmjaa
/-
  Facts of no program: append at a step of a region that draws its order.
-/
namespace Go.Proofs.Ytfplgmkbhpdmjaa
open Go.ChangeShapes Go.WideShapes Go.ChangeAt Go.RowKit
set_option linter.unusedVariables false
theorem setCells_chg (w : World) (b : Nat) : ∀ (vs : List Value) (o : Nat), Chg (oneBlk b) w (w.setCells b o vs)
  | [], _ => Chg.refl _ _
  | v :: r, o => (setCell_chg w b o v).trans (setCells_chg (w.setCell ⟨b, o, none⟩ v) b r (o + 1)) fun _ _ e => e
section
variable {P : Program} {w : World}
/-- what append leads to -/
theorem run_append_any (t ty e : TypeId) (z : Value) (size bytes : Nat) (ht : P.underlying t = some (.slice e)) (hi : (P.info? e).map (fun i => (i.zero, i.size, i.bytes)) = some (some z, size, bytes)) (hzs : z.cells.size = size) (hsz : 0 < size)
    (v : Value) (n : Nat) (xs : List Value) (hown : w.ownsRow 0 e size v n xs) (y : Value) (m : Nat) (news : List Value) (hr : Reads w size y m news) (h63 : n + m ≤ maxLen) (hbytes : (n + m) * bytes ≤ 140737488355328) :
    ∃ v' w', (Builtin.append_ #[t, t] ty #[v, y]).run P w = .ok v' w' ∧ Chg (fun k => v.ownBlock = some k) w w' ∧ w'.ownsRow 0 e size v' (n + m) (xs ++ news) ∧ (v'.ownBlock = v.ownBlock ∨ v'.ownBlock = some w.heap.size) := by
  cases hq : P.info? e with
  | none => simp [hq] at hi
  | some i =>
    simp only [hq, Option.map_some, Option.some.injEq, Prod.mk.injEq] at hi
    obtain ⟨hz, hsize, hby⟩ := hi
    obtain ⟨hl, h1, hh⟩ := hr
    rcases hh with ⟨rfl, rfl⟩ | ⟨ad, cap, rfl, _, hc⟩
    · have hn : news = [] := List.eq_nil_of_length_eq_zero (by simpa using hl)
      subst hn
      refine ⟨v, w, run_append_owned_none (P := P) (w := w) 0 t ty e i size ht hq v n xs hown, Chg.refl _ _, by simpa using hown, .inl rfl⟩
    · obtain ⟨v', w', hr, h2, h3, _, h5⟩ := run_append_own_at (P := P) w 0 t ty e i z size bytes ht hq hz hsize hby hzs hsz v n xs hown ad m cap news hl hc h1 h63 hbytes (Nat.zero_le _)
      exact ⟨v', w', hr, (Chg.grown w h3).mono fun _ _ e => e.symm, h2, h5⟩
theorem step_append {ops : Array Oper} {o : Oper} {a : Act} {K : Act → World → Prop} {Q : Exit → Act → World → Prop} {E : Prop} (hgd : o.guard = none) (s x : Operand) (t : TypeId) (ho : o.op = .call { callee := .builtin .append, args := #[s, x], argTypes := #[t, t] })
    (e : TypeId) (z : Value) (size bytes : Nat) (ht : P.underlying t = some (.slice e)) (hi : (P.info? e).map (fun i => (i.zero, i.size, i.bytes)) = some (some z, size, bytes)) (hzs : z.cells.size = size) (hsz : 0 < size)
    (v : Value) (n : Nat) (xs : List Value) (hs : a.eval s = v) (hown : w.ownsRow 0 e size v n xs) (y : Value) (m : Nat) (news : List Value) (hx : a.eval x = y) (hr : Reads w size y m news) (h63 : n + m ≤ maxLen) (hbytes : (n + m) * bytes ≤ 140737488355328)
    (h : ∀ v' w', Chg (fun k => v.ownBlock = some k) w w' → w'.ownsRow 0 e size v' (n + m) (xs ++ news) → (v'.ownBlock = v.ownBlock ∨ v'.ownBlock = some w.heap.size) → K (a.put o.dst v') w') :
    if Region.wanted o (yielded ops a.tmps) = true then Oper.wp P o a w K Q else E := by
  have hw : Region.wanted o (yielded ops a.tmps) = true := by simp [Region.wanted, hgd]
  rw [if_pos hw]
  obtain ⟨v', w', hr, h2, h3, h4⟩ := run_append_any (P := P) t o.type e z size bytes ht hi hzs hsz v n xs hown y m news hr h63 hbytes
  unfold Oper.wp execOp
  simp only [ho, resolve, invoke, builtin, Sem.run_bind, Sem.run_pure, Result.andThen_ok, List.map_toArray, List.map_cons, List.map_nil, hs, hx, hr]
  exact h v' w' h2 h3 h4
theorem step_clone {ops : Array Oper} {o : Oper} {a : Act} {K : Act → World → Prop} {Q : Exit → Act → World → Prop} {E : Prop} (hgd : o.guard = none) (x : Operand) (t : TypeId) (ho : o.op = .call { callee := .builtin .append, args := #[.const (.slice none 0 0), x], argTypes := #[t, t] })
    (e : TypeId) (z : Value) (size bytes : Nat) (ht : P.underlying t = some (.slice e)) (hi : (P.info? e).map (fun i => (i.zero, i.size, i.bytes)) = some (some z, size, bytes)) (hzs : z.cells.size = size) (hsz : 0 < size)
    (y : Value) (m : Nat) (news : List Value) (hx : a.eval x = y) (hr : Reads w size y m news) (h63 : m ≤ maxLen) (hbytes : m * bytes ≤ 140737488355328)
    (h : ∀ v' w', Chg noBlk w w' → w'.ownsRow 0 e size v' m news → (∀ k, v'.ownBlock = some k → k = w.heap.size) → v'.oneCell' = true → K (a.put o.dst v') w') :
    if Region.wanted o (yielded ops a.tmps) = true then Oper.wp P o a w K Q else E := by
  refine step_append hgd _ x t ho e z size bytes ht hi hzs hsz (.slice none 0 0) 0 [] rfl (World.ownsRow_nil _ _ _ _) y m news hx hr (by omega) (by simpa using hbytes) fun v' w' k o1 o2 => ?_
  rw [Nat.zero_add, List.nil_append] at o1
  refine h v' w' (k.mono fun _ _ e => by simp [Value.ownBlock] at e) o1 (fun k hk => ?_) ?_
  · rcases o2 with o2 | o2 <;> rw [hk] at o2 <;> simp_all [Value.ownBlock]
  · rcases o1.2 with ⟨rfl, _⟩ | ⟨g, cap, cur, rfl, _⟩ <;> rfl
end
/-- cells in the midst of a block written -/
theorem wpL_store_mid {P : Program} {w : World} {ops : Array Oper} {rest : List Oper} {o : Oper} {a : Act} {Q : Exit → Act → World → Prop} (hgd : o.guard = none) (T : TypeId) (x y : Operand) (ho : o.op = .store T x y) (b k : Nat) (cs : Array Value) (hx : a.eval x = .pointer (some ⟨b, k, none⟩)) (hy : a.eval y = .agg cs)
    (ht : w.there b k cs.size) (hi : (P.info? T).map (·.size) = some cs.size) (h1 : cs.all (·.oneCell') = true)
    (h : ∀ w', Chg (oneBlk b) w w' → (∀ b' o' n', w.there b' o' n' → w'.there b' o' n') → wpList P ops Q rest (a.put o.dst undef) w') : wpList P ops Q (o :: rest) a w :=
  wpList_store_mid hgd T x y ho b k cs hx hy ht hi h1 (h _ (setCells_chg w b cs.toList k) fun b' o' n' h => World.there_setCells h _ _ _)
end Go.Proofs.Ytfplgmkbhpdmjaa
/-
  Facts of no program: a struct in the midst of a block, read and written.
-/
namespace Go.Proofs.Ytfplgmkbhpdmjaa
open Go.ChangeShapes Go.WideShapes Go.ChangeAt Go.RowKit
set_option linter.unusedVariables false
/-- the block's cells behind it -/
def laidIn (cs : Array Value) (o : Nat) (vs : List Value) : Array Value := (cs.toList.take o ++ vs ++ cs.toList.drop (o + vs.length)).toArray
theorem setCells_heap (P : Program) {w : World} {b o : Nat} {cs : Array Value} {t : TypeId} {vs : List Value} (h : w.heap[b]? = some (.cells cs t (0, 0))) (ho : o + vs.length ≤ cs.size) (h1 : ∀ v ∈ vs, v.oneCell' = true) :
    (w.setCells b o vs).heap[b]? = some (.cells (laidIn cs o vs) t (0, 0)) := by
  rw [setCells_row P h ho h1]
  exact setRow_heap w b cs _ t _ h
theorem setCells_size (w : World) (b : Nat) : ∀ (vs : List Value) (o : Nat), (w.setCells b o vs).heap.size = w.heap.size
  | [], _ => rfl
  | v :: r, o => (setCells_size (w.setCell ⟨b, o, none⟩ v) b r (o + 1)).trans (by simp [World.setCell])
section
variable {P : Program} {ops : Array Oper} {rest : List Oper} {o : Oper} {a : Act} {w : World} {Q : Exit → Act → World → Prop}
/-- a struct in the midst of a block written -/
theorem wpL_put (hgd : o.guard = none) (T : TypeId) (x y : Operand) (ho : o.op = .store T x y) (b k : Nat) (vs : List Value) (hx : a.eval x = .pointer (some ⟨b, k, none⟩)) (hy : a.eval y = .agg vs.toArray)
    (old : Array Value) (t : TypeId) (hb : w.heap[b]? = some (.cells old t (0, 0))) (hk : k + vs.length ≤ old.size) (hi : (P.info? T).map (·.size) = some vs.length) (h1 : ∀ v ∈ vs, v.oneCell' = true)
    (h : ∀ w', Chg (oneBlk b) w w' → w'.heap[b]? = some (.cells (laidIn old k vs) t (0, 0)) → w'.heap.size = w.heap.size → wpList P ops Q rest (a.put o.dst undef) w') : wpList P ops Q (o :: rest) a w :=
  wpList_store_mid hgd T x y ho b k vs.toArray hx hy (fun j hj => ⟨by rw [cellAt hb (k + j) _ (Array.getElem?_eq_getElem (by simp at hj; omega))]; rfl, freeAt hb _⟩) (by simpa using hi) (all_oneCell_toArray h1)
    (h _ (setCells_chg w b vs k) (setCells_heap P hb hk h1) (setCells_size w b vs k))
/-- a struct in the midst of a block read -/
theorem wpL_take (hgd : o.guard = none) (T : TypeId) (x : Operand) (ho : o.op = .load T x) (b k : Nat) (hx : a.eval x = .pointer (some ⟨b, k, none⟩)) (vs : List Value)
    (cs : Array Value) (t : TypeId) (fr : Nat × Nat) (hb : w.heap[b]? = some (.cells cs t fr)) (hv : ∀ j v, vs[j]? = some v → cs[k + j]? = some v)
    (d : TypeDesc) (hu : P.underlying T = some d) (hd : d.isRow = true) (hi : (P.info? T).map (·.size) = some vs.length)
    (h : wpList P ops Q rest (a.put o.dst (.agg vs.toArray)) w) : wpList P ops Q (o :: rest) a w :=
  wpList_load_mid hgd T x ho b k hx vs d (fun j v hj => cellAt hb _ _ (hv j v hj)) hu hd hi h
end
section
variable {P : Program} {ops : Array Oper} {rest : List Oper} {o : Oper} {a : Act} {w : World} {Q : Exit → Act → World → Prop}
/-- a value of one cell laid into a new variable -/
theorem wpL_box1 (hgd : o.guard = none) (T : TypeId) (x : Operand) (ho : o.op = .box T x) (v : Value) (hx : a.eval x = v) (hv : v.oneCell' = true)
    (h : ∀ (b : Nat) (w' : World), w.heap.size = b → Chg noBlk w w' → w'.heap[b]? = some (.cells #[v] T (0, 0)) → w'.heap.size = b + 1 → wpList P ops Q rest (a.put o.dst (.pointer (some ⟨b, 0, none⟩))) w') : wpList P ops Q (o :: rest) a w :=
  wpList_plain hgd fun K hK => by
    unfold Oper.wp execOp
    have hcs : v.cells = #[v] := by
      cases v <;> first | rfl | simp [Value.oneCell'] at hv
    have hrun : (Instr.box T v).run P w = .ok (.pointer (some ⟨w.heap.size, 0, none⟩)) (w.alloc (.cells #[v] T)) := by
      simp [Instr.box, newVar, newRow, hcs]
    simp only [ho, hx, hrun, Sem.run_bind, Result.andThen_ok]
    exact hK _ _ (h _ _ rfl ((Chg.refl _ _).alloc _) (heap_alloc_new w _) (by simp))
/-- a new variable of one cell -/
theorem wpL_alloc1 (hgd : o.guard = none) (T : TypeId) (ho : o.op = .alloc T) (z : Value) (hz : (P.info? T).bind (·.zero) = some z) (hv : z.oneCell' = true)
    (h : ∀ (b : Nat) (w' : World), w.heap.size = b → Chg noBlk w w' → w'.heap[b]? = some (.cells #[z] T (0, 0)) → w'.heap.size = b + 1 → wpList P ops Q rest (a.put o.dst (.pointer (some ⟨b, 0, none⟩))) w') : wpList P ops Q (o :: rest) a w :=
  wpList_plain hgd fun K hK => by
    unfold Oper.wp execOp
    have hcs : z.cells = #[z] := by
      cases z <;> first | rfl | simp [Value.oneCell'] at hv
    cases hq : P.info? T with
    | none => simp [hq] at hz
    | some i =>
      have hi : i.zero = some z := by simpa [hq] using hz
      have hrun : (Instr.alloc T true (.tuple #[])).run P w = .ok (.pointer (some ⟨w.heap.size, 0, none⟩)) (w.alloc (.cells #[z] T)) := by
        simp [Instr.alloc, zeroValue, typeInfo, hq, hi, newVar, newRow, hcs]
      simp only [ho, hrun, Sem.run_bind, Result.andThen_ok]
      exact hK _ _ (h _ _ rfl ((Chg.refl _ _).alloc _) (heap_alloc_new w _) (by simp))
end
end Go.Proofs.Ytfplgmkbhpdmjaa
