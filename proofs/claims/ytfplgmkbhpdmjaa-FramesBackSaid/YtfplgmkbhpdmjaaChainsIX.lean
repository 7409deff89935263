/-
  Texts of this seat, one behind the other.
-/
import Derived.Test.YtfplgmkbhpdmjaaChainsE
import Derived.Laws.OwnMore
import Derived.OwnWalk
/-
  Chains: contracts of slices.Clone, next, checkNext, checkGo.
-/
namespace Go.Proofs.Ytfplgmkbhpdmjaa.Ch
open Go.ChangeShapes Go.WideShapes Go.ChangeAt Go.RowKit
set_option linter.unusedVariables false
/-- told: a new slice that has L -/
def NewL (L : List MT) (w : World) (x : Ending) (w' : World) : Prop := ∃ v, x = .returned v ∧ Chg noBlk w w' ∧ OwnL w' 61 MT.cells 2 v L ∧ ∀ g, v.ownBlock = some g → w.heap.size ≤ g
theorem own_empty (w : World) : OwnL (w.alloc (.cells #[] 61)) 61 MT.cells 2 (.slice (some ⟨w.heap.size, 0, none⟩) 0 0) [] := by
  refine ⟨by simp [flatC], .inr ⟨w.heap.size, 0, #[], rfl, Nat.zero_le _, heap_alloc_new w _, Nat.le_refl _, by unfold maxLen; omega, by simp, by simp [flatC]⟩⟩
/-- a chain written: met whole -/
def stCh (x y : Value) : Sem Unit := Instr.storeAt 31 x y
theorem stCh_pre (x y : Value) : Instr.storeAt 31 x y = stCh x y := rfl
theorem one_chC {c : CT} {v : Value} (hv : v.oneCell' = true) : ∀ u ∈ (chC c v).toList, u.oneCell' = true := by
  intro u hu
  simp at hu
  rcases hu with rfl | rfl | rfl
  · rfl
  · exact hv
  · rfl
theorem run_stCh {w : World} {b : Nat} {cur : Array Value} {c : CT} {v : Value} (h : w.heap[b]? = some (.cells cur 31 (0, 0))) (hc : cur.size = 3) (hv : v.oneCell' = true) : (stCh (.pointer (some ⟨b, 0, none⟩)) (chV c v)).run Try.prog w = .ok () (w.setCells b 0 (chC c v).toList) := by
  have := run_storeAt_mid (P := Try.prog) w b 0 31 (chC c v) (fun j hj => ⟨by rw [cellAt h (0 + j) (cur[0 + j]'(by simp at hj; omega)) (by simp)]; rfl, freeAt h _⟩) (by rw [info_ch]; rfl) (all_oneCell_toArray (one_chC hv))
  unfold stCh
  simpa using this
theorem put_ch {w : World} {b : Nat} {cur : Array Value} {c : CT} {v : Value} (h : w.heap[b]? = some (.cells cur 31 (0, 0))) (hc : cur.size = 3) (hv : v.oneCell' = true) : ChAt (w.setCells b 0 (chC c v).toList) b c v ∧ Chg (oneBlk b) w (w.setCells b 0 (chC c v).toList) := by
  refine ⟨?_, setCells_chg w b _ 0⟩
  have := setCells_heap Try.prog h (o := 0) (vs := (chC c v).toList) (by simp; omega) (one_chC hv)
  have e : laidIn cur 0 (chC c v).toList = chC c v := by
    unfold laidIn
    rw [List.take_zero, List.nil_append, List.drop_of_length_le (by simp; omega), List.append_nil]
  rw [e] at this
  exact this
/-- told: a chain of its own -/
def NewC (d : CT) (w : World) (x : Ending) (w' : World) : Prop := ∃ v, x = .returned (chV d v) ∧ Chg noBlk w w' ∧ OwnL w' 61 MT.cells 2 v d.ms ∧ ∀ g, v.ownBlock = some g → w.heap.size ≤ g
/-- told: a chain of its own, and a number -/
def NewCE (d : CT) (n : Int) (w : World) (x : Ending) (w' : World) : Prop := ∃ v, x = .returned (.tuple #[chV d v, .int .i64 n]) ∧ Chg noBlk w w' ∧ OwnL w' 61 MT.cells 2 v d.ms ∧ ∀ g, v.ownBlock = some g → w.heap.size ≤ g
theorem ret_ch {fn : Func} {p : Tmp} (h : fn.results = #[.cell p 31]) (tmps : Array Value) (w : World) (g : Nat) (c : CT) (v : Value) (hp : tmps.getD p undef = .pointer (some ⟨g, 0, none⟩)) (hg : ChAt w g c v) : (results fn tmps).run Try.prog w = .ok (chV c v) w :=
  results_cell_row h tmps w g _ (chC c v) _ _ hp hg Try.underlying31 rfl info_ch
theorem ret_ch2 {fn : Func} {p u : Tmp} (h : fn.results = #[.cell p 31, .tmp u]) (tmps : Array Value) (w : World) (g : Nat) (c : CT) (v : Value) (hp : tmps.getD p undef = .pointer (some ⟨g, 0, none⟩)) (hg : ChAt w g c v) : (results fn tmps).run Try.prog w = .ok (.tuple #[chV c v, tmps.getD u undef]) w :=
  results_row_tmp h tmps w g _ (chC c v) _ _ hp hg Try.underlying31 rfl info_ch
section
variable {w : World} {ad : Option Addr} {cap : Nat} {c : CT}
theorem nextE_yes (g : good c = true) (h : c.ep < 1099511627776) : nextE c = 0 := by unfold nextE; rw [if_pos ⟨g, h⟩]
theorem nextE_bad (g : good c = false) : nextE c = 2 := by unfold nextE; rw [if_neg (by simp [g])]
theorem nextE_hi (h : ¬ c.ep < 1099511627776) : nextE c = 2 := by unfold nextE; rw [if_neg (by omega)]
theorem nextE_of (h : nextE c = 0) : good c = true ∧ c.ep < 1099511627776 := by
  unfold nextE at h
  split at h
  · assumption
  · omega
theorem nextE_two (h : nextE c ≠ 0) : nextE c = 2 := by
  unfold nextE at h ⊢
  split at h
  · exact absurd rfl h
  · rename_i q; rw [if_neg q]
theorem go_ways_ (c : CT) (n : Int) : (nextE c = 2 ∧ goE c n = 2) ∨ (nextE c = 0 ∧ pos n c.ms < 0 ∧ goE c n = 4) ∨ (nextE c = 0 ∧ ¬ pos n c.ms < 0 ∧ ((c.ms.length : Int) == 1) = true ∧ goE c n = 72) ∨ (nextE c = 0 ∧ ¬ pos n c.ms < 0 ∧ ((c.ms.length : Int) == 1) = false ∧ goE c n = 0) := by
  unfold goE
  by_cases h1 : nextE c = 0
  · rw [if_neg (by omega)]
    by_cases h2 : pos n c.ms < 0
    · exact .inr (.inl ⟨h1, h2, if_pos h2⟩)
    rw [if_neg h2]
    by_cases h3 : c.ms.length = 1
    · exact .inr (.inr (.inl ⟨h1, h2, beq_iff_eq.2 (by omega), if_pos h3⟩))
    · exact .inr (.inr (.inr ⟨h1, h2, beq_eq_false_iff_ne.2 (by omega), if_neg h3⟩))
  · have h1 := nextE_two h1
    exact .inl ⟨h1, if_pos h1⟩
end
end Go.Proofs.Ytfplgmkbhpdmjaa.Ch
/-
  Chains: contracts of With, Drain.
-/
namespace Go.Proofs.Ytfplgmkbhpdmjaa.Ch
open Go.ChangeShapes Go.WideShapes Go.ChangeAt Go.RowKit
set_option linter.unusedVariables false
section
variable {w : World} {ad : Option Addr} {cap : Nat} {c : CT}
theorem infy_mem : (Try.prog.info? 61).map (fun i => (i.zero, i.size)) = some (some (.agg mZero.cells.toArray), mZero.cells.toArray.size) := by kernel_rfl
theorem app_len (L : List MT) (x : MT) : (L ++ [x]).length = L.length + 1 := by simp
theorem own_far {v : Value} {n q : Nat} (f : ∀ g, v.ownBlock = some g → n ≤ g) (h : q < n) : ¬ v.ownBlock = some q := fun e => by have := f q e; omega
theorem own_not {v : Value} {q : Nat} (h : ¬ v.ownBlock = some q) : ∀ g, v.ownBlock = some g → ¬ oneBlk q g := fun g hg e => by
  have e : g = q := e
  subst e
  exact h hg
theorem own_grown {v v' : Value} {q n : Nat} (h : ¬ v.ownBlock = some q) (f : v'.ownBlock = v.ownBlock ∨ v'.ownBlock = some n) (hq : q < n) : ¬ v'.ownBlock = some q := fun e => by
  rcases f with f | f
  · exact h (f ▸ e)
  · rw [f] at e
    have e := Option.some.inj e
    omega
theorem withC_chg {w w1 w2 w6 w7 w8 w9 w10 w11 w12 : World} {v : Value} {q : Nat} (k1 : Chg noBlk w w1) (k2 : Chg noBlk w1 w2) (k6 : Chg noBlk w2 w6) (k7 : Chg noBlk w6 w7) (f7 : ∀ g, v.ownBlock = some g → w6.heap.size ≤ g) (hq : w1.heap.size ≤ q) (k8 : Chg noBlk w1 w8) (k9 : Chg noBlk w8 w9) (k10 : Chg (fun k => v.ownBlock = some k) w9 w10) (k11 : Chg (oneBlk q) w10 w11) (k12 : Chg (oneBlk q) w11 w12) : Chg noBlk w w12 := by
  have s1 := k1.size
  have s2 := k2.size
  have s6 := k6.size
  have a := k1.andNo (k8.andNo k9)
  have b := a.trans k10 (S := noBlk) fun i hi e => by have := f7 i e; omega
  exact (b.past k11 (by omega)).past k12 (by omega)
theorem withC_new {w w1 w2 w6 w7 w8 w9 : World} {v v' : Value} (k1 : Chg noBlk w w1) (k2 : Chg noBlk w1 w2) (k6 : Chg noBlk w2 w6) (k7 : Chg noBlk w6 w7) (f7 : ∀ g, v.ownBlock = some g → w6.heap.size ≤ g) (k8 : Chg noBlk w1 w8) (k9 : Chg noBlk w8 w9) (f : v'.ownBlock = v.ownBlock ∨ v'.ownBlock = some w9.heap.size) : ∀ g, v'.ownBlock = some g → w.heap.size ≤ g := by
  have s1 := k1.size
  have s2 := k2.size
  have s6 := k6.size
  have s8 := k8.size
  have s9 := k9.size
  intro g hg
  rcases f with f | f
  · have := f7 g (f ▸ hg); omega
  · rw [f] at hg
    have := Option.some.inj hg
    omega
theorem cZero_one : (chC cZero (.slice none 0 0)).all (·.oneCell') = true := all_oneCell_toArray (one_chC (c := cZero) (v := .slice none 0 0) rfl)
theorem newCE_zero {w w' : World} {n : Int} (k : Chg noBlk w w') : NewCE cZero n w (.returned (.tuple #[chV cZero (.slice none 0 0), .int .i64 n])) w' := ⟨_, rfl, k, ownL_nil _ _ _ _, fun g hg => by cases hg⟩
theorem with_ways (c : CT) (n : Int) : (nextE c = 2 ∧ withE c n = 2 ∧ withF c n = cZero) ∨ (nextE c = 0 ∧ mayB n = false ∧ withE c n = 2 ∧ withF c n = cZero) ∨ (nextE c = 0 ∧ mayB n = true ∧ ¬ pos n c.ms < 0 ∧ withE c n = 62 ∧ withF c n = cZero) ∨ (nextE c = 0 ∧ mayB n = true ∧ pos n c.ms < 0 ∧ withE c n = 0 ∧ withF c n = withC c n) := by
  unfold withF withE
  by_cases h1 : nextE c = 0
  · rw [if_neg (show ¬ nextE c = 2 by omega)]
    cases h2 : mayB n
    · exact .inr (.inl ⟨h1, rfl, by simp, by simp⟩)
    by_cases h3 : pos n c.ms < 0
    · exact .inr (.inr (.inr ⟨h1, rfl, h3, by simp [h3], by simp [h3]⟩))
    · exact .inr (.inr (.inl ⟨h1, rfl, h3, by simp [h3], by simp [h3]⟩))
  · have h1 := nextE_two h1
    exact .inl ⟨h1, if_pos h1, by rw [if_pos h1]; rfl⟩
end
end Go.Proofs.Ytfplgmkbhpdmjaa.Ch
/-
  Chains: contracts of Drain, of slices.Delete.
-/
namespace Go.Proofs.Ytfplgmkbhpdmjaa.Ch
open Go.ChangeShapes Go.WideShapes Go.ChangeAt Go.RowKit
set_option linter.unusedVariables false
section
variable {w : World} {ad : Option Addr} {cap : Nat} {c : CT}
theorem goE_of {n : Int} (h : goE c n = 0) : nextE c = 0 ∧ ¬ pos n c.ms < 0 ∧ c.ms.length ≠ 1 := by
  rcases go_ways_ c n with ⟨q1, q⟩ | ⟨q1, q2, q⟩ | ⟨q1, q2, q3, q⟩ | ⟨q1, q2, q3, q⟩
  · omega
  · omega
  · omega
  · exact ⟨q1, q2, by have := beq_eq_false_iff_ne.1 q3; omega⟩
theorem drain_ways (c : CT) (n : Int) : ((goE c n != 0) = true ∧ drainE c n = goE c n ∧ drainF c n = cZero) ∨ (goE c n = 0 ∧ (c.dr != -1) = true ∧ drainE c n = 62 ∧ drainF c n = cZero) ∨ (goE c n = 0 ∧ (c.dr != -1) = false ∧ drainE c n = 0 ∧ drainF c n = drainC c n) := by
  unfold drainF drainE
  by_cases h1 : goE c n = 0
  · by_cases h2 : c.dr = -1
    · exact .inr (.inr ⟨h1, by simp [h2], by simp [h1, h2], by simp [h1, h2]⟩)
    · exact .inr (.inl ⟨h1, by simp [h2], by simp [h1, h2], by simp [h1, h2]⟩)
  · exact .inl ⟨by simp [h1], by simp [h1], by simp [h1]⟩
end
end Go.Proofs.Ytfplgmkbhpdmjaa.Ch
/-
  Chains: a contract of slices.Delete.
-/
namespace Go.Proofs.Ytfplgmkbhpdmjaa.Ch
open Go.ChangeShapes Go.WideShapes Go.ChangeAt Go.RowKit
set_option linter.unusedVariables false
theorem flatC_parts {α : Type} {c : α → List Value} {m : Nat} (hm : ∀ x, (c x).length = m) (L : List α) {k : Nat} (hk : k ≤ L.length) : (flatC c L).take (k * m) = flatC c (L.take k) ∧ (flatC c L).drop (k * m) = flatC c (L.drop k) := by
  have e : flatC c L = flatC c (L.take k) ++ flatC c (L.drop k) := by rw [flatC_app, List.take_append_drop]
  have hl : (flatC c (L.take k)).length = k * m := by rw [flatC_length hm, List.length_take, Nat.min_eq_left hk]
  rw [e]
  exact ⟨by rw [← hl, List.take_left], by rw [← hl, List.drop_left]⟩
section
variable {w : World} {e : TypeId} {g cap n k : Nat} {L : List MT}
theorem own_prefix (h : w.ownsRow 0 e 2 (.slice (some ⟨g, 0, none⟩) n cap) n (flatC MT.cells L)) (hn : n = L.length) (hk : k ≤ n) : w.ownsRow 0 e 2 (.slice (some ⟨g, 0, none⟩) k cap) k (flatC MT.cells (L.take k)) := by
  refine ⟨by rw [flatC_length MT.len, List.length_take, Nat.min_eq_left (by omega)], ?_⟩
  rcases h.2 with ⟨h2, _⟩ | ⟨g', cap', cur, h2, hb, hg, r1, r2, r3, r4⟩
  · cases h2
  · injection h2 with a1 a2 a3
    injection a1 with a1
    injection a1 with a1
    subst a1
    subst a3
    refine .inr ⟨g, cap, cur, rfl, hb, hg, by omega, r2, r3, ?_⟩
    have := (flatC_parts MT.len L (k := k) (by omega)).1
    rw [← this, ← r4, List.take_take, Nat.min_eq_left (Nat.mul_le_mul_right _ hk)]
theorem own_behind (P : Program) {xs vs : List Value} (h : w.ownsRow 0 e 2 (.slice (some ⟨g, 0, none⟩) n cap) n xs) (hv : n * 2 + vs.length ≤ cap * 2) (h1 : ∀ u ∈ vs, u.oneCell' = true) : (w.setCells g (n * 2) vs).ownsRow 0 e 2 (.slice (some ⟨g, 0, none⟩) n cap) n xs := by
  refine ⟨h.1, ?_⟩
  rcases h.2 with ⟨h2, _⟩ | ⟨g', cap', cur, h2, hb, hg, r1, r2, r3, r4⟩
  · cases h2
  · injection h2 with a1 a2 a3
    injection a1 with a1
    injection a1 with a1
    subst a1
    subst a3
    have hs := setCells_heap P hg (o := n * 2) (vs := vs) (by omega) h1
    refine .inr ⟨g, cap, laidIn cur (n * 2) vs, rfl, hb, hs, r1, r2, ?_, ?_⟩
    · unfold laidIn
      simp
      omega
    · unfold laidIn
      rw [← r4, List.append_assoc, List.take_append_of_le_length (by simp; omega), List.take_take, Nat.min_self]
theorem own_there {xs : List Value} (h : w.ownsRow 0 e 2 (.slice (some ⟨g, 0, none⟩) n cap) n xs) {o m : Nat} (hm : o + m ≤ cap * 2) : w.there g o m := by
  rcases h.2 with ⟨h2, _⟩ | ⟨g', cap', cur, h2, hb, hg, r1, r2, r3, r4⟩
  · cases h2
  · injection h2 with a1 a2 a3
    injection a1 with a1
    injection a1 with a1
    subst a1
    subst a3
    intro j hj
    exact ⟨by rw [cellAt hg (o + j) (cur[o + j]'(by omega)) (by simp)]; rfl, freeAt hg _⟩
theorem own_from (h : w.ownsRow 0 e 2 (.slice (some ⟨g, 0, none⟩) n cap) n (flatC MT.cells L)) (hn : n = L.length) (hk : k ≤ n) : ∀ j u, (flatC MT.cells (L.drop k))[j]? = some u → w.cell? ⟨g, k * 2 + j, none⟩ = some u := by
  intro j u hu
  rw [← (flatC_parts MT.len L (k := k) (by omega)).2, List.getElem?_drop] at hu
  have := World.ownsRow.cells h (g := g) rfl (k * 2 + j) u hu
  rwa [Addr.add_mid, Nat.zero_add] at this
/-- told: the slice without one -/
def Cut1 (v : Value) (L : List MT) (w : World) (x : Ending) (w' : World) : Prop := ∃ v', x = .returned v' ∧ Chg (fun i => v.ownBlock = some i) w w' ∧ OwnL w' 61 MT.cells 2 v' L ∧ v'.ownBlock = v.ownBlock
theorem cut_list (L : List MT) (k : Nat) : flatC MT.cells (L.take k) ++ flatC MT.cells (L.drop (k + 1)) = flatC MT.cells (L.eraseIdx k) := by rw [flatC_app, List.eraseIdx_eq_take_drop_succ]
theorem cut_end {w2 : World} {m : Nat} (hn : k + 1 + m = L.length) (hc : k + 1 + m ≤ cap) (o2 : w2.ownsRow 0 61 2 (.slice (some ⟨g, 0, none⟩) (k + m) cap) (k + m) (flatC MT.cells (L.take k) ++ flatC MT.cells (L.drop (k + 1)))) (g2 : w.drew.grownBy w2 (some g)) :
    Cut1 (.slice (some ⟨g, 0, none⟩) (k + 1 + m) cap) (L.eraseIdx k) w (.returned (.slice (some ⟨g, 0, none⟩) (k + m) cap)) (w2.setCells g ((k + m) * 2) (List.replicate (k + 1 + m - (k + m)) mZero.cells).flatten) := by
  rw [show k + 1 + m - (k + m) = 1 by omega, show (List.replicate 1 mZero.cells).flatten = mZero.cells by simp]
  have k2 : Chg (oneBlk g) w w2 := by
    have := (Chg.grown w.drew g2).mono (T := oneBlk g) fun _ _ e => (Option.some.inj e)
    exact ((Chg.refl (oneBlk g) w).drew).trans this fun _ _ e => e
  have k3 : Chg (oneBlk g) w (w2.setCells g ((k + m) * 2) mZero.cells) := k2.trans (setCells_chg w2 g mZero.cells _) fun _ _ e => e
  refine ⟨_, rfl, k3.mono fun i _ e => ?_, ?_, rfl⟩
  · have e : i = g := e
    subst e
    rfl
  · rw [cut_list] at o2
    have hl : (L.eraseIdx k).length = k + m := by rw [List.length_eraseIdx_of_lt (by omega)]; omega
    exact ownL_of (own_behind Try.prog o2 (by have : mZero.cells.length = 2 := rfl; omega) (MT.one _)) hl.symm rfl
end
end Go.Proofs.Ytfplgmkbhpdmjaa.Ch
/-
  Chains: a contract of Without.
-/
namespace Go.Proofs.Ytfplgmkbhpdmjaa.Ch
open Go.ChangeShapes Go.WideShapes Go.ChangeAt Go.RowKit
set_option linter.unusedVariables false
theorem sl_of {w : World} {e : TypeId} {ad : Option Addr} {n cap : Nat} {L : List MT} (h : OwnL w e MT.cells 2 (.slice ad n cap) L) (hf : L.length ≤ 100) (hn : n = L.length) : Sl w ad cap L := by
  subst hn
  obtain ⟨ad', cap', h1, h2⟩ := sl_own h hf
  injection h1 with a1 a2 a3
  subst a1
  subst a3
  exact h2
theorem filter_erase {L : List MT} {k : Nat} {x : MT} {n : Int} (hx : L[k]? = some x) (hn : x.node = n) (h : ∀ (j : Nat) y, L[j]? = some y → y.node = n → j = k) : L.filter (fun m => decide (m.node ≠ n)) = L.eraseIdx k := by
  have hk := (List.getElem?_eq_some_iff.1 hx).1
  have e : L = L.take k ++ x :: L.drop (k + 1) := by
    have h2 := List.take_append_drop k L
    rw [List.drop_eq_getElem_cons hk, (List.getElem?_eq_some_iff.1 hx).2] at h2
    exact h2.symm
  rw [List.eraseIdx_eq_take_drop_succ]
  conv => lhs; rw [e]
  rw [List.filter_append, List.filter_cons, if_neg (by simp [hn])]
  congr 1
  · refine List.filter_eq_self.2 fun y hy => ?_
    obtain ⟨j, hj⟩ := List.mem_iff_getElem?.1 hy
    rw [List.getElem?_take] at hj
    split at hj
    · simp
      intro e
      have := h j y hj e
      omega
    · cases hj
  · refine List.filter_eq_self.2 fun y hy => ?_
    obtain ⟨j, hj⟩ := List.mem_iff_getElem?.1 hy
    rw [List.getElem?_drop] at hj
    simp
    intro e
    have := h _ y hj e
    omega
theorem good_uniq {c : CT} (g : good c = true) {n : Int} {k : Nat} (hk : pos n c.ms = (k : Int)) : ∀ (j : Nat) y, c.ms[j]? = some y → y.node = n → j = k := by
  intro j y hy e
  have := (memB_yes.1 ((good_iff.1 g).mem j y hy)).2.1
  rw [e, hk] at this
  omega
theorem erase_of {c : CT} (g : good c = true) {n : Int} {k : Nat} (hk : pos n c.ms = (k : Int)) (hlt : k < c.ms.length) : c.ms.filter (fun m => decide (m.node ≠ n)) = c.ms.eraseIdx k := by
  rcases pos_ways n c.ms with ⟨h1, _⟩ | ⟨i, m, h1, h2, h3, h4⟩
  · omega
  · obtain rfl : i = k := by omega
    exact filter_erase h2 h3 (good_uniq g hk)
theorem wo_chg {w w1 w2 w3 w9 w10 w13 : World} {v : Value} {q : Nat} (k1 : Chg noBlk w w1) (k2 : Chg noBlk w1 w2) (k3 : Chg noBlk w2 w3) (f7 : ∀ g, v.ownBlock = some g → w3.heap.size ≤ g) (hq : w1.heap.size ≤ q) (k9 : Chg noBlk w1 w9) (k10 : Chg (fun k => v.ownBlock = some k) w9 w10) (k13 : Chg (oneBlk q) w10 w13) : Chg noBlk w w13 := by
  have s1 := k1.size
  have s2 := k2.size
  have s3 := k3.size
  have b := (k1.andNo k9).trans k10 (S := noBlk) fun i hi e => by have := f7 i e; omega
  exact b.past k13 (by omega)
theorem wo_new {w w1 w2 w3 : World} {v v' : Value} (k1 : Chg noBlk w w1) (k2 : Chg noBlk w1 w2) (k3 : Chg noBlk w2 w3) (f7 : ∀ g, v.ownBlock = some g → w3.heap.size ≤ g) (f : v'.ownBlock = v.ownBlock) : ∀ g, v'.ownBlock = some g → w.heap.size ≤ g := by
  have s1 := k1.size
  have s2 := k2.size
  have s3 := k3.size
  intro g hg
  have := f7 g (f ▸ hg)
  omega
section
variable {w : World} {ad : Option Addr} {cap : Nat} {c : CT}
theorem wo_ways (c : CT) (n : Int) : ((goE c n != 0) = true ∧ woF c n = cZero) ∨ (goE c n = 0 ∧ ∃ k : Nat, pos n c.ms = (k : Int) ∧ k < c.ms.length ∧ woF c n = ⟨c.ep + 1, c.ms.eraseIdx k, if c.dr = n then -1 else c.dr⟩) := by
  unfold woF
  by_cases h1 : goE c n = 0
  · have h2 := goE_of h1
    obtain ⟨k, x, hk, hx, _, _⟩ := pos_yes h2.2.1
    have hl := (List.getElem?_eq_some_iff.1 hx).1
    refine .inr ⟨h1, k, hk, hl, ?_⟩
    rw [if_pos h1]
    unfold woC
    rw [erase_of (nextE_of h2.1).1 hk hl]
  · exact .inl ⟨by simp [h1], by simp [h1]⟩
end
end Go.Proofs.Ytfplgmkbhpdmjaa.Ch
