/-
  Facts of no program: elements of several cells each, one behind the other; a slice of the call's own that has them.
-/
import Derived.Test.YtngldlfobdiipaaKitL
import Derived.Test.YtngldlfobdiipaaKitI
namespace Go.Proofs.Ytngldlfobdiipaa
open Go.ChangeShapes Go.WideShapes Go.ChangeAt Go.RowKit
set_option linter.unusedVariables false
section
variable {α : Type} {c : α → List Value} {m : Nat}
/-- the elements' cells, one behind the other -/
def flatC (c : α → List Value) (L : List α) : List Value := (L.map c).flatten
theorem flatC_cells (hm : ∀ x, (c x).length = m) (L : List α) : ∀ d ∈ L.map c, d.length = m := fun d hd => by
  obtain ⟨x, _, rfl⟩ := List.mem_map.1 hd; exact hm x
theorem flatC_length (hm : ∀ x, (c x).length = m) (L : List α) : (flatC c L).length = L.length * m := by
  unfold flatC; rw [flat_len m _ (flatC_cells hm L), List.length_map]
theorem flatC_one (h1 : ∀ x, ∀ u ∈ c x, u.oneCell' = true) (L : List α) : ∀ u ∈ flatC c L, u.oneCell' = true := fun u hu => by
  obtain ⟨d, hd, hu⟩ := List.mem_flatten.1 hu
  obtain ⟨x, _, rfl⟩ := List.mem_map.1 hd
  exact h1 x u hu
theorem flatC_app (L M : List α) : flatC c L ++ flatC c M = flatC c (L ++ M) := by unfold flatC; simp
theorem flatC_single (x : α) : flatC c [x] = c x := by unfold flatC; simp
theorem flatC_snoc (L : List α) (x : α) : flatC c L ++ c x = flatC c (L ++ [x]) := by rw [← flatC_app, flatC_single]
theorem flatC_get (hm : ∀ x, (c x).length = m) {L : List α} {i : Nat} {x : α} (h : L[i]? = some x) {j : Nat} (hj : j < m) : (flatC c L)[i * m + j]? = (c x)[j]? := by
  unfold flatC
  exact flat_at m _ (flatC_cells hm L) i (c x) (by rw [List.getElem?_map, h]; rfl) j hj
/-- v is a slice of the call's own, that has L -/
def OwnL (w : World) (e : TypeId) (c : α → List Value) (m : Nat) (v : Value) (L : List α) : Prop := w.ownsRow 0 e m v L.length (flatC c L)
theorem ownL_nil (w : World) (e : TypeId) (c : α → List Value) (m : Nat) : OwnL w e c m (.slice none 0 0) [] := World.ownsRow_nil _ _ _ _
variable {w w' : World} {e : TypeId} {v : Value} {L : List α} {S : Nat → Prop}
theorem OwnL.kept (h : OwnL w e c m v L) (k : Chg S w w') (hS : ∀ g, v.ownBlock = some g → ¬ S g) : OwnL w' e c m v L := owns_kept h k hS
theorem OwnL.no (h : OwnL w e c m v L) (k : Chg noBlk w w') : OwnL w' e c m v L := h.kept k fun _ _ => id
theorem OwnL.block (h : OwnL w e c m v L) {g : Nat} (hg : v.ownBlock = some g) : ∃ cur, w.heap[g]? = some (.cells cur e (0, 0)) := by
  rcases h.2 with ⟨rfl, _⟩ | ⟨g', cap, cur, rfl, _, hb, _⟩
  · cases hg
  · obtain rfl : g' = g := Option.some.inj hg
    exact ⟨cur, hb⟩
theorem OwnL.lt (h : OwnL w e c m v L) {g : Nat} (hg : v.ownBlock = some g) : g < w.heap.size := by
  obtain ⟨cur, hb⟩ := h.block hg
  exact lt_of_block hb
theorem OwnL.one (h : OwnL w e c m v L) : v.oneCell' = true := by
  rcases h.2 with ⟨rfl, _⟩ | ⟨g', cap, cur, rfl, _⟩ <;> rfl
theorem OwnL.reads (h : OwnL w e c m v L) (h1 : ∀ x, ∀ u ∈ c x, u.oneCell' = true) : Reads w m v L.length (flatC c L) := (holds_own h (flatC_one h1 L)).reads
/-- as a slice, with its elements -/
theorem OwnL.form (h : OwnL w e c m v L) (hm : ∀ x, (c x).length = m) : ∃ ad cap, v = .slice ad L.length cap ∧ L.length ≤ cap ∧ cap ≤ maxLen ∧ RowsIn c (fun _ => True) m w ad L := by
  rcases h.2 with ⟨rfl, hz⟩ | ⟨g, cap, cur, rfl, hbase, hb, r1, r2, r3, r4⟩
  · have : L = [] := List.eq_nil_of_length_eq_zero hz
    subst this
    exact ⟨none, 0, rfl, by simp, by unfold maxLen; omega, fun i a h => by simp at h⟩
  · refine ⟨some ⟨g, 0, none⟩, cap, rfl, r1, r2, fun i x hx => ⟨trivial, g, 0, rfl, fun j u hu => ?_⟩⟩
    have hj : j < m := by
      have := (List.getElem?_eq_some_iff.1 hu).1
      rwa [hm] at this
    have e := flatC_get hm hx hj
    rw [hu] at e
    have := World.ownsRow.cells h (g := g) rfl (i * m + j) u e
    rwa [Addr.add_mid, ← Nat.add_assoc] at this
theorem rows_no {Ok : α → Prop} {ad : Option Addr} (h : RowsIn c Ok m w ad L) (k : Chg noBlk w w') : RowsIn c Ok m w' ad L := fun i x hx => by
  obtain ⟨t, g, off, e, hr⟩ := h i x hx
  exact ⟨t, g, off, e, range_kept hr k⟩
theorem rows_take {Ok : α → Prop} {ad : Option Addr} (h : RowsIn c Ok m w ad L) (k : Nat) : RowsIn c Ok m w ad (L.take k) := fun i x hx => h i x (by
  rw [List.getElem?_take] at hx
  split at hx
  · exact hx
  · cases hx)
theorem ownL_of {n : Nat} {xs : List Value} (h : w.ownsRow 0 e m v n xs) (hn : n = L.length) (hx : xs = flatC c L) : OwnL w e c m v L := by subst hn; subst hx; exact h
end
/-- blocks of two types are two -/
theorem ne_type {w : World} {b g : Nat} {c1 c2 : Array Value} {T1 T2 : TypeId} {f1 f2 : Nat × Nat} (h1 : w.heap[b]? = some (.cells c1 T1 f1)) (h2 : w.heap[g]? = some (.cells c2 T2 f2)) (h : T1 ≠ T2) : b ≠ g := fun e => by
  subst e
  rw [h1] at h2
  injection h2 with h2
  injection h2 with h3 h4
  exact h h4
/-- a slice of one new element -/
theorem reads_new1 {W W' : World} {cs : List Value} {t : TypeId} {m : Nat} (k : Chg noBlk (W.alloc (.cells cs.toArray t)) W') (hm : cs.length = m) (h1 : ∀ u ∈ cs, u.oneCell' = true) : Reads W' m (.slice (some ⟨W.heap.size, 0, none⟩) 1 1) 1 cs := by
  refine ⟨by omega, h1, .inr ⟨_, 1, rfl, by omega, fun j u hu => ?_⟩⟩
  rw [Addr.add_mid]
  exact cellAt (k.at (heap_alloc_new W _) id) (0 + j) u (by rw [Nat.zero_add]; simpa using hu)
theorem reads_at1 {W : World} {cs : List Value} {t : TypeId} {m b : Nat} (h : W.heap[b]? = some (.cells cs.toArray t (0, 0))) (hm : cs.length = m) (h1 : ∀ u ∈ cs, u.oneCell' = true) : Reads W m (.slice (some ⟨b, 0, none⟩) 1 1) 1 cs := by
  refine ⟨by omega, h1, .inr ⟨_, 1, rfl, by omega, fun j u hu => ?_⟩⟩
  rw [Addr.add_mid]
  exact cellAt h (0 + j) u (by rw [Nat.zero_add]; simpa using hu)
/-- of one slice of the call's own, one more element -/
theorem ownL_grew {α : Type} {c : α → List Value} {m : Nat} {w' : World} {e : TypeId} {v' : Value} {L : List α} {x : α} (h : w'.ownsRow 0 e m v' (L.length + 1) (flatC c L ++ c x)) : OwnL w' e c m v' (L ++ [x]) :=
  ownL_of h (by simp) (flatC_snoc L x)
#print axioms OwnL.form
#print axioms reads_new1
end Go.Proofs.Ytngldlfobdiipaa
