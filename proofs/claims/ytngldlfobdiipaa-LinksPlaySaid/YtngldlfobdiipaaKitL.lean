/-
  Facts of no program: a slice of structs, handed in: a list, each in its cells.
-/
import Derived.Test.YtngldlfobdiipaaKitO
namespace Go.Proofs.Ytngldlfobdiipaa
open Go.ChangeShapes Go.WideShapes Go.ChangeAt Go.RowKit Go.Deep
set_option linter.unusedVariables false
/-- the elements lie in the slice's cells, m each, and are as they should be -/
def RowsIn {α : Type} (cells : α → List Value) (Ok : α → Prop) (m : Nat) (w : World) (ad : Option Addr) (l : List α) : Prop :=
  ∀ (i : Nat) a, l[i]? = some a → Ok a ∧ ∃ b off, ad = some ⟨b, off, none⟩ ∧ w.rangeAt b (off + i * m) (cells a)
theorem rows_in {α H : Type} {enc : TypeId × Value → H} {P : Program} {w : World} {base : Nat} {spare : Nat → Bool} {held : Bool} {fuel : Nat} {t e : TypeId} {x : DataW H × List MemPlace} (cells : α → List Value) (Ok : α → Prop) (m : Nat) (hm : P.cellsOf e = m) (h1 : 0 < m) (ht : P.underlying t = some (.slice e))
    (hdec : ∀ cs n y, DataW.trod enc P w base spare held n e cs = some y → ∃ a, cs = cells a ∧ Ok a) {ad : Option Addr} {len cap : Nat} (h : DataW.trod enc P w base spare held fuel t [.slice ad len cap] = some x) :
    ∃ l : List α, l.length = len ∧ len ≤ 9223372036854775807 ∧ RowsIn cells Ok m w ad l := by
  rcases slice_rows hm ht h with h0 | ⟨a, ln, cp, rows, h0, hl, hmx, hrl, hrows⟩
  · simp only [List.cons.injEq, Value.slice.injEq, and_true] at h0
    obtain ⟨rfl, rfl, rfl⟩ := h0
    exact ⟨[], rfl, by omega, fun i a h => by simp at h⟩
  · simp only [List.cons.injEq, Value.slice.injEq, and_true] at h0
    obtain ⟨rfl, rfl, rfl⟩ := h0
    have hsub : ∀ k, k ≤ rows.length → ∃ l : List α, l.length = k ∧ ∀ (i : Nat) (a : α), l[i]? = some a → rows[i]? = some (cells a) ∧ Ok a := by
      intro k
      induction k with
      | zero => intro _; exact ⟨[], rfl, by simp⟩
      | succ k ih =>
        intro hk
        obtain ⟨l, h1, h2⟩ := ih (by omega)
        have hr := List.getElem?_eq_getElem (l := rows) (i := k) (by omega)
        obtain ⟨_, ⟨n, y, ht⟩, _⟩ := hrows k _ hr
        obtain ⟨b, hb, hok⟩ := hdec _ _ _ ht
        refine ⟨l ++ [b], by simp [h1], fun i c hc => ?_⟩
        by_cases hi : i < l.length
        · rw [List.getElem?_append_left hi] at hc; exact h2 i c hc
        · have hi2 : i = l.length := by
            have := (List.getElem?_eq_some_iff.1 hc).1; simp at this; omega
          subst hi2
          simp at hc
          subst hc
          rw [h1, hr, hb]; exact ⟨rfl, hok⟩
    obtain ⟨l, e1, h2⟩ := hsub rows.length (Nat.le_refl _)
    refine ⟨l, by omega, by unfold maxLen at hmx; omega, fun i b hb => ?_⟩
    obtain ⟨e1, e2⟩ := h2 i b hb
    refine ⟨e2, ?_⟩
    obtain ⟨_, _, hcell⟩ := hrows i _ e1
    obtain ⟨r0, hr0⟩ : ∃ r, rows[0]? = some r := by
      have := (List.getElem?_eq_some_iff.1 e1).1
      exact ⟨_, List.getElem?_eq_getElem (by omega)⟩
    obtain ⟨l0, _, hc0⟩ := hrows 0 r0 hr0
    have z0 := hc0 0 _ (List.getElem?_eq_getElem (by omega))
    rw [Nat.zero_mul] at z0
    obtain ⟨g, off, rfl⟩ := spot_none z0
    refine ⟨g, off, rfl, fun j v hv => ?_⟩
    have := hcell j v hv
    rw [Addr.add_mid] at this
    rwa [Nat.add_assoc]
theorem range_kept {w w' : World} {b o : Nat} {cs : List Value} (h : w.rangeAt b o cs) (k : Chg noBlk w w') : w'.rangeAt b o cs := fun j v hv => k.cell (h j v hv) id
#print axioms rows_in
end Go.Proofs.Ytngldlfobdiipaa
