/-
  Facts of no program: an array of two ints, handed in.
-/
import Derived.WalkKit
import Derived.ProofKit
import Derived.OpenShut
namespace Go.Proofs.Ytfmkldhghgbciaa
open Go.ChangeShapes Go.WideShapes Go.ChangeAt Go.RowKit
set_option linter.unusedVariables false
section
variable {P : Program} {w : World} {base : Nat} {t e : TypeId} {v : Value} {n : Nat}
theorem okWide_array {r : Reach} (ht : P.underlying t = some (.array n e)) (h : Value.okWide P w r base t v) : ∃ cs, v = .agg cs ∧ cs.size = P.cellsOf t := by
  simp only [Value.okWide, ht] at h
  obtain ⟨cs, h1, h2, _⟩ := h
  exact ⟨cs, h1, h2⟩
theorem two_ints {H : Type} {enc : TypeId × Value → H} {spare : Nat → Bool} {held : Bool} {fuel : Nat} {x : DataW H × List MemPlace} {k : IntKind} (ht : P.underlying t = some (.array 2 e)) (he : P.underlying e = some (.int k)) (h1 : P.cellsOf e = 1) (h2 : P.cellsOf t = 2) {cs : Array Value} (hs : cs.size = P.cellsOf t)
    (h : DataW.trod enc P w base spare held fuel t cs.toList = some x) : ∃ i j : Int, cs = #[.int k i, .int k j] ∧ (Lit.int k i).wf = true ∧ (Lit.int k j).wf = true := by
  obtain ⟨ys, m1, _, _, _, hl1, hg1⟩ := DataW.trod_array ht h
  rw [h2] at hs
  have g0 := hg1 0 (by omega)
  have g1 := hg1 1 (by omega)
  rw [h1, List.getElem?_eq_getElem (by omega)] at g0 g1
  obtain ⟨x, hx, _, wx⟩ := DataW.trod_int he g0
  obtain ⟨y, hy, _, wy⟩ := DataW.trod_int he g1
  obtain ⟨l⟩ := cs
  match l, hs with
  | [a, b], _ =>
    simp at hx hy
    exact ⟨x, y, by rw [hx, hy], wx, wy⟩
end
#print axioms two_ints
end Go.Proofs.Ytfmkldhghgbciaa
