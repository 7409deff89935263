/-
  Operations: what is told of bytes as an operation: plain facts: what is put is got, what is got is put as these.
-/
import Derived.Test.YtfplgmkbhpdmjaaOpsD
namespace Go.Proofs.Ytfplgmkbhpdmjaa
open Go.ChangeShapes Go.WideShapes Go.ChangeAt Go.RowKit
set_option linter.unusedVariables false
/-- what is put stands ahead of whatever is behind it -/
theorem rd_put {o : PT} (h : o.fit) (X : List UInt8) : rdL (rawL o ++ X) = some (o, X) := by
  have k1 := h.k1
  have k4 := h.k4
  have l1 := h.l1
  have l2 := h.l2
  have v0 := h.v0
  have v1 := h.v1
  have U := fun Y => unint_put o.k Y (by omega) (by omega)
  have V := fun Y => unint_put o.ver Y (by omega) (by omega)
  have C := fun Y => cut_put o.key Y (by omega)
  have D := fun Y => cut_put o.val Y (by omega)
  by_cases e2 : o.k = 2
  · have hv2 : hv o.k = true := hv_yes.2 (.inl e2)
    have hn2 : hn o.k = false := hn_no.2 (by omega)
    rw [raw2 e2, List.append_assoc, List.append_assoc]
    have z := h.ver (by omega)
    unfold rdL
    simp only [U, C, D, hv2, hn2]
    simp
    cases o; simp_all
  by_cases e4 : o.k = 4
  · have hv2 : hv o.k = true := hv_yes.2 (.inr e4)
    have hn2 : hn o.k = true := hn_yes.2 e4
    rw [raw4 e4, List.append_assoc, List.append_assoc, List.append_assoc]
    unfold rdL
    simp only [U, C, D, V, hv2, hn2]
    simp
  · have hv2 : hv o.k = false := hv_no.2 ⟨e2, e4⟩
    rw [raw1 e2 e4, List.append_assoc]
    have z := h.ver e4
    have y := h.val e2 e4
    unfold rdL
    simp only [U, C, hv2]
    simp
    cases o; simp_all
/-- what its bytes say, whether they are an operation's or not -/
def cand (l : List UInt8) : PT := ⟨(unintT l).1, (cutT (unintT l).2.1).1, if hv (unintT l).1 = true then (cutT (cutT (unintT l).2.1).2.1).1 else [], if hn (unintT l).1 = true then (unintT (cutT (cutT (unintT l).2.1).2.1).2.1).1 else 0⟩
theorem unint_back {l : List UInt8} {k : Int} {r : List UInt8} (h : unintT l = (k, r, true)) : intL k ++ r = l := by
  rcases unint_ways l with e | ⟨k', r', e, h1, _⟩
  · rw [h] at e; simp at e
  · rw [h] at e; simp at e; obtain ⟨rfl, rfl⟩ := e; exact h1
theorem cut_back {l t r : List UInt8} (h : cutT l = (t, r, true)) : textL t ++ r = l := by
  rcases cut_ways l with e | ⟨k', r', e, h1⟩
  · rw [h] at e; simp at e
  · rw [h] at e; simp at e; obtain ⟨rfl, rfl⟩ := e; exact h1
/-- what is told has just the bytes that stood there -/
theorem rd_raw {l : List UInt8} {o : PT} {r : List UInt8} (h : rdL l = some (o, r)) : rawL o ++ r = l ∧ o = cand l := by
  obtain ⟨k, a, x1, key, b, x2, val, c, x3, ver, d, x4, vb, nb, e1, e2, e3, e4, e5, e6, hw⟩ := rd_ways l
  have hc : cand l = ⟨k, key, if vb = true then val else [], if nb = true then ver else 0⟩ := by unfold cand; rw [e1]; simp only [e2, e3, e4, e5, e6]
  rcases hw with ⟨rfl, hw⟩ | ⟨rfl, rfl, hw⟩ | ⟨rfl, rfl, rfl, rfl, hw⟩ | ⟨rfl, rfl, rfl, rfl, hw⟩ | ⟨rfl, rfl, rfl, rfl, rfl, hw⟩ | ⟨rfl, rfl, rfl, rfl, rfl, rfl, hw⟩ | ⟨rfl, rfl, rfl, rfl, rfl, rfl, hw⟩
  · rw [hw] at h; simp at h
  · rw [hw] at h; simp at h
  · rw [hw] at h; simp at h; obtain ⟨rfl, rfl⟩ := h
    obtain ⟨n2, n4⟩ := hv_no.1 e5
    refine ⟨?_, by rw [hc]; simp⟩
    rw [raw1 n2 n4, List.append_assoc, cut_back e2, unint_back e1]
  · rw [hw] at h; simp at h
  · rw [hw] at h; simp at h; obtain ⟨rfl, rfl⟩ := h
    have n4 := hn_no.1 e6
    have n2 : k = 2 := by rcases hv_yes.1 e5 with h | h; exact h; exact absurd h n4
    refine ⟨?_, by rw [hc]; simp⟩
    rw [raw2 n2, List.append_assoc, List.append_assoc, cut_back e3, cut_back e2, unint_back e1]
  · rw [hw] at h; simp at h
  · rw [hw] at h; simp at h; obtain ⟨rfl, rfl⟩ := h
    refine ⟨?_, by rw [hc]; simp⟩
    rw [raw4 (hn_yes.1 e6), List.append_assoc, List.append_assoc, List.append_assoc, unint_back e4, cut_back e3, cut_back e2, unint_back e1]
/-- the operation of these bytes -/
def getX (l : List UInt8) : Option PT := if chk (cand l) = 0 ∧ rawL (cand l) = l then some (cand l) else none
theorem get_some {l : List UInt8} {o : PT} (h : rdL l = some (o, [])) (hc : chk o = 0) : getX l = some o := by
  obtain ⟨h1, h2⟩ := rd_raw h
  unfold getX
  rw [← h2, if_pos ⟨hc, by simpa using h1⟩]
theorem get_back {l : List UInt8} {o : PT} (h : getX l = some o) : rdL l = some (o, []) ∧ chk o = 0 ∧ rawL o = l := by
  unfold getX at h
  by_cases hc : chk (cand l) = 0 ∧ rawL (cand l) = l
  · rw [if_pos hc] at h; simp at h; subst h
    have := rd_put (chk_fit.1 hc.1) []
    rw [List.append_nil, hc.2] at this
    exact ⟨this, hc⟩
  · rw [if_neg hc] at h; simp at h
theorem get_none {l : List UInt8} (h : rdL l = none) : getX l = none := by
  cases hg : getX l with
  | none => rfl
  | some o => have := (get_back hg).1; rw [h] at this; simp at this
theorem get_rest {l : List UInt8} {o : PT} {r : List UInt8} (h : rdL l = some (o, r)) (hr : r ≠ []) : getX l = none := by
  cases hg : getX l with
  | none => rfl
  | some o => have := (get_back hg).1; rw [h] at this; simp at this; exact absurd this.2 hr
theorem get_bad {l : List UInt8} {o : PT} (h : rdL l = some (o, [])) (hr : chk o ≠ 0) : getX l = none := by
  cases hg : getX l with
  | none => rfl
  | some o => have := get_back hg; rw [h] at this; simp at this; rw [this.1] at hr; exact absurd this.2.1 hr
/-- what is put is got -/
theorem get_put {o : PT} (h : chk o = 0) : getX (rawL o) = some o := by
  have := rd_put (chk_fit.1 h) []
  rw [List.append_nil] at this
  exact get_some this h
/-- with something behind it it is none -/
theorem get_more {o : PT} (h : chk o = 0) (X : List UInt8) (hX : X ≠ []) : getX (rawL o ++ X) = none := get_rest (rd_put (chk_fit.1 h) X) hX
/-- cut off it is none -/
theorem get_less {o : PT} (h : chk o = 0) (n : Nat) (hn : n < (rawL o).length) : getX ((rawL o).take n) = none := by
  cases hg : getX ((rawL o).take n) with
  | none => rfl
  | some p =>
    obtain ⟨h1, h2, h3⟩ := get_back hg
    have e : rawL o = rawL p ++ (rawL o).drop n := by rw [h3, List.take_append_drop]
    have r1 := rd_put (chk_fit.1 h2) ((rawL o).drop n)
    rw [← e] at r1
    have r2 := rd_put (chk_fit.1 h) []
    rw [List.append_nil, r1] at r2
    simp at r2
    omega
/-- what is told of bytes as an operation -/
def getT (l : List UInt8) : Value := .tuple #[.agg (((getX l).getD pZero).cells.toArray), .int .i64 (if (getX l).isSome = true then 0 else 10)]
theorem getT_none {l : List UInt8} (h : getX l = none) : getT l = .tuple #[.agg pZero.cells.toArray, .int .i64 10] := by unfold getT; rw [h]; rfl
theorem getT_some {l : List UInt8} {o : PT} (h : getX l = some o) : getT l = .tuple #[.agg o.cells.toArray, .int .i64 0] := by unfold getT; rw [h]; rfl
end Go.Proofs.Ytfplgmkbhpdmjaa
