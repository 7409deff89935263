/-
  Logs: a log's beginnings; one of its entries another one.
-/
import Derived.Test.YtfffgegdcgfakaaLogsL
namespace Go.Proofs.Ytfffgegdcgfakaa
open Go.ChangeShapes Go.WideShapes Go.ChangeAt Go.RowKit
set_option linter.unusedVariables false
theorem take_at {E : List ET} {i j : Nat} {e : ET} (h : (E.take i)[j]? = some e) : j < i ∧ E[j]? = some e := by
  rw [List.getElem?_take] at h
  split at h
  · exact ⟨by assumption, h⟩
  · cases h
/-- each entry may stand behind those ahead of it -/
theorem Fit.next {E : List ET} (h : Fit E) {i : Nat} {x : ET} (hx : E[i]? = some x) : lchk (E.take i) x = 0 := by
  have hi := (List.getElem?_eq_some_iff.1 hx).1
  obtain ⟨h1, h2, h3, h4, h5, h6⟩ := h.ok i x hx
  have hl : (E.take i).length = i := by rw [List.length_take]; omega
  have hf := h.few
  have hs : seqL (E.take i) x.cl < x.seq := by
    rcases lastN_of (E.take i) x.cl (E.take i).length (Nat.le_refl _) with ⟨e1, _⟩ | ⟨j, f, e1, e2, e3, e4, _⟩
    · rw [seqL_zero e1]; omega
    · rw [seqL_at e1 e3]
      obtain ⟨e5, e6⟩ := take_at e3
      exact h.rise j i f x e5 e6 hx e4
  rcases lchk_ways (E.take i) x with ⟨k, _⟩ | ⟨_, k, _⟩ | ⟨_, _, k, _⟩ | ⟨_, _, _, k, _⟩ | ⟨_, _, _, _, k⟩
  · rw [argB_no.2 ⟨h2, h3, h4, h5, h6⟩] at k; cases k
  · omega
  · rw [hl] at k; exact absurd h1 k
  · omega
  · exact k
theorem take_next {E : List ET} {i : Nat} {x : ET} (hx : E[i]? = some x) : E.take i ++ [x] = E.take (i + 1) := by
  have hi := (List.getElem?_eq_some_iff.1 hx).1
  rw [List.take_add_one, hx]
  rfl
/-- with another operation at one place -/
theorem Fit.set {E : List ET} (h : Fit E) {n : Nat} {x : ET} (hx : E[n]? = some x) {o : PT} (h1 : chk o = 0) (h2 : o.k ≠ 1) : Fit (E.set n ⟨x.idx, x.cl, x.seq, o⟩) := by
  have hn := (List.getElem?_eq_some_iff.1 hx).1
  have key : ∀ (i : Nat) e, (E.set n ⟨x.idx, x.cl, x.seq, o⟩)[i]? = some e → ∃ f, E[i]? = some f ∧ e.idx = f.idx ∧ e.cl = f.cl ∧ e.seq = f.seq ∧ (e.op = f.op ∨ e.op = o) := fun i e he => by
    by_cases hi : i = n
    · subst hi
      rw [List.getElem?_set_self hn] at he
      obtain rfl := Option.some.inj he
      exact ⟨x, hx, rfl, rfl, rfl, .inr rfl⟩
    · rw [List.getElem?_set_ne (by omega)] at he
      exact ⟨e, he, rfl, rfl, rfl, .inl rfl⟩
  refine ⟨by rw [List.length_set]; exact h.few, fun i e he => ?_, fun i j e f hij he hf hc => ?_⟩
  · obtain ⟨f, e1, e2, e3, e4, e5⟩ := key i e he
    have k := h.ok i f e1
    refine ⟨by rw [e2]; exact k.1, by rw [e3]; exact k.2.1, by rw [e3]; exact k.2.2.1, by rw [e4]; exact k.2.2.2.1, ?_⟩
    rcases e5 with e5 | e5 <;> rw [e5]
    · exact k.2.2.2.2
    · exact ⟨h1, h2⟩
  · obtain ⟨e', e1, _, e3, e4, _⟩ := key i e he
    obtain ⟨f', f1, _, f3, f4, _⟩ := key j f hf
    rw [e4, f4]
    exact h.rise i j e' f' hij e1 f1 (by rw [← e3, ← f3, hc])
theorem set_eq {E : List ET} {n : Nat} {x y : ET} (hx : E[n]? = some x) : decide (E.set n y = E) = eqEb y x := by
  have hn := (List.getElem?_eq_some_iff.1 hx).1
  unfold eqEb
  by_cases h : y = x
  · subst h
    have : E.set n y = E := by
      refine List.ext_getElem? fun i => ?_
      by_cases hi : i = n
      · subst hi; rw [List.getElem?_set_self hn, hx]
      · rw [List.getElem?_set_ne (by omega)]
    simp [this]
  · have : E.set n y ≠ E := fun e => by
      have e2 := congrArg (fun l : List ET => l[n]?) e
      simp only [List.getElem?_set_self hn, hx] at e2
      exact h (Option.some.inj e2)
    simp [this, h]
theorem beg_set1 {E : List ET} {n : Nat} {x y : ET} (hx : E[n]? = some x) : begB (E.set n y) E = eqEb y x := by
  rw [begB_same (by simp), set_eq hx]
theorem beg_set2 {E : List ET} {n : Nat} {x y : ET} (hx : E[n]? = some x) : begB E (E.set n y) = eqEb y x := by
  rw [begB_same (by simp), ← set_eq hx]
  congr 1
  exact propext ⟨Eq.symm, Eq.symm⟩
theorem begB_nil (E : List ET) : begB [] E = true := by unfold begB; simp
/-- the operation that is put in -/
def xp : PT := ⟨2, [97, 110, 111, 116, 104, 101, 114], [111, 110, 101], 0⟩
theorem xp_ok : chk xp = 0 ∧ xp.k ≠ 1 := by constructor <;> decide
section
variable {α : Type} {c : α → List Value} {m : Nat} {w w' : World} {e : TypeId} {v : Value} {L : List α}
/-- one of the elements written, or a piece of it -/
theorem OwnL.laid (h : OwnL w e c m v L) (hm : ∀ x, (c x).length = m) {g i o : Nat} {x y : α} {vs : List Value} (hv : v.ownBlock = some g) (hx : L[i]? = some x) (ho : o + vs.length ≤ m) (hy : c y = (c x).take o ++ vs ++ (c x).drop (o + vs.length)) :
    ∃ cur, w.heap[g]? = some (.cells cur e (0, 0)) ∧ i * m + o + vs.length ≤ cur.size ∧ ∀ w', w'.heap[g]? = some (.cells (laidIn cur (i * m + o) vs) e (0, 0)) → OwnL w' e c m v (L.set i y) := by
  rcases h.2 with ⟨rfl, _⟩ | ⟨g', cap, cur, rfl, hb0, hb, r1, r2, r3, r4⟩
  · cases hv
  obtain rfl : g' = g := Option.some.inj hv
  have hi := (List.getElem?_eq_some_iff.1 hx).1
  have him : (i + 1) * m ≤ L.length * m := Nat.mul_le_mul_right _ hi
  have hcm : L.length * m ≤ cap * m := Nat.mul_le_mul_right _ r1
  rw [Nat.add_mul, Nat.one_mul] at him
  refine ⟨cur, hb, by omega, fun w' hw => ?_⟩
  have hlen : cur.toList.length = cap * m := by simpa using r3
  have hsz : (laidIn cur (i * m + o) vs).size = cap * m := by
    unfold laidIn
    simp only [List.size_toArray, List.length_append, List.length_take, List.length_drop, hlen]
    omega
  refine ⟨by rw [flatC_length hm, List.length_set], .inr ⟨g', cap, _, by rw [List.length_set], hb0, hw, by rw [List.length_set]; exact r1, r2, hsz, ?_⟩⟩
  rw [List.length_set]
  refine List.ext_getElem? fun j => ?_
  by_cases hj : j < L.length * m
  · have hm0 : 0 < m := by
      rcases Nat.eq_zero_or_pos m with h0 | h0
      · subst h0; simp at hj
      · exact h0
    have ha : j / m < L.length := Nat.div_lt_of_lt_mul (by rw [Nat.mul_comm]; exact hj)
    have hbm : j % m < m := Nat.mod_lt _ hm0
    have hjj : j / m * m + j % m = j := by rw [Nat.mul_comm]; exact Nat.div_add_mod j m
    rw [List.getElem?_take, if_pos hj]
    have hold : ∀ q, q < L.length * m → cur.toList[q]? = (flatC c L)[q]? := fun q hq => by
      rw [← r4, List.getElem?_take, if_pos hq]
    obtain ⟨z, hz⟩ : ∃ z, L[j / m]? = some z := ⟨_, List.getElem?_eq_getElem ha⟩
    have fz := flatC_get hm hz hbm
    rw [hjj] at fz
    have lhs : (laidIn cur (i * m + o) vs).toList[j]? = if j < i * m + o then cur.toList[j]? else if j < i * m + o + vs.length then vs[j - (i * m + o)]? else cur.toList[j]? := by
      unfold laidIn
      simp only
      by_cases h1 : j < i * m + o
      · rw [if_pos h1, List.append_assoc, List.getElem?_append_left (by rw [List.length_take, hlen]; omega), List.getElem?_take, if_pos h1]
      · rw [if_neg h1]
        by_cases h2 : j < i * m + o + vs.length
        · rw [if_pos h2, List.append_assoc, List.getElem?_append_right (by rw [List.length_take, hlen]; omega), List.length_take, hlen, List.getElem?_append_left (by omega)]
          congr 1
          omega
        · rw [if_neg h2, List.getElem?_append_right (by rw [List.length_append, List.length_take, hlen]; omega), List.length_append, List.length_take, hlen, List.getElem?_drop]
          congr 1
          omega
    rw [lhs]
    by_cases hai : j / m = i
    · have hz2 : (L.set i y)[j / m]? = some y := by rw [hai]; exact List.getElem?_set_self hi
      have fy := flatC_get hm hz2 hbm
      rw [hjj] at fy
      rw [fy, hy]
      rw [hai, hx] at hz
      obtain rfl := Option.some.inj hz
      have hjq : j = i * m + j % m := by rw [← hai]; omega
      by_cases h1 : j < i * m + o
      · rw [if_pos h1, hold j hj, fz, List.append_assoc, List.getElem?_append_left (by rw [List.length_take, hm]; omega), List.getElem?_take, if_pos (by omega)]
      · rw [if_neg h1]
        by_cases h2 : j < i * m + o + vs.length
        · rw [if_pos h2, List.append_assoc, List.getElem?_append_right (by rw [List.length_take, hm]; omega), List.length_take, hm, List.getElem?_append_left (by omega)]
          congr 1
          omega
        · rw [if_neg h2, hold j hj, fz, List.getElem?_append_right (by rw [List.length_append, List.length_take, hm]; omega), List.length_append, List.length_take, hm, List.getElem?_drop]
          congr 1
          omega
    · have hz2 : (L.set i y)[j / m]? = some z := by rw [List.getElem?_set_ne (fun e => hai e.symm)]; exact hz
      have fy := flatC_get hm hz2 hbm
      rw [hjj] at fy
      rw [fy, ← fz, ← hold j hj]
      by_cases h1 : j < i * m + o
      · rw [if_pos h1]
      · rw [if_neg h1]
        have : ¬ j < i * m + o + vs.length := fun h2 => by
          have : j / m = i := Nat.div_eq_of_lt_le (by omega) (by rw [Nat.add_mul, Nat.one_mul]; omega)
          exact hai this
        rw [if_neg this]
  · rw [List.getElem?_eq_none (by rw [List.length_take]; omega), List.getElem?_eq_none (by rw [flatC_length hm, List.length_set]; omega)]
end
#print axioms OwnL.laid
end Go.Proofs.Ytfffgegdcgfakaa
