/-
  Chains: plain facts: the next chain may be; without what it was given it is the one ahead; from the head to the tail.
-/
import Derived.Test.YtiapkmncgafofaaChainsM
namespace Go.Proofs.Ytiapkmncgafofaa
open Go.ChangeShapes Go.WideShapes Go.ChangeAt Go.RowKit
set_option linter.unusedVariables false
/-- distinct numbers below k are at most k -/
theorem pigeon : ∀ (k : Nat) (L : List Int), (∀ x ∈ L, 0 ≤ x ∧ x < (k : Int)) → L.Nodup → L.length ≤ k
  | 0, L, h, _ => by
    cases L with
    | nil => simp
    | cons a r => have := h a (by simp); omega
  | k + 1, L, h, hn => by
    by_cases hk : (k : Int) ∈ L
    · have h1 := pigeon k (L.erase (k : Int)) (fun x hx => by
        have h2 := (hn.mem_erase_iff).1 hx
        have := h x h2.2
        have := h2.1
        omega) (hn.erase _)
      rw [List.length_erase_of_mem hk] at h1
      omega
    · have h1 := pigeon k L (fun x hx => by
        have := h x hx
        have : x ≠ (k : Int) := fun e => hk (e ▸ hx)
        omega) hn
      omega
/-- may the chain be, in other words -/
structure GoodN (c : CT) : Prop where
  ep1 : 1 ≤ c.ep
  ep2 : c.ep ≤ 1099511627776
  len1 : 1 ≤ c.ms.length
  len2 : c.ms.length ≤ 6
  mem : ∀ x ∈ c.ms, (0 ≤ x.node ∧ x.node ≤ 5) ∧ 1 ≤ x.since ∧ x.since ≤ c.ep
  one : (c.ms.map (·.node)).Nodup
  dr : c.dr = -1 ∨ ∃ x ∈ c.ms, x.node = c.dr
theorem pos_mem {n : Int} {L : List MT} : 0 ≤ pos n L ↔ ∃ x ∈ L, x.node = n := by
  constructor
  · intro h
    obtain ⟨i, m, _, hx, hn, _⟩ := pos_yes (show ¬ pos n L < 0 by omega)
    exact ⟨m, List.mem_of_getElem? hx, hn⟩
  · rintro ⟨x, hx, hn⟩
    rcases pos_ways n L with ⟨_, h⟩ | ⟨i, m, h, _⟩
    · obtain ⟨j, hj⟩ := List.mem_iff_getElem?.1 hx
      exact absurd hn (h j x hj)
    · omega
theorem pos_gone {n : Int} {L : List MT} (h : pos n L < 0) : ∀ x ∈ L, x.node ≠ n := fun x hx e => by
  have := pos_mem.2 ⟨x, hx, e⟩
  omega
theorem nodup_at {L : List MT} (h : (L.map (·.node)).Nodup) {i j : Nat} {x y : MT} (hx : L[i]? = some x) (hy : L[j]? = some y) (e : x.node = y.node) : i = j := by
  have hi := (List.getElem?_eq_some_iff.1 hx)
  have hj := (List.getElem?_eq_some_iff.1 hy)
  obtain ⟨hi, rfl⟩ := hi
  obtain ⟨hj, rfl⟩ := hj
  have := (List.getElem_inj (xs := L.map (·.node)) (i := i) (j := j) (h₀ := by simpa using hi) (h₁ := by simpa using hj) h).1 (by simpa using e)
  exact this
theorem pos_nodup {L : List MT} (h : (L.map (·.node)).Nodup) {i : Nat} {x : MT} (hx : L[i]? = some x) : pos x.node L = (i : Int) :=
  pos_at hx rfl fun j y hj hy e => by have := nodup_at h hy hx e; omega
theorem goodN {c : CT} : good c = true ↔ GoodN c := by
  rw [good_iff]
  constructor
  · intro g
    refine ⟨g.ep1, g.ep2, g.len1, g.len2, fun x hx => ?_, ?_, ?_⟩
    · obtain ⟨k, hk⟩ := List.mem_iff_getElem?.1 hx
      have := memB_yes.1 (g.mem k x hk)
      exact ⟨this.1, this.2.2⟩
    · rw [List.nodup_iff_pairwise_ne, List.pairwise_iff_getElem]
      intro i j hi hj hlt e
      simp only [List.length_map] at hi hj
      simp only [List.getElem_map] at e
      have h1 := memB_yes.1 (g.mem i _ (List.getElem?_eq_getElem hi))
      have h2 := memB_yes.1 (g.mem j _ (List.getElem?_eq_getElem hj))
      rw [e] at h1
      omega
    · rcases g.dr with h | h
      · exact .inl h
      · exact .inr (pos_mem.1 h)
  · intro g
    refine ⟨g.ep1, g.ep2, g.len1, g.len2, fun k m hk => ?_, ?_⟩
    · have := g.mem m (List.mem_of_getElem? hk)
      exact memB_yes.2 ⟨this.1, pos_nodup g.one hk, this.2⟩
    · rcases g.dr with h | h
      · exact .inl h
      · exact .inr (pos_mem.2 h)
theorem withE_of {c : CT} {n : Int} (h : withE c n = 0) : good c = true ∧ c.ep < 1099511627776 ∧ (0 ≤ n ∧ n ≤ 5) ∧ pos n c.ms < 0 := by
  rcases with_ways c n with ⟨_, q, _⟩ | ⟨_, _, q, _⟩ | ⟨_, _, _, q, _⟩ | ⟨q1, q2, q3, _, _⟩
  · omega
  · omega
  · omega
  · have := nextE_of q1
    exact ⟨this.1, this.2, mayB_yes.1 q2, q3⟩
theorem good_with {c : CT} {n : Int} (h : withE c n = 0) : good (withC c n) = true := by
  obtain ⟨g, he, hn, hp⟩ := withE_of h
  have g := goodN.1 g
  have hg := pos_gone hp
  have hnd : ((withC c n).ms.map (·.node)).Nodup := by
    show ((c.ms ++ [(⟨n, c.ep + 1⟩ : MT)]).map (·.node)).Nodup
    rw [List.map_append, List.nodup_append]
    refine ⟨g.one, by simp, fun a ha b hb e => ?_⟩
    obtain ⟨x, hx, rfl⟩ := List.mem_map.1 ha
    simp at hb
    exact hg x hx (by rw [e, hb])
  have hm : ∀ x ∈ (withC c n).ms, (0 ≤ x.node ∧ x.node ≤ 5) ∧ 1 ≤ x.since ∧ x.since ≤ (withC c n).ep := fun x hx => by
    show _ ∧ _ ∧ x.since ≤ c.ep + 1
    rcases List.mem_append.1 hx with hx | hx
    · have := g.mem x hx
      omega
    · simp at hx
      subst hx
      have := g.ep1
      exact ⟨hn, by show 1 ≤ c.ep + 1; omega, Int.le_refl _⟩
  have hl : (withC c n).ms.length ≤ 6 := by
    have := pigeon 6 ((withC c n).ms.map (·.node)) (fun x hx => by
      obtain ⟨y, hy, rfl⟩ := List.mem_map.1 hx
      have := (hm y hy).1
      omega) hnd
    simpa using this
  refine goodN.2 ⟨by show 1 ≤ c.ep + 1; have := g.ep1; omega, by show c.ep + 1 ≤ _; omega, by simp [withC], hl, hm, hnd, ?_⟩
  rcases g.dr with h | ⟨x, hx, e⟩
  · exact .inl h
  · exact .inr ⟨x, List.mem_append_left _ hx, e⟩
theorem dr_not {c : CT} {n : Int} (g : good c = true) (hp : pos n c.ms < 0) (hn : 0 ≤ n) : c.dr ≠ n := by
  have g := goodN.1 g
  rcases g.dr with h | ⟨x, hx, e⟩
  · omega
  · exact fun e2 => pos_gone hp x hx (by rw [e, e2])
theorem tail_with {c : CT} {n : Int} (h : withE c n = 0) : tailF (withC c n) = n := by
  have e : (withC c n).ms[(withC c n).ms.length - 1]? = some ⟨n, c.ep + 1⟩ := by
    show (c.ms ++ [(⟨n, c.ep + 1⟩ : MT)])[(c.ms ++ [(⟨n, c.ep + 1⟩ : MT)]).length - 1]? = _
    simp
  unfold tailF
  rw [show ((withC c n).ms.length : Int) - 1 = (((withC c n).ms.length - 1 : Nat) : Int) by have : (withC c n).ms.length = c.ms.length + 1 := by simp [withC]
                                                                                            omega]
  rw [nodeA_at (good_with h) e]
theorem since_with {c : CT} {n : Int} (h : withE c n = 0) : sinceF (withC c n) n = (c.ep + 1, true) := by
  have g := good_with h
  have e : (withC c n).ms[c.ms.length]? = some ⟨n, c.ep + 1⟩ := by
    show (c.ms ++ [(⟨n, c.ep + 1⟩ : MT)])[c.ms.length]? = _
    simp
  have := pos_nodup (goodN.1 g).one e
  exact sinceF_at g this e
theorem filter_with {c : CT} {n : Int} (hp : pos n c.ms < 0) : (c.ms ++ [(⟨n, c.ep + 1⟩ : MT)]).filter (fun m => decide (m.node ≠ n)) = c.ms := by
  rw [List.filter_append, List.filter_eq_self.2 (fun x hx => by simpa using pos_gone hp x hx)]
  simp
/-- with a node, and without it again -/
theorem wo_with {c : CT} {n : Int} (h : withE c n = 0) (he : c.ep + 1 < 1099511627776) : goE (withC c n) n = 0 ∧ woF (withC c n) n = ⟨c.ep + 2, c.ms, c.dr⟩ := by
  obtain ⟨g, he2, hn, hp⟩ := withE_of h
  have gd := good_with h
  have hl := (good_iff.1 g).len1
  have e : (withC c n).ms[c.ms.length]? = some ⟨n, c.ep + 1⟩ := by
    show (c.ms ++ [(⟨n, c.ep + 1⟩ : MT)])[c.ms.length]? = _
    simp
  have hpos := pos_nodup (goodN.1 gd).one e
  have h0 : goE (withC c n) n = 0 := by
    rcases go_ways_ (withC c n) n with ⟨q1, q⟩ | ⟨q1, q2, q⟩ | ⟨q1, q2, q3, q⟩ | ⟨q1, q2, q3, q⟩
    · rw [nextE_yes gd he] at q1; omega
    · simp only at hpos; omega
    · have := beq_iff_eq.1 q3
      have : (withC c n).ms.length = c.ms.length + 1 := by simp [withC]
      omega
    · exact q
  refine ⟨h0, ?_⟩
  unfold woF
  rw [if_pos h0]
  unfold woC
  have e1 : (withC c n).ms.filter (fun m => decide (m.node ≠ n)) = c.ms := filter_with hp
  have e2 : (withC c n).dr = c.dr := rfl
  rw [e1, e2, if_neg (dr_not g hp hn.1)]
  show (⟨c.ep + 1 + 1, _, _⟩ : CT) = _
  rw [show c.ep + 1 + 1 = c.ep + 2 by omega]
theorem wo_top {c : CT} {n : Int} (h : withE c n = 0) (he : ¬ c.ep + 1 < 1099511627776) : goE (withC c n) n = 2 ∧ woF (withC c n) n = cZero := by
  have h0 : goE (withC c n) n = 2 := by
    rcases go_ways_ (withC c n) n with ⟨q1, q⟩ | ⟨q1, q2, q⟩ | ⟨q1, q2, q3, q⟩ | ⟨q1, q2, q3, q⟩
    · exact q
    all_goals
      rw [nextE_hi (c := withC c n) he] at q1
      omega
  exact ⟨h0, by unfold woF; rw [if_neg (by omega)]⟩
/-- without a member it may be, and has one less -/
theorem good_wo {c : CT} {n : Int} (h : goE c n = 0) : good (woF c n) = true ∧ (woF c n).ep = c.ep + 1 ∧ (woF c n).ms.length + 1 = c.ms.length := by
  obtain ⟨h1, h2, h3⟩ := goE_of h
  obtain ⟨gg, he⟩ := nextE_of h1
  obtain ⟨k, x, hk, hx, _, _⟩ := pos_yes h2
  have hlt := (List.getElem?_eq_some_iff.1 hx).1
  have g := goodN.1 gg
  unfold woF
  rw [if_pos h]
  have hl : (woC c n).ms.length + 1 = c.ms.length := by
    show (c.ms.filter (fun m => decide (m.node ≠ n))).length + 1 = _
    rw [erase_of gg hk hlt, List.length_eraseIdx_of_lt hlt]
    omega
  refine ⟨goodN.2 ⟨by show 1 ≤ c.ep + 1; have := g.ep1; omega, by show c.ep + 1 ≤ _; omega, by omega, by have := g.len2; omega, fun x hx => ?_, ?_, ?_⟩, rfl, hl⟩
  · have hx : x ∈ c.ms := (List.mem_filter.1 hx).1
    have := g.mem x hx
    show _ ∧ _ ∧ x.since ≤ c.ep + 1
    omega
  · exact g.one.sublist (List.Sublist.map _ List.filter_sublist)
  · show (if c.dr = n then -1 else c.dr) = -1 ∨ ∃ x ∈ c.ms.filter (fun m => decide (m.node ≠ n)), x.node = (if c.dr = n then -1 else c.dr)
    by_cases hd : c.dr = n
    · exact .inl (if_pos hd)
    · rw [if_neg hd]
      rcases g.dr with h | ⟨x, hx, e⟩
      · exact .inl h
      · exact .inr ⟨x, List.mem_filter.2 ⟨hx, by simp [e, hd]⟩, e⟩
theorem drainE_of {c : CT} {n : Int} (h : drainE c n = 0) : goE c n = 0 ∧ drainF c n = drainC c n := by
  rcases drain_ways c n with ⟨q1, q, _⟩ | ⟨q1, _, q, _⟩ | ⟨q1, _, _, q⟩
  · rw [q] at h; rw [h] at q1; simp at q1
  · omega
  · exact ⟨q1, q⟩
theorem good_drain {c : CT} {n : Int} (h : drainE c n = 0) : good (drainF c n) = true ∧ (drainF c n).dr = n ∧ (drainF c n).ep = c.ep + 1 := by
  obtain ⟨h0, hf⟩ := drainE_of h
  obtain ⟨h1, h2, _⟩ := goE_of h0
  obtain ⟨gg, he⟩ := nextE_of h1
  have g := goodN.1 gg
  rw [hf]
  refine ⟨goodN.2 ⟨by show 1 ≤ c.ep + 1; have := g.ep1; omega, by show c.ep + 1 ≤ _; omega, g.len1, g.len2, fun x hx => ?_, g.one, .inr (pos_mem.1 (by show 0 ≤ pos n c.ms; omega))⟩, rfl, rfl⟩
  have := g.mem x hx
  show _ ∧ _ ∧ x.since ≤ c.ep + 1
  omega
theorem since_wo (c : CT) (n : Int) : (sinceF (woF c n) n).2 = false := by
  have : pos n (woF c n).ms < 0 := by
    unfold woF
    split
    · rcases Int.lt_or_le (pos n (woC c n).ms) 0 with h | h
      · exact h
      · obtain ⟨x, hx, e⟩ := pos_mem.1 h
        have := (List.mem_filter.1 hx).2
        simp at this
        exact absurd e this
    · show (-1 : Int) < 0
      decide
  rw [sinceF_none this]
/-! ### from the head to the tail -/
theorem head_at {c : CT} {x : MT} (g : good c = true) (hx : c.ms[0]? = some x) : headF c = x.node := nodeA_at (k := 0) g hx
theorem next_at {c : CT} {k : Nat} {x y : MT} (g : good c = true) (hx : c.ms[k]? = some x) (hy : c.ms[k + 1]? = some y) : stepF c x.node 1 = y.node := by
  have hp := pos_nodup (goodN.1 g).one hx
  rw [stepF_at (by omega), hp]
  exact nodeA_at (k := k + 1) g hy
theorem next_end {c : CT} {k : Nat} {x : MT} (g : good c = true) (hx : c.ms[k]? = some x) (hk : k + 1 = c.ms.length) : stepF c x.node 1 = -1 := by
  have hp := pos_nodup (goodN.1 g).one hx
  rw [stepF_at (by omega), hp, nodeA_hi (by omega)]
theorem prev_at {c : CT} {k : Nat} {x y : MT} (g : good c = true) (hx : c.ms[k]? = some x) (hy : c.ms[k + 1]? = some y) : stepF c y.node (-1) = x.node := by
  have hp := pos_nodup (goodN.1 g).one hy
  rw [stepF_at (by omega), hp, show ((k + 1 : Nat) : Int) + -1 = (k : Int) by omega, nodeA_at g hx]
theorem prev_end {c : CT} {x : MT} (g : good c = true) (hx : c.ms[0]? = some x) : stepF c x.node (-1) = -1 := by
  have hp := pos_nodup (goodN.1 g).one hx
  rw [stepF_at (by omega), hp, nodeA_lo (by omega)]
end Go.Proofs.Ytiapkmncgafofaa
