/-
  Chains: contracts of the document's at and Check.
-/
import Derived.Test.YtfplgmkbhpdmjaaChainsE
import Derived.Deep.QuietTactic
import Derived.BigQuiet
namespace Go.Proofs.Ytfplgmkbhpdmjaa.Ch
open Go.ChangeShapes Go.WideShapes Go.ChangeAt Go.RowKit
set_option linter.unusedVariables false
section
variable {w : World} {ad : Option Addr} {cap : Nat} {c : CT}
set_option maxRecDepth 100000 in
theorem rat_any (h : Sl w ad cap c.ms) (n : Int) : Calls Try.prog 68 #[chV c (.slice ad c.ms.length cap), .int .i64 n] w (ToldN (.int .i64 (pos n c.ms)) w) := by
  have HL := hide (fun w' (k : Chg noBlk w w') => h.no k)
  have hf := h.few
  clear h
  go_enter Try.func68, Try.ntmps68
  go_wp2_with ((with_reducible show wpList _ _ _ (_ :: _) _ _); refine wpL_box rfl 31 _ rfl (chC c (.slice ad c.ms.length cap)) (by rfl) ?_; intro p w1 e1 k1 g1 z1; have G1 : ChAt w1 p c (.slice ad c.ms.length cap) := g1; have c1 := G1.c1; clear e1 z1 g1 G1)
  go_loop [5] (fun i => ∃ k : Nat, k ≤ c.ms.length ∧ i = .int .i64 (k : Int) ∧ ∀ (j : Nat) x, j < k → c.ms[j]? = some x → x.node ≠ n) (fun i => c.ms.length - (intOf i).toNat)
  case atStart => exact ⟨0, by omega, rfl, fun j x hj => by omega⟩
  case round =>
    obtain ⟨k, hk, rfl, hno⟩ := hrel
    have HN := hide hno
    clear hno
    by_cases hlt : k < c.ms.length
    · obtain ⟨x, hx⟩ : ∃ x, c.ms[k]? = some x := ⟨_, List.getElem?_eq_getElem hlt⟩
      obtain ⟨g, off, rfl, m0, m1⟩ := (unhide HL _ k1).at hx
      have HX := hide hx
      have i1 : (0 : Int) ≤ (k : Int) := by omega
      have i2 : (k : Int) < (c.ms.length : Int) := by omega
      clear hx
      by_cases hn : x.node = n
      · have hb : (x.node == n) = true := by simp [hn]
        have HE := hide (pos_at (unhide HX) hn (unhide HN))
        clear hn
        go_wp2
        go_ret
        exact ⟨ret_int (unhide HE).symm, k1⟩
      · have hb : (x.node == n) = false := by simp [hn]
        have HE := hide (show ∀ (j : Nat) y, j < k + 1 → c.ms[j]? = some y → y.node ≠ n from fun j y hj hy => by
          by_cases e : j = k
          · subst e
            rw [unhide HX] at hy
            cases hy
            exact hn
          · exact unhide HN j y (by omega) hy)
        clear hn
        go_wp2
        go_round
        case rel => exact ⟨k + 1, by omega, by go_num, unhide HE⟩
        case measure => simp [intOf]; omega
    · obtain rfl : k = c.ms.length := by omega
      have HE := hide (pos_no (n := n) (L := c.ms) fun j x hx => unhide HN j x (List.getElem?_eq_some_iff.1 hx).1 hx)
      go_wp2
      go_ret
      exact ⟨ret_int (unhide HE).symm, k1⟩
/-- a member's numbers alone -/
def numB (c : CT) (x : MT) : Bool := decide (0 ≤ x.node ∧ x.node ≤ 5 ∧ 1 ≤ x.since ∧ x.since ≤ c.ep)
theorem num_ways (c : CT) (x : MT) : (x.node < 0 ∧ numB c x = false) ∨ (¬ x.node < 0 ∧ 5 < x.node ∧ numB c x = false) ∨ (¬ x.node < 0 ∧ ¬ 5 < x.node ∧ x.since < 1 ∧ numB c x = false) ∨ (¬ x.node < 0 ∧ ¬ 5 < x.node ∧ ¬ x.since < 1 ∧ c.ep < x.since ∧ numB c x = false) ∨ (¬ x.node < 0 ∧ ¬ 5 < x.node ∧ ¬ x.since < 1 ∧ ¬ c.ep < x.since ∧ numB c x = true) := by
  unfold numB
  by_cases h1 : x.node < 0
  · exact .inl ⟨h1, by simp; omega⟩
  by_cases h2 : 5 < x.node
  · exact .inr (.inl ⟨h1, h2, by simp; omega⟩)
  by_cases h3 : x.since < 1
  · exact .inr (.inr (.inl ⟨h1, h2, h3, by simp; omega⟩))
  by_cases h4 : c.ep < x.since
  · exact .inr (.inr (.inr (.inl ⟨h1, h2, h3, h4, by simp; omega⟩)))
  · exact .inr (.inr (.inr (.inr ⟨h1, h2, h3, h4, by simp; omega⟩)))
theorem num_no {k : Nat} {x : MT} (h : numB c x = false) : memB c k x = false := by
  rw [Bool.eq_false_iff, ne_eq, memB_yes]
  unfold numB at h
  simp only [decide_eq_false_iff_not] at h
  omega
theorem dup_no {j k : Nat} {x y : MT} (hj : j < k) (hy : c.ms[j]? = some y) (he : y.node = x.node) : memB c k x = false := by
  rw [Bool.eq_false_iff, ne_eq, memB_yes]
  rintro ⟨_, hp, _⟩
  rcases pos_ways x.node c.ms with ⟨h1, _⟩ | ⟨i, m, h1, h2, h3, h4⟩
  · omega
  · exact h4 j y (by omega) hy he
theorem dup_yes {k : Nat} {x : MT} (hx : c.ms[k]? = some x) (h : numB c x = true) (hn : ∀ (j : Nat) y, j < k → c.ms[j]? = some y → y.node ≠ x.node) : memB c k x = true := by
  rw [memB_yes]
  unfold numB at h
  simp only [decide_eq_true_eq] at h
  exact ⟨⟨h.1, h.2.1⟩, pos_at hx rfl hn, h.2.2⟩
set_option maxRecDepth 100000 in
set_option maxHeartbeats 1000000 in
theorem rcheck_in (h : Sl w ad cap c.ms) (h1 : 1 ≤ c.ep) (h2 : c.ep ≤ 1099511627776) (h3 : 1 ≤ c.ms.length) (h4 : c.ms.length ≤ 6) :
    Calls Try.prog 60 #[chV c (.slice ad c.ms.length cap)] w (ToldN (.int .i64 (chk c)) w) := by
  have HL := hide (fun w' (k : Chg noBlk w w') => h.no k)
  have HP := hide (fun w' (k : Chg noBlk w w') => rat_any (h.no k) c.dr)
  have n1 : ¬ c.ep < 1 := by omega
  have i3 : (1 : Int) ≤ (c.ms.length : Int) := by omega
  have i4 : (c.ms.length : Int) ≤ 6 := by omega
  have i5 : ((c.ms.length : Int) == 0) = false := beq_eq_false_iff_ne.2 (by omega)
  have ta : True := True.intro
  clear h
  go_enter Try.func60, Try.ntmps60
  go_wp2_with ((with_reducible show wpList _ _ _ (_ :: _) _ _); clear ta; refine wpL_box rfl 31 _ rfl (chC c (.slice ad c.ms.length cap)) (by rfl) ?_; intro p w1 e1 k1 g1 z1; have G1 : ChAt w1 p c (.slice ad c.ms.length cap) := g1; have c0 := G1.c0; have c1 := G1.c1; clear e1 z1 g1)
  have HG := hide G1
  clear G1 c0 c1 i5
  go_loopw [3] (fun i wr => ∃ k : Nat, k ≤ c.ms.length ∧ i = .int .i64 (k : Int) ∧ (∀ (j : Nat) x, j < k → c.ms[j]? = some x → memB c j x = true) ∧ Chg noBlk w1 wr) (fun i wr => c.ms.length - (intOf i).toNat)
  case atStart => exact ⟨0, by omega, rfl, fun j x hj => by omega, Chg.refl _ _⟩
  case round =>
    obtain ⟨k, hk, rfl, hno, hch⟩ := hrel
    have HN := hide hno
    clear hno
    have G := (unhide HG).no hch
    have c0 := G.c0
    have c1 := G.c1
    have c2 := G.c2
    have HR := hide G
    clear G
    by_cases hlt : k < c.ms.length
    · obtain ⟨x, hx⟩ : ∃ x, c.ms[k]? = some x := ⟨_, List.getElem?_eq_getElem hlt⟩
      obtain ⟨g, off, rfl, m0, m1⟩ := (unhide HL _ (k1.andNo hch)).at hx
      have HX := hide hx
      have i1 : (0 : Int) ≤ (k : Int) := by omega
      have i2 : (k : Int) < (c.ms.length : Int) := by omega
      have HW := fun b => hide (leads (b := b) hx (unhide HN))
      clear hx
      have tb : True := True.intro
      rcases num_ways c x with ⟨q1, q⟩ | ⟨q1, q2, q⟩ | ⟨q1, q2, q3, q⟩ | ⟨q1, q2, q3, q4, q⟩ | ⟨q1, q2, q3, q4, q⟩
      all_goals
        have NQ := hide q
        clear q
        go_wp2_with ((with_reducible show wpList _ _ _ (_ :: _) _ _); first
            | (clear tb; refine wpL_alloc rfl 61 rfl _ zero_mem ?_; intro b w2 e2 k2 g2 z2; have E2 := hide (show w1.heap.size ≤ b from Nat.le_trans hch.size (Nat.le_of_eq e2)); clear e2 z2)
            | (refine wpL_store rfl 61 (.tmp 4) (.tmp 37) rfl b x.cells.toArray rfl (by rfl) _ _ g2 info_mem rfl (all_oneCell_toArray (MT.one _)) ?_; intro w3 k3 g3 z3; have K3 := (hch.andNo k2).past k3 (unhide E2); have d0 : w3.cell? ⟨b, 0, none⟩ = some (.int .i64 x.node) := cellAt g3 0 _ rfl; have d1 : w3.cell? ⟨b, 1, none⟩ = some (.int .i64 x.since) := cellAt g3 1 _ rfl; have d2 := ((unhide HG).no K3).c0; have d3 := ((unhide HG).no K3).c1; clear z3))
      all_goals first
        | (go_ret; exact ⟨ret_int (leads_no (unhide (HW false) (num_no (unhide NQ)))), k1.andNo K3⟩)
        | skip
      have HS := hide (fun w' (k : Chg noBlk w3 w') => (⟨k.at g3 id, ((unhide HG).no (K3.andNo k)).c1⟩ : w'.heap[b]? = some (.cells x.cells.toArray 61 (0, 0)) ∧ w'.cell? ⟨p, 1, none⟩ = some (.slice (some ⟨g, off, none⟩) c.ms.length cap)))
      have HM := hide (fun w' (k : Chg noBlk w3 w') (j : Nat) y (hy : c.ms[j]? = some y) => by
        obtain ⟨g', off', e, m0, m1⟩ := (unhide HL _ ((k1.andNo K3).andNo k)).at hy
        cases e
        exact m0)
      go_loopw [5] (fun i wr => ∃ j : Nat, j ≤ k ∧ i = .int .i64 (j : Int) ∧ (∀ (i : Nat) y, i < j → c.ms[i]? = some y → y.node ≠ x.node) ∧ Chg noBlk w3 wr) (fun i wr => k - (intOf i).toNat)
      case atStart => exact ⟨0, by omega, rfl, fun j x hj => by omega, Chg.refl _ _⟩
      case round =>
        obtain ⟨j, hj, rfl, hno, hcj⟩ := hrel
        have HD := hide hno
        clear hno
        obtain ⟨g4, e4⟩ := unhide HS _ hcj
        have f0 : wr.cell? ⟨b, 0, none⟩ = some (.int .i64 x.node) := cellAt g4 0 _ rfl
        have HG4 := hide g4
        clear g4
        by_cases hjk : j < k
        · obtain ⟨y, hy⟩ : ∃ y, c.ms[j]? = some y := ⟨_, List.getElem?_eq_getElem (by omega)⟩
          have v0 := unhide HM _ hcj j y hy
          have HY := hide hy
          have j1 : (0 : Int) ≤ (j : Int) := by omega
          have j2 : (j : Int) < (c.ms.length : Int) := by omega
          clear hy
          by_cases hn : y.node = x.node
          · have hb : (y.node == x.node) = true := by simp [hn]
            have HE := hide (leads_no (unhide (HW false) (dup_no hjk (unhide HY) hn)))
            clear hn
            go_wp2
            go_quiet (fail)
            go_wp2_with fail
            go_ret
            exact ⟨ret_int (unhide HE), k1.andNo (K3.andNo (hcj.drewN _))⟩
          · have hb : (y.node == x.node) = false := by simp [hn]
            have HE := hide (show ∀ (i : Nat) z, i < j + 1 → c.ms[i]? = some z → z.node ≠ x.node from fun i z hi hz => by
              by_cases e : i = j
              · subst e
                rw [unhide HY] at hz
                cases hz
                exact hn
              · exact unhide HD i z (by omega) hz)
            clear hn
            go_wp2
            go_quiet (fail)
            go_wp2_with fail
            go_roundw
            case rel => exact ⟨j + 1, by omega, by go_num, unhide HE, hcj.drewN _⟩
            case measure => simp [intOf]; omega
        · obtain rfl : j = k := by omega
          have HE := hide (leads_yes (unhide (HW true) (dup_yes (unhide HX) (unhide NQ) (unhide HD))))
          go_wp2
          go_roundw
          case rel => exact ⟨j + 1, by omega, by go_num, unhide HE, K3.andNo hcj⟩
          case measure => simp [intOf]; omega
    · obtain rfl : k = c.ms.length := by omega
      have HA := hide (show ∀ (j : Nat) m, c.ms[j]? = some m → memB c j m = true from fun j m hm => unhide HN j m (List.getElem?_eq_some_iff.1 hm).1 hm)
      by_cases q1 : c.dr = -1
      · have d1 : (c.dr != -1) = false := by simp [q1]
        have Q := hide (good_all h1 h2 h3 h4 (unhide HA) (.inl q1))
        clear q1
        go_wp2
        go_ret
        exact ⟨ret_int (unhide Q).symm, k1.andNo hch⟩
      · have d1 : (c.dr != -1) = true := by simp [q1]
        by_cases q2 : pos c.dr c.ms < 0
        · have Q := hide (good_dr q1 q2)
          have d2 : (pos c.dr c.ms == -1) = true := beq_iff_eq.2 (by have := pos_lo c.dr c.ms; omega)
          clear q1
          go_wp2_with (first
            | (go_at_call 68; (with_reducible refine (unhide HP _ (k1.andNo hch)).mono ?_); rintro e w5 ⟨rfl, k5⟩))
          go_ret
          exact ⟨ret_int (unhide Q).symm, k1.andNo (hch.andNo k5)⟩
        · have Q := hide (good_all h1 h2 h3 h4 (unhide HA) (.inr (by omega)))
          have d2 : (pos c.dr c.ms == -1) = false := beq_eq_false_iff_ne.2 (by omega)
          clear q1
          go_wp2_with (first
            | (go_at_call 68; (with_reducible refine (unhide HP _ (k1.andNo hch)).mono ?_); rintro e w5 ⟨rfl, k5⟩))
          go_ret
          exact ⟨ret_int (unhide Q).symm, k1.andNo (hch.andNo k5)⟩
set_option maxRecDepth 100000 in
theorem rcheck_out {w : World} (c : CT) (ad : Option Addr) (cap : Nat) (h : c.ep < 1 ∨ (¬ c.ep < 1 ∧ 1099511627776 < c.ep) ∨ (¬ c.ep < 1 ∧ ¬ 1099511627776 < c.ep ∧ ((c.ms.length : Int) == 0) = true) ∨ (¬ c.ep < 1 ∧ ¬ 1099511627776 < c.ep ∧ ((c.ms.length : Int) == 0) = false ∧ 6 < (c.ms.length : Int))) :
    Calls Try.prog 60 #[chV c (.slice ad c.ms.length cap)] w (ToldN (.int .i64 (chk c)) w) := by
  have Q := hide (show chk c = 2 by
    rcases h with q | ⟨_, q⟩ | ⟨_, _, q⟩ | ⟨_, _, _, q⟩
    · exact good_ep1 q
    · exact good_ep2 (by omega)
    · exact good_len1 (by have := beq_iff_eq.1 q; omega)
    · exact good_len2 (by omega))
  rcases h with q | ⟨q1, q⟩ | ⟨q1, q2, q⟩ | ⟨q1, q2, q3, q⟩
  all_goals
    go_enter Try.func60, Try.ntmps60
    go_wp2_with ((with_reducible show wpList _ _ _ (_ :: _) _ _); refine wpL_box rfl 31 _ rfl (chC c (.slice ad c.ms.length cap)) (by rfl) ?_; intro p w1 e1 k1 g1 z1; have G1 : ChAt w1 p c (.slice ad c.ms.length cap) := g1; have c0 := G1.c0; have c1 := G1.c1; clear e1 z1 g1)
    go_ret
    exact ⟨ret_int (unhide Q).symm, k1⟩
theorem rcheck_any {w : World} {ad : Option Addr} {cap : Nat} {c : CT} (h : Sl w ad cap c.ms) : Calls Try.prog 60 #[chV c (.slice ad c.ms.length cap)] w (ToldN (.int .i64 (chk c)) w) := by
  by_cases h1 : c.ep < 1
  · exact rcheck_out c ad cap (.inl h1)
  by_cases h2 : 1099511627776 < c.ep
  · exact rcheck_out c ad cap (.inr (.inl ⟨h1, h2⟩))
  by_cases h3 : (c.ms.length : Int) = 0
  · exact rcheck_out c ad cap (.inr (.inr (.inl ⟨h1, h2, beq_iff_eq.2 h3⟩)))
  by_cases h4 : 6 < (c.ms.length : Int)
  · exact rcheck_out c ad cap (.inr (.inr (.inr ⟨h1, h2, beq_eq_false_iff_ne.2 h3, h4⟩)))
  · exact rcheck_in h (by omega) (by omega) (by omega) (by omega)
theorem rcheck_yes {w : World} {ad : Option Addr} {cap : Nat} {c : CT} (h : Sl w ad cap c.ms) (g : good c = true) : Calls Try.prog 60 #[chV c (.slice ad c.ms.length cap)] w (ToldN (.int .i64 0) w) := by
  have := rcheck_any h
  rwa [chk_yes g] at this
theorem rcheck_no {w : World} {ad : Option Addr} {cap : Nat} {c : CT} (h : Sl w ad cap c.ms) (g : good c = false) : Calls Try.prog 60 #[chV c (.slice ad c.ms.length cap)] w (ToldN (.int .i64 2) w) := by
  have := rcheck_any h
  rwa [chk_no g] at this
end
#print axioms rcheck_any
end Go.Proofs.Ytfplgmkbhpdmjaa.Ch
