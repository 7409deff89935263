/-
  Chains: contracts of the document's Ends, Step, Since; of what the laws ask of a chain's ends.
-/
import Derived.Test.YtiapkmncgafofaaChainsF
namespace Go.Proofs.Ytiapkmncgafofaa
open Go.ChangeShapes Go.WideShapes Go.ChangeAt Go.RowKit
set_option linter.unusedVariables false
theorem tailF_at {c : CT} {x : MT} (h : good c = true) (hx : c.ms[c.ms.length - 1]? = some x) : tailF c = x.node := by
  have hl : 0 < c.ms.length := by have := (List.getElem?_eq_some_iff.1 hx).1; omega
  unfold tailF
  rw [show (c.ms.length : Int) - 1 = ((c.ms.length - 1 : Nat) : Int) by omega, nodeA_at h hx]
theorem step_ways (c : CT) (n b : Int) : (good c = false ∧ stepF c n b = -1) ∨ (good c = true ∧ pos n c.ms < 0 ∧ stepF c n b = -1) ∨ (good c = true ∧ ¬ pos n c.ms < 0 ∧ pos n c.ms + b < 0 ∧ stepF c n b = -1) ∨ (good c = true ∧ ¬ pos n c.ms < 0 ∧ ¬ pos n c.ms + b < 0 ∧ (c.ms.length : Int) ≤ pos n c.ms + b ∧ stepF c n b = -1) ∨
    ∃ (k : Nat) (x : MT), good c = true ∧ ¬ pos n c.ms < 0 ∧ pos n c.ms + b = (k : Int) ∧ c.ms[k]? = some x ∧ stepF c n b = x.node := by
  by_cases h2 : pos n c.ms < 0
  · cases h1 : good c
    · exact .inl ⟨rfl, stepF_no h2⟩
    · exact .inr (.inl ⟨rfl, h2, stepF_no h2⟩)
  cases h1 : good c
  · exact .inl ⟨rfl, by rw [stepF_at h2, nodeA_bad h1]⟩
  by_cases h3 : pos n c.ms + b < 0
  · exact .inr (.inr (.inl ⟨rfl, h2, h3, by rw [stepF_at h2, nodeA_lo h3]⟩))
  by_cases h4 : (c.ms.length : Int) ≤ pos n c.ms + b
  · exact .inr (.inr (.inr (.inl ⟨rfl, h2, h3, h4, by rw [stepF_at h2, nodeA_hi h4]⟩)))
  · obtain ⟨k, hk⟩ := Int.eq_ofNat_of_zero_le (show 0 ≤ pos n c.ms + b by omega)
    have hx : c.ms[k]? = some (c.ms[k]'(by omega)) := List.getElem?_eq_getElem (by omega)
    exact .inr (.inr (.inr (.inr ⟨k, _, rfl, h2, hk, hx, by rw [stepF_at h2, hk, nodeA_at h1 hx]⟩)))
section
variable {w : World} {ad : Option Addr} {cap : Nat} {c : CT}
set_option maxRecDepth 100000 in
theorem rends_any (h : Sl w ad cap c.ms) : Calls Try.prog 30 #[chV c (.slice ad c.ms.length cap)] w (ToldN (.tuple #[.int .i64 (headF c), .int .i64 (tailF c)]) w) := by
  cases hg : good c
  · have HC := hide (fun w' (k : Chg noBlk w w') => rcheck_no (h.no k) hg)
    have HE := hide (show headF c = -1 ∧ tailF c = -1 from ⟨nodeA_bad hg _, nodeA_bad hg _⟩)
    clear h hg
    go_enter Try.func30, Try.ntmps30
    go_wp2_with (first
      | (go_at_call 14; (with_reducible refine (unhide HC _ k1).mono ?_); rintro e w2 ⟨rfl, k2⟩)
      | ((with_reducible show wpList _ _ _ (_ :: _) _ _); first
        | (refine wpL_box rfl 24 _ rfl (chC c (.slice ad c.ms.length cap)) (by rfl) ?_; intro p w1 e1 k1 g1 z1; have G1 : ChAt w1 p c (.slice ad c.ms.length cap) := g1; clear e1 z1 g1)
        | (refine wpL_load rfl 24 (.tmp 1) rfl p rfl (chC c (.slice ad c.ms.length cap)) _ _ G1 _ Try.underlying24 rfl info_ch ?_)))
    go_ret2
    exact ⟨by rw [(unhide HE).1, (unhide HE).2]; rfl, k1.andNo k2⟩
  · have gg := good_iff.1 hg
    have HC := hide (fun w' (k : Chg noBlk w w') => rcheck_yes (h.no k) hg)
    have l1 := gg.len1
    obtain ⟨x, hx⟩ : ∃ x, c.ms[0]? = some x := ⟨_, List.getElem?_eq_getElem (by omega)⟩
    obtain ⟨y, hy⟩ : ∃ y, c.ms[c.ms.length - 1]? = some y := ⟨_, List.getElem?_eq_getElem (by omega)⟩
    have HE := hide (show headF c = x.node ∧ tailF c = y.node from ⟨nodeA_at (k := 0) hg hx, tailF_at hg hy⟩)
    obtain ⟨m, hm⟩ : ∃ m, m = c.ms.length - 1 := ⟨_, rfl⟩
    rw [← hm] at hy
    have hm2 : IntKind.i64.wrap ((c.ms.length : Int) - 1) = (m : Int) := by have := h.few; rw [IntWalk.i64_in _ (by omega)]; omega
    obtain ⟨g, off, rfl, _, _⟩ := h.at hx
    have HX := hide hx
    have HY := hide hy
    have HL := hide (fun w' (k : Chg noBlk w w') => h.no k)
    have HM := hide (fun w' (k : Chg noBlk w w') => by
      obtain ⟨g', off', e, m0, m1⟩ := (unhide HL _ k).at (unhide HX)
      cases e
      obtain ⟨g', off', e, m2, m3⟩ := (unhide HL _ k).at (unhide HY)
      cases e
      rw [Nat.zero_mul, Nat.add_zero] at m0
      exact And.intro m0 m2)
    have i1 : (0 : Int) ≤ (m : Int) := by omega
    have i2 : (m : Int) < (c.ms.length : Int) := by omega
    have i3 : (0 : Int) < (c.ms.length : Int) := by omega
    have i4 : 0 < c.ms.length := by omega
    clear h hg gg hx hy hm
    go_enter Try.func30, Try.ntmps30
    go_wp2_with (first
      | (go_at_call 14; (with_reducible refine (unhide HC _ k1).mono ?_); rintro e w2 ⟨rfl, k2⟩; have c1 := (G1.no k2).c1; obtain ⟨m0, m2⟩ := unhide HM _ (k1.andNo k2))
      | ((with_reducible show wpList _ _ _ (_ :: _) _ _); first
        | (refine wpL_box rfl 24 _ rfl (chC c (.slice (some ⟨g, off, none⟩) c.ms.length cap)) (by rfl) ?_; intro p w1 e1 k1 g1 z1; have G1 : ChAt w1 p c (.slice (some ⟨g, off, none⟩) c.ms.length cap) := g1; clear e1 z1 g1)
        | (refine wpL_load rfl 24 (.tmp 1) rfl p rfl (chC c (.slice (some ⟨g, off, none⟩) c.ms.length cap)) _ _ G1 _ Try.underlying24 rfl info_ch ?_)))
    go_quiet (fail)
    go_wp2_with fail
    go_ret2
    exact ⟨by rw [(unhide HE).1, (unhide HE).2]; rfl, (k1.andNo k2).drewN _⟩
set_option maxRecDepth 100000 in
set_option maxHeartbeats 1000000 in
theorem rstep_any (h : Sl w ad cap c.ms) (n b : Int) (b1 : -1 ≤ b) (b2 : b ≤ 1) : Calls Try.prog 32 #[chV c (.slice ad c.ms.length cap), .int .i64 n, .int .i64 b] w (ToldN (.int .i64 (stepF c n b)) w) := by
  have HL := hide (fun w' (k : Chg noBlk w w') => h.no k)
  have HP := hide (fun w' (k : Chg noBlk w w') => rat_any (h.no k) n)
  have hf := h.few
  have hp := pos_hi n c.ms
  have hq := pos_lo n c.ms
  have ta : True := True.intro
  rcases step_ways c n b with ⟨q1, q⟩ | ⟨q1, q2, q⟩ | ⟨q1, q2, q3, q⟩ | ⟨q1, q2, q3, q4, q⟩ | ⟨k, x, q1, q2, q3, hx, q⟩
  · have HE := hide q
    have HC := hide (fun w' (k : Chg noBlk w w') => rcheck_no (h.no k) q1)
    clear q h
    go_enter Try.func32, Try.ntmps32
    go_wp2_with (first
      | (go_at_call 37; (with_reducible refine (unhide HP _ k1).mono ?_); rintro e w2 ⟨rfl, k2⟩; have G2 := G1.no k2; clear ta)
      | (go_at_call 14; (with_reducible refine (unhide HC _ (k1.andNo k2)).mono ?_); rintro e w3 ⟨rfl, k3⟩)
      | ((with_reducible show wpList _ _ _ (_ :: _) _ _); first
        | (refine wpL_box rfl 24 _ rfl (chC c (.slice ad c.ms.length cap)) (by rfl) ?_; intro p w1 e1 k1 g1 z1; have G1 : ChAt w1 p c (.slice ad c.ms.length cap) := g1; clear e1 z1 g1)
        | (have t := ta; refine wpL_load rfl 24 (.tmp 3) rfl p rfl (chC c (.slice ad c.ms.length cap)) _ _ G1 _ Try.underlying24 rfl info_ch ?_)
        | (refine wpL_load rfl 24 (.tmp 3) rfl p rfl (chC c (.slice ad c.ms.length cap)) _ _ G2 _ Try.underlying24 rfl info_ch ?_)))
    go_ret
    exact ⟨ret_int (unhide HE).symm, (k1.andNo k2).andNo k3⟩
  · have HE := hide q
    have HC := hide (fun w' (k : Chg noBlk w w') => rcheck_yes (h.no k) q1)
    clear q h
    go_enter Try.func32, Try.ntmps32
    go_wp2_with (first
      | (go_at_call 37; (with_reducible refine (unhide HP _ k1).mono ?_); rintro e w2 ⟨rfl, k2⟩; have G2 := G1.no k2; clear ta)
      | (go_at_call 14; (with_reducible refine (unhide HC _ (k1.andNo k2)).mono ?_); rintro e w3 ⟨rfl, k3⟩)
      | ((with_reducible show wpList _ _ _ (_ :: _) _ _); first
        | (refine wpL_box rfl 24 _ rfl (chC c (.slice ad c.ms.length cap)) (by rfl) ?_; intro p w1 e1 k1 g1 z1; have G1 : ChAt w1 p c (.slice ad c.ms.length cap) := g1; clear e1 z1 g1)
        | (have t := ta; refine wpL_load rfl 24 (.tmp 3) rfl p rfl (chC c (.slice ad c.ms.length cap)) _ _ G1 _ Try.underlying24 rfl info_ch ?_)
        | (refine wpL_load rfl 24 (.tmp 3) rfl p rfl (chC c (.slice ad c.ms.length cap)) _ _ G2 _ Try.underlying24 rfl info_ch ?_)))
    go_ret
    exact ⟨ret_int (unhide HE).symm, (k1.andNo k2).andNo k3⟩
  · have HE := hide q
    have HC := hide (fun w' (k : Chg noBlk w w') => rcheck_yes (h.no k) q1)
    clear q h
    go_enter Try.func32, Try.ntmps32
    go_wp2_with (first
      | (go_at_call 37; (with_reducible refine (unhide HP _ k1).mono ?_); rintro e w2 ⟨rfl, k2⟩; have G2 := G1.no k2; clear ta)
      | (go_at_call 14; (with_reducible refine (unhide HC _ (k1.andNo k2)).mono ?_); rintro e w3 ⟨rfl, k3⟩)
      | ((with_reducible show wpList _ _ _ (_ :: _) _ _); first
        | (refine wpL_box rfl 24 _ rfl (chC c (.slice ad c.ms.length cap)) (by rfl) ?_; intro p w1 e1 k1 g1 z1; have G1 : ChAt w1 p c (.slice ad c.ms.length cap) := g1; clear e1 z1 g1)
        | (have t := ta; refine wpL_load rfl 24 (.tmp 3) rfl p rfl (chC c (.slice ad c.ms.length cap)) _ _ G1 _ Try.underlying24 rfl info_ch ?_)
        | (refine wpL_load rfl 24 (.tmp 3) rfl p rfl (chC c (.slice ad c.ms.length cap)) _ _ G2 _ Try.underlying24 rfl info_ch ?_)))
    go_ret
    exact ⟨ret_int (unhide HE).symm, (k1.andNo k2).andNo k3⟩
  · have HE := hide q
    have HC := hide (fun w' (k : Chg noBlk w w') => rcheck_yes (h.no k) q1)
    clear q h
    go_enter Try.func32, Try.ntmps32
    go_wp2_with (first
      | (go_at_call 37; (with_reducible refine (unhide HP _ k1).mono ?_); rintro e w2 ⟨rfl, k2⟩; have G2 := G1.no k2; clear ta)
      | (go_at_call 14; (with_reducible refine (unhide HC _ (k1.andNo k2)).mono ?_); rintro e w3 ⟨rfl, k3⟩; have c1 := (G2.no k3).c1)
      | ((with_reducible show wpList _ _ _ (_ :: _) _ _); first
        | (refine wpL_box rfl 24 _ rfl (chC c (.slice ad c.ms.length cap)) (by rfl) ?_; intro p w1 e1 k1 g1 z1; have G1 : ChAt w1 p c (.slice ad c.ms.length cap) := g1; clear e1 z1 g1)
        | (have t := ta; refine wpL_load rfl 24 (.tmp 3) rfl p rfl (chC c (.slice ad c.ms.length cap)) _ _ G1 _ Try.underlying24 rfl info_ch ?_)
        | (refine wpL_load rfl 24 (.tmp 3) rfl p rfl (chC c (.slice ad c.ms.length cap)) _ _ G2 _ Try.underlying24 rfl info_ch ?_)))
    go_ret
    exact ⟨ret_int (unhide HE).symm, (k1.andNo k2).andNo k3⟩
  · have HE := hide q
    have HC := hide (fun w' (k : Chg noBlk w w') => rcheck_yes (h.no k) q1)
    have i1 : (0 : Int) ≤ (k : Int) := by omega
    have i2 : (k : Int) < (c.ms.length : Int) := by have := (List.getElem?_eq_some_iff.1 hx).1; omega
    obtain ⟨g, off, rfl, _, _⟩ := h.at hx
    have HX := hide hx
    have HM := hide (fun w' (k : Chg noBlk w w') => by
      obtain ⟨g', off', e, m0, m1⟩ := (unhide HL _ k).at (unhide HX)
      cases e
      exact m0)
    clear q h hx
    go_enter Try.func32, Try.ntmps32
    go_wp2_with (first
      | (go_at_call 37; (with_reducible refine (unhide HP _ k1).mono ?_); rintro e w2 ⟨rfl, k2⟩; have G2 := G1.no k2; clear ta)
      | (go_at_call 14; (with_reducible refine (unhide HC _ (k1.andNo k2)).mono ?_); rintro e w3 ⟨rfl, k3⟩; have c1 := (G2.no k3).c1; have m0 := unhide HM _ ((k1.andNo k2).andNo k3))
      | ((with_reducible show wpList _ _ _ (_ :: _) _ _); first
        | (refine wpL_box rfl 24 _ rfl (chC c (.slice (some ⟨g, off, none⟩) c.ms.length cap)) (by rfl) ?_; intro p w1 e1 k1 g1 z1; have G1 : ChAt w1 p c (.slice (some ⟨g, off, none⟩) c.ms.length cap) := g1; clear e1 z1 g1)
        | (have t := ta; refine wpL_load rfl 24 (.tmp 3) rfl p rfl (chC c (.slice (some ⟨g, off, none⟩) c.ms.length cap)) _ _ G1 _ Try.underlying24 rfl info_ch ?_)
        | (refine wpL_load rfl 24 (.tmp 3) rfl p rfl (chC c (.slice (some ⟨g, off, none⟩) c.ms.length cap)) _ _ G2 _ Try.underlying24 rfl info_ch ?_)))
    go_ret
    exact ⟨ret_int (unhide HE).symm, (k1.andNo k2).andNo k3⟩
end
end Go.Proofs.Ytiapkmncgafofaa
