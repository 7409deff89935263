/-
  Chains: contracts of Head, Tail, Next, Prev, Since.
-/
import Derived.Test.YtiapkmncgafofaaChainsD
namespace Go.Proofs.Ytiapkmncgafofaa
open Go.ChangeShapes Go.WideShapes Go.ChangeAt Go.RowKit
set_option linter.unusedVariables false
theorem stepF_no {c : CT} {n b : Int} (h : pos n c.ms < 0) : stepF c n b = -1 := by unfold stepF; rw [if_pos h]
theorem stepF_at {c : CT} {n b : Int} (h : ¬ pos n c.ms < 0) : stepF c n b = nodeA c (pos n c.ms + b) := by unfold stepF; rw [if_neg h]
theorem stepF_prev (c : CT) (n : Int) : nodeA c (pos n c.ms - 1) = stepF c n (-1) := by
  by_cases h : pos n c.ms < 0
  · rw [stepF_no h, nodeA_lo (by omega)]
  · rw [stepF_at h]; rfl
theorem sinceF_bad {c : CT} {n : Int} (h : good c = false) : sinceF c n = (0, false) := by unfold sinceF; rw [if_neg (by simp [h])]
theorem sinceF_none {c : CT} {n : Int} (h : pos n c.ms < 0) : sinceF c n = (0, false) := by unfold sinceF; rw [if_neg (by omega)]
theorem sinceF_at {c : CT} {n : Int} {k : Nat} {x : MT} (h : good c = true) (hp : pos n c.ms = (k : Int)) (hx : c.ms[k]? = some x) : sinceF c n = (x.since, true) := by
  unfold sinceF
  rw [if_pos ⟨h, by omega⟩, hp, Int.toNat_natCast, hx]
/-- a chain's three cells, kept -/
theorem ch_keep {w1 : World} {p : Nat} {c : CT} {v : Value} (h : ChAt w1 p c v) : ∀ w', Chg noBlk w1 w' → Chg noBlk w1 w' ∧ w'.cell? ⟨p, 0, none⟩ = some (.int .i64 c.ep) ∧ w'.cell? ⟨p, 1, none⟩ = some v ∧ w'.cell? ⟨p, 2, none⟩ = some (.int .i64 c.dr) :=
  fun w' k => ⟨k, (h.no k).c0, (h.no k).c1, (h.no k).c2⟩
section
variable {w : World} {ad : Option Addr} {cap : Nat} {c : CT}
set_option maxRecDepth 100000 in
theorem head_any (h : Sl w ad cap c.ms) : Calls Try.prog 25 #[chV c (.slice ad c.ms.length cap)] w (ToldN (.int .i64 (headF c)) w) := by
  have HN := hide (fun w' (k : Chg noBlk w w') => nodeAt_any (h.no k) 0)
  clear h
  go_enter Try.func25, Try.ntmps25
  go_wp2_with (first
    | (go_at_call 47; (with_reducible refine (unhide HN _ k1).mono ?_); rintro e w2 ⟨rfl, k2⟩)
    | ((with_reducible show wpList _ _ _ (_ :: _) _ _); first
      | (refine wpL_box rfl 24 _ rfl (chC c (.slice ad c.ms.length cap)) (by rfl) ?_; intro p w1 e1 k1 g1 z1; have G1 : ChAt w1 p c (.slice ad c.ms.length cap) := g1; clear e1 z1 g1)
      | (refine wpL_load rfl 24 (.tmp 1) rfl p rfl (chC c (.slice ad c.ms.length cap)) _ _ G1 _ Try.underlying24 rfl info_ch ?_)))
  go_ret
  exact ⟨rfl, k1.andNo k2⟩
set_option maxRecDepth 100000 in
theorem tail_any (h : Sl w ad cap c.ms) : Calls Try.prog 28 #[chV c (.slice ad c.ms.length cap)] w (ToldN (.int .i64 (tailF c)) w) := by
  have HN := hide (fun w' (k : Chg noBlk w w') => nodeAt_any (h.no k) ((c.ms.length : Int) - 1))
  have hf := h.few
  clear h
  go_enter Try.func28, Try.ntmps28
  go_wp2_with (first
    | (go_at_call 47; (with_reducible refine (unhide HN _ k1).mono ?_); rintro e w2 ⟨rfl, k2⟩)
    | ((with_reducible show wpList _ _ _ (_ :: _) _ _); first
      | (refine wpL_box rfl 24 _ rfl (chC c (.slice ad c.ms.length cap)) (by rfl) ?_; intro p w1 e1 k1 g1 z1; have G1 : ChAt w1 p c (.slice ad c.ms.length cap) := g1; have c1 := G1.c1; clear e1 z1 g1)
      | (refine wpL_load rfl 24 (.tmp 1) rfl p rfl (chC c (.slice ad c.ms.length cap)) _ _ G1 _ Try.underlying24 rfl info_ch ?_)))
  go_ret
  exact ⟨rfl, k1.andNo k2⟩
set_option maxRecDepth 100000 in
theorem next_any (h : Sl w ad cap c.ms) (n : Int) : Calls Try.prog 26 #[chV c (.slice ad c.ms.length cap), .int .i64 n] w (ToldN (.int .i64 (stepF c n 1)) w) := by
  have HP := hide (fun w' (k : Chg noBlk w w') => place_any (h.no k) n)
  have HN := hide (fun w' (k : Chg noBlk w w') => nodeAt_any (h.no k) (pos n c.ms + 1))
  have hf := h.few
  have hp := pos_hi n c.ms
  clear h
  by_cases q : pos n c.ms < 0
  · have HE := hide (stepF_no (b := 1) q)
    go_enter Try.func26, Try.ntmps26
    go_wp2_with (first
      | (go_at_call 36; (with_reducible refine (unhide HP _ k1).mono ?_); rintro e w2 ⟨rfl, k2⟩)
      | ((with_reducible show wpList _ _ _ (_ :: _) _ _); first
        | (refine wpL_box rfl 24 _ rfl (chC c (.slice ad c.ms.length cap)) (by rfl) ?_; intro p w1 e1 k1 g1 z1; have G1 : ChAt w1 p c (.slice ad c.ms.length cap) := g1; have c1 := G1.c1; clear e1 z1 g1)))
    go_ret
    exact ⟨ret_int (unhide HE).symm, k1.andNo k2⟩
  · have HE := hide (stepF_at (b := 1) q)
    go_enter Try.func26, Try.ntmps26
    go_wp2_with (first
      | (go_at_call 36; (with_reducible refine (unhide HP _ k1).mono ?_); rintro e w2 ⟨rfl, k2⟩; have G2 := G1.no k2)
      | (go_at_call 47; (with_reducible refine (unhide HN _ (k1.andNo k2)).mono ?_); rintro e w3 ⟨rfl, k3⟩)
      | ((with_reducible show wpList _ _ _ (_ :: _) _ _); first
        | (refine wpL_box rfl 24 _ rfl (chC c (.slice ad c.ms.length cap)) (by rfl) ?_; intro p w1 e1 k1 g1 z1; have G1 : ChAt w1 p c (.slice ad c.ms.length cap) := g1; have c1 := G1.c1; clear e1 z1 g1)
        | (refine wpL_load rfl 24 (.tmp 2) rfl p rfl (chC c (.slice ad c.ms.length cap)) _ _ G2 _ Try.underlying24 rfl info_ch ?_)))
    go_ret
    exact ⟨ret_int (unhide HE).symm, (k1.andNo k2).andNo k3⟩
set_option maxRecDepth 100000 in
theorem prev_any (h : Sl w ad cap c.ms) (n : Int) : Calls Try.prog 27 #[chV c (.slice ad c.ms.length cap), .int .i64 n] w (ToldN (.int .i64 (stepF c n (-1))) w) := by
  have HP := hide (fun w' (k : Chg noBlk w w') => place_any (h.no k) n)
  have HN := hide (fun w' (k : Chg noBlk w w') => nodeAt_any (h.no k) (pos n c.ms - 1))
  have HE := hide (stepF_prev c n)
  have hf := h.few
  have hp := pos_hi n c.ms
  have hq := pos_lo n c.ms
  have hs : IntKind.i64.wrap (pos n c.ms - 1) = pos n c.ms - 1 := IntWalk.i64_in _ (by omega)
  clear h
  go_enter Try.func27, Try.ntmps27
  go_wp2_with ((with_reducible show wpList _ _ _ (_ :: _) _ _); refine wpL_box rfl 24 _ rfl (chC c (.slice ad c.ms.length cap)) (by rfl) ?_; intro p w1 e1 k1 g1 z1; have KE := hide (ch_keep (show ChAt w1 p c (.slice ad c.ms.length cap) from g1)); clear e1 z1 g1)
  have B0 := Chg.refl noBlk w1
  go_region_held3 (fun w' => Chg noBlk w1 w' ∧ w'.cell? ⟨p, 0, none⟩ = some (.int .i64 c.ep) ∧ w'.cell? ⟨p, 1, none⟩ = some (.slice ad c.ms.length cap) ∧ w'.cell? ⟨p, 2, none⟩ = some (.int .i64 c.dr))
    ((refine unhide KE _ ?_; go_split_ands; first | assumption | exact Chg.drew (by assumption) | exact Chg.drewN (by assumption) _ | exact Chg.andNo (by assumption) (by assumption)))
    (first
      | (go_at_call 36; (with_reducible refine (unhide HP _ (k1.andNo B0.drew)).mono ?_); rintro e w3 ⟨rfl, k3⟩)
      | (go_at_call 47; (with_reducible refine (unhide HN _ (k1.andNo (B0.drew.andNo k3))).mono ?_); rintro e w4 ⟨rfl, k4⟩))
  rename_i hH
  obtain ⟨K9, _, _, _⟩ := hH
  go_wp2_with fail
  go_ret
  exact ⟨ret_int (unhide HE), k1.andNo K9⟩
set_option maxRecDepth 100000 in
theorem since_any (h : Sl w ad cap c.ms) (n : Int) : Calls Try.prog 29 #[chV c (.slice ad c.ms.length cap), .int .i64 n] w (ToldN (.tuple #[.int .i64 (sinceF c n).1, .bool (sinceF c n).2]) w) := by
  have HL := hide (fun w' (k : Chg noBlk w w') => h.no k)
  have HP := hide (fun w' (k : Chg noBlk w w') => place_any (h.no k) n)
  have hf := h.few
  have hp := pos_hi n c.ms
  by_cases q : pos n c.ms < 0
  · have HE := hide (sinceF_none q)
    clear h
    go_enter Try.func29, Try.ntmps29
    go_wp2_with (first
      | (go_at_call 36; (with_reducible refine (unhide HP _ k1).mono ?_); rintro e w2 ⟨rfl, k2⟩)
      | ((with_reducible show wpList _ _ _ (_ :: _) _ _); first
        | (refine wpL_box rfl 24 _ rfl (chC c (.slice ad c.ms.length cap)) (by rfl) ?_; intro p w1 e1 k1 g1 z1; have G1 : ChAt w1 p c (.slice ad c.ms.length cap) := g1; have c1 := G1.c1; clear e1 z1 g1)))
    go_ret2
    exact ⟨by rw [unhide HE]; rfl, k1.andNo k2⟩
  cases hg : good c
  · have HE := hide (sinceF_bad (n := n) hg)
    have HC := hide (fun w' (k : Chg noBlk w w') => check_no (h.no k) hg)
    clear h hg
    go_enter Try.func29, Try.ntmps29
    go_wp2_with (first
      | (go_at_call 36; (with_reducible refine (unhide HP _ k1).mono ?_); rintro e w2 ⟨rfl, k2⟩; have G2 := G1.no k2; have c0 := G2.c0; have c1 := G2.c1; have c2 := G2.c2)
      | (go_at_call 13; (with_reducible refine (unhide HC _ (k1.andNo k2)).mono ?_); rintro e w3 ⟨rfl, k3⟩)
      | ((with_reducible show wpList _ _ _ (_ :: _) _ _); first
        | (refine wpL_box rfl 24 _ rfl (chC c (.slice ad c.ms.length cap)) (by rfl) ?_; intro p w1 e1 k1 g1 z1; have G1 : ChAt w1 p c (.slice ad c.ms.length cap) := g1; have c1 := G1.c1; clear e1 z1 g1)))
    go_ret2
    exact ⟨by rw [unhide HE]; rfl, (k1.andNo k2).andNo k3⟩
  · obtain ⟨k, x, hk, hx, _, _⟩ := pos_yes q
    have HE := hide (sinceF_at hg hk hx)
    have HC := hide (fun w' (k : Chg noBlk w w') => check_yes (h.no k) hg)
    rw [hk] at HP
    have i1 : (0 : Int) ≤ (k : Int) := by omega
    have i2 : (k : Int) < (c.ms.length : Int) := by have := (List.getElem?_eq_some_iff.1 hx).1; omega
    obtain ⟨g, off, rfl, _, _⟩ := h.at hx
    have HX := hide hx
    have HM := hide (fun w' (k : Chg noBlk w w') => by
      obtain ⟨g', off', e, m0, m1⟩ := (unhide HL _ k).at (unhide HX)
      cases e
      exact m1)
    clear h hg hk hx q hp
    go_enter Try.func29, Try.ntmps29
    go_wp2_with (first
      | (go_at_call 36; (with_reducible refine (unhide HP _ k1).mono ?_); rintro e w2 ⟨rfl, k2⟩; have G2 := G1.no k2; have c0 := G2.c0; have c1 := G2.c1; have c2 := G2.c2)
      | (go_at_call 13; (with_reducible refine (unhide HC _ (k1.andNo k2)).mono ?_); rintro e w3 ⟨rfl, k3⟩; have c1 := (G2.no k3).c1; have m1 := unhide HM _ ((k1.andNo k2).andNo k3))
      | ((with_reducible show wpList _ _ _ (_ :: _) _ _); first
        | (refine wpL_box rfl 24 _ rfl (chC c (.slice (some ⟨g, off, none⟩) c.ms.length cap)) (by rfl) ?_; intro p w1 e1 k1 g1 z1; have G1 : ChAt w1 p c (.slice (some ⟨g, off, none⟩) c.ms.length cap) := g1; have c1 := G1.c1; clear e1 z1 g1)))
    go_ret2
    exact ⟨by rw [unhide HE]; rfl, (k1.andNo k2).andNo k3⟩
end
#print axioms since_any
end Go.Proofs.Ytiapkmncgafofaa
