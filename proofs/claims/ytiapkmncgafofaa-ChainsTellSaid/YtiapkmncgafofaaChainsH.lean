/-
  Chains: contracts of the document's Since; of what the laws ask of a chain's ends.
-/
import Derived.Test.YtiapkmncgafofaaChainsG
namespace Go.Proofs.Ytiapkmncgafofaa
open Go.ChangeShapes Go.WideShapes Go.ChangeAt Go.RowKit
set_option linter.unusedVariables false
section
variable {w : World} {ad : Option Addr} {cap : Nat} {c : CT}
set_option maxRecDepth 100000 in
theorem rsince_any (h : Sl w ad cap c.ms) (n : Int) : Calls Try.prog 31 #[chV c (.slice ad c.ms.length cap), .int .i64 n] w (ToldN (.tuple #[.int .i64 (sinceF c n).1, .bool (sinceF c n).2]) w) := by
  have HL := hide (fun w' (k : Chg noBlk w w') => h.no k)
  have HP := hide (fun w' (k : Chg noBlk w w') => rat_any (h.no k) n)
  have ta : True := True.intro
  cases hg : good c
  · have HE := hide (sinceF_bad (n := n) hg)
    have HC := hide (fun w' (k : Chg noBlk w w') => rcheck_no (h.no k) hg)
    clear h hg
    go_enter Try.func31, Try.ntmps31
    go_wp2_with (first
      | (go_at_call 37; (with_reducible refine (unhide HP _ k1).mono ?_); rintro e w2 ⟨rfl, k2⟩; have G2 := G1.no k2; clear ta)
      | (go_at_call 14; (with_reducible refine (unhide HC _ (k1.andNo k2)).mono ?_); rintro e w3 ⟨rfl, k3⟩)
      | ((with_reducible show wpList _ _ _ (_ :: _) _ _); first
        | (refine wpL_box rfl 24 _ rfl (chC c (.slice ad c.ms.length cap)) (by rfl) ?_; intro p w1 e1 k1 g1 z1; have G1 : ChAt w1 p c (.slice ad c.ms.length cap) := g1; clear e1 z1 g1)
        | (have t := ta; refine wpL_load rfl 24 (.tmp 2) rfl p rfl (chC c (.slice ad c.ms.length cap)) _ _ G1 _ Try.underlying24 rfl info_ch ?_)
        | (refine wpL_load rfl 24 (.tmp 2) rfl p rfl (chC c (.slice ad c.ms.length cap)) _ _ G2 _ Try.underlying24 rfl info_ch ?_)))
    go_ret2
    exact ⟨by rw [unhide HE]; rfl, (k1.andNo k2).andNo k3⟩
  have HC := hide (fun w' (k : Chg noBlk w w') => rcheck_yes (h.no k) hg)
  by_cases q : pos n c.ms < 0
  · have HE := hide (sinceF_none q)
    clear h hg
    go_enter Try.func31, Try.ntmps31
    go_wp2_with (first
      | (go_at_call 37; (with_reducible refine (unhide HP _ k1).mono ?_); rintro e w2 ⟨rfl, k2⟩; have G2 := G1.no k2; clear ta)
      | (go_at_call 14; (with_reducible refine (unhide HC _ (k1.andNo k2)).mono ?_); rintro e w3 ⟨rfl, k3⟩)
      | ((with_reducible show wpList _ _ _ (_ :: _) _ _); first
        | (refine wpL_box rfl 24 _ rfl (chC c (.slice ad c.ms.length cap)) (by rfl) ?_; intro p w1 e1 k1 g1 z1; have G1 : ChAt w1 p c (.slice ad c.ms.length cap) := g1; clear e1 z1 g1)
        | (have t := ta; refine wpL_load rfl 24 (.tmp 2) rfl p rfl (chC c (.slice ad c.ms.length cap)) _ _ G1 _ Try.underlying24 rfl info_ch ?_)
        | (refine wpL_load rfl 24 (.tmp 2) rfl p rfl (chC c (.slice ad c.ms.length cap)) _ _ G2 _ Try.underlying24 rfl info_ch ?_)))
    go_ret2
    exact ⟨by rw [unhide HE]; rfl, (k1.andNo k2).andNo k3⟩
  · obtain ⟨k, x, hk, hx, _, _⟩ := pos_yes q
    have HE := hide (sinceF_at hg hk hx)
    rw [hk] at HP
    have i1 : (0 : Int) ≤ (k : Int) := by omega
    have i2 : (k : Int) < (c.ms.length : Int) := by have := (List.getElem?_eq_some_iff.1 hx).1; omega
    obtain ⟨g, off, rfl, _, _⟩ := h.at hx
    have HX := hide hx
    have HM := hide (fun w' (k : Chg noBlk w w') => by
      obtain ⟨g', off', e, m0, m1⟩ := (unhide HL _ k).at (unhide HX)
      cases e
      exact m1)
    clear h hg hk hx q
    go_enter Try.func31, Try.ntmps31
    go_wp2_with (first
      | (go_at_call 37; (with_reducible refine (unhide HP _ k1).mono ?_); rintro e w2 ⟨rfl, k2⟩; have G2 := G1.no k2; clear ta)
      | (go_at_call 14; (with_reducible refine (unhide HC _ (k1.andNo k2)).mono ?_); rintro e w3 ⟨rfl, k3⟩; have c1 := (G2.no k3).c1; have m1 := unhide HM _ ((k1.andNo k2).andNo k3))
      | ((with_reducible show wpList _ _ _ (_ :: _) _ _); first
        | (refine wpL_box rfl 24 _ rfl (chC c (.slice (some ⟨g, off, none⟩) c.ms.length cap)) (by rfl) ?_; intro p w1 e1 k1 g1 z1; have G1 : ChAt w1 p c (.slice (some ⟨g, off, none⟩) c.ms.length cap) := g1; clear e1 z1 g1)
        | (have t := ta; refine wpL_load rfl 24 (.tmp 2) rfl p rfl (chC c (.slice (some ⟨g, off, none⟩) c.ms.length cap)) _ _ G1 _ Try.underlying24 rfl info_ch ?_)
        | (refine wpL_load rfl 24 (.tmp 2) rfl p rfl (chC c (.slice (some ⟨g, off, none⟩) c.ms.length cap)) _ _ G2 _ Try.underlying24 rfl info_ch ?_)))
    go_ret2
    exact ⟨by rw [unhide HE]; rfl, (k1.andNo k2).andNo k3⟩
set_option maxRecDepth 100000 in
set_option maxHeartbeats 2000000 in
theorem ends_any (h : Sl w ad cap c.ms) (n : Int) : Calls Try.prog 10 #[chV c (.slice ad c.ms.length cap), .int .i64 n] w (ToldN (.bool true) w) := by
  have H1 := hide (fun w' (k : Chg noBlk w w') => rends_any (h.no k))
  have H2 := hide (fun w' (k : Chg noBlk w w') => since_any (h.no k) n)
  have H3 := hide (fun w' (k : Chg noBlk w w') => rsince_any (h.no k) n)
  have H4 := hide (fun w' (k : Chg noBlk w w') => head_any (h.no k))
  have H5 := hide (fun w' (k : Chg noBlk w w') => tail_any (h.no k))
  have H6 := hide (fun w' (k : Chg noBlk w w') => next_any (h.no k) n)
  have H7 := hide (fun w' (k : Chg noBlk w w') => prev_any (h.no k) n)
  have H8 := hide (fun w' (k : Chg noBlk w w') => rstep_any (h.no k) n 1 (by omega) (by omega))
  have H9 := hide (fun w' (k : Chg noBlk w w') => rstep_any (h.no k) n (-1) (by omega) (by omega))
  clear h
  generalize headF c = hd at *
  generalize tailF c = tl at *
  generalize stepF c n 1 = nx at *
  generalize stepF c n (-1) = pv at *
  generalize sinceF c n = sf at *
  obtain ⟨s1, s2⟩ := sf
  go_enter Try.func10, Try.ntmps10
  go_wp2_with (first
    | (go_at_call 30; (with_reducible refine (unhide H1 _ k1).mono ?_); rintro e w2 ⟨rfl, k2⟩; have G2 := G1.no k2; clear G1)
    | (go_at_call 29; (with_reducible refine (unhide H2 _ (k1.andNo k2)).mono ?_); rintro e w3 ⟨rfl, k3⟩; have G3 := G2.no k3; clear G2)
    | (go_at_call 31; (with_reducible refine (unhide H3 _ ((k1.andNo k2).andNo k3)).mono ?_); rintro e w4 ⟨rfl, k4⟩; have G4 := G3.no k4; clear G3)
    | ((with_reducible show wpList _ _ _ (_ :: _) _ _); first
      | (refine wpL_box rfl 24 _ rfl (chC c (.slice ad c.ms.length cap)) (by rfl) ?_; intro p w1 e1 k1 g1 z1; have G1 : ChAt w1 p c (.slice ad c.ms.length cap) := g1; clear e1 z1 g1)
      | (refine wpL_load rfl 24 (.tmp 2) rfl p rfl (chC c (.slice ad c.ms.length cap)) _ _ (by assumption) _ Try.underlying24 rfl info_ch ?_)))
  have KE := hide (ch_keep G4)
  have KW := (((k1.andNo k2).andNo k3).andNo k4)
  have B0 := Chg.refl noBlk w4
  clear G4
  have H4 := hide (fun w' (k : Chg noBlk w4 w' ∧ w'.cell? ⟨p, 0, none⟩ = some (.int .i64 c.ep) ∧ w'.cell? ⟨p, 1, none⟩ = some (.slice ad c.ms.length cap) ∧ w'.cell? ⟨p, 2, none⟩ = some (.int .i64 c.dr)) => unhide H4 _ (KW.andNo k.1))
  have H5 := hide (fun w' (k : Chg noBlk w4 w' ∧ w'.cell? ⟨p, 0, none⟩ = some (.int .i64 c.ep) ∧ w'.cell? ⟨p, 1, none⟩ = some (.slice ad c.ms.length cap) ∧ w'.cell? ⟨p, 2, none⟩ = some (.int .i64 c.dr)) => unhide H5 _ (KW.andNo k.1))
  have H6 := hide (fun w' (k : Chg noBlk w4 w' ∧ w'.cell? ⟨p, 0, none⟩ = some (.int .i64 c.ep) ∧ w'.cell? ⟨p, 1, none⟩ = some (.slice ad c.ms.length cap) ∧ w'.cell? ⟨p, 2, none⟩ = some (.int .i64 c.dr)) => unhide H6 _ (KW.andNo k.1))
  have H7 := hide (fun w' (k : Chg noBlk w4 w' ∧ w'.cell? ⟨p, 0, none⟩ = some (.int .i64 c.ep) ∧ w'.cell? ⟨p, 1, none⟩ = some (.slice ad c.ms.length cap) ∧ w'.cell? ⟨p, 2, none⟩ = some (.int .i64 c.dr)) => unhide H7 _ (KW.andNo k.1))
  have H8 := hide (fun w' (k : Chg noBlk w4 w' ∧ w'.cell? ⟨p, 0, none⟩ = some (.int .i64 c.ep) ∧ w'.cell? ⟨p, 1, none⟩ = some (.slice ad c.ms.length cap) ∧ w'.cell? ⟨p, 2, none⟩ = some (.int .i64 c.dr)) => unhide H8 _ (KW.andNo k.1))
  have H9 := hide (fun w' (k : Chg noBlk w4 w' ∧ w'.cell? ⟨p, 0, none⟩ = some (.int .i64 c.ep) ∧ w'.cell? ⟨p, 1, none⟩ = some (.slice ad c.ms.length cap) ∧ w'.cell? ⟨p, 2, none⟩ = some (.int .i64 c.dr)) => unhide H9 _ (KW.andNo k.1))
  go_region_held3 (fun w' => Chg noBlk w4 w' ∧ w'.cell? ⟨p, 0, none⟩ = some (.int .i64 c.ep) ∧ w'.cell? ⟨p, 1, none⟩ = some (.slice ad c.ms.length cap) ∧ w'.cell? ⟨p, 2, none⟩ = some (.int .i64 c.dr))
    ((refine unhide KE _ ?_; go_split_ands; first | assumption | exact Chg.drew (by assumption) | exact Chg.drewN (by assumption) _ | exact Chg.andNo (by assumption) (by assumption)))
    (first
      | (go_at_call 25; (with_reducible refine (unhide H4 _ (by assumption)).mono ?_); rintro e w5 ⟨rfl, k5⟩)
      | (go_at_call 28; (with_reducible refine (unhide H5 _ (by assumption)).mono ?_); rintro e w6 ⟨rfl, k6⟩)
      | (go_at_call 26; (with_reducible refine (unhide H6 _ (by assumption)).mono ?_); rintro e w7 ⟨rfl, k7⟩)
      | (go_at_call 27; (with_reducible refine (unhide H7 _ (by assumption)).mono ?_); rintro e w8 ⟨rfl, k8⟩)
      | (go_at_call 32; (with_reducible refine (unhide H8 _ (by assumption)).mono ?_); rintro e w9 ⟨rfl, k9⟩)
      | (go_at_call 32; (with_reducible refine (unhide H9 _ (by assumption)).mono ?_); rintro e w10 ⟨rfl, k10⟩))
  rename_i hH
  obtain ⟨K9, _, _, _⟩ := hH
  go_wp2_with fail
  go_ret
  exact ⟨rfl, KW.andNo K9⟩
end
end Go.Proofs.Ytiapkmncgafofaa
