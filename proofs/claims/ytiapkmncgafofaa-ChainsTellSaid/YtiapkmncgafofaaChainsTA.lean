/-
  Chains: the walk of the law that what is told of a chain is the document's.
-/
import Derived.Test.YtiapkmncgafofaaChainsX
import Derived.Test.YtiapkmncgafofaaChainsH
import Derived.Test.YtiapkmncgafofaaChainsR
import Derived.Test.YtiapkmncgafofaaChainsZ
import Derived.Deep.RegionHeld3
namespace Go.Proofs.Ytiapkmncgafofaa
open Go.ChangeShapes Go.WideShapes Go.ChangeAt Go.RowKit
set_option linter.unusedVariables false
attribute [local go_sem] bs_size bs_app bs_cut bs_tl bs_at
section
variable {w : World} {ad ad2 : Option Addr} {cap cap2 : Nat} {c d : CT}
set_option maxRecDepth 100000 in
theorem tell_great (n : Int) (h : greatB c = true ∨ (greatB c = false ∧ greatB d = true)) : Calls Try.prog 3 #[chV c (.slice ad c.ms.length cap), chV d (.slice ad2 d.ms.length cap2), .int .i64 n] w (ToldN (.bool true) w) := by
  have G := fun w => great_any c ad cap w
  have H := fun w => great_any d ad2 cap2 w
  have ta : True := True.intro
  rcases h with h | ⟨h, h2⟩
  · rw [h] at G
    have HG := hide G
    clear G H h
    go_enter Try.func3, Try.ntmps3
    go_wp2_with (first
      | (go_at_call 8; (with_reducible refine (unhide HG _).mono ?_); rintro e w3 ⟨rfl, k3⟩)
      | (go_at_call 9; (with_reducible refine (linked_any _).mono ?_); rintro e w4 ⟨rfl, k4⟩)
      | ((with_reducible show wpList _ _ _ (⟨_, _, _, _, _, none⟩ :: _) _ _); first
        | (clear ta; refine wpL_box rfl 24 (.tmp 0) rfl (chC c (.slice ad c.ms.length cap)) (by rfl) ?_; intro p w1 e1 k1 g1 z1; have G1 : ChAt w1 p c (.slice ad c.ms.length cap) := g1; clear e1 z1 g1)
        | (refine wpL_box rfl 24 (.tmp 1) rfl (chC d (.slice ad2 d.ms.length cap2)) (by rfl) ?_; intro p2 w2 e2 k2 g2 z2; have G2 := G1.no k2; clear e2 z2 g2 G1)
        | (refine wpL_load rfl 24 (.tmp 3) rfl p rfl (chC c (.slice ad c.ms.length cap)) _ _ G2 _ Try.underlying24 rfl info_ch ?_)))
    go_ret
    exact ⟨rfl, ((k1.andNo k2).andNo k3).andNo k4⟩
  · rw [h] at G
    rw [h2] at H
    have HG := hide G
    have HH := hide H
    clear G H h h2
    go_enter Try.func3, Try.ntmps3
    go_wp2_with (first
      | (go_at_call 8; (with_reducible refine (unhide HG _).mono ?_); rintro e w3 ⟨rfl, k3⟩; have x0 := (D2.no k3).c0; have x1 := (D2.no k3).c1; have x2 := (D2.no k3).c2)
      | (go_at_call 8; (with_reducible refine (unhide HH _).mono ?_); rintro e w5 ⟨rfl, k5⟩)
      | (go_at_call 9; (with_reducible refine (linked_any _).mono ?_); rintro e w4 ⟨rfl, k4⟩)
      | ((with_reducible show wpList _ _ _ (⟨_, _, _, _, _, none⟩ :: _) _ _); first
        | (clear ta; refine wpL_box rfl 24 (.tmp 0) rfl (chC c (.slice ad c.ms.length cap)) (by rfl) ?_; intro p w1 e1 k1 g1 z1; have G1 : ChAt w1 p c (.slice ad c.ms.length cap) := g1; clear e1 z1 g1)
        | (refine wpL_box rfl 24 (.tmp 1) rfl (chC d (.slice ad2 d.ms.length cap2)) (by rfl) ?_; intro p2 w2 e2 k2 g2 z2; have G2 := G1.no k2; have D2 : ChAt w2 p2 d (.slice ad2 d.ms.length cap2) := g2; clear e2 z2 g2 G1)
        | (refine wpL_load rfl 24 (.tmp 3) rfl p rfl (chC c (.slice ad c.ms.length cap)) _ _ G2 _ Try.underlying24 rfl info_ch ?_)))
    go_ret
    exact ⟨rfl, (((k1.andNo k2).andNo k3).andNo k5).andNo k4⟩
set_option maxRecDepth 100000 in
set_option maxHeartbeats 4000000 in
theorem tell_in (hs : Sl w ad cap c.ms) (hs2 : Sl w ad2 cap2 d.ms) (n : Int) (h : greatB c = false) (h2 : greatB d = false) : Calls Try.prog 3 #[chV c (.slice ad c.ms.length cap), chV d (.slice ad2 d.ms.length cap2), .int .i64 n] w (ToldN (.bool true) w) := by
  have G := fun w => great_any c ad cap w
  have H := fun w => great_any d ad2 cap2 w
  have ta : True := True.intro
  rw [h] at G
  rw [h2] at H
  have HG := hide G
  have HH := hide H
  have HE := hide (fun w' (k : Chg noBlk w w') m => ends_any (hs.no k) m)
  have HP := hide (fun w' (k : Chg noBlk w w') => put_any (hs.no k))
  have HR := hide (fun w' (k : Chg noBlk w w') => rput_any (hs.no k))
  have HC := hide (fun w' (k : Chg noBlk w w') => check_any (hs.no k))
  have HD := hide (fun w' (k : Chg noBlk w w') => rcheck_any (hs.no k))
  have H1 := hide (fun w' (k : Chg noBlk w w') => same_any (hs.no k) (hs2.no k))
  have H2 := hide (fun w' (k : Chg noBlk w w') => rsame_any (hs.no k) (hs2.no k))
  have H3 := hide (fun w' (k : Chg noBlk w w') => (by have := same_any (hs.no k) (hs.no k); rw [show sameB c c = true from decide_eq_true rfl] at this; exact this : Calls Try.prog 15 #[chV c (.slice ad c.ms.length cap), chV c (.slice ad c.ms.length cap)] w' (ToldN (.bool true) w')))
  clear G H h h2 hs hs2
  generalize chk c = ck at *
  generalize putB c = B at *
  generalize sameB c d = sm at *
  go_enter Try.func3, Try.ntmps3
  go_wp2_with (first
    | (go_at_call 8; (with_reducible refine (unhide HG _).mono ?_); rintro e w3 ⟨rfl, k3⟩; have x0 := (D2.no k3).c0; have x1 := (D2.no k3).c1; have x2 := (D2.no k3).c2)
    | (go_at_call 8; (with_reducible refine (unhide HH _).mono ?_); rintro e w5 ⟨rfl, k5⟩)
    | ((with_reducible show wpList _ _ _ (⟨_, _, _, _, _, none⟩ :: _) _ _); first
      | (clear ta; refine wpL_box rfl 24 (.tmp 0) rfl (chC c (.slice ad c.ms.length cap)) (by rfl) ?_; intro p w1 e1 k1 g1 z1; have G1 : ChAt w1 p c (.slice ad c.ms.length cap) := g1; clear e1 z1 g1)
      | (refine wpL_box rfl 24 (.tmp 1) rfl (chC d (.slice ad2 d.ms.length cap2)) (by rfl) ?_; intro p2 w2 e2 k2 g2 z2; have G2 := G1.no k2; have D2 : ChAt w2 p2 d (.slice ad2 d.ms.length cap2) := g2; clear e2 z2 g2 G1)
      | (refine wpL_load rfl 24 (.tmp 3) rfl p rfl (chC c (.slice ad c.ms.length cap)) _ _ G2 _ Try.underlying24 rfl info_ch ?_)))
  have K5 := ((k1.andNo k2).andNo k3).andNo k5
  have HB := hide (fun w' (k : Chg noBlk w5 w') => And.intro ((G2.no (k3.andNo k5)).no k) ((D2.no (k3.andNo k5)).no k))
  clear x0 x1 x2 k1 k2 k3 k5 G2 D2
  go_loopw [7] (fun a wr => ∃ j : Nat, j ≤ 9 ∧ a = .int .i64 ((j : Int) - 1) ∧ Chg noBlk w5 wr) (fun a wr => (8 - intOf a).toNat)
  case atStart => exact ⟨0, by omega, rfl, Chg.refl _ _⟩
  case round =>
    obtain ⟨j, hj, rfl, hch⟩ := hrel
    have GG := hide (unhide HB _ hch).1
    have KW := K5.andNo hch
    by_cases hlt : j < 9
    · have i1 : (j : Int) - 1 < 8 := by omega
      by_cases h7 : j = 8
      · have d7 : ((j : Int) - 1 == 7) = true := beq_iff_eq.2 (by omega)
        go_wp2_with (first
          | (go_at_call 10; (with_reducible refine (unhide HE _ KW _).mono ?_); rintro e w6 ⟨rfl, k6⟩)
          | ((with_reducible show wpList _ _ _ (⟨_, _, _, _, _, none⟩ :: _) _ _); refine wpL_load rfl 24 (.tmp 3) rfl p rfl (chC c (.slice ad c.ms.length cap)) _ _ (unhide GG) _ Try.underlying24 rfl info_ch ?_))
        go_roundw
        case rel => exact ⟨j + 1, by omega, by go_num, hch.andNo k6⟩
        case measure => simp [intOf]; omega
      · have d7 : ((j : Int) - 1 == 7) = false := beq_eq_false_iff_ne.2 (by omega)
        go_wp2_with (first
          | (go_at_call 10; (with_reducible refine (unhide HE _ KW _).mono ?_); rintro e w6 ⟨rfl, k6⟩)
          | ((with_reducible show wpList _ _ _ (⟨_, _, _, _, _, none⟩ :: _) _ _); refine wpL_load rfl 24 (.tmp 3) rfl p rfl (chC c (.slice ad c.ms.length cap)) _ _ (unhide GG) _ Try.underlying24 rfl info_ch ?_))
        go_roundw
        case rel => exact ⟨j + 1, by omega, by go_num, hch.andNo k6⟩
        case measure => simp [intOf]; omega
    · obtain rfl : j = 9 := by omega
      have i1 : ¬ ((9 : Nat) : Int) - 1 < 8 := by omega
      go_wp2_with (first
        | (go_at_call 11; (with_reducible refine (unhide HP _ KW).mono ?_); rintro e w6 ⟨rfl, k6⟩)
        | (go_at_call 12; (with_reducible refine (unhide HR _ (KW.andNo k6)).mono ?_); rintro e w7 ⟨rfl, k7⟩; have K7 := hch.andNo (k6.andNo k7))
        | ((with_reducible show wpList _ _ _ (⟨_, _, _, _, _, none⟩ :: _) _ _); refine wpL_load rfl 24 (.tmp 3) rfl p rfl (chC c (.slice ad c.ms.length cap)) _ _ (by first | exact (unhide HB _ (hch.andNo k6)).1 | exact (unhide HB _ hch).1) _ Try.underlying24 rfl info_ch ?_))
      have B0 := Chg.refl noBlk w7
      have KE := hide (fun w' (k : Chg noBlk w7 w') => (⟨k, (unhide HB _ (K7.andNo k)).1.c0, (unhide HB _ (K7.andNo k)).1.c1, (unhide HB _ (K7.andNo k)).1.c2, (unhide HB _ (K7.andNo k)).2.c0, (unhide HB _ (K7.andNo k)).2.c1, (unhide HB _ (K7.andNo k)).2.c2⟩ : Chg noBlk w7 w' ∧ w'.cell? ⟨p, 0, none⟩ = some (.int .i64 c.ep) ∧ w'.cell? ⟨p, 1, none⟩ = some (.slice ad c.ms.length cap) ∧ w'.cell? ⟨p, 2, none⟩ = some (.int .i64 c.dr) ∧ w'.cell? ⟨p2, 0, none⟩ = some (.int .i64 d.ep) ∧ w'.cell? ⟨p2, 1, none⟩ = some (.slice ad2 d.ms.length cap2) ∧ w'.cell? ⟨p2, 2, none⟩ = some (.int .i64 d.dr)))
      have HC := hide (fun w' (k : Chg noBlk w7 w' ∧ w'.cell? ⟨p, 0, none⟩ = some (.int .i64 c.ep) ∧ w'.cell? ⟨p, 1, none⟩ = some (.slice ad c.ms.length cap) ∧ w'.cell? ⟨p, 2, none⟩ = some (.int .i64 c.dr) ∧ w'.cell? ⟨p2, 0, none⟩ = some (.int .i64 d.ep) ∧ w'.cell? ⟨p2, 1, none⟩ = some (.slice ad2 d.ms.length cap2) ∧ w'.cell? ⟨p2, 2, none⟩ = some (.int .i64 d.dr)) => unhide HC _ ((K5.andNo K7).andNo k.1))
      have HD := hide (fun w' (k : Chg noBlk w7 w' ∧ w'.cell? ⟨p, 0, none⟩ = some (.int .i64 c.ep) ∧ w'.cell? ⟨p, 1, none⟩ = some (.slice ad c.ms.length cap) ∧ w'.cell? ⟨p, 2, none⟩ = some (.int .i64 c.dr) ∧ w'.cell? ⟨p2, 0, none⟩ = some (.int .i64 d.ep) ∧ w'.cell? ⟨p2, 1, none⟩ = some (.slice ad2 d.ms.length cap2) ∧ w'.cell? ⟨p2, 2, none⟩ = some (.int .i64 d.dr)) => unhide HD _ ((K5.andNo K7).andNo k.1))
      have H1 := hide (fun w' (k : Chg noBlk w7 w' ∧ w'.cell? ⟨p, 0, none⟩ = some (.int .i64 c.ep) ∧ w'.cell? ⟨p, 1, none⟩ = some (.slice ad c.ms.length cap) ∧ w'.cell? ⟨p, 2, none⟩ = some (.int .i64 c.dr) ∧ w'.cell? ⟨p2, 0, none⟩ = some (.int .i64 d.ep) ∧ w'.cell? ⟨p2, 1, none⟩ = some (.slice ad2 d.ms.length cap2) ∧ w'.cell? ⟨p2, 2, none⟩ = some (.int .i64 d.dr)) => unhide H1 _ ((K5.andNo K7).andNo k.1))
      have H2 := hide (fun w' (k : Chg noBlk w7 w' ∧ w'.cell? ⟨p, 0, none⟩ = some (.int .i64 c.ep) ∧ w'.cell? ⟨p, 1, none⟩ = some (.slice ad c.ms.length cap) ∧ w'.cell? ⟨p, 2, none⟩ = some (.int .i64 c.dr) ∧ w'.cell? ⟨p2, 0, none⟩ = some (.int .i64 d.ep) ∧ w'.cell? ⟨p2, 1, none⟩ = some (.slice ad2 d.ms.length cap2) ∧ w'.cell? ⟨p2, 2, none⟩ = some (.int .i64 d.dr)) => unhide H2 _ ((K5.andNo K7).andNo k.1))
      have H3 := hide (fun w' (k : Chg noBlk w7 w' ∧ w'.cell? ⟨p, 0, none⟩ = some (.int .i64 c.ep) ∧ w'.cell? ⟨p, 1, none⟩ = some (.slice ad c.ms.length cap) ∧ w'.cell? ⟨p, 2, none⟩ = some (.int .i64 c.dr) ∧ w'.cell? ⟨p2, 0, none⟩ = some (.int .i64 d.ep) ∧ w'.cell? ⟨p2, 1, none⟩ = some (.slice ad2 d.ms.length cap2) ∧ w'.cell? ⟨p2, 2, none⟩ = some (.int .i64 d.dr)) => unhide H3 _ ((K5.andNo K7).andNo k.1))
      have KF := K5.andNo K7
      clear K5 K7 hch k6 k7 KW GG HB HE HP HR HG HH
      go_region_held3 (fun w' => Chg noBlk w7 w' ∧ w'.cell? ⟨p, 0, none⟩ = some (.int .i64 c.ep) ∧ w'.cell? ⟨p, 1, none⟩ = some (.slice ad c.ms.length cap) ∧ w'.cell? ⟨p, 2, none⟩ = some (.int .i64 c.dr) ∧ w'.cell? ⟨p2, 0, none⟩ = some (.int .i64 d.ep) ∧ w'.cell? ⟨p2, 1, none⟩ = some (.slice ad2 d.ms.length cap2) ∧ w'.cell? ⟨p2, 2, none⟩ = some (.int .i64 d.dr))
        ((refine unhide KE _ ?_; go_split_ands; first | assumption | exact Chg.drew (by assumption) | exact Chg.drewN (by assumption) _ | exact Chg.andNo (by assumption) (by assumption)))
        (first
          | (go_at_call 13; (with_reducible refine (unhide HC _ (by assumption)).mono ?_); rintro e w8 ⟨rfl, k8⟩)
          | (go_at_call 14; (with_reducible refine (unhide HD _ (by assumption)).mono ?_); rintro e w9 ⟨rfl, k9⟩)
          | (go_at_call 15; (with_reducible refine (unhide H1 _ (by assumption)).mono ?_); rintro e w10 ⟨rfl, k10⟩)
          | (go_at_call 16; (with_reducible refine (unhide H2 _ (by assumption)).mono ?_); rintro e w11 ⟨rfl, k11⟩)
          | (go_at_call 15; (with_reducible refine (unhide H3 _ (by assumption)).mono ?_); rintro e w12 ⟨rfl, k12⟩)
          | (go_at_call 9; (with_reducible refine (linked_any _).mono ?_); rintro e w13 ⟨rfl, k13⟩))
      rename_i hH
      obtain ⟨K9, _⟩ := hH
      go_wp2_with fail
      go_ret
      exact ⟨rfl, KF.andNo K9⟩
end
theorem telllaw_any {w : World} {ad ad2 : Option Addr} {cap cap2 : Nat} {c d : CT} (hs : Sl0 w ad cap c.ms) (hs2 : Sl0 w ad2 cap2 d.ms) (n : Int) : Calls Try.prog 3 #[chV c (.slice ad c.ms.length cap), chV d (.slice ad2 d.ms.length cap2), .int .i64 n] w (ToldN (.bool true) w) := by
  cases h : greatB c
  · have hl := greatB_no h
    cases h2 : greatB d
    · have hl2 := greatB_no h2
      exact tell_in (hs.sl (by omega)) (hs2.sl (by omega)) n h h2
    · exact tell_great n (.inr ⟨h, h2⟩)
  · exact tell_great n (.inl h)
#print axioms telllaw_any
end Go.Proofs.Ytiapkmncgafofaa
