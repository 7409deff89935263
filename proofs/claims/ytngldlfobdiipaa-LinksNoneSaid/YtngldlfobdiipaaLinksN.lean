/-
  Links: links that are none take nothing: walked.
-/
import Derived.Test.YtngldlfobdiipaaLinksM
namespace Go.Proofs.Ytngldlfobdiipaa.Lk
open Go.ChangeShapes Go.WideShapes Go.ChangeAt Go.RowKit
set_option linter.unusedVariables false
attribute [local go_sem] bs_size bs_app bs_cut bs_tl bs_at
attribute [local go_sem ↓] eq_mail
theorem ActAt.all {w : World} {b : Nat} {a : AT} (h : ActAt w b a) (ok : a.Ok) : ActsIn w (some ⟨b, 0, none⟩) [a] := fun i x hx => by
  rcases i with _ | i
  · obtain rfl : a = x := by simpa using hx
    exact ⟨ok, b, 0, rfl, fun j v hv => by
      have := cellAt h j v (by simpa using hv)
      simpa using this⟩
  · simp at hx
/-- where the two turns stand -/
def TurnAt (w0 : World) (b : Nat) (a : AT) (s i : Value) (w : World) : Prop := ∃ k : Nat, k ≤ 2 ∧ i = .int .i64 (k : Int) ∧ NoneAt w s ∧ ActAt w b a ∧ Chg noBlk w0 w
set_option maxRecDepth 100000 in
set_option maxHeartbeats 4000000 in
theorem linksnone_any (a : AT) (ok : a.Ok) (w : World) : Calls Try.prog 4 #[.agg a.cells.toArray] w (ToldN (.bool true) w) := by
  have HO := hide ok
  have HG := hide (fun w b (h : ActAt w b a) => (show Calls Try.prog 6 #[.slice (some ⟨b, 0, none⟩) 1 1, .int .i64 1] w (Told (.bool (greatL [a] 1)) w) from great_any (some ⟨b, 0, none⟩) [a] 1 1 w (by omega) (h.all ok) (by simp)))
  obtain ⟨g, hg⟩ : ∃ g, greatL [a] 1 = g := ⟨_, rfl⟩
  rw [hg] at HG
  clear hg ok
  cases g
  · go_enter Try.func4, Try.ntmps4
    go_wp2_with (first
      | (go_at_call 6; (with_reducible refine (unhide HG _ _ G2).mono ?_); rintro e w3 ⟨rfl, rfl⟩)
      | ((with_reducible show wpList _ _ _ (_ :: _) _ _); first
        | (refine wpL_box rfl 35 (.tmp 0) rfl a.cells.toArray rfl ?_; intro b w1 e1 k1 g1 z1; have G1 : ActAt w1 b a := g1; clear g1 z1 e1)
        | (refine wpL_load rfl 35 (.tmp 1) rfl b rfl a.cells.toArray _ _ G1 _ Try.underlying35 rfl (by rw [size_act]; rfl) ?_)
        | (refine wpL_one rfl 22 (.tmp 7) rfl 35 aZero.cells.toArray Try.underlying22 (by kernel_rfl) (by decide) (by decide) a.cells.toArray rfl rfl ?_; intro b2 w2 e2 k2 g2 z2; have G2 : ActAt w2 b2 a := g2; clear e2 g2 z2)))
    have K3 := hide (k1.andNo k2)
    have HB0 := hide (show TurnAt w b a (.pointer none) (.int .i64 0) w2 from ⟨0, by omega, rfl, .inl rfl, G1.no k2, unhide K3⟩)
    clear k1 k2 G1 G2 HG K3
    go_loopw [3, 4] (fun s i wr => TurnAt w b a s i wr) (fun s i wr => 2 - (intOf i).toNat)
    case atStart => exact unhide HB0
    case round =>
      clear HB0
      obtain ⟨k, hk, rfl, hs, hA, kw⟩ := hrel
      have KW := hide kw
      have HS := hide (fun w' (c : Chg noBlk wr w') => hs.no c)
      have HA := hide hA
      have c1 := hA.c1
      have c2 := hA.c2
      have c4 := hA.c4
      clear kw hs hA
      by_cases hlt : k < 2
      · have i1 : (0 : Int) ≤ (k : Int) := by omega
        have i2 : (k : Int) < 2 := by omega
        have KK := Chg.refl noBlk wr
        go_wp2_with (first
          | (go_at_call 10; (with_reducible refine (deliver_none (unhide HS _ KK) a.m.fr a.m.to a.i).mono ?_); rintro e w5 ⟨rfl, k5⟩; clear c1 c2 c4)
          | (go_at_call 16; (with_reducible refine (send_none (unhide HS _ KK) a.m).mono ?_); rintro e wz ⟨rfl, kz⟩; have KK := KK.andNo kz; have RR := kz.at RR id; have d0 : wz.cell? ⟨p5, 0, none⟩ = some (.int .i64 0) := cellAt RR 0 _ rfl; have d1 : wz.cell? ⟨p5, 1, none⟩ = some (.int .i64 0) := cellAt RR 1 _ rfl; have d2 : wz.cell? ⟨p5, 2, none⟩ = some (.string ⟨#[]⟩) := cellAt RR 2 _ rfl; have c4 := ((unhide HA).no KK).c4)
          | (go_at_call 12; (with_reducible refine (drop_none (unhide HS _ KK) 0 1 a.i).mono ?_); rintro e wz ⟨rfl, kz⟩; have KK := KK.andNo kz; have c4 := ((unhide HA).no KK).c4)
          | (go_at_call 13; (with_reducible refine (double_none (unhide HS _ KK) 0 1 a.i).mono ?_); rintro e wz ⟨rfl, kz⟩; have KK := KK.andNo kz)
          | (go_at_call 19; (with_reducible refine (pairs_none (unhide HS _ KK)).mono ?_); rintro e wz ⟨rfl, rfl⟩)
          | (go_at_call 20; (with_reducible refine (count_none (unhide HS _ KK) 0 1).mono ?_); rintro e wz ⟨rfl, rfl⟩)
          | (go_at_call 21; (with_reducible refine (list_none (unhide HS _ KK) 0 1).mono ?_); rintro e wz ⟨rfl, rfl⟩)
          | (go_at_call 22; (with_reducible refine (all_none (unhide HS _ KK)).mono ?_); rintro e wz ⟨rfl, rfl⟩)
          | (go_at_call 15; (with_reducible refine (copy_none (unhide HS _ KK)).mono ?_); rintro e wz ⟨rfl, rfl⟩)
          | ((with_reducible show wpList _ _ _ (_ :: _) _ _); first
            | (refine wpL_alloc rfl 33 rfl _ zero_mail ?_; intro p5 wa ea ka ga za; have ea := Nat.le_of_eq ea; have KA := ka)
            | (refine wpL_store rfl 33 (.tmp 5) (.tmp 26) rfl p5 mZero.cells.toArray rfl rfl _ _ ga info_mail rfl (all_oneCell_toArray (ML.one _)) ?_; intro wb kb gb zb; have RR := gb; have KK := (KK.andNo k5).andNo (KA.past kb ea); have HA2 := (unhide HA).no KK; clear KA ka kb ga gb za zb ea k5)
            | (refine wpList_load_mid rfl 33 (.tmp 29) rfl b 1 rfl a.m.cells _ HA2.mail Try.underlying33 rfl (by rw [info_mail]; rfl) ?_)
            | (refine wpL_box rfl 51 (.tmp 83) rfl #[.int .i64 0, .map none] rfl ?_; intro b4 w9 e9 k9 g9 z9)))
        go_roundw
        case rel => exact ⟨k + 1, by omega, by go_num, .inr ⟨b4, rfl, g9⟩, (unhide HA).no (KK.andNo k9), (unhide KW).andNo (KK.andNo k9)⟩
        case measure => simp [intOf]; omega
      · obtain rfl : k = 2 := by omega
        go_wp2_with (go_at_call 7; (with_reducible refine (mailed_any _).mono ?_); rintro e w4 ⟨rfl, k4⟩)
        go_ret
        exact ⟨rfl, (unhide KW).andNo k4⟩
  · go_enter Try.func4, Try.ntmps4
    go_wp2_with (first
      | (go_at_call 6; (with_reducible refine (unhide HG _ _ G2).mono ?_); rintro e w3 ⟨rfl, rfl⟩)
      | (go_at_call 7; (with_reducible refine (mailed_any _).mono ?_); rintro e w4 ⟨rfl, k4⟩)
      | ((with_reducible show wpList _ _ _ (_ :: _) _ _); first
        | (refine wpL_box rfl 35 (.tmp 0) rfl a.cells.toArray rfl ?_; intro b w1 e1 k1 g1 z1; have G1 : ActAt w1 b a := g1; clear g1 z1 e1)
        | (refine wpL_load rfl 35 (.tmp 1) rfl b rfl a.cells.toArray _ _ G1 _ Try.underlying35 rfl (by rw [size_act]; rfl) ?_)
        | (refine wpL_one rfl 22 (.tmp 7) rfl 35 aZero.cells.toArray Try.underlying22 (by kernel_rfl) (by decide) (by decide) a.cells.toArray rfl rfl ?_; intro b2 w2 e2 k2 g2 z2; have G2 : ActAt w2 b2 a := g2; clear e2 g2 z2)))
    go_ret
    exact ⟨rfl, (k1.andNo k2).andNo k4⟩
end Go.Proofs.Ytngldlfobdiipaa.Lk
