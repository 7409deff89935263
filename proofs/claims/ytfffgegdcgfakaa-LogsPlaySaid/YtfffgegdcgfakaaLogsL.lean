/-
  Logs: a log that is none has no entries: walked.
-/
import Derived.Test.YtfffgegdcgfakaaLogsK
namespace Go.Proofs.Ytfffgegdcgfakaa
open Go.ChangeShapes Go.WideShapes Go.ChangeAt Go.RowKit
set_option linter.unusedVariables false
attribute [local go_sem] bs_size bs_app bs_cut bs_tl bs_at
attribute [local go_sem ↓] eq_ress eq_same
attribute [local go_sem] eqRb_self
section
variable {w : World} {p : Value}
theorem append_none0 (h : NoneAt w p) (x : ET) : Calls Try.prog 12 #[p, .agg x.cells.toArray] w (ToldN (.tuple #[.agg #[.int .i64 0, .string ⟨#[]⟩, .int .i64 0, .int .i64 0], .int .i64 1]) w) := lappend_none h x
theorem look_none0 (h : NoneAt w p) : Calls Try.prog 10 #[p, .string ⟨#[107]⟩] w (ToldN (.agg #[.int .i64 0, .string ⟨#[]⟩, .int .i64 0, .int .i64 0]) w) := llook_none h [107]
end
set_option maxRecDepth 100000 in
set_option maxHeartbeats 4000000 in
theorem logsnone_any (a : AT) (ok : a.Ok) (w : World) : Calls Try.prog 4 #[.agg a.cells.toArray] w (ToldN (.bool true) w) := by
  have HO := hide ok
  have HG := hide (fun w b (h : ActAt w b a) => (show Calls Try.prog 6 #[.slice (some ⟨b, 0, none⟩) 1 1, .int .i64 1] w (ToldN (.bool (greatL [a] 1)) w) from great_any (some ⟨b, 0, none⟩) [a] 1 1 w (by omega) (h.all ok) (by simp)))
  obtain ⟨g, hg⟩ : ∃ g, greatL [a] 1 = g := ⟨_, rfl⟩
  rw [hg] at HG
  clear hg ok
  cases g
  · go_enter Try.func4, Try.ntmps4
    go_wp2_with (first
      | (go_at_call 6; (with_reducible refine (unhide HG _ _ G2).mono ?_); rintro e w3 ⟨rfl, k3⟩)
      | ((with_reducible show wpList _ _ _ (_ :: _) _ _); first
        | (refine wpL_box rfl 36 (.tmp 0) rfl a.cells.toArray rfl ?_; intro b w1 e1 k1 g1 z1; have G1 : ActAt w1 b a := g1; clear g1 z1 e1)
        | (refine wpL_load rfl 36 (.tmp 1) rfl b rfl a.cells.toArray _ _ G1 _ Try.underlying36 rfl (by rw [size_act]; rfl) ?_)
        | (refine wpL_one rfl 22 (.tmp 13) rfl 36 aZero.cells.toArray Try.underlying22 (by kernel_rfl) (by decide) (by decide) a.cells.toArray rfl rfl ?_; intro b2 w2 e2 k2 g2 z2; have G2 : ActAt w2 b2 a := g2; clear e2 g2 z2)))
    have K3 := hide ((k1.andNo k2).andNo k3)
    have HB0 := hide (show TurnAt w b a (.pointer none) (.int .i64 0) w3 from ⟨0, by omega, rfl, .inl rfl, (G1.no k2).no k3, unhide K3⟩)
    clear k1 k2 k3 G1 G2 HG K3
    go_loopw [3, 4] (fun s i wr => TurnAt w b a s i wr) (fun s i wr => 2 - (intOf i).toNat)
    case atStart => exact unhide HB0
    case round =>
      clear HB0
      obtain ⟨k, hk, rfl, hs, hA, kw⟩ := hrel
      have KW := hide kw
      have HS := hide (fun w' (c : Chg noBlk wr w') => hs.no c)
      have HA := hide hA
      clear kw hs hA
      by_cases hlt : k < 2
      · have i1 : (0 : Int) ≤ (k : Int) := by omega
        have i2 : (k : Int) < 2 := by omega
        have t1 : True := True.intro
        have t2 : True := True.intro
        have u1 : True := True.intro
        have u2 : True := True.intro
        go_wp2_with (first
          | (go_at_call 12; (with_reducible refine (append_none0 (unhide HS _ (Chg.refl _ _)) a.e).mono ?_); rintro e w5 ⟨rfl, k5⟩; have KK := k5)
          | (go_at_call 18; (with_reducible refine (at_none (unhide HS _ KK)).mono ?_); rintro e wz ⟨rfl, kz⟩; have KK := KK.andNo kz; have RR := kz.at RR id)
          | (go_at_call 19; (with_reducible refine (res_none (unhide HS _ KK)).mono ?_); rintro e wz ⟨rfl, kz⟩; have KK := KK.andNo kz; have RR := kz.at RR id)
          | (go_at_call 20; (with_reducible refine (last_none (unhide HS _ KK) a.e.cl).mono ?_); rintro e wz ⟨rfl, rfl⟩; clear cc)
          | (go_at_call 13; (with_reducible refine (llen_none (unhide HS _ KK)).mono ?_); rintro e wz ⟨rfl, rfl⟩)
          | (go_at_call 21; (with_reducible refine (entries_none (unhide HS _ KK)).mono ?_); rintro e wz ⟨rfl, rfl⟩)
          | (go_at_call 10; (with_reducible refine (look_none0 (unhide HS _ KK)).mono ?_); rintro e wz ⟨rfl, kz⟩; have KK := KK.andNo kz)
          | (go_at_call 9; (with_reducible refine (lcopy_none (unhide HS _ KK)).mono ?_); rintro e wz ⟨rfl, rfl⟩)
          | (clear t1; go_at_call 8; refine (log_new _).mono ?_; rintro e wz ⟨p7, S7, rfl, _, l7, kz, b7, rfl⟩; have KK := KK.andNo kz)
          | (clear t2; go_at_call 8; refine (log_new _).mono ?_; rintro e wz ⟨p8, S8, rfl, _, l8, kz, b8, rfl⟩; have KK := KK.andNo kz)
          | (go_at_call 16; (with_reducible refine (begins_none (unhide HS _ KK)).mono ?_); rintro e wz ⟨rfl, rfl⟩)
          | (go_at_call 16; (with_reducible refine (begins_not2 (unhide HS _ KK) l8).mono ?_); rintro e wz ⟨rfl, rfl⟩)
          | (go_at_call 16; (with_reducible refine (begins_not1 (unhide HS _ KK) l7).mono ?_); rintro e wz ⟨rfl, rfl⟩)
          | ((with_reducible show wpList _ _ _ (_ :: _) _ _); first
            | (refine wpList_load_mid rfl 34 (.tmp 23) rfl b 1 rfl a.e.cells _ (unhide HA).ent Try.underlying34 rfl (by rw [info_ent]; rfl) ?_)
            | (refine wpL_load rfl 38 (.tmp 5) rfl p5 rfl #[.int .i64 0, .string ⟨#[]⟩, .int .i64 0, .int .i64 0] _ _ RR _ Try.underlying38 rfl info_res ?_)
            | (clear u1; refine wpL_alloc rfl 38 rfl _ zero_res ?_; intro p5 wa ea ka ga za; have ea := Nat.le_of_eq ea; have KA := ka)
            | (refine wpL_store rfl 38 (.tmp 5) (.tmp 26) rfl p5 #[.int .i64 0, .string ⟨#[]⟩, .int .i64 0, .int .i64 0] rfl rfl _ _ ga info_res rfl (all_oneCell_toArray (by simp [Value.oneCell'])) ?_; intro wb kb gb zb; have RR := gb; have KK := KK.andNo (KA.past kb ea))
            | (refine wpL_alloc rfl 34 rfl _ zero_ent ?_; intro pp wa ea ka ga za; have ea := Nat.le_of_eq ea; have KA := ka)
            | (refine wpL_store rfl 34 (.tmp 7) (.tmp 31) rfl pp eZero.cells.toArray rfl rfl _ _ ga info_ent rfl (all_oneCell_toArray (ET.one _)) ?_; intro wb kb gb zb; have kc := KA.past kb ea; have KK := KK.andNo kc; have RR := kc.at RR id)
            | (refine wpL_alloc rfl 38 rfl _ zero_res ?_; intro pp wa ea ka ga za; have ea := Nat.le_of_eq ea; have KA := ka)
            | (refine wpL_store rfl 38 (.tmp 9) (.tmp 36) rfl pp rZero.cells.toArray rfl rfl _ _ ga info_res rfl (all_oneCell_toArray (RT.one _)) ?_; intro wb kb gb zb; have kc := KA.past kb ea; have KK := KK.andNo kc; have RR := kc.at RR id; have cc := ((unhide HA).no KK).c2)
            | (refine wpL_box rfl 59 (.tmp 104) rfl bareC rfl ?_; intro b4 w9 e9 k9 g9 z9)))
        go_roundw
        case rel => exact ⟨k + 1, by omega, by go_num, .inr ⟨b4, rfl, g9⟩, (unhide HA).no (KK.andNo k9), (unhide KW).andNo (KK.andNo k9)⟩
        case measure => simp [intOf]; omega
      · obtain rfl : k = 2 := by omega
        go_wp2_with (go_at_call 7; (with_reducible refine (logged_any _).mono ?_); rintro e w4 ⟨rfl, k4⟩)
        go_ret
        exact ⟨rfl, (unhide KW).andNo k4⟩
  · go_enter Try.func4, Try.ntmps4
    go_wp2_with (first
      | (go_at_call 6; (with_reducible refine (unhide HG _ _ G2).mono ?_); rintro e w3 ⟨rfl, k3⟩)
      | (go_at_call 7; (with_reducible refine (logged_any _).mono ?_); rintro e w4 ⟨rfl, k4⟩)
      | ((with_reducible show wpList _ _ _ (_ :: _) _ _); first
        | (refine wpL_box rfl 36 (.tmp 0) rfl a.cells.toArray rfl ?_; intro b w1 e1 k1 g1 z1; have G1 : ActAt w1 b a := g1; clear g1 z1 e1)
        | (refine wpL_load rfl 36 (.tmp 1) rfl b rfl a.cells.toArray _ _ G1 _ Try.underlying36 rfl (by rw [size_act]; rfl) ?_)
        | (refine wpL_one rfl 22 (.tmp 13) rfl 36 aZero.cells.toArray Try.underlying22 (by kernel_rfl) (by decide) (by decide) a.cells.toArray rfl rfl ?_; intro b2 w2 e2 k2 g2 z2; have G2 : ActAt w2 b2 a := g2; clear e2 g2 z2)))
    go_ret
    exact ⟨rfl, ((k1.andNo k2).andNo k3).andNo k4⟩
end Go.Proofs.Ytfffgegdcgfakaa
