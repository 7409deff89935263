/-
  Frames: the document's Get, one way (UC).
-/
import Derived.Test.YtfplgmkbhpdmjaaFramesU
namespace Go.Proofs.Ytfplgmkbhpdmjaa.Fm
open Go.ChangeShapes Go.WideShapes Go.ChangeAt Go.RowKit
set_option linter.unusedVariables false
attribute [local go_sem] bs_size bs_app bs_cut bs_tl bs_at
attribute [local go_sem ↓] ldFr_pre stFr_pre in
set_option maxRecDepth 100000 in
set_option maxHeartbeats 4000000 in
theorem rget_4 (s : List UInt8) (hs : s.length ≤ 1000) (hk0 : (unintT s).1 = 4) (w : World) : Calls Try.prog 8 #[str s] w (Got s w) := by
  obtain ⟨k, r0, o, hu⟩ : ∃ k r o, unintT s = (k, r, o) := ⟨_, _, _, rfl⟩
  rw [hu] at hk0
  have HK := hide hk0
  clear hk0
  have hr0 : r0.length ≤ 1000 := by have := unint_len' hu; omega
  have HU0 := hide (runint_any' hu (by omega))
  have HH := hide (fun w' => has_any k w')
  have HB := hide (built_kind k)
  have HC := hide (fun f1 r1 (h : cN (hix k) (fZero.set 0 k) r0 = (f1, r1)) f hw => (⟨k, r0, o, f1, r1, hu, h, hw⟩ : Cand s f))
  have HO := hide (fun L => cN_other L (fZero.set 0 k) r0)
  have HX := hide (fun j c (h : (hasL k)[j]? = some c) => hix_at h)
  have HN := hide (nix_nix k)
  have HLN := hix_len k
  have HF := has_few k
  have HW := hide (fun (g : FT) (c : UInt8) x w' => with_any g (v := v0) rfl (c.toNat : Int) x w')
  have HS := hide (cN_snoc)
  have HCZ0 := hide (fun g rest (h : cN (hix k) (fZero.set 0 k) r0 = (g, rest)) => (by have := (cN_other (hix k) (fZero.set 0 k) r0).2.2.2.2.1; rw [h] at this; exact this : g.ch = Ch.cZero))
  clear hu
  generalize hasL k = W at *
  generalize hix k = L at *
  have ta : True := True.intro
  go_enter Try.func8, Try.ntmps8
  go_wp2_with (first
    | (go_at_call 17; (with_reducible refine (unhide HU0 _).mono ?_); rintro e w2 ⟨rfl, k2⟩)
    | (go_at_call 18; (with_reducible refine (unhide HH _).mono ?_); rintro e w5 ⟨rfl, rfl⟩)
    | ((with_reducible show wpList _ _ _ (⟨_, _, _, _, _, none⟩ :: _) _ _); first
      | (clear ta; refine wpL_alloc rfl 33 rfl _ zero_fr ?_; intro p w1 e1 k1 g1 z1; have E1 := hide (Nat.le_of_eq e1); have G1 : FrAt w1 p fZero v0 := g1; clear z1 e1 g1)
      | (refine wpL_alloc rfl 33 rfl _ zero_fr ?_; intro d w3 e3 k3 g3 z3; have E3 := hide (Nat.le_of_eq e3); have G3 : FrAt w3 d fZero v0 := g3; clear z3 e3 g3)
      | (refine wpL_build rfl 33 #[(0, .tmp 39)] rfl _ (unhide HB) ?_)
      | (refine wpL_store rfl 33 (.tmp 7) (.tmp 40) rfl d ((fZero.set 0 k).cells v0).toArray rfl rfl _ _ G3 info_fr rfl (all_oneCell_toArray (FT.one _ rfl)) ?_; intro w4 k4 g4 z4; have G4 : FrAt w4 d (fZero.set 0 k) v0 := g4; clear z4 g4)))
  have K2 := k1.andNo k2
  have E3w : Hid (w.heap.size ≤ d) := hide (Nat.le_trans K2.size (unhide E3))
  have N12 : Hid (p ≠ d) := hide (fun e => by have := (G1.no k2).lt; have := unhide E3; omega)
  have K4 : Chg noBlk w w4 := (K2.andNo k3).past k4 (unhide E3w)
  have HG1 : Hid (FrAt w4 p fZero v0) := hide (k4.at ((G1.no k2).no k3) (fun e => unhide N12 e))
  have HG4 := hide G4
  clear k1 k2 k3 k4 K2 G1 G3 G4 HU0 HH HB
  generalize fZero.set 0 k = f0 at HG4 HC HO HCZ0 ⊢
  go_loopw [5, 9] (fun u i wr => ∃ (j : Nat) (g : FT) (rest : List UInt8), j ≤ W.length ∧ i = .int .i64 (j : Int) ∧ u = str rest ∧ Hid (cN (L.take j) f0 r0 = (g, rest)) ∧ FrAt wr d g v0 ∧ FrAt wr p fZero v0 ∧ Chg noBlk w wr) (fun u i wr => W.length - (intOf i).toNat)
  case atStart => exact ⟨0, f0, r0, by omega, rfl, rfl, hide rfl, unhide HG4, unhide HG1, K4⟩
  case round =>
    obtain ⟨j, g, rest, hj, rfl, rfl, hn, G, GP, hch⟩ := hrel
    have lr : rest.length ≤ 1000 := by have := (unhide HO (L.take j)).2.2.2.2.2; rw [unhide hn] at this; simp only at this; omega
    by_cases hlt : j < W.length
    · obtain ⟨c, hc⟩ : ∃ c, W[j]? = some c := ⟨_, List.getElem?_eq_getElem hlt⟩
      have hi := unhide HX j c hc
      have wc : W[j]'hlt = c := (List.getElem?_eq_some_iff.1 hc).2
      have i1 : (0 : Int) ≤ (j : Int) := by omega
      have i2 : (j : Int) < (W.length : Int) := by omega
      obtain ⟨x, t, o', hx⟩ : ∃ k r o, unintT rest = (k, r, o) := ⟨_, _, _, rfl⟩
      have HU1 := hide (runint_any' hx (by omega))
      have HE := hide (show cN (L.take (j + 1)) f0 r0 = (g.set (lx (c.toNat : Int)) x, t) by rw [take_snoc hi, unhide HS, unhide hn]; simp only [hx])
      have HW1 := hide (fun w' => unhide HW g c x w')
      have HG := hide G
      have HGP := hide GP
      clear hc hi hx G GP
      generalize lx (c.toNat : Int) = i at *
      go_wp2_with (go_at_call 17; (with_reducible refine (unhide HU1 _).mono ?_); rintro e w6 ⟨rfl, k6⟩; have la := run_ldFr (((unhide HG).no k6).drew); have G6 := hide ((unhide HG).no k6))
      go_region_law (first
        | (go_simp; go_at_call 19; (refine (unhide HW1 _).mono ?_); rintro e w7 ⟨rfl, k7⟩; have K7 := hide k7; have st := run_stFr (f := g.set i x) (v := v0) (((unhide G6).drew).no k7) rfl; clear k7))
      all_goals
        have pf := put_fr (f := g.set i x) (v := v0) (((unhide G6).drew).no (unhide K7)) rfl
        have PF := hide pf.1
        have PC := hide pf.2
        clear pf st la
        generalize w7.setCells d 0 ((g.set i x).cells v0) = wF at PF PC ⊢
        go_wp2_with fail
        go_roundw
        case rel => exact ⟨j + 1, _, _, by omega, by go_num, rfl, HE, unhide PF, (unhide PC).at ((((unhide HGP).no k6).drew).no (unhide K7)) (fun e => unhide N12 e), (((hch.andNo k6).drew).andNo (unhide K7)).past (unhide PC) (unhide E3w)⟩
        case measure => simp [intOf]; omega
    · obtain rfl : j = W.length := by omega
      have HNN : Hid (cN L f0 r0 = (g, rest)) := by have := unhide hn; rw [← HLN, List.take_length] at this; exact hide this
      have HG := hide G
      have HGP := hide GP
      have HCH := hide hch
      clear hn G GP hch HX HW HS HO HG1 HG4 K4 hj hlt
      obtain ⟨a, t1, o1, hx⟩ : ∃ k r o, unintT rest = (k, r, o) := ⟨_, _, _, rfl⟩
      have HU1 := hide (runint_any' hx (by omega))
      have l1 := unint_len' hx
      have HX := hide hx
      clear hx
      have hz := unhide HCZ0 g rest (unhide HNN)
      have HZ := hide hz
      clear hz HCZ0
      have k4 : k = 4 := unhide HK
      clear HK
      subst k4
      obtain ⟨b, t2, o2, hx2⟩ : ∃ k r o, unintT t1 = (k, r, o) := ⟨_, _, _, rfl⟩
      obtain ⟨c, t3, o3, hx3⟩ : ∃ k r o, unintT t2 = (k, r, o) := ⟨_, _, _, rfl⟩
      have l2 := unint_len' hx2
      have l3 := unint_len' hx3
      have HU2 := hide (runint_any' hx2 (by omega))
      have HU3 := hide (runint_any' hx3 (by omega))
      have HQ := hide (fun w' => rget_op t3 (by omega) w')
      have hres : entN g rest = ((g.set 16 a).set 17 b).set 18 c ∧ entR rest = t3 := by unfold entN entR; rw [unhide HX]; simp only [hx2, hx3]; exact ⟨trivial, trivial⟩
      have HC1 := hide (unhide HC g rest (unhide HNN) ((((g.set 16 a).set 17 b).set 18 c).withEop ((getX t3).getD pZero)) (.inr (.inr (.inl ⟨rfl, by rw [hres.1, hres.2]⟩))))
      clear hx2 hx3 hres l1 l2 l3
      generalize (getX t3).getD pZero = x at *
      generalize getN t3 = nx at *
      go_upto_region 25 with (first
        | (go_at_call 17; (with_reducible refine (unhide HU1 _).mono ?_); rintro e w6 ⟨rfl, k6⟩)
        | (go_at_call 17; (with_reducible refine (unhide HU2 _).mono ?_); rintro e w7 ⟨rfl, k7⟩)
        | (go_at_call 17; (with_reducible refine (unhide HU3 _).mono ?_); rintro e w8 ⟨rfl, k8⟩)
        | (go_at_call 20; (with_reducible refine (unhide HQ _).mono ?_); rintro e w9 ⟨rfl, k9⟩)
        | ((with_reducible show wpList _ _ _ (⟨_, _, _, _, _, none⟩ :: _) _ _); first
          | (refine wpL_alloc rfl 24 rfl _ zero_op ?_; intro q w10 e10 k10 g10 z10; have E10 := hide (Nat.le_of_eq e10); clear e10 z10)
          | (refine wpL_store rfl 24 (.tmp 29) (.tmp 120) rfl q x.cells.toArray rfl rfl _ _ g10 info_op rfl (all_oneCell_toArray (PT.one _)) ?_; intro w11 k11 g11 z11; have G11 : w11.heap[q]? = some (.cells #[.int .i64 x.k, str x.key, str x.val, .int .i64 x.ver] 24 (0, 0)) := g11; have j11 : Chg noBlk w9 w11 := k10.past k11 (unhide E10); clear z11 g11)
          | (refine wpL_load rfl 24 (.tmp 29) rfl q rfl #[.int .i64 x.k, str x.key, str x.val, .int .i64 x.ver] _ _ G11 _ Try.underlying24 rfl info_op ?_)
          | (refine wpL_put rfl 28 (.tmp 127) (.tmp 126) rfl d 16 (entC a b c x) rfl rfl (g.cells v0).toArray _ (((((unhide HG).no k6).no k7).no k8).no (k9.andNo j11)) (by rw [List.size_toArray, FT.len]; show 16 + 7 ≤ 29; omega) info_ent (entC_one _ _ _ _) ?_; intro w12 k12 g12 z12; have G12 := hide (fr_ent g12); clear z12 g12)))
      obtain ⟨ff, hff⟩ : ∃ ff, (((g.set 16 a).set 17 b).set 18 c).withEop x = ff := ⟨_, rfl⟩
      have CD : Hid (Cand s ff) := hide (hff ▸ unhide HC1)
      have hms : ff.ch.ms = [] := by rw [← hff]; show g.ch.ms = []; rw [unhide HZ]; rfl
      obtain ⟨ad, cap, hv0⟩ : ∃ ad cap, (.slice ad ff.ch.ms.length cap : Value) = v0 ∧ ad = none ∧ cap = 0 := ⟨none, 0, by rw [hms]; rfl, rfl, rfl⟩
      obtain ⟨hv0, rfl, rfl⟩ := hv0
      have FD : Hid (FrAt w12 d ff (.slice none ff.ch.ms.length 0)) := hide (by rw [hv0, ← hff]; exact (unhide G12))
      have SLE : Hid (Ch.Sl w12 none 0 ff.ch.ms) := hide (by rw [hms]; exact sl_none _)
      have NBE : Hid (∀ q, (none : Option Addr) = some q → ¬ oneBlk p q.block) := hide (fun q h => by cases h)
      have GPE : Hid (FrAt w12 p fZero v0) := hide (k12.at (((((unhide HGP).no k6).no k7).no k8).no (k9.andNo j11)) (fun e => unhide N12 e))
      have KE : Hid (Chg noBlk w w12) := hide ((((((unhide HCH).andNo k6).andNo k7).andNo k8).andNo (k9.andNo j11)).past k12 (unhide E3w))
      clear hff hms hv0
      have HP := hide (rput_any ff (unhide SLE))
      obtain ⟨B, hB⟩ : ∃ B, putF ff = B := ⟨_, rfl⟩
      obtain ⟨n, hn⟩ : ∃ n, errF ff = n := ⟨_, rfl⟩
      rw [hB, hn] at HP
      have hcw := cand_ways (unhide CD)
      rw [hB, hn] at hcw
      clear hB hn CD
      have hw4 : (512 < s.length ∧ GotOf s fZero 10) ∨ (¬ 512 < s.length ∧ (n != 0) = true ∧ GotOf s fZero 10) ∨ (¬ 512 < s.length ∧ (n != 0) = false ∧ ((B == s) = false ∧ (B != s) = true ∧ ¬ B = s) ∧ GotOf s fZero 10) ∨ (¬ 512 < s.length ∧ n = 0 ∧ B = s ∧ GotOf s ff 0) := by
        rcases hcw with ⟨h, hg⟩ | ⟨h1, h2, h3, hg⟩
        · by_cases q1 : 512 < s.length
          · exact .inl ⟨q1, hg⟩
          by_cases q2 : n = 0
          · exact .inr (.inr (.inl ⟨q1, by simp [q2], by rcases h with h | h | h; exact absurd h q1; exact absurd q2 h; exact ⟨by simpa using h, by simpa using h, h⟩, hg⟩))
          · exact .inr (.inl ⟨q1, by simpa using q2, hg⟩)
        · exact .inr (.inr (.inr ⟨h1, h2, h3, hg⟩))
      clear hcw
      have tz : True := True.intro
      rcases hw4 with ⟨h1, hg⟩ | ⟨h1, h2, hg⟩ | ⟨h1, h2, h3, hg⟩ | ⟨h1, rfl, rfl, hg⟩
      · have HGT := hide hg
        have i1 : (512 : Int) < (s.length : Int) := by omega
        clear h1 hg
        go_wp2_with (first
          | (go_at_call 23; (with_reducible refine (unhide HP).mono ?_); rintro e w20 ⟨rfl, k20⟩)
          | ((with_reducible show wpList _ _ _ (⟨_, _, _, _, _, none⟩ :: _) _ _); first
            | (clear tz; refine wpL_load rfl 33 (.tmp 7) rfl d rfl (ff.cells (.slice none ff.ch.ms.length 0)).toArray _ _ (unhide FD) _ Try.underlying33 rfl info_fr ?_)
            | (refine wpL_load rfl 33 (.tmp 7) rfl d rfl (ff.cells (.slice none ff.ch.ms.length 0)).toArray _ _ ((unhide FD).no k20) _ Try.underlying33 rfl info_fr ?_)
            | (refine wpL_build rfl 33 #[] rfl _ built_fr ?_)
            | (refine wpL_store rfl 33 (.tmp 2) (.tmp 153) rfl p (fZero.cells v0).toArray rfl rfl _ _ ((unhide GPE).no k20) info_fr rfl (all_oneCell_toArray (FT.one _ rfl)) ?_; intro w21 k21 g21 z21; clear z21)
            | (refine wpL_store rfl 33 (.tmp 2) (.tmp 154) rfl p (ff.cells (.slice none ff.ch.ms.length 0)).toArray rfl rfl _ _ ((unhide GPE).no k20) info_fr rfl (all_oneCell_toArray (FT.one _ rfl)) ?_; intro w21 k21 g21 z21; clear z21)))
        refine bodyPost_ret (results_row_tmp rfl _ _ p _ _ _ _ rfl g21 Try.underlying33 rfl info_fr) rfl ?_
        exact got_zero (unhide HGT) (((unhide KE).andNo k20).past k21 (unhide E1))
      · have HGT := hide hg
        have i1 : ¬ (512 : Int) < (s.length : Int) := by omega
        clear h1 hg
        go_wp2_with (first
          | (go_at_call 23; (with_reducible refine (unhide HP).mono ?_); rintro e w20 ⟨rfl, k20⟩)
          | ((with_reducible show wpList _ _ _ (⟨_, _, _, _, _, none⟩ :: _) _ _); first
            | (clear tz; refine wpL_load rfl 33 (.tmp 7) rfl d rfl (ff.cells (.slice none ff.ch.ms.length 0)).toArray _ _ (unhide FD) _ Try.underlying33 rfl info_fr ?_)
            | (refine wpL_load rfl 33 (.tmp 7) rfl d rfl (ff.cells (.slice none ff.ch.ms.length 0)).toArray _ _ ((unhide FD).no k20) _ Try.underlying33 rfl info_fr ?_)
            | (refine wpL_build rfl 33 #[] rfl _ built_fr ?_)
            | (refine wpL_store rfl 33 (.tmp 2) (.tmp 153) rfl p (fZero.cells v0).toArray rfl rfl _ _ ((unhide GPE).no k20) info_fr rfl (all_oneCell_toArray (FT.one _ rfl)) ?_; intro w21 k21 g21 z21; clear z21)
            | (refine wpL_store rfl 33 (.tmp 2) (.tmp 154) rfl p (ff.cells (.slice none ff.ch.ms.length 0)).toArray rfl rfl _ _ ((unhide GPE).no k20) info_fr rfl (all_oneCell_toArray (FT.one _ rfl)) ?_; intro w21 k21 g21 z21; clear z21)))
        refine bodyPost_ret (results_row_tmp rfl _ _ p _ _ _ _ rfl g21 Try.underlying33 rfl info_fr) rfl ?_
        exact got_zero (unhide HGT) (((unhide KE).andNo k20).past k21 (unhide E1))
      · have HGT := hide hg
        have i1 : ¬ (512 : Int) < (s.length : Int) := by omega
        obtain ⟨h3, h4, h5⟩ := h3
        clear h1 hg
        go_wp2_with (first
          | (go_at_call 23; (with_reducible refine (unhide HP).mono ?_); rintro e w20 ⟨rfl, k20⟩)
          | ((with_reducible show wpList _ _ _ (⟨_, _, _, _, _, none⟩ :: _) _ _); first
            | (clear tz; refine wpL_load rfl 33 (.tmp 7) rfl d rfl (ff.cells (.slice none ff.ch.ms.length 0)).toArray _ _ (unhide FD) _ Try.underlying33 rfl info_fr ?_)
            | (refine wpL_load rfl 33 (.tmp 7) rfl d rfl (ff.cells (.slice none ff.ch.ms.length 0)).toArray _ _ ((unhide FD).no k20) _ Try.underlying33 rfl info_fr ?_)
            | (refine wpL_build rfl 33 #[] rfl _ built_fr ?_)
            | (refine wpL_store rfl 33 (.tmp 2) (.tmp 153) rfl p (fZero.cells v0).toArray rfl rfl _ _ ((unhide GPE).no k20) info_fr rfl (all_oneCell_toArray (FT.one _ rfl)) ?_; intro w21 k21 g21 z21; clear z21)
            | (refine wpL_store rfl 33 (.tmp 2) (.tmp 154) rfl p (ff.cells (.slice none ff.ch.ms.length 0)).toArray rfl rfl _ _ ((unhide GPE).no k20) info_fr rfl (all_oneCell_toArray (FT.one _ rfl)) ?_; intro w21 k21 g21 z21; clear z21)))
        refine bodyPost_ret (results_row_tmp rfl _ _ p _ _ _ _ rfl g21 Try.underlying33 rfl info_fr) rfl ?_
        exact got_zero (unhide HGT) (((unhide KE).andNo k20).past k21 (unhide E1))
      · have HGT := hide hg
        have i1 : ¬ (512 : Int) < (B.length : Int) := by omega
        have eC : (B != B) = false := by simp
        clear h1 hg
        go_wp2_with (first
          | (go_at_call 23; (with_reducible refine (unhide HP).mono ?_); rintro e w20 ⟨rfl, k20⟩)
          | ((with_reducible show wpList _ _ _ (⟨_, _, _, _, _, none⟩ :: _) _ _); first
            | (clear tz; refine wpL_load rfl 33 (.tmp 7) rfl d rfl (ff.cells (.slice none ff.ch.ms.length 0)).toArray _ _ (unhide FD) _ Try.underlying33 rfl info_fr ?_)
            | (refine wpL_load rfl 33 (.tmp 7) rfl d rfl (ff.cells (.slice none ff.ch.ms.length 0)).toArray _ _ ((unhide FD).no k20) _ Try.underlying33 rfl info_fr ?_)
            | (refine wpL_build rfl 33 #[] rfl _ built_fr ?_)
            | (refine wpL_store rfl 33 (.tmp 2) (.tmp 153) rfl p (fZero.cells v0).toArray rfl rfl _ _ ((unhide GPE).no k20) info_fr rfl (all_oneCell_toArray (FT.one _ rfl)) ?_; intro w21 k21 g21 z21; clear z21)
            | (refine wpL_store rfl 33 (.tmp 2) (.tmp 154) rfl p (ff.cells (.slice none ff.ch.ms.length 0)).toArray rfl rfl _ _ ((unhide GPE).no k20) info_fr rfl (all_oneCell_toArray (FT.one _ rfl)) ?_; intro w21 k21 g21 z21; clear z21)))
        refine bodyPost_ret (results_row_tmp rfl _ _ p _ _ _ _ rfl g21 Try.underlying33 rfl info_fr) rfl ?_
        exact ⟨ff, 0, none, 0, unhide HGT, rfl, ((unhide KE).andNo k20).past k21 (unhide E1), sl_past ((unhide SLE).no k20) k21 (fun q hq => unhide NBE q hq)⟩
end Go.Proofs.Ytfplgmkbhpdmjaa.Fm
