/-
  Frames: the document's Get, one way (UD).
-/
import Derived.Test.YtfplgmkbhpdmjaaFramesU
namespace Go.Proofs.Ytfplgmkbhpdmjaa.Fm
open Go.ChangeShapes Go.WideShapes Go.ChangeAt Go.RowKit
set_option linter.unusedVariables false
attribute [local go_sem] bs_size bs_app bs_cut bs_tl bs_at
attribute [local go_sem ↓] ldFr_pre stFr_pre in
set_option maxRecDepth 100000 in
set_option maxHeartbeats 4000000 in
theorem rget_8 (s : List UInt8) (hs : s.length ≤ 1000) (hk0 : (unintT s).1 = 8) (w : World) : Calls Try.prog 8 #[str s] w (Got s w) := by
  obtain ⟨k, r0, o, hu⟩ : ∃ k r o, unintT s = (k, r, o) := ⟨_, _, _, rfl⟩
  rw [hu] at hk0
  have HK := hide hk0
  clear hk0
  have hr0 : r0.length ≤ 1000 := by have := unint_len' hu; omega
  have HU0 := hide (runint_any' hu (by omega))
  have HH := hide (fun w' => has_any k w')
  have HB := hide (built_kind k)
  have HC := hide (fun f1 r1 (h : cN (hix k) (fZero.set 0 k) r0 = (f1, r1)) f hw => (⟨k, r0, o, f1, r1, hu, h, hw⟩ : Cand s f))
  have HO := hide (fun L => cN_other L (fZero.set 0 k) r0)
  have HX := hide (fun j c (h : (hasL k)[j]? = some c) => hix_at h)
  have HN := hide (nix_nix k)
  have HLN := hix_len k
  have HF := has_few k
  have HW := hide (fun (g : FT) (c : UInt8) x w' => with_any g (v := v0) rfl (c.toNat : Int) x w')
  have HS := hide (cN_snoc)
  have HCZ0 := hide (fun g rest (h : cN (hix k) (fZero.set 0 k) r0 = (g, rest)) => (by have := (cN_other (hix k) (fZero.set 0 k) r0).2.2.2.2.1; rw [h] at this; exact this : g.ch = Ch.cZero))
  clear hu
  generalize hasL k = W at *
  generalize hix k = L at *
  have ta : True := True.intro
  go_enter Try.func8, Try.ntmps8
  go_wp2_with (first
    | (go_at_call 17; (with_reducible refine (unhide HU0 _).mono ?_); rintro e w2 ⟨rfl, k2⟩)
    | (go_at_call 18; (with_reducible refine (unhide HH _).mono ?_); rintro e w5 ⟨rfl, rfl⟩)
    | ((with_reducible show wpList _ _ _ (⟨_, _, _, _, _, none⟩ :: _) _ _); first
      | (clear ta; refine wpL_alloc rfl 33 rfl _ zero_fr ?_; intro p w1 e1 k1 g1 z1; have E1 := hide (Nat.le_of_eq e1); have G1 : FrAt w1 p fZero v0 := g1; clear z1 e1 g1)
      | (refine wpL_alloc rfl 33 rfl _ zero_fr ?_; intro d w3 e3 k3 g3 z3; have E3 := hide (Nat.le_of_eq e3); have G3 : FrAt w3 d fZero v0 := g3; clear z3 e3 g3)
      | (refine wpL_build rfl 33 #[(0, .tmp 39)] rfl _ (unhide HB) ?_)
      | (refine wpL_store rfl 33 (.tmp 7) (.tmp 40) rfl d ((fZero.set 0 k).cells v0).toArray rfl rfl _ _ G3 info_fr rfl (all_oneCell_toArray (FT.one _ rfl)) ?_; intro w4 k4 g4 z4; have G4 : FrAt w4 d (fZero.set 0 k) v0 := g4; clear z4 g4)))
  have K2 := k1.andNo k2
  have E3w : Hid (w.heap.size ≤ d) := hide (Nat.le_trans K2.size (unhide E3))
  have N12 : Hid (p ≠ d) := hide (fun e => by have := (G1.no k2).lt; have := unhide E3; omega)
  have K4 : Chg noBlk w w4 := (K2.andNo k3).past k4 (unhide E3w)
  have HG1 : Hid (FrAt w4 p fZero v0) := hide (k4.at ((G1.no k2).no k3) (fun e => unhide N12 e))
  have HG4 := hide G4
  clear k1 k2 k3 k4 K2 G1 G3 G4 HU0 HH HB
  generalize fZero.set 0 k = f0 at HG4 HC HO HCZ0 ⊢
  go_loopw [5, 9] (fun u i wr => ∃ (j : Nat) (g : FT) (rest : List UInt8), j ≤ W.length ∧ i = .int .i64 (j : Int) ∧ u = str rest ∧ Hid (cN (L.take j) f0 r0 = (g, rest)) ∧ FrAt wr d g v0 ∧ FrAt wr p fZero v0 ∧ Chg noBlk w wr) (fun u i wr => W.length - (intOf i).toNat)
  case atStart => exact ⟨0, f0, r0, by omega, rfl, rfl, hide rfl, unhide HG4, unhide HG1, K4⟩
  case round =>
    obtain ⟨j, g, rest, hj, rfl, rfl, hn, G, GP, hch⟩ := hrel
    have lr : rest.length ≤ 1000 := by have := (unhide HO (L.take j)).2.2.2.2.2; rw [unhide hn] at this; simp only at this; omega
    by_cases hlt : j < W.length
    · obtain ⟨c, hc⟩ : ∃ c, W[j]? = some c := ⟨_, List.getElem?_eq_getElem hlt⟩
      have hi := unhide HX j c hc
      have wc : W[j]'hlt = c := (List.getElem?_eq_some_iff.1 hc).2
      have i1 : (0 : Int) ≤ (j : Int) := by omega
      have i2 : (j : Int) < (W.length : Int) := by omega
      obtain ⟨x, t, o', hx⟩ : ∃ k r o, unintT rest = (k, r, o) := ⟨_, _, _, rfl⟩
      have HU1 := hide (runint_any' hx (by omega))
      have HE := hide (show cN (L.take (j + 1)) f0 r0 = (g.set (lx (c.toNat : Int)) x, t) by rw [take_snoc hi, unhide HS, unhide hn]; simp only [hx])
      have HW1 := hide (fun w' => unhide HW g c x w')
      have HG := hide G
      have HGP := hide GP
      clear hc hi hx G GP
      generalize lx (c.toNat : Int) = i at *
      go_wp2_with (go_at_call 17; (with_reducible refine (unhide HU1 _).mono ?_); rintro e w6 ⟨rfl, k6⟩; have la := run_ldFr (((unhide HG).no k6).drew); have G6 := hide ((unhide HG).no k6))
      go_region_law (first
        | (go_simp; go_at_call 19; (refine (unhide HW1 _).mono ?_); rintro e w7 ⟨rfl, k7⟩; have K7 := hide k7; have st := run_stFr (f := g.set i x) (v := v0) (((unhide G6).drew).no k7) rfl; clear k7))
      all_goals
        have pf := put_fr (f := g.set i x) (v := v0) (((unhide G6).drew).no (unhide K7)) rfl
        have PF := hide pf.1
        have PC := hide pf.2
        clear pf st la
        generalize w7.setCells d 0 ((g.set i x).cells v0) = wF at PF PC ⊢
        go_wp2_with fail
        go_roundw
        case rel => exact ⟨j + 1, _, _, by omega, by go_num, rfl, HE, unhide PF, (unhide PC).at ((((unhide HGP).no k6).drew).no (unhide K7)) (fun e => unhide N12 e), (((hch.andNo k6).drew).andNo (unhide K7)).past (unhide PC) (unhide E3w)⟩
        case measure => simp [intOf]; omega
    · obtain rfl : j = W.length := by omega
      have HNN : Hid (cN L f0 r0 = (g, rest)) := by have := unhide hn; rw [← HLN, List.take_length] at this; exact hide this
      have HG := hide G
      have HGP := hide GP
      have HCH := hide hch
      clear hn G GP hch HX HW HS HO HG1 HG4 K4 hj hlt
      obtain ⟨a, t1, o1, hx⟩ : ∃ k r o, unintT rest = (k, r, o) := ⟨_, _, _, rfl⟩
      have HU1 := hide (runint_any' hx (by omega))
      have l1 := unint_len' hx
      have HX := hide hx
      clear hx
      have hz := unhide HCZ0 g rest (unhide HNN)
      have HZ := hide hz
      clear hz HCZ0
      have k8 : k = 8 := unhide HK
      clear HK
      subst k8
      have HQ := hide (fun w' => Ch.rget_any rest lr w')
      have HC8 := hide (fun c n (hg : Ch.GotOf rest c n) => unhide HC g rest (unhide HNN) (g.withCh c) (.inr (.inr (.inr (.inl ⟨rfl, c, n, hg, rfl⟩)))))
      go_upto_region 25 with (first
        | (go_at_call 17; (with_reducible refine (unhide HU1 _).mono ?_); rintro e w6 ⟨rfl, k6⟩)
        | (go_at_call 22; (with_reducible refine (unhide HQ _).mono ?_); rintro e w7 ⟨cc, nn, gc, v, rfl, k7, oc, fc⟩; have HGC := hide gc; have HOC := hide oc; have HFC := hide fc; clear gc oc fc)
        | ((with_reducible show wpList _ _ _ (⟨_, _, _, _, _, none⟩ :: _) _ _); first
          | (refine wpL_put rfl 31 (.tmp 135) (.tmp 133) rfl d 23 (Ch.chC cc v).toList rfl rfl (g.cells v0).toArray _ (((unhide HG).no k6).no k7) (by rw [List.size_toArray, FT.len]; show 23 + 3 ≤ 29; omega) info_ch (Ch.one_chC (unhide HOC).one) ?_; intro w8 k8 g8 z8; have G8 := hide (fr_ch g8); clear z8 g8)))
      obtain ⟨ff, hff⟩ : ∃ ff, g.withCh cc = ff := ⟨_, rfl⟩
      have CD : Hid (Cand s ff) := hide (hff ▸ unhide HC8 cc nn (unhide HGC))
      have hcc : ff.ch = cc := by rw [← hff]; rfl
      have hlen : cc.ms.length ≤ 100 := by
        rcases unhide HGC with ⟨h1, _⟩ | ⟨_, h2, _⟩
        · have := (Ch.good_fits h1.1).len; omega
        · rw [h2]; decide
      have o3 := OwnL.kept (unhide HOC) k8 fun q hq e => by have e : q = d := e; have := unhide HFC q hq; have := (unhide HG).lt; have := k6.size; omega
      obtain ⟨ad, cap, e, sl⟩ := Ch.sl_own o3 hlen
      rw [← hcc] at e sl
      subst e
      have FD : Hid (FrAt w8 d ff (.slice ad ff.ch.ms.length cap)) := hide (by have := unhide G8; rwa [hff] at this)
      have SLE : Hid (Ch.Sl w8 ad cap ff.ch.ms) := hide sl
      have NBE : Hid (∀ q, ad = some q → ¬ oneBlk p q.block) := hide (fun q hq e => by
        have e : q.block = p := e
        subst hq
        have := unhide HFC q.block rfl
        have := (unhide HGP).lt
        have := k6.size
        omega)
      have GPE : Hid (FrAt w8 p fZero v0) := hide (k8.at (((unhide HGP).no k6).no k7) (fun e => unhide N12 e))
      have KE : Hid (Chg noBlk w w8) := hide ((((unhide HCH).andNo k6).andNo k7).past k8 (unhide E3w))
      clear hff hcc hlen o3 sl
      have HP := hide (rput_any ff (unhide SLE))
      obtain ⟨B, hB⟩ : ∃ B, putF ff = B := ⟨_, rfl⟩
      obtain ⟨n, hn⟩ : ∃ n, errF ff = n := ⟨_, rfl⟩
      rw [hB, hn] at HP
      have hcw := cand_ways (unhide CD)
      rw [hB, hn] at hcw
      clear hB hn CD
      have hw4 : (512 < s.length ∧ GotOf s fZero 10) ∨ (¬ 512 < s.length ∧ (n != 0) = true ∧ GotOf s fZero 10) ∨ (¬ 512 < s.length ∧ (n != 0) = false ∧ ((B == s) = false ∧ (B != s) = true ∧ ¬ B = s) ∧ GotOf s fZero 10) ∨ (¬ 512 < s.length ∧ n = 0 ∧ B = s ∧ GotOf s ff 0) := by
        rcases hcw with ⟨h, hg⟩ | ⟨h1, h2, h3, hg⟩
        · by_cases q1 : 512 < s.length
          · exact .inl ⟨q1, hg⟩
          by_cases q2 : n = 0
          · exact .inr (.inr (.inl ⟨q1, by simp [q2], by rcases h with h | h | h; exact absurd h q1; exact absurd q2 h; exact ⟨by simpa using h, by simpa using h, h⟩, hg⟩))
          · exact .inr (.inl ⟨q1, by simpa using q2, hg⟩)
        · exact .inr (.inr (.inr ⟨h1, h2, h3, hg⟩))
      clear hcw
      have tz : True := True.intro
      rcases hw4 with ⟨h1, hg⟩ | ⟨h1, h2, hg⟩ | ⟨h1, h2, h3, hg⟩ | ⟨h1, rfl, rfl, hg⟩
      · have HGT := hide hg
        have i1 : (512 : Int) < (s.length : Int) := by omega
        clear h1 hg
        go_wp2_with (first
          | (go_at_call 23; (with_reducible refine (unhide HP).mono ?_); rintro e w20 ⟨rfl, k20⟩)
          | ((with_reducible show wpList _ _ _ (⟨_, _, _, _, _, none⟩ :: _) _ _); first
            | (clear tz; refine wpL_load rfl 33 (.tmp 7) rfl d rfl (ff.cells (.slice ad ff.ch.ms.length cap)).toArray _ _ (unhide FD) _ Try.underlying33 rfl info_fr ?_)
            | (refine wpL_load rfl 33 (.tmp 7) rfl d rfl (ff.cells (.slice ad ff.ch.ms.length cap)).toArray _ _ ((unhide FD).no k20) _ Try.underlying33 rfl info_fr ?_)
            | (refine wpL_build rfl 33 #[] rfl _ built_fr ?_)
            | (refine wpL_store rfl 33 (.tmp 2) (.tmp 153) rfl p (fZero.cells v0).toArray rfl rfl _ _ ((unhide GPE).no k20) info_fr rfl (all_oneCell_toArray (FT.one _ rfl)) ?_; intro w21 k21 g21 z21; clear z21)
            | (refine wpL_store rfl 33 (.tmp 2) (.tmp 154) rfl p (ff.cells (.slice ad ff.ch.ms.length cap)).toArray rfl rfl _ _ ((unhide GPE).no k20) info_fr rfl (all_oneCell_toArray (FT.one _ rfl)) ?_; intro w21 k21 g21 z21; clear z21)))
        refine bodyPost_ret (results_row_tmp rfl _ _ p _ _ _ _ rfl g21 Try.underlying33 rfl info_fr) rfl ?_
        exact got_zero (unhide HGT) (((unhide KE).andNo k20).past k21 (unhide E1))
      · have HGT := hide hg
        have i1 : ¬ (512 : Int) < (s.length : Int) := by omega
        clear h1 hg
        go_wp2_with (first
          | (go_at_call 23; (with_reducible refine (unhide HP).mono ?_); rintro e w20 ⟨rfl, k20⟩)
          | ((with_reducible show wpList _ _ _ (⟨_, _, _, _, _, none⟩ :: _) _ _); first
            | (clear tz; refine wpL_load rfl 33 (.tmp 7) rfl d rfl (ff.cells (.slice ad ff.ch.ms.length cap)).toArray _ _ (unhide FD) _ Try.underlying33 rfl info_fr ?_)
            | (refine wpL_load rfl 33 (.tmp 7) rfl d rfl (ff.cells (.slice ad ff.ch.ms.length cap)).toArray _ _ ((unhide FD).no k20) _ Try.underlying33 rfl info_fr ?_)
            | (refine wpL_build rfl 33 #[] rfl _ built_fr ?_)
            | (refine wpL_store rfl 33 (.tmp 2) (.tmp 153) rfl p (fZero.cells v0).toArray rfl rfl _ _ ((unhide GPE).no k20) info_fr rfl (all_oneCell_toArray (FT.one _ rfl)) ?_; intro w21 k21 g21 z21; clear z21)
            | (refine wpL_store rfl 33 (.tmp 2) (.tmp 154) rfl p (ff.cells (.slice ad ff.ch.ms.length cap)).toArray rfl rfl _ _ ((unhide GPE).no k20) info_fr rfl (all_oneCell_toArray (FT.one _ rfl)) ?_; intro w21 k21 g21 z21; clear z21)))
        refine bodyPost_ret (results_row_tmp rfl _ _ p _ _ _ _ rfl g21 Try.underlying33 rfl info_fr) rfl ?_
        exact got_zero (unhide HGT) (((unhide KE).andNo k20).past k21 (unhide E1))
      · have HGT := hide hg
        have i1 : ¬ (512 : Int) < (s.length : Int) := by omega
        obtain ⟨h3, h4, h5⟩ := h3
        clear h1 hg
        go_wp2_with (first
          | (go_at_call 23; (with_reducible refine (unhide HP).mono ?_); rintro e w20 ⟨rfl, k20⟩)
          | ((with_reducible show wpList _ _ _ (⟨_, _, _, _, _, none⟩ :: _) _ _); first
            | (clear tz; refine wpL_load rfl 33 (.tmp 7) rfl d rfl (ff.cells (.slice ad ff.ch.ms.length cap)).toArray _ _ (unhide FD) _ Try.underlying33 rfl info_fr ?_)
            | (refine wpL_load rfl 33 (.tmp 7) rfl d rfl (ff.cells (.slice ad ff.ch.ms.length cap)).toArray _ _ ((unhide FD).no k20) _ Try.underlying33 rfl info_fr ?_)
            | (refine wpL_build rfl 33 #[] rfl _ built_fr ?_)
            | (refine wpL_store rfl 33 (.tmp 2) (.tmp 153) rfl p (fZero.cells v0).toArray rfl rfl _ _ ((unhide GPE).no k20) info_fr rfl (all_oneCell_toArray (FT.one _ rfl)) ?_; intro w21 k21 g21 z21; clear z21)
            | (refine wpL_store rfl 33 (.tmp 2) (.tmp 154) rfl p (ff.cells (.slice ad ff.ch.ms.length cap)).toArray rfl rfl _ _ ((unhide GPE).no k20) info_fr rfl (all_oneCell_toArray (FT.one _ rfl)) ?_; intro w21 k21 g21 z21; clear z21)))
        refine bodyPost_ret (results_row_tmp rfl _ _ p _ _ _ _ rfl g21 Try.underlying33 rfl info_fr) rfl ?_
        exact got_zero (unhide HGT) (((unhide KE).andNo k20).past k21 (unhide E1))
      · have HGT := hide hg
        have i1 : ¬ (512 : Int) < (B.length : Int) := by omega
        have eC : (B != B) = false := by simp
        clear h1 hg
        go_wp2_with (first
          | (go_at_call 23; (with_reducible refine (unhide HP).mono ?_); rintro e w20 ⟨rfl, k20⟩)
          | ((with_reducible show wpList _ _ _ (⟨_, _, _, _, _, none⟩ :: _) _ _); first
            | (clear tz; refine wpL_load rfl 33 (.tmp 7) rfl d rfl (ff.cells (.slice ad ff.ch.ms.length cap)).toArray _ _ (unhide FD) _ Try.underlying33 rfl info_fr ?_)
            | (refine wpL_load rfl 33 (.tmp 7) rfl d rfl (ff.cells (.slice ad ff.ch.ms.length cap)).toArray _ _ ((unhide FD).no k20) _ Try.underlying33 rfl info_fr ?_)
            | (refine wpL_build rfl 33 #[] rfl _ built_fr ?_)
            | (refine wpL_store rfl 33 (.tmp 2) (.tmp 153) rfl p (fZero.cells v0).toArray rfl rfl _ _ ((unhide GPE).no k20) info_fr rfl (all_oneCell_toArray (FT.one _ rfl)) ?_; intro w21 k21 g21 z21; clear z21)
            | (refine wpL_store rfl 33 (.tmp 2) (.tmp 154) rfl p (ff.cells (.slice ad ff.ch.ms.length cap)).toArray rfl rfl _ _ ((unhide GPE).no k20) info_fr rfl (all_oneCell_toArray (FT.one _ rfl)) ?_; intro w21 k21 g21 z21; clear z21)))
        refine bodyPost_ret (results_row_tmp rfl _ _ p _ _ _ _ rfl g21 Try.underlying33 rfl info_fr) rfl ?_
        exact ⟨ff, 0, ad, cap, unhide HGT, rfl, ((unhide KE).andNo k20).past k21 (unhide E1), sl_past ((unhide SLE).no k20) k21 (fun q hq => unhide NBE q hq)⟩
end Go.Proofs.Ytfplgmkbhpdmjaa.Fm
