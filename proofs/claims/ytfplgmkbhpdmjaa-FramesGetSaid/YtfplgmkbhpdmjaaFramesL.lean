/-
  Frames: a contract of Plain.
-/
import Derived.Test.YtfplgmkbhpdmjaaFramesK
namespace Go.Proofs.Ytfplgmkbhpdmjaa.Fm
open Go.ChangeShapes Go.WideShapes Go.ChangeAt Go.RowKit
set_option linter.unusedVariables false
attribute [local go_sem] bs_size bs_app bs_cut bs_tl bs_at
/-- texts of a size that is gone through -/
structure Small (f : FT) : Prop where
  ok : f.op.key.length ≤ 1000
  ov : f.op.val.length ≤ 1000
  ek : f.eop.key.length ≤ 1000
  ev : f.eop.val.length ≤ 1000
  rv : f.re.val.length ≤ 1000
/-- with the first j numbers of f -/
def pn (f : FT) (L : List Nat) (j : Nat) : FT := ⟨fun i => if i = 0 ∨ i ∈ L.take j then f.n i else 0, pZero, rZero, pZero, Ch.cZero⟩
theorem pn_zero (f : FT) (L : List Nat) : fZero.set 0 (f.n 0) = pn f L 0 := by
  unfold pn FT.set fZero
  congr 1
  funext i
  by_cases h : i = 0 <;> simp [h]
theorem pn_step (f : FT) {L : List Nat} {j i : Nat} (hi : L[j]? = some i) : (pn f L j).set i (f.n i) = pn f L (j + 1) := by
  unfold pn FT.set
  congr 1
  funext q
  rw [take_snoc hi]
  by_cases h : q = i
  · subst h; simp
  · simp [h]
theorem pn_all (f : FT) : plainF f = ⟨(pn f (nix (f.n 0)) (nix (f.n 0)).length).n, if f.n 0 = 1 then f.op else pZero, if f.n 0 = 2 then f.re else rZero, if f.n 0 = 4 then f.eop else pZero, if f.n 0 = 8 then f.ch else Ch.cZero⟩ := by
  unfold plainF pn
  simp only [List.take_length]
/-- told: f with what its kind has, its members in a slice of its own -/
def PlainT (f : FT) (w : World) (e : Ending) (w' : World) : Prop := ∃ ad cap, e = .returned (frV (plainF f) (.slice ad (plainF f).ch.ms.length cap)) ∧ Chg noBlk w w' ∧ Ch.Sl w' ad cap (plainF f).ch.ms
theorem plainT_of {f g : FT} {w w' : World} {ad : Option Addr} {cap : Nat} (hg : plainF f = g) (k : Chg noBlk w w') (s : Ch.Sl w' ad cap g.ch.ms) : PlainT f w (.returned (frV g (.slice ad g.ch.ms.length cap))) w' := by
  subst hg; exact ⟨ad, cap, rfl, k, s⟩
theorem fr_re {w : World} {p : Nat} {g : FT} {v : Value} {r : RT} (h : w.heap[p]? = some (.cells (laidIn (g.cells v).toArray 11 r.cells) 33 (0, 0))) : FrAt w p (g.withRe r) v := by
  unfold FrAt; rw [h]; simp [laidIn, FT.cells, FT.withRe, RT.cells]
theorem fr_mem {w : World} {p : Nat} {g : FT} {v u : Value} (h : w.heap[p]? = some (.cells ((g.cells v).toArray.setIfInBounds 24 u) 33 (0, 0))) : FrAt w p g u := by
  unfold FrAt; rw [h]; simp [FT.cells]
set_option maxRecDepth 100000 in
set_option maxHeartbeats 4000000 in
theorem plain_any (f : FT) (hsm : Small f) {ad : Option Addr} {cap : Nat} {w : World} (h : Ch.Sl w ad cap f.ch.ms) : Calls Try.prog 11 #[frV f (.slice ad f.ch.ms.length cap)] w (PlainT f w) := by
  have HS := hide hsm
  have HL := hide (fun w' (k : Chg noBlk w w') => (h.no k).reads)
  have hfew := h.few
  have HX := hide (nix_nix (f.n 0))
  have HF := nix_few (f.n 0)
  have HN := hide (fun (w' : World) (b : Nat) (h : w'.cell? ⟨b, 0, none⟩ = some (.int .i64 (f.n 0))) => numbers_any h)
  have n0 : Nix 0 := by decide
  have HP := hide (pn_all f)
  have HPS := hide (fun (j i : Nat) (hi : (nix (f.n 0))[j]? = some i) => pn_step f hi)
  have HP0 := hide (pn_zero f (nix (f.n 0)))
  clear hsm h
  generalize nix (f.n 0) = L at *
  have ta : True := True.intro
  go_enter Try.func11, Try.ntmps11
  generalize hv : (Value.slice ad f.ch.ms.length cap) = v at *
  go_wp2_with (first
    | (go_at_call 24; (with_reducible refine (unhide HN _ _ c1).mono ?_); rintro e w4 ⟨s4, rfl, k4, p4⟩; obtain ⟨a4, rfl⟩ := p4.form; have P4 := hide p4; have G4 := G3.no k4; have c4 : w4.cell? ⟨b2, 0, none⟩ = some (.int .i64 (f.n 0)) := G4.c0; clear p4)
    | (go_at_call 24; (with_reducible refine (unhide HN _ _ c4).mono ?_); rintro e w5 ⟨s5, rfl, k5, p5⟩; obtain ⟨a5, rfl⟩ := p5.form; have P5 := hide p5; clear p5)
    | ((with_reducible show wpList _ _ _ (⟨_, _, _, _, _, none⟩ :: _) _ _); first
      | (clear ta; refine wpL_box rfl 33 _ rfl (f.cells v).toArray rfl ?_; intro b1 w1 e1 k1 g1 z1; have G1 : FrAt w1 b1 f v := g1; clear z1 g1)
      | (refine wpL_alloc rfl 33 rfl _ zero_fr ?_; intro b2 w2 e2 k2 g2 z2; have G2 : FrAt w2 b2 fZero v0 := g2; have c0 : w2.cell? ⟨b1, 0, none⟩ = some (.int .i64 (f.n 0)) := (G1.no k2).c0; have N12 := hide (Nat.ne_of_lt (Nat.lt_of_lt_of_le G1.lt (Nat.le_of_eq e2))); have E2 := hide (Nat.le_trans k1.size (Nat.le_of_eq e2)); clear z2 g2 e2)
      | (refine wpL_set rfl 3 (.tmp 8) (.tmp 7) rfl b2 0 (.int .i64 (f.n 0)) rfl rfl rfl info_int _ _ G2 (fr_size (by omega)) ?_; intro w3 k3 g3 z3; have G3 := fr_set n0 g3; have c1 : w3.cell? ⟨b1, 0, none⟩ = some (.int .i64 (f.n 0)) := k3.cell c0 (fun e => unhide N12 e); clear z3 g3)))
  have K5 : Chg noBlk w w5 := (((k1.andNo k2).past k3 (unhide E2)).andNo k4).andNo k5
  have HG1 : Hid (FrAt w5 b1 f v) := hide ((FrAt.no (k3.at (G1.no k2) (fun e => unhide N12 e) : FrAt w3 b1 f v) k4).no k5)
  have HG2 : Hid (FrAt w5 b2 (pn f L 0) v0) := hide (by rw [← unhide HP0]; exact G4.no k5)
  have HB3 := hide G3.lt
  have HB4 := hide G4.lt
  have K45 := k5
  clear k1 k2 k3 k4 k5 G1 G2 G3 G4 c0 c1 c4 HN HP0
  go_loopw [12] (fun i wr => ∃ j : Nat, j ≤ L.length ∧ i = .int .i64 (j : Int) ∧ FrAt wr b2 (pn f L j) v0 ∧ Chg (oneBlk b2) w5 wr) (fun i wr => L.length - (intOf i).toNat)
  case atStart => exact ⟨0, by omega, rfl, unhide HG2, Chg.refl _ _⟩
  case round =>
    obtain ⟨j, hj, rfl, G, hch⟩ := hrel
    have G1 : FrAt wr b1 f v := hch.at (unhide HG1) (fun e => unhide N12 e)
    by_cases hlt : j < L.length
    · obtain ⟨i, hi⟩ : ∃ i, L[j]? = some i := ⟨_, List.getElem?_eq_getElem hlt⟩
      obtain ⟨g5, rfl, _, cp5⟩ := ((unhide P5).past hch (fun i e => by have e : i = b2 := e; have := unhide HB4; omega)).at hi
      obtain ⟨g4, rfl, _, cp4⟩ := (((unhide P4).no K45).past hch (fun i e => by have e : i = b2 := e; have := unhide HB3; omega)).at hi
      have ni := unhide HX i (List.mem_of_getElem? hi)
      have ci := G1.num ni
      have i1 : (0 : Int) ≤ (j : Int) := by omega
      have i2 : (j : Int) < (L.length : Int) := by omega
      have hx29 : i < ((pn f L j).cells v0).toArray.size := fr_size (by rcases ni.ways with h | h | h | h | h | h | h | h | h | h | h | h | h | h <;> omega)
      have HE := hide (unhide HPS j i hi)
      clear hi
      go_wp2_with ((with_reducible show wpList _ _ _ (⟨none, _, _, _, _, none⟩ :: _) _ _); refine wpL_set rfl 3 (.tmp 24) (.tmp 23) rfl b2 i (.int .i64 (f.n i)) rfl rfl rfl info_int _ _ G hx29 ?_; intro w7 k7 g7 z7; have G7 := fr_set ni g7; clear z7 g7)
      go_roundw
      case rel => exact ⟨j + 1, by omega, by go_num, by rw [← unhide HE]; exact G7, hch.trans k7 fun _ _ e => e⟩
      case measure => simp [intOf]; omega
    · obtain rfl : j = L.length := by omega
      have KR := K5.past hch (unhide E2)
      have HPL := hide (unhide HP)
      rcases behind_ways f with ⟨h0, e1, e2⟩ | ⟨h0, e1, e2⟩ | ⟨h0, e1, e2⟩ | ⟨h0, e1, e2⟩ | ⟨⟨n1, n4, n8, n2⟩, e1, e2⟩ <;> clear e1 e2
      · have cr : wr.cell? ⟨b1, 0, none⟩ = some (.int .i64 1) := h0 ▸ G1.c0
        have HO := hide (ownOp_any f.op (by have := (unhide HS).ok; omega) (by have := (unhide HS).ov; omega))
        have HE := hide (show plainF f = (pn f L L.length).withOp f.op by rw [unhide HPL]; simp [h0, FT.withOp, pn])
        have GG := G
        clear G h0
        go_wp2_with (first
          | (go_at_call 25; (with_reducible refine (unhide HO _).mono ?_); rintro e w6 ⟨rfl, k6⟩)
          | ((with_reducible show wpList _ _ _ (⟨_, _, _, _, _, none⟩ :: _) _ _); first
            | (refine wpL_take rfl 24 (.tmp 30) rfl b1 7 rfl f.op.cells _ _ _ G1 (fun j x => op_at) _ Try.underlying24 rfl info_op ?_)
            | (refine wpL_put rfl 24 (.tmp 33) (.tmp 32) rfl b2 7 f.op.cells rfl rfl _ _ (GG.no k6) (by rw [List.size_toArray, FT.len]; show 7 + 4 ≤ 29; omega) info_op (PT.one _) ?_; intro w7 k7 g7 z7; have GX := fr_op g7; clear z7 g7 GG; have GG := GX)
            | (refine wpL_load rfl 33 (.tmp 2) rfl b2 rfl _ _ _ GG _ Try.underlying33 rfl info_fr ?_)
            | (refine wpL_store rfl 33 (.tmp 2) (.tmp 64) rfl b2 _ rfl rfl _ _ GG info_fr rfl (all_oneCell_toArray (FT.one _ rfl)) ?_; intro w9 k9 g9 z9; clear z9)))
        refine bodyPost_ret (results_cell_row rfl _ _ b2 _ _ _ _ rfl g9 Try.underlying33 rfl info_fr) rfl ?_
        exact plainT_of (unhide HE) (((KR.andNo k6).past k7 (unhide E2)).past k9 (unhide E2)) (sl_none _)
      · have cr : wr.cell? ⟨b1, 0, none⟩ = some (.int .i64 4) := h0 ▸ G1.c0
        have HO := hide (ownOp_any f.eop (by have := (unhide HS).ek; omega) (by have := (unhide HS).ev; omega))
        have HE := hide (show plainF f = (pn f L L.length).withEop f.eop by rw [unhide HPL]; simp [h0, FT.withEop, pn])
        have GG := G
        clear G h0
        go_wp2_with (first
          | (go_at_call 25; (with_reducible refine (unhide HO _).mono ?_); rintro e w6 ⟨rfl, k6⟩)
          | ((with_reducible show wpList _ _ _ (⟨_, _, _, _, _, none⟩ :: _) _ _); first
            | (refine wpL_take rfl 24 (.tmp 37) rfl b1 19 rfl f.eop.cells _ _ _ G1 (fun j x => eop_at) _ Try.underlying24 rfl info_op ?_)
            | (refine wpL_put rfl 24 (.tmp 41) (.tmp 39) rfl b2 19 f.eop.cells rfl rfl _ _ (GG.no k6) (by rw [List.size_toArray, FT.len]; show 19 + 4 ≤ 29; omega) info_op (PT.one _) ?_; intro w7 k7 g7 z7; have GX := fr_eop g7; clear z7 g7 GG; have GG := GX)
            | (refine wpL_load rfl 33 (.tmp 2) rfl b2 rfl _ _ _ GG _ Try.underlying33 rfl info_fr ?_)
            | (refine wpL_store rfl 33 (.tmp 2) (.tmp 64) rfl b2 _ rfl rfl _ _ GG info_fr rfl (all_oneCell_toArray (FT.one _ rfl)) ?_; intro w9 k9 g9 z9; clear z9)))
        refine bodyPost_ret (results_cell_row rfl _ _ b2 _ _ _ _ rfl g9 Try.underlying33 rfl info_fr) rfl ?_
        exact plainT_of (unhide HE) (((KR.andNo k6).past k7 (unhide E2)).past k9 (unhide E2)) (sl_none _)
      · have cr : wr.cell? ⟨b1, 0, none⟩ = some (.int .i64 8) := h0 ▸ G1.c0
        have HE := hide (show plainF f = (pn f L L.length).withCh f.ch by rw [unhide HPL]; simp [h0, FT.withCh, pn])
        have GG := G
        have hone : v.oneCell' = true := by rw [← hv]; rfl
        have c24 : wr.cell? ⟨b1, 24, none⟩ = some v := cellAt G1 24 _ rfl
        have HV := hide hv
        clear G h0 hv
        have ta : True := True.intro
        go_wp2_with ((with_reducible show wpList _ _ _ (⟨_, _, _, _, _, none⟩ :: _) _ _); first
          | (refine wpL_take rfl 31 (.tmp 55) rfl b1 23 rfl (Ch.chC f.ch v).toList _ _ _ G1 (fun j x => ch_at) _ Try.underlying31 rfl info_ch ?_)
          | (refine wpL_put rfl 31 (.tmp 57) (.tmp 56) rfl b2 23 (Ch.chC f.ch v).toList rfl rfl _ _ GG (by rw [List.size_toArray, FT.len]; show 23 + 3 ≤ 29; omega) info_ch (Ch.one_chC hone) ?_; intro w6 k6 g6 z6; have GX := fr_ch g6; clear z6 g6 GG; have GG := GX; have d24 : w6.cell? ⟨b1, 24, none⟩ = some v := k6.cell c24 (fun e => unhide N12 e); have KQ := KR.past k6 (unhide E2))
          | (refine wpL_clone rfl (.tmp 60) 29 rfl 61 _ 2 16 Try.underlying29 Ch.infx_mem rfl (by decide) v f.ch.ms.length (flatC Ch.MT.cells f.ch.ms) rfl (unhide HV ▸ unhide HL _ KQ) (by unfold maxLen; omega) (by omega) ?_; intro s7 w7 k7 o7 f7 v7; obtain ⟨a7, c7, rfl, sl7⟩ := Ch.sl_own (ownL_of o7 rfl rfl) hfew; have HSL := hide sl7; have HF7 := hide f7; clear o7 f7 sl7)
          | (refine wpL_set rfl 29 (.tmp 63) (.tmp 61) rfl b2 24 (.slice a7 f.ch.ms.length c7) rfl rfl rfl (by kernel_rfl) _ _ (GG.no k7) (fr_size (by omega)) ?_; intro w8 k8 g8 z8; have HB6 := hide GG.lt; have GX := fr_mem g8; clear z8 g8 GG; have GG := GX)
          | (refine wpL_load rfl 33 (.tmp 2) rfl b2 rfl _ _ _ GG _ Try.underlying33 rfl info_fr ?_)
          | (refine wpL_store rfl 33 (.tmp 2) (.tmp 64) rfl b2 _ rfl rfl _ _ GG info_fr rfl (all_oneCell_toArray (FT.one _ rfl)) ?_; intro w9 k9 g9 z9; clear z9))
        refine bodyPost_ret (results_cell_row rfl _ _ b2 _ _ _ _ rfl g9 Try.underlying33 rfl info_fr) rfl ?_
        have hne : ∀ q, a7 = some q → ¬ oneBlk b2 q.block := fun q hq e => by
          have e : q.block = b2 := e
          subst hq
          have := unhide HF7 q.block rfl
          have := unhide HB6
          omega
        exact plainT_of (unhide HE) (((KQ.andNo k7).past k8 (unhide E2)).past k9 (unhide E2)) (sl_past (sl_past (unhide HSL) k8 hne) k9 hne)
      · have cr : wr.cell? ⟨b1, 0, none⟩ = some (.int .i64 2) := h0 ▸ G1.c0
        have HO := hide (clone_n f.re.val (by have := (unhide HS).rv; omega))
        have HE := hide (show plainF f = (pn f L L.length).withRe f.re by rw [unhide HPL]; simp [h0, FT.withRe, pn])
        have GG := G
        have c12 : wr.cell? ⟨b1, 12, none⟩ = some (str f.re.val) := cellAt G1 12 _ rfl
        clear G h0
        go_wp2_with (first
          | (go_at_call 26; (with_reducible refine (unhide HO _).mono ?_); rintro e w7 ⟨rfl, k7⟩)
          | ((with_reducible show wpList _ _ _ (⟨_, _, _, _, _, none⟩ :: _) _ _); first
            | (refine wpL_take rfl 26 (.tmp 44) rfl b1 11 rfl f.re.cells _ _ _ G1 (fun j x => re_at) _ Try.underlying26 rfl info_re ?_)
            | (refine wpL_put rfl 26 (.tmp 46) (.tmp 45) rfl b2 11 f.re.cells rfl rfl _ _ GG (by rw [List.size_toArray, FT.len]; show 11 + 4 ≤ 29; omega) info_re (RT.one _) ?_; intro w6 k6 g6 z6; have GX : FrAt w6 b2 ((pn f L L.length).withRe ⟨f.re.code, f.re.val, f.re.ver, f.re.pt⟩) v0 := fr_re g6; clear z6 g6 GG; have GG := GX; have d12 : w6.cell? ⟨b1, 12, none⟩ = some (str f.re.val) := k6.cell c12 (fun e => unhide N12 e))
            | (refine wpL_set rfl 9 (.tmp 52) (.tmp 50) rfl b2 12 (str f.re.val) rfl rfl rfl info_string _ _ (GG.no k7) (fr_size (by omega)) ?_; intro w8 k8 g8 z8; have GX := fr_re1 g8; clear z8 g8 GG; have GG := GX)
            | (refine wpL_load rfl 33 (.tmp 2) rfl b2 rfl _ _ _ GG _ Try.underlying33 rfl info_fr ?_)
            | (refine wpL_store rfl 33 (.tmp 2) (.tmp 64) rfl b2 _ rfl rfl _ _ GG info_fr rfl (all_oneCell_toArray (FT.one _ rfl)) ?_; intro w9 k9 g9 z9; clear z9)))
        refine bodyPost_ret (results_cell_row rfl _ _ b2 _ _ _ _ rfl g9 Try.underlying33 rfl info_fr) rfl ?_
        exact plainT_of (unhide HE) ((((KR.past k6 (unhide E2)).andNo k7).past k8 (unhide E2)).past k9 (unhide E2)) (sl_none _)
      · have d1 : (f.n 0 == 1) = false := by simpa using n1
        have d4 : (f.n 0 == 4) = false := by simpa using n4
        have d8 : (f.n 0 == 8) = false := by simpa using n8
        have d2 : (f.n 0 == 2) = false := by simpa using n2
        have cr : wr.cell? ⟨b1, 0, none⟩ = some (.int .i64 (f.n 0)) := G1.c0
        have HE := hide (show plainF f = pn f L L.length by rw [unhide HPL]; simp [n1, n4, n8, n2, pn])
        have GG := G
        clear G n1 n4 n8 n2
        go_wp2_with ((with_reducible show wpList _ _ _ (⟨_, _, _, _, _, none⟩ :: _) _ _); first
          | (refine wpL_load rfl 33 (.tmp 2) rfl b2 rfl _ _ _ GG _ Try.underlying33 rfl info_fr ?_)
          | (refine wpL_store rfl 33 (.tmp 2) (.tmp 64) rfl b2 _ rfl rfl _ _ GG info_fr rfl (all_oneCell_toArray (FT.one _ rfl)) ?_; intro w9 k9 g9 z9; clear z9))
        refine bodyPost_ret (results_cell_row rfl _ _ b2 _ _ _ _ rfl g9 Try.underlying33 rfl info_fr) rfl ?_
        exact plainT_of (unhide HE) (KR.past k9 (unhide E2)) (sl_none _)
#print axioms plain_any
end Go.Proofs.Ytfplgmkbhpdmjaa.Fm
