/-
  Logs: the document's log: Look and Append.
-/
import Derived.Test.YtfffgegdcgfakaaLogsP
import Derived.Deep.RegionLaw
import Derived.Deep.DrawnRows
import Derived.Deep.DeepCutAuto
namespace Go.Proofs.Ytfffgegdcgfakaa
open Go.ChangeShapes Go.WideShapes Go.ChangeAt Go.RowKit
set_option linter.unusedVariables false
attribute [local go_sem] bs_size bs_app bs_cut bs_tl bs_at
attribute [local go_sem ↓] Go.wp_at_zero Go.wp_at_succ
attribute [local go_sem ↓] ldEnt_pre bsEnt_pre
theorem argB_ways2 {e : ET} (h : argB e = true) : e.cl < 0 ∨ (0 ≤ e.cl ∧ 5 < e.cl) ∨ (0 ≤ e.cl ∧ e.cl ≤ 5 ∧ e.seq < 1) ∨ (0 ≤ e.cl ∧ e.cl ≤ 5 ∧ 1 ≤ e.seq ∧ (chk e.op != 0) = true) ∨ (0 ≤ e.cl ∧ e.cl ≤ 5 ∧ 1 ≤ e.seq ∧ (chk e.op != 0) = false ∧ e.op.k = 1) := by
  by_cases h1 : e.cl < 0
  · exact .inl h1
  refine .inr ?_
  by_cases h2 : 5 < e.cl
  · exact .inl ⟨by omega, h2⟩
  refine .inr ?_
  by_cases h3 : e.seq < 1
  · exact .inl ⟨by omega, by omega, h3⟩
  refine .inr ?_
  by_cases h4 : chk e.op = 0
  · refine .inr ⟨by omega, by omega, by omega, by simp [h4], Classical.byContradiction fun h5 => ?_⟩
    rw [argB_no.2 ⟨by omega, by omega, by omega, h4, h5⟩] at h
    cases h
  · exact .inl ⟨by omega, by omega, by omega, by simp [h4]⟩
section
variable {w : World} {b : Nat} {v : Value} {E : List ET}
set_option maxRecDepth 100000 in
theorem rlook2_at (h : RefAt w b v E) (hl : E.length ≤ 400) (k : List UInt8) : Calls Try.prog 11 #[.pointer (some ⟨b, 0, none⟩), str k] w (ToldN (.agg (look (cellsN E E.length) k (E.length : Int)).cells.toArray) w) := by
  obtain ⟨ad, cap, rfl, le, few, R⟩ := h.ent.form ET.len
  have HC := hide (fun w' (c : Chg noBlk w w') => rcells_at (h.no c) hl)
  have hc0 := hide (fun w' (c : Chg noBlk w w') => (h.no c).c0)
  have hcl := cellsN_len E E.length
  obtain ⟨L, hL⟩ : ∃ L, cellsN E E.length = L := ⟨_, rfl⟩
  have HL := hide hL
  rw [hL] at hcl ⊢
  have HLK := hide (fun w ad cap (s : SlC w ad cap L) => rlook_at s (by omega) k (E.length : Int))
  obtain ⟨r, hr⟩ : ∃ r, look L k (E.length : Int) = r := ⟨_, rfl⟩
  rw [hr] at HLK ⊢
  clear h R hL hr
  have ta : True := True.intro
  go_enter Try.func11, Try.ntmps11
  go_wp2_with (first
    | (go_at_call 29; refine (unhide HC _ k1).mono ?_; rintro e w2 ⟨ad2, cap2, vr, rfl, k2, s2, o2⟩; rw [unhide HL] at s2 ⊢; have c0 := unhide hc0 _ (k1.andNo k2); have g2 := k2.at g1 id)
    | (go_at_call 30; refine (unhide HLK _ _ _ s2).mono ?_; rintro e w3 ⟨rfl, k3⟩; have g3 := k3.at g2 id)
    | ((with_reducible show wpList _ _ _ (_ :: _) _ _); first
      | (clear ta; refine wpL_alloc rfl 38 rfl _ zero_res ?_; intro p w1 e1 k1 g1 z1; have e0 : w.heap.size ≤ p := Nat.le_of_eq e1; clear e1 z1)
      | (refine wpL_store rfl 38 (.tmp 4) (.tmp 19) rfl p r.cells.toArray rfl rfl _ _ g3 info_res rfl (all_oneCell_toArray (RT.one _)) ?_; intro w6 k6 g7 z7)))
  refine bodyPost_ret (ret_res rfl _ _ p _ _ _ rfl g7) rfl ?_
  exact ⟨rfl, ((k1.andNo k2).andNo k3).past k6 e0⟩
set_option maxRecDepth 100000 in
set_option maxHeartbeats 2000000 in
theorem rappend_arg (x : ET) (hx : argB x = true) (b : Nat) : Calls Try.prog 15 #[.pointer (some ⟨b, 0, none⟩), .agg x.cells.toArray] w (ToldN (.tuple #[.agg rZero.cells.toArray, .int .i64 2]) w) := by
  have C := fun w => rcheck_any x.op w
  have hw := argB_ways2 hx
  clear hx
  obtain ⟨i, c, s, k, y, vv, n⟩ := x
  obtain ⟨m, hm⟩ : ∃ m, chk ⟨k, y, vv, n⟩ = m := ⟨_, rfl⟩
  simp only [hm] at C hw
  have HC := hide C
  clear C hm
  rcases hw with h1 | ⟨h1, h2⟩ | ⟨h1, h2, h3⟩ | ⟨h1, h2, h3, h4⟩ | ⟨h1, h2, h3, h4, rfl⟩
  all_goals
    have ta : True := True.intro
    go_enter Try.func15, Try.ntmps15
    go_wp2_with (first
      | (go_at_call 34; refine (unhide HC _).mono ?_; rintro e w4 ⟨rfl, k4⟩; have g4 := k4.at g2 id; clear c0 c1 c2 c3 c4 c5 c6; have c3 := (G2.no k4).c3)
      | ((with_reducible show wpList _ _ _ (_ :: _) _ _); first
        | (clear ta; refine wpL_box rfl 34 (.tmp 1) rfl (ET.cells ⟨i, c, s, _, y, vv, n⟩).toArray rfl ?_; intro q w1 e1 k1 g1 z1; have G1 : EntAt w1 q ⟨i, c, s, _, y, vv, n⟩ := g1; clear g1 z1 e1)
        | (refine wpL_alloc rfl 38 rfl _ zero_res ?_; intro p w2 e2 k2 g2 z2; have e0 : w.heap.size ≤ p := Nat.le_trans k1.size (Nat.le_of_eq e2); have G2 := G1.no k2; have c0 := G2.c0; have c1 := G2.c1; have c2 := G2.c2; have c3 := G2.c3; have c4 := G2.c4; have c5 := G2.c5; have c6 := G2.c6; clear e2 z2)
        | (refine wpL_store rfl 38 (.tmp 4) (.tmp 36) rfl p rZero.cells.toArray rfl rfl _ _ g4 info_res rfl (all_oneCell_toArray (RT.one _)) ?_; intro w6 k6 g7 z7)
        | (refine wpL_store rfl 38 (.tmp 4) (.tmp 36) rfl p rZero.cells.toArray rfl rfl _ _ g2 info_res rfl (all_oneCell_toArray (RT.one _)) ?_; intro w6 k6 g7 z7)))
    refine bodyPost_ret (results_row_tmp rfl _ _ p _ _ _ _ rfl g7 Try.underlying38 rfl info_res) rfl ?_
    first
      | exact ⟨rfl, ((k1.andNo k2).andNo k4).past k6 e0⟩
      | exact ⟨rfl, (k1.andNo k2).past k6 e0⟩
set_option maxRecDepth 100000 in
set_option maxHeartbeats 2000000 in
theorem rappend_ref (h : RefAt w b v E) (hl : E.length ≤ 400) (x : ET) (hx : argB x = false) {er : Int} (hw : (er = 70 ∧ x.idx ≠ (E.length : Int) + 1) ∨ (er = 71 ∧ x.idx = (E.length : Int) + 1 ∧ x.seq ≤ seqL E x.cl)) : Calls Try.prog 15 #[.pointer (some ⟨b, 0, none⟩), .agg x.cells.toArray] w (ToldN (.tuple #[.agg rZero.cells.toArray, .int .i64 er]) w) := by
  have C := fun w => rcheck_any x.op w
  obtain ⟨h0, h5, h1, hck, hk1⟩ := argB_no.1 hx
  obtain ⟨ad, cap, rfl, le, few, R⟩ := h.ent.form ET.len
  have hb0 := hide (fun w' (c : Chg noBlk w w') => (h.no c).c0)
  have HLA := hide (fun w' (k : Chg noBlk w w') => rlast_at (h.no k) (by omega) x.cl)
  have d9 : decide (4096 ≤ (E.length : Int)) = false := by simp; omega
  have i1 : IntKind.i64.wrap ((E.length : Int) + 1) = (E.length : Int) + 1 := IntWalk.i64_in _ (by omega)
  clear h R hx
  obtain ⟨i, c, s, k, y, vv, n⟩ := x
  obtain ⟨sq, hsq⟩ : ∃ q, seqL E c = q := ⟨_, rfl⟩
  obtain ⟨ln, hln⟩ : ∃ q : Int, (lastN E c E.length : Int) = q := ⟨_, rfl⟩
  simp only [hsq, hln, hck] at C HLA hw h0 h5 h1 hk1
  have hw : (er = 70 ∧ (i != (E.length : Int) + 1) = true) ∨ (er = 71 ∧ (i != (E.length : Int) + 1) = false ∧ decide (s ≤ sq) = true) := by
    rcases hw with ⟨e1, e2⟩ | ⟨e1, e2, e3⟩
    · exact .inl ⟨e1, by simpa using e2⟩
    · exact .inr ⟨e1, by simpa using e2, by simpa using e3⟩
  have hk : (k == 1) = false := by simpa using hk1
  have HC := hide C
  clear C hsq hln hck hk1
  rcases hw with ⟨rfl, d1⟩ | ⟨rfl, d1, d2⟩
  all_goals
    have ta : True := True.intro
    go_enter Try.func15, Try.ntmps15
    go_wp2_with (first
      | (go_at_call 34; refine (unhide HC _).mono ?_; rintro e w4 ⟨rfl, k4⟩; have g4 := k4.at g2 id; clear c0 c1 c2 c3 c4 c5 c6; have G4 := G2.no k4; have c3 := G4.c3; have c0 := G4.c0; have c1 := G4.c1; have c2 := G4.c2; have K4 := hide ((k1.andNo k2).andNo k4); have b0 := unhide hb0 _ (unhide K4))
      | (go_at_call 35; (with_reducible refine (unhide HLA _ (unhide K4)).mono ?_); rintro e w5 ⟨rfl, rfl⟩)
      | ((with_reducible show wpList _ _ _ (_ :: _) _ _); first
        | (clear ta; refine wpL_box rfl 34 (.tmp 1) rfl (ET.cells ⟨i, c, s, k, y, vv, n⟩).toArray rfl ?_; intro q w1 e1 k1 g1 z1; have eq0 : w.heap.size ≤ q := Nat.le_of_eq e1; have G1 : EntAt w1 q ⟨i, c, s, k, y, vv, n⟩ := g1; clear g1 z1 e1)
        | (refine wpL_alloc rfl 38 rfl _ zero_res ?_; intro p w2 e2 k2 g2 z2; have e0 : w.heap.size ≤ p := Nat.le_trans k1.size (Nat.le_of_eq e2); have G2 := G1.no k2; have c0 := G2.c0; have c1 := G2.c1; have c2 := G2.c2; have c3 := G2.c3; have c4 := G2.c4; have c5 := G2.c5; have c6 := G2.c6; clear e2 z2)
        | (refine wpL_store rfl 38 (.tmp 4) (.tmp 50) rfl p rZero.cells.toArray rfl rfl _ _ g4 info_res rfl (all_oneCell_toArray (RT.one _)) ?_; intro w6 k6 g7 z7)
        | (refine wpL_store rfl 38 (.tmp 4) (.tmp 62) rfl p rZero.cells.toArray rfl rfl _ _ g4 info_res rfl (all_oneCell_toArray (RT.one _)) ?_; intro w6 k6 g7 z7)))
    refine bodyPost_ret (results_row_tmp rfl _ _ p _ _ _ _ rfl g7 Try.underlying38 rfl info_res) rfl ?_
    exact ⟨rfl, (unhide K4).past k6 e0⟩
/-- told: what became of it; it stands behind all others -/
def DidR (b : Nat) (E : List ET) (r : RT) (w : World) (e : Ending) (w' : World) : Prop := ∃ v', e = .returned (.tuple #[.agg r.cells.toArray, .int .i64 0]) ∧ Chg (oneBlk b) w w' ∧ RefAt w' b v' E ∧ ∀ g, v'.ownBlock = some g → w.heap.size ≤ g
theorem ref_fin {w7 wB wD : World} {v1 v2 : Value} {x : ET} (h : RefAt w7 b v E) (kB : Chg noBlk w7 wB) (f1 : ∀ k, v1.ownBlock = some k → w7.heap.size ≤ k) (kD : Chg (fun k => v1.ownBlock = some k) wB wD) (oD : wD.ownsRow 0 34 7 v2 (E.length + 1) (flatC ET.cells E ++ x.cells)) (fD : v2.ownBlock = v1.ownBlock ∨ v2.ownBlock = some wB.heap.size) :
    wD.heap[b]? = some (.cells #[v] 30 (0, 0)) ∧ Chg (oneBlk b) w7 (wD.setCell ⟨b, 0, none⟩ v2) ∧ RefAt (wD.setCell ⟨b, 0, none⟩ v2) b v2 (E ++ [x]) ∧ ∀ g, v2.ownBlock = some g → w7.heap.size ≤ g := by
  have z1 := kB.size
  have KD : Chg noBlk w7 wD := kB.trans kD fun i hi e => by have := f1 i e; omega
  have hb := KD.at h.p id
  have new : ∀ g, v2.ownBlock = some g → w7.heap.size ≤ g := fun g hg => by
    rcases fD with e | e <;> rw [hg] at e
    · exact f1 g e.symm
    · have e := Option.some.inj e
      omega
  have kS := setCell_chg wD b 0 v2
  have lb := h.lt
  exact ⟨hb, (KD.no _).trans kS fun _ _ e => e, ⟨setCell_heap v2 hb, OwnL.kept (ownL_grew oD) kS fun g hg e => by have := new g hg; have e : g = b := e; omega⟩, new⟩
theorem own_new1 {w' : World} (x : ET) (k : Chg noBlk (w.alloc (.cells x.cells.toArray 34)) w') : Reads w' 7 (.slice (some ⟨w.heap.size, 0, none⟩) 1 1) 1 x.cells := reads_new1 k (ET.len x) (ET.one x)
set_option maxRecDepth 100000 in
set_option maxHeartbeats 4000000 in
theorem rappend_yes (h : RefAt w b v E) (hl : E.length < 400) (x : ET) (hx : argB x = false) (hi : x.idx = (E.length : Int) + 1) (hs : seqL E x.cl < x.seq) : Calls Try.prog 15 #[.pointer (some ⟨b, 0, none⟩), .agg x.cells.toArray] w (DidR b (E ++ [x]) (appR (cellsN E E.length) ((E.length : Int) + 1) x.op) w) := by
  have C := fun w => rcheck_any x.op w
  obtain ⟨h0, h5, h1, hck, hk1⟩ := argB_no.1 hx
  obtain ⟨ad, cap, rfl, le, few, R⟩ := h.ent.form ET.len
  have hb0 := hide (fun w' (c : Chg noBlk w w') => (h.no c).c0)
  have HLA := hide (fun w' (k : Chg noBlk w w') => rlast_at (h.no k) (by omega) x.cl)
  have d9 : decide (4096 ≤ (E.length : Int)) = false := by simp; omega
  have i1 : IntKind.i64.wrap ((E.length : Int) + 1) = (E.length : Int) + 1 := IntWalk.i64_in _ (by omega)
  have HH := hide h
  have HRD := hide (fun w' (k : Chg noBlk w w') => OwnL.reads (h.no k).ent ET.one)
  obtain ⟨r, hr⟩ : ∃ r, appR (cellsN E E.length) ((E.length : Int) + 1) x.op = r := ⟨_, rfl⟩
  have HR := hide hr
  rw [hr]
  have HXX := hide (rfl : x = x)
  have HRC := hide (fun w' v' (h : RefAt w' b v' (E ++ [x])) => rcells_at h (by simp; omega))
  have HRS := hide (show (ress (E ++ [x]) (E ++ [x]).length)[E.length]? = some r by
    rw [show (E ++ [x]).length = E.length + 1 by simp, ress_all, hr, List.getElem?_append_right (by rw [ress_len]; omega), ress_len]; simp)
  have HRL := hide (show (ress (E ++ [x]) (E ++ [x]).length).length = E.length + 1 by rw [ress_len]; simp)
  have hlb := h.lt
  clear h R hx hr
  obtain ⟨X, hX⟩ : ∃ X, E ++ [x] = X := ⟨_, rfl⟩
  rw [hX] at HRC HRS HRL ⊢
  have HX := hide hX
  obtain ⟨x', hx'⟩ : ∃ x', x' = x := ⟨_, rfl⟩
  rw [← hx'] at HX
  have HX' := hide hx'
  clear hX hx' HXX
  obtain ⟨i, c, s, k, y, vv, n⟩ := x
  obtain ⟨sq, hsq⟩ : ∃ q, seqL E c = q := ⟨_, rfl⟩
  obtain ⟨ln, hln⟩ : ∃ q : Int, (lastN E c E.length : Int) = q := ⟨_, rfl⟩
  simp only [hsq, hln, hck] at C HLA h0 h5 h1 hk1 hi hs
  have d1 : (i != (E.length : Int) + 1) = false := by simpa using hi
  have d2 : decide (s ≤ sq) = false := by simp; omega
  have hk : (k == 1) = false := by simpa using hk1
  have HC := hide C
  clear C hsq hln hck hk1 hi hs
  have ta : True := True.intro
  go_enter Try.func15, Try.ntmps15
  go_wp2_with (first
      | (go_at_call 34; refine (unhide HC _).mono ?_; rintro e w4 ⟨rfl, k4⟩; have g4 := k4.at g2 id; clear c0 c1 c2 c3 c4 c5 c6; have G4 := G2.no k4; have c3 := G4.c3; have c0 := G4.c0; have c1 := G4.c1; have c2 := G4.c2; have K4 := hide ((k1.andNo k2).andNo k4); have b0 := unhide hb0 _ (unhide K4))
      | (go_at_call 35; (with_reducible refine (unhide HLA _ (unhide K4)).mono ?_); rintro e w5 ⟨rfl, rfl⟩)
      | ((with_reducible show wpList _ _ _ (_ :: _) _ _); first
        | (clear ta; refine wpL_box rfl 34 (.tmp 1) rfl (ET.cells ⟨i, c, s, k, y, vv, n⟩).toArray rfl ?_; intro q w1 e1 k1 g1 z1; have eq0 : w.heap.size ≤ q := Nat.le_of_eq e1; have G1 : EntAt w1 q ⟨i, c, s, k, y, vv, n⟩ := g1; clear g1 z1 e1)
        | (refine wpL_alloc rfl 38 rfl _ zero_res ?_; intro p w2 e2 k2 g2 z2; have e0 : w.heap.size ≤ p := Nat.le_trans k1.size (Nat.le_of_eq e2); have G2 := G1.no k2; have c0 := G2.c0; have c1 := G2.c1; have c2 := G2.c2; have c3 := G2.c3; have c4 := G2.c4; have c5 := G2.c5; have c6 := G2.c6; clear e2 z2)))
  obtain rfl := unhide HX'
  obtain ⟨xx, hxx⟩ : ∃ xx : ET, xx = ⟨i, c, s, k, y, vv, n⟩ := ⟨_, rfl⟩
  have HXX := hide hxx
  rw [← hxx] at G4 HX
  clear hxx
  have H4 := hide ((unhide HH).no (unhide K4))
  have G4' := hide G4
  have w4q := G4.lt
  clear b0 c0 c1 c2 c3 k1 k2 k4 G1 G2 G4 g2
  go_cut [] from 63 to 73 (fun wx => ∃ v2, RefAt wx b v2 X ∧ Chg (oneBlk b) w4 wx ∧ ∀ g, v2.ownBlock = some g → w4.heap.size ≤ g)
  case first =>
    rw [← unhide HXX] at *
    have c0 : w4.drew.cell? ⟨b, 0, none⟩ = some (.slice ad E.length cap) := (unhide H4).c0
    have c0b : (w4.alloc (.cells xx.cells.toArray 34)).cell? ⟨b, 0, none⟩ = some (.slice ad E.length cap) := ((unhide H4).no ((Chg.refl noBlk w4).alloc _)).c0
    have la : (ldEnt (.pointer (some ⟨q, 0, none⟩))).run Try.prog w4.drew = .ok (.agg xx.cells.toArray) w4.drew := run_ldEnt (show EntAt w4.drew q xx from unhide G4')
    have bs := run_bsEnt xx.cells.toArray rfl
    have LA := hide (fun wC (kC : Chg noBlk w4.drew wC) => (show (ldEnt (.pointer (some ⟨q, 0, none⟩))).run Try.prog wC = .ok (.agg xx.cells.toArray) wC from run_ldEnt ((show EntAt w4.drew q xx from unhide G4').no kC)))
    have R1 := hide (unhide HRD w4.drew (unhide K4).drew)
    have R2 := hide (unhide HRD (w4.drew.alloc (.cells xx.cells.toArray 34)) ((unhide K4).drew.alloc _))
    have B1 := hide (fun wC (kC : Chg noBlk w4.drew wC) => (show Chg noBlk w4 (wC.alloc (.cells xx.cells.toArray 34)) from (((Chg.refl noBlk w4).drew).andNo kC).alloc _))
    have B2 := hide (fun wC (kC : Chg noBlk (w4.drew.alloc (.cells xx.cells.toArray 34)) wC) => (show Chg noBlk w4 wC from (((Chg.refl noBlk w4).drew).alloc _).andNo kC))
    have F1 := hide (fun (v1 : Value) (fC : ∀ k, v1.ownBlock = some k → k = w4.drew.heap.size) => (show ∀ k, v1.ownBlock = some k → w4.heap.size ≤ k from fun k hk => Nat.le_of_eq (fC k hk).symm))
    have F2 := hide (fun (v1 : Value) (fC : ∀ k, v1.ownBlock = some k → k = (w4.drew.alloc (.cells xx.cells.toArray 34)).heap.size) => (show ∀ k, v1.ownBlock = some k → w4.heap.size ≤ k from fun k hk => by rw [fC k hk]; show w4.heap.size ≤ (w4.heap.push _).size; simp))
    have m1 : E.length ≤ maxLen := by unfold maxLen; omega
    have m2 : E.length + 1 ≤ maxLen := by unfold maxLen; omega
    have m3 : E.length * 72 ≤ 140737488355328 := by omega
    have m4 : (E.length + 1) * 72 ≤ 140737488355328 := by omega
    go_region_law (first
      | (refine step_clone rfl (.tmp 67) 28 (by rfl) 34 (.agg eZero.cells.toArray) 7 72 Try.underlying28 infx_ent rfl (by decide) (.slice ad E.length cap) E.length (flatC ET.cells E) (by rfl) (unhide R1) m1 m3 ?_; intro v1 wC kC oC fC vC; have laC := unhide LA wC kC)
      | (refine step_clone rfl (.tmp 67) 28 (by rfl) 34 (.agg eZero.cells.toArray) 7 72 Try.underlying28 infx_ent rfl (by decide) (.slice ad E.length cap) E.length (flatC ET.cells E) (by rfl) (unhide R2) m1 m3 ?_; intro v1 wC kC oC fC vC)
      | (refine step_append rfl (.tmp 68) (.tmp 70) 28 (by rfl) 34 (.agg eZero.cells.toArray) 7 72 Try.underlying28 infx_ent rfl (by decide) v1 E.length (flatC ET.cells E) (by rfl) (oC.alloc _) (.slice (some ⟨wC.heap.size, 0, none⟩) 1 1) 1 xx.cells (by rfl) (own_new1 xx (Chg.refl _ _)) m2 m4 ?_; intro v2 wD kD oD fD; have PQ := ref_fin (unhide H4) (unhide B1 _ kC) (unhide F1 _ fC) kD oD fD; obtain ⟨g9, cap9, rfl, _, _⟩ := World.ownsRow.form oD (by omega); have cb := cellAt PQ.1 0 _ rfl; have fb := freeAt PQ.1 0; have HPQ := hide PQ; clear kD oD fD PQ)
      | (refine step_append rfl (.tmp 68) (.tmp 70) 28 (by rfl) 34 (.agg eZero.cells.toArray) 7 72 Try.underlying28 infx_ent rfl (by decide) v1 E.length (flatC ET.cells E) (by rfl) oC (.slice (some ⟨w4.heap.size, 0, none⟩) 1 1) 1 xx.cells (by rfl) (own_new1 (w := w4.drew) xx kC) m2 m4 ?_; intro v2 wD kD oD fD; have PQ := ref_fin (unhide H4) (unhide B2 _ kC) (unhide F2 _ fC) kD oD fD; obtain ⟨g9, cap9, rfl, _, _⟩ := World.ownsRow.form oD (by omega); have cb := cellAt PQ.1 0 _ rfl; have fb := freeAt PQ.1 0; have HPQ := hide PQ; clear kD oD fD PQ))
    all_goals
      clear c0 c0b la bs
      go_wp2_with fail
      go_meet
      case rel => exact ⟨_, by rw [← unhide HX]; exact (unhide HPQ).2.2.1, (unhide HPQ).2.1, (unhide HPQ).2.2.2⟩
  case rest =>
  obtain ⟨v2, hR, kx, nx⟩ := hcut
  have hpb : p ≠ b := by omega
  have g5 := kx.at g4 hpb
  have HRX := hide hR
  have KX := hide kx
  have NX := hide nx
  clear hR kx nx g4
  have i2 : (0 : Int) ≤ (E.length : Int) := by omega
  go_wp2_with (first
    | (go_at_call 29; refine (unhide HRC _ _ (unhide HRX)).mono ?_; rintro e w6 ⟨ad2, cap2, vr, rfl, k6, s6, o6⟩; obtain ⟨ad3, cap3, rfl, _, _, rw6⟩ := o6.form RT.len; rw [unhide HRL] at *; obtain ⟨_, g3, off3, rfl, r3⟩ := rw6 _ _ (unhide HRS); have i3 : (E.length : Int) < ((E.length + 1 : Nat) : Int) := Int.ofNat_lt.2 (Nat.lt_succ_self _); have R3 := hide r3; have K6 := hide k6; have g6 := k6.at g5 id; clear r3 rw6 o6 s6 k6)
    | ((with_reducible show wpList _ _ _ (_ :: _) _ _); first
      | (refine wpList_load_mid rfl 38 (.tmp 81) rfl g3 (off3 + E.length * 4) rfl r.cells _ (unhide R3) Try.underlying38 rfl (by rw [info_res]; rfl) ?_)
      | (refine wpL_store rfl 38 (.tmp 4) (.tmp 82) rfl p r.cells.toArray rfl rfl _ _ g6 info_res rfl (all_oneCell_toArray (RT.one _)) ?_; intro w7 k7 g7 z7)))
  refine bodyPost_ret (results_row_tmp rfl _ _ p _ _ _ _ rfl g7 Try.underlying38 rfl info_res) rfl ?_
  have z4 := (unhide K4).size
  refine ⟨v2, rfl, ((((unhide K4).no _).trans (unhide KX) fun _ _ e => e).andNo (unhide K6)).trans k7 fun j hj e => by have e : j = p := e; omega, ((unhide HRX).no (unhide K6)).kept k7 (fun e => hpb (Eq.symm e)) (fun g hg e => by
    obtain ⟨cur, hb⟩ := OwnL.block ((unhide HRX).no (unhide K6)).ent hg
    exact ne_type hb g6 (by decide) e), fun g hg => Nat.le_trans z4 (unhide NX g hg)⟩
/-- told: what became of it; and the log has this -/
def DoneR (b : Nat) (v : Value) (E : List ET) (x : ET) (w : World) (e : Ending) (w' : World) : Prop :=
  e = .returned (.tuple #[.agg (appX E x).cells.toArray, .int .i64 (lchk E x)]) ∧ Chg (oneBlk b) w w' ∧ ∃ v', RefAt w' b v' (appE E x) ∧ ∀ g, v'.ownBlock = some g → v.ownBlock = some g ∨ w.heap.size ≤ g
theorem rappend_at (h : RefAt w b v E) (hl : E.length < 400) (x : ET) : Calls Try.prog 15 #[.pointer (some ⟨b, 0, none⟩), .agg x.cells.toArray] w (DoneR b v E x w) := by
  have no : ∀ {n : Int} {e : Ending} {w' : World}, lchk E x = n → n ≠ 0 → ToldN (.tuple #[.agg rZero.cells.toArray, .int .i64 n]) w e w' → DoneR b v E x w e w' := fun {n e w'} h1 h2 ⟨h3, h4⟩ => by
    subst h1
    unfold DoneR appX appE
    rw [if_neg h2, if_neg h2]
    exact ⟨h3, h4.no _, v, h.no h4, fun g hg => .inl hg⟩
  rcases lchk_ways E x with ⟨h1, h2⟩ | ⟨_, h1, _⟩ | ⟨h1, _, h2, h3⟩ | ⟨h1, _, h2, h3, h4⟩ | ⟨h1, _, h2, h3, h4⟩
  · exact (rappend_arg x h1 b).mono fun _ _ k => no h2 (by decide) k
  · omega
  · exact (rappend_ref h (by omega) x h1 (.inl ⟨rfl, h2⟩)).mono fun _ _ k => no h3 (by decide) k
  · exact (rappend_ref h (by omega) x h1 (.inr ⟨rfl, h2, h3⟩)).mono fun _ _ k => no h4 (by decide) k
  · refine (rappend_yes h hl x h1 h2 h3).mono ?_
    rintro e w' ⟨v', rfl, k, hr, hn⟩
    unfold DoneR appX appE
    rw [if_pos h4, if_pos h4, h4]
    exact ⟨rfl, k, v', hr, fun g hg => .inr (hn g hg)⟩
end
end Go.Proofs.Ytfffgegdcgfakaa
