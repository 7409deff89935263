/-
  Logs: the contract of Append that takes an entry.
-/
import Derived.Test.YtfffgegdcgfakaaLogsG
namespace Go.Proofs.Ytfffgegdcgfakaa
open Go.ChangeShapes Go.WideShapes Go.ChangeAt Go.RowKit
set_option linter.unusedVariables false
attribute [local go_sem] bs_size bs_app bs_cut bs_tl bs_at
attribute [local go_sem ↓] Go.wp_at_zero Go.wp_at_succ
attribute [local go_sem ↓] ldEnt_pre ldRes_pre bsEnt_pre bsRes_pre
theorem info_slE : (Try.prog.info? 28).map (·.size) = some 1 := by kernel_rfl
theorem info_slR : (Try.prog.info? 55).map (·.size) = some 1 := by kernel_rfl
theorem info_int : (Try.prog.info? 3).map (·.size) = some 1 := by kernel_rfl
/-- told: what became of it; it stands behind all others -/
def DidL (b sb sm : Nat) (ve vr : Value) (E : List ET) (x : ET) (w : World) (e : Ending) (w' : World) : Prop := ∃ ve' vr', e = .returned (.tuple #[.agg (appR (cellsN E E.length) ((E.length : Int) + 1) x.op).cells.toArray, .int .i64 0]) ∧ Chg (logBlk b sm ve vr) w w' ∧ LogAt w' b sb sm ve' vr' (E ++ [x]) ∧
  (∀ g, ve'.ownBlock = some g → ve.ownBlock = some g ∨ w.heap.size ≤ g) ∧ (∀ g, vr'.ownBlock = some g → vr.ownBlock = some g ∨ w.heap.size ≤ g)
theorem did_fin {w0 w10 w11 w12 : World} {b sb sm q p c : Nat} {ve0 vr0 ve vr : Value} {E : List ET} {x : ET} {r : RT} {M : List KV}
    (h : Mid w0 b sb sm q p ve0 vr0 ve vr (((logC ve0 vr0 sb E).set 0 ve).set 1 vr) (E ++ [x]) (ress E E.length ++ [r]) M x r w10) (k11 : Chg (oneBlk b) w10 w11)
    (g11 : w11.heap[b]? = some (.cells ((((logC ve0 vr0 sb E).set 0 ve).set 1 vr).toArray.setIfInBounds (3 + c) (.int .i64 x.idx)) 59 (0, 0))) (k12 : Chg (oneBlk p) w11 w12)
    (hc : c < 6) (hcl : x.cl = (c : Int)) (hi : x.idx = (E.length : Int) + 1) (hf : Fit (E ++ [x])) (hr : appR (cellsN E E.length) ((E.length : Int) + 1) x.op = r) (hM : appL (cellsN E E.length) ((E.length : Int) + 1) x.op = M) :
    DidL b sb sm ve0 vr0 E x w0 (.returned (.tuple #[.agg r.cells.toArray, .int .i64 0])) w12 := by
  have lb := h.lb
  have lsb := h.lsb
  have lsm := h.lsm
  have lp := h.lp
  rw [hi, logC_set hc hcl] at g11
  have el : (E ++ [x]).length = E.length + 1 := by simp
  have nb : b ≠ p := by omega
  refine ⟨ve, vr, by rw [hr], (h.chg.trans k11 fun i _ e => .inl e).trans k12 fun i hi e => by have e : i = p := e; omega, ⟨k12.at g11 nb, (h.ent.kept k11 fun g hg e => ?_).kept k12 fun g hg e => ?_, ?_, ?_, hf⟩, h.ven, h.vrn⟩
  · obtain ⟨cur, hb⟩ := h.ent.block hg
    exact ne_type hb h.pb (by decide) e
  · obtain ⟨cur, hb⟩ := h.ent.block hg
    exact ne_type hb h.xr (by decide) e
  · rw [el, ress_all, hr]
    refine (h.res.kept k11 fun g hg e => ?_).kept k12 fun g hg e => h.vp g hg e
    obtain ⟨cur, hb⟩ := h.res.block hg
    exact ne_type hb h.pb (by decide) e
  · rw [el, cells_all, hM]
    exact (h.st.kept k11 (fun e => ne_type h.st.p h.pb (by decide) e) (fun e => map_no_cells h.st.m h.pb (Eq.symm e))).kept k12 (fun e => by have e : sb = p := e; omega) (fun e => by have e : sm = p := e; omega)
section
variable {w : World} {b sb sm : Nat} {ve vr : Value} {E : List ET}
set_option maxRecDepth 100000 in
set_option maxHeartbeats 4000000 in
theorem lappend_yes (h : LogAt w b sb sm ve vr E) (x : ET) (hx : lchk E x = 0) : Calls Try.prog 12 #[.pointer (some ⟨b, 0, none⟩), .agg x.cells.toArray] w (DidL b sb sm ve vr E x w) := by
  have C := fun w' (c : Chg noBlk w w') => lcheck_any (h.no c) x
  rw [hx] at C
  have HC := hide C
  obtain ⟨⟨hc0, hc5, hs1, hck, hk1⟩, hlen, hidx, hseq⟩ := lchk_ok hx
  have hfit := hide (h.fit.app hx)
  have hcl := cellsN_len E E.length
  have HA := hide (fun w' (c : Chg noBlk w w') => (show Calls Try.prog 32 #[.pointer (some ⟨sb, 0, none⟩), .int .i64 x.idx, .agg x.op.cells.toArray] w' (DidS sb sm (appR (cellsN E E.length) ((E.length : Int) + 1) x.op) (appL (cellsN E E.length) ((E.length : Int) + 1) x.op) w') by
    rw [hidx]
    exact apply_at (h.no c).st _ x.op (by unfold maxLen; omega)))
  obtain ⟨r, hr⟩ : ∃ r, appR (cellsN E E.length) ((E.length : Int) + 1) x.op = r := ⟨_, rfl⟩
  obtain ⟨M, hM⟩ : ∃ r, appL (cellsN E E.length) ((E.length : Int) + 1) x.op = r := ⟨_, rfl⟩
  rw [hr, hM] at HA
  have f := chk_fit.1 hck
  have HK := hide (clone_n x.op.key (by have := f.l1; omega))
  have HV := hide (clone_n x.op.val (by have := f.l2; omega))
  have HS := hide h
  have lb := h.lt
  have lsb := h.st.lt
  have lsm := h.st.m.lt
  have hc2 := hide (fun w' (c : Chg noBlk w w') => (h.no c).c2)
  have HR := hide hr
  have HM := hide hM
  have HI := hide hidx
  clear h hx C hck hk1 hs1 hr hM f hseq hidx
  have ta : True := True.intro
  go_enter Try.func12, Try.ntmps12
  go_wp2_with (first
    | (go_at_call 31; refine (unhide HC _ (k1.andNo k2)).mono ?_; rintro e w3 ⟨rfl, k3⟩; have G3 := G2.no k3; have g3 := k3.at g2 id)
    | ((with_reducible show wpList _ _ _ (_ :: _) _ _); first
      | (clear ta; refine wpL_box rfl 34 (.tmp 1) rfl x.cells.toArray rfl ?_; intro q w1 e1 k1 g1 z1; have eq0 : w.heap.size ≤ q := Nat.le_of_eq e1; have G1 : EntAt w1 q x := g1; clear e1 z1 g1)
      | (refine wpL_alloc rfl 38 rfl _ zero_res ?_; intro p w2 e2 k2 g2 z2; have ep0 : w.heap.size ≤ p := Nat.le_trans k1.size (Nat.le_of_eq e2); have G2 := G1.no k2; clear e2 z2)
      | (refine wpL_load rfl 34 (.tmp 3) rfl q rfl _ _ _ G2 _ Try.underlying34 rfl info_ent ?_)))
  have K3 := (k1.andNo k2).andNo k3
  have c2 := unhide hc2 _ K3
  have d0 := G3.c0
  have d3 := G3.c3
  have d4 := G3.c4
  have d5 := G3.c5
  have d6 := G3.c6
  go_still_tail 8, (by kernel_rfl)
  change wpList _ _ _ _ _ w3.drew
  have K4 := hide K3.drew
  have G4 : EntAt w3.drew q x := G3
  have g4 : w3.drew.heap[p]? = _ := g3
  clear k1 k2 k3 K3 G1 G2 G3 g2 g3 c2 d0 d3 d4 d5 d6
  generalize w3.drew = w4 at K4 G4 g4 ⊢
  go_wp2_with (first
    | (go_at_call 32; refine (unhide HA _ (unhide K4)).mono ?_; rintro e w5 ⟨rfl, k5, s5⟩; have g5 := k5.at g4 (fun e => by have e : p = sm := e; omega); have G5 : EntAt w5 q x := k5.at G4 (fun e => by have e : q = sm := e; omega))
    | ((with_reducible show wpList _ _ _ (_ :: _) _ _); refine wpL_store rfl 38 (.tmp 4) (.tmp 21) rfl p r.cells.toArray rfl rfl _ _ g5 info_res rfl (all_oneCell_toArray (RT.one _)) ?_; intro w6 k6 g6 z6))
  have g5' := g5
  have L4 := (unhide HS).no (unhide K4)
  have hbs : b ≠ sm := map_no_cells L4.st.m L4.p
  have HMid : Mid w b sb sm q p ve vr ve vr (logC ve vr sb E) E (ress E E.length) M x r w6 := by
    have ls := L4.lts
    have l0 := (unhide HS).lts
    have z4 := (unhide K4).size
    refine ⟨(((unhide K4).no _).trans k5 fun i hi e => .inr (.inl e)).trans k6 fun i hi e => by have e : i = p := e; omega, k6.at (k5.at L4.p hbs) (fun e => by have e : b = p := e; omega), (L4.ent.kept k5 fun g hg e => ?_).kept k6 fun g hg e => ?_, (L4.res.kept k5 fun g hg e => ?_).kept k6 fun g hg e => ?_, s5.kept k6 (fun e => by have e : sb = p := e; omega) (fun e => by have e : sm = p := e; omega), k6.at G5 (fun e => ?_), g6, lb, lsb, lsm, eq0, ep0, fun g hg e => ?_, fun g hg e => ?_, fun g hg => .inl hg, fun g hg => .inl hg⟩
    · obtain ⟨cur, hb⟩ := L4.ent.block hg
      exact map_no_cells L4.st.m hb e
    · have e : g = p := e
      have := l0.ve g hg
      omega
    · obtain ⟨cur, hb⟩ := L4.res.block hg
      exact map_no_cells L4.st.m hb e
    · have e : g = p := e
      have := l0.vr g hg
      omega
    · exact ne_type G5 g5 (by decide) e
    · have := l0.ve g hg
      omega
    · have := l0.vr g hg
      omega
  have M6 := hide HMid
  have B0 : HoldE w6 q x w6 := ⟨Chg.refl _ _, HMid.xe⟩
  have KE := hide (fun w' (h : HoldE w6 q x w') => holdE_keep h)
  clear HMid k5 s5 k6 g6 z6 g5 g5' G5 G4 g4 K4 L4 hbs HA HC hc2
  go_region_held3 (fun w' => HoldE w6 q x w' ∧ w'.cell? ⟨q, 4, none⟩ = some (str x.op.key) ∧ w'.cell? ⟨q, 5, none⟩ = some (str x.op.val) ∧ w'.frozen? ⟨q, 4, none⟩ = false ∧ w'.frozen? ⟨q, 5, none⟩ = false)
    ((refine unhide KE _ ?_; go_split_ands; first | assumption | exact HoldE.drew (by assumption) | exact HoldE.drewN (by assumption) _ | exact HoldE.andNo (by assumption) (by assumption) | exact HoldE.key (by assumption) | exact HoldE.val (by assumption)))
    (first | (go_at_call 33; (with_reducible refine (unhide HK _).mono ?_); rintro e wa ⟨rfl, ka⟩) | (go_at_call 33; (with_reducible refine (unhide HV _).mono ?_); rintro e wb ⟨rfl, kb⟩))
  have H7 := ((B0.drew.andNo ka).andNo kb).key.val
  have M7 := hide ((unhide M6).hold H7.chg H7.lies)
  generalize (wb.setCell ⟨q, 4, none⟩ (str x.op.key)).setCell ⟨q, 5, none⟩ (str x.op.val) = w7 at M7 ⊢
  clear KE ka kb B0 H7 M6 HK HV
  have c0 : w7.drew.cell? ⟨b, 0, none⟩ = some ve := cellAt (unhide M7).pb 0 _ rfl
  have c0b : (w7.alloc (.cells x.cells.toArray 34)).cell? ⟨b, 0, none⟩ = some ve := cellAt (((Chg.refl noBlk w7).alloc _).at (unhide M7).pb id) 0 _ rfl
  have la : (ldEnt (.pointer (some ⟨q, 0, none⟩))).run Try.prog w7.drew = .ok (.agg x.cells.toArray) w7.drew := run_ldEnt (show EntAt w7.drew q x from (unhide M7).xe)
  have bs := run_bsEnt x.cells.toArray rfl
  have kA : Chg noBlk w7 (w7.drew.alloc (.cells x.cells.toArray 34)) := ((Chg.refl noBlk w7).drew).alloc _
  have KA := hide kA
  have OE := hide (((unhide M7).no kA).ent)
  have PB := hide (((unhide M7).no kA).pb)
  have NB := hide (fun g (hg : ve.ownBlock = some g) => (show g ≠ b from by obtain ⟨cur, hb⟩ := (unhide M7).ent.block hg; exact ne_type hb (unhide M7).pb (by decide)))
  have m2 : E.length + 1 ≤ maxLen := by unfold maxLen; omega
  have m4 : (E.length + 1) * 72 ≤ 140737488355328 := by omega
  clear kA
  go_wp2_with fail
  go_region_law (first
    | (refine step_append rfl (.tmp 38) (.tmp 40) 28 (by rfl) 34 (.agg eZero.cells.toArray) 7 72 Try.underlying28 infx_ent rfl (by decide) ve E.length (flatC ET.cells E) (by rfl) (unhide OE) (.slice (some ⟨w7.heap.size, 0, none⟩) 1 1) 1 x.cells (by rfl) (reads_new1 (W := w7.drew) (t := 34) (Chg.refl _ _) (ET.len x) (ET.one x)) m2 m4 ?_; intro v' wD kD oD fD; obtain ⟨g9, cap9, rfl, _, _⟩ := oD.form (by omega); have M8 := hide ((unhide M7).grow (unhide KA) kD oD fD); have hbD := kD.at (unhide PB) (fun e => unhide NB _ e rfl); have cb := cellAt hbD 0 _ rfl; have fb := freeAt hbD 0; clear kD oD fD hbD))
  all_goals
    generalize wD.setCell ⟨b, 0, none⟩ (.slice (some ⟨g9, 0, none⟩) (E.length + 1) cap9) = w8 at M8 ⊢
    clear c0 c0b la bs KA OE PB NB m2 m4 M7 cb fb
    have c1 : w8.drew.cell? ⟨b, 1, none⟩ = some vr := cellAt (unhide M8).pb 1 _ rfl
    have c1b : (w8.alloc (.cells r.cells.toArray 38)).cell? ⟨b, 1, none⟩ = some vr := cellAt (((Chg.refl noBlk w8).alloc _).at (unhide M8).pb id) 1 _ rfl
    have la : (ldRes (.pointer (some ⟨p, 0, none⟩))).run Try.prog w8.drew = .ok (.agg r.cells.toArray) w8.drew := run_ldRes (show ResAt w8.drew p r from (unhide M8).xr)
    have bs := run_bsRes r.cells.toArray rfl
    have kA : Chg noBlk w8 (w8.drew.alloc (.cells r.cells.toArray 38)) := ((Chg.refl noBlk w8).drew).alloc _
    have KA := hide kA
    have OE := hide (((unhide M8).no kA).res)
    have PB := hide (((unhide M8).no kA).pb)
    have NB := hide (fun g (hg : vr.ownBlock = some g) => (show g ≠ b from by obtain ⟨cur, hb⟩ := (unhide M8).res.block hg; exact ne_type hb (unhide M8).pb (by decide)))
    have m2 : (ress E E.length).length + 1 ≤ maxLen := by rw [ress_len]; unfold maxLen; omega
    have m4 : ((ress E E.length).length + 1) * 40 ≤ 140737488355328 := by rw [ress_len]; omega
    clear kA
    go_wp2_with fail
    go_region_law (first
      | (refine step_append rfl (.tmp 48) (.tmp 50) 55 (by rfl) 38 (.agg rZero.cells.toArray) 4 40 Try.underlying55 infx_res rfl (by decide) vr (ress E E.length).length (flatC RT.cells (ress E E.length)) (by rfl) (unhide OE) (.slice (some ⟨w8.heap.size, 0, none⟩) 1 1) 1 r.cells (by rfl) (reads_new1 (W := w8.drew) (t := 38) (Chg.refl _ _) (RT.len r) (RT.one r)) m2 m4 ?_; intro v' wF kD oD fD; obtain ⟨g8, cap8, rfl, _, _⟩ := oD.form (by omega); have M9 := hide ((unhide M8).growR (unhide KA) kD oD fD); have hbD := kD.at (unhide PB) (fun e => unhide NB _ e rfl); have cb := cellAt hbD 1 _ rfl; have fb := freeAt hbD 1; clear kD oD fD hbD))
  all_goals
    generalize wF.setCell ⟨b, 1, none⟩ (.slice (some ⟨g8, 0, none⟩) ((ress E E.length).length + 1) cap8) = w9 at M9 ⊢
    clear c1 c1b la bs KA OE PB NB m2 m4 M8 cb fb
    go_wp2_with fail
    obtain ⟨c, hc⟩ : ∃ c : Nat, x.cl = (c : Int) := ⟨x.cl.toNat, by omega⟩
    have d1 := (unhide M9).xe.c1
    have d0 := (unhide M9).xe.c0
    rw [hc] at d1
    have i1 : (0 : Int) ≤ (c : Int) := by omega
    have i2 : (c : Int) < 6 := by omega
    have HCL := hide hc
    clear hc hc0 hc5
    go_still_tail 8, (by kernel_rfl)
    change wpList _ _ _ _ _ w9.drew
    have M10 := hide ((unhide M9).no ((Chg.refl noBlk w9).drew))
    clear d1 d0 M9
    generalize w9.drew = w10 at M10 ⊢
    have P10 := (unhide M10).pb
    have R10 := (unhide M10).xr
    have npb : ¬ oneBlk b p := fun e => by have e : p = b := e; omega
    go_wp2_with ((with_reducible show wpList _ _ _ (_ :: _) _ _); first
      | (refine wpL_set rfl 3 (.tmp 61) (.tmp 58) rfl b (3 + c) (.int .i64 x.idx) rfl rfl rfl info_int _ _ P10 (by show 3 + c < 9; omega) ?_; intro w11 k11 g11 z11; have R11 : ResAt w11 p r := k11.at R10 npb)
      | (refine wpL_load rfl 38 (.tmp 4) rfl p rfl r.cells.toArray _ _ R11 _ Try.underlying38 rfl info_res ?_)
      | (refine wpL_store rfl 38 (.tmp 4) (.tmp 62) rfl p r.cells.toArray rfl rfl _ _ R11 info_res rfl (all_oneCell_toArray (RT.one _)) ?_; intro w12 k12 g12 z12))
    refine bodyPost_ret (results_row_tmp rfl _ _ p _ _ _ _ rfl g12 Try.underlying38 rfl info_res) rfl ?_
    exact did_fin (unhide M10) k11 g11 k12 (by omega) (unhide HCL) (unhide HI) (unhide hfit) (unhide HR) (unhide HM)
end
end Go.Proofs.Ytfffgegdcgfakaa
