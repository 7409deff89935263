/-
  Logs: contracts of Append.
-/
import Derived.Test.YtfffgegdcgfakaaLogsF
import Derived.Test.YtfffgegdcgfakaaKitS
import Derived.Deep.RegionLaw
import Derived.Deep.DrawnRows
import Derived.Deep.DeepCutAuto
namespace Go.Proofs.Ytfffgegdcgfakaa
open Go.ChangeShapes Go.WideShapes Go.ChangeAt Go.RowKit
set_option linter.unusedVariables false
attribute [local go_sem] bs_size bs_app bs_cut bs_tl bs_at
/-- an entry read, a slice of one entry, of one result: met whole -/
def ldEnt (x : Value) : Sem Value := Instr.loadAt 34 x
theorem ldEnt_pre (x : Value) : Instr.loadAt 34 x = ldEnt x := rfl
def ldRes (x : Value) : Sem Value := Instr.loadAt 38 x
theorem ldRes_pre (x : Value) : Instr.loadAt 38 x = ldRes x := rfl
def bsEnt (p : Array (Nat × Value)) : Sem Value := Instr.buildSlice 28 1 p
theorem bsEnt_pre (p : Array (Nat × Value)) : Instr.buildSlice 28 1 p = bsEnt p := rfl
def bsRes (p : Array (Nat × Value)) : Sem Value := Instr.buildSlice 55 1 p
theorem bsRes_pre (p : Array (Nat × Value)) : Instr.buildSlice 55 1 p = bsRes p := rfl
theorem run_ldEnt {w : World} {b : Nat} {x : ET} (h : EntAt w b x) : (ldEnt (.pointer (some ⟨b, 0, none⟩))).run Try.prog w = .ok (.agg x.cells.toArray) w :=
  run_loadAt_mid w b 0 _ x.cells _ (fun j v hv => cellAt h (0 + j) v (by rw [Nat.zero_add]; simpa using hv)) Try.underlying34 rfl (by rw [info_ent]; rfl)
/-- a result at p -/
def ResAt (w : World) (p : Nat) (r : RT) : Prop := w.heap[p]? = some (.cells r.cells.toArray 38 (0, 0))
theorem ResAt.no {w w' : World} {p : Nat} {r : RT} (h : ResAt w p r) (k : Chg noBlk w w') : ResAt w' p r := k.at h id
theorem ResAt.lt {w : World} {p : Nat} {r : RT} (h : ResAt w p r) : p < w.heap.size := lt_of_block h
theorem ResAt.c0 {w : World} {p : Nat} {r : RT} (h : ResAt w p r) : w.cell? ⟨p, 0, none⟩ = some (.int .i64 r.code) := cellAt h 0 _ rfl
theorem ResAt.c1 {w : World} {p : Nat} {r : RT} (h : ResAt w p r) : w.cell? ⟨p, 1, none⟩ = some (str r.val) := cellAt h 1 _ rfl
theorem ResAt.c2 {w : World} {p : Nat} {r : RT} (h : ResAt w p r) : w.cell? ⟨p, 2, none⟩ = some (.int .i64 r.ver) := cellAt h 2 _ rfl
theorem ResAt.c3 {w : World} {p : Nat} {r : RT} (h : ResAt w p r) : w.cell? ⟨p, 3, none⟩ = some (.int .i64 r.at_) := cellAt h 3 _ rfl
theorem run_ldRes {w : World} {b : Nat} {x : RT} (h : ResAt w b x) : (ldRes (.pointer (some ⟨b, 0, none⟩))).run Try.prog w = .ok (.agg x.cells.toArray) w :=
  run_loadAt_mid w b 0 _ x.cells _ (fun j v hv => cellAt h (0 + j) v (by rw [Nat.zero_add]; simpa using hv)) Try.underlying38 rfl (by rw [info_res]; rfl)
theorem run_bsEnt (cs : Array Value) (h : cs.size = 7) (w : World) : (bsEnt #[(0, .agg cs)]).run Try.prog w = .ok (.slice (some ⟨w.heap.size, 0, none⟩) 1 1) (w.alloc (.cells cs 34)) := by
  have hi := infx_ent
  cases hq : Try.prog.info? 34 with
  | none => simp [hq] at hi
  | some i =>
    simp only [hq, Option.map_some, Option.some.injEq, Prod.mk.injEq] at hi
    obtain ⟨h1, h2, _⟩ := hi
    exact run_buildSlice w _ _ 1 _ cs i (.agg eZero.cells.toArray) Try.underlying28 hq h1 (by rw [h2]; omega) (by rw [h2]; omega) (fill_one _ _ cs i.size (by simp) (by rw [h, h2]) (by simp [h2]))
theorem run_bsRes (cs : Array Value) (h : cs.size = 4) (w : World) : (bsRes #[(0, .agg cs)]).run Try.prog w = .ok (.slice (some ⟨w.heap.size, 0, none⟩) 1 1) (w.alloc (.cells cs 38)) := by
  have hi := infx_res
  cases hq : Try.prog.info? 38 with
  | none => simp [hq] at hi
  | some i =>
    simp only [hq, Option.map_some, Option.some.injEq, Prod.mk.injEq] at hi
    obtain ⟨h1, h2, _⟩ := hi
    exact run_buildSlice w _ _ 1 _ cs i (.agg rZero.cells.toArray) Try.underlying55 hq h1 (by rw [h2]; omega) (by rw [h2]; omega) (fill_one _ _ cs i.size (by simp) (by rw [h, h2]) (by simp [h2]))
section
variable {w : World} {b sb sm : Nat} {ve vr : Value} {E : List ET}
set_option maxRecDepth 100000 in
theorem lappend_no (h : LogAt w b sb sm ve vr E) (x : ET) (hx : lchk E x ≠ 0) : Calls Try.prog 12 #[.pointer (some ⟨b, 0, none⟩), .agg x.cells.toArray] w (ToldN (.tuple #[.agg rZero.cells.toArray, .int .i64 (lchk E x)]) w) := by
  have C := fun w' (c : Chg noBlk w w') => lcheck_any (h.no c) x
  obtain ⟨n, hn⟩ : ∃ n, lchk E x = n := ⟨_, rfl⟩
  rw [hn] at C hx ⊢
  have d1 : (n != 0) = true := by simpa using hx
  have HC := hide C
  clear h C hn hx
  have ta : True := True.intro
  go_enter Try.func12, Try.ntmps12
  go_wp2_with (first
    | (go_at_call 31; refine (unhide HC _ (k1.andNo k2)).mono ?_; rintro e w3 ⟨rfl, k3⟩; have g3 := k3.at g2 id)
    | ((with_reducible show wpList _ _ _ (_ :: _) _ _); first
      | (clear ta; refine wpL_box rfl 34 (.tmp 1) rfl x.cells.toArray rfl ?_; intro q w1 e1 k1 g1 z1; have eq0 : w.heap.size ≤ q := Nat.le_of_eq e1; clear e1 z1)
      | (refine wpL_alloc rfl 38 rfl _ zero_res ?_; intro p w2 e2 k2 g2 z2; have e0 : w.heap.size ≤ p := Nat.le_trans k1.size (Nat.le_of_eq e2); have g4 := k2.at g1 id; clear e2 z2)
      | (refine wpL_load rfl 34 (.tmp 3) rfl q rfl _ _ _ g4 _ Try.underlying34 rfl info_ent ?_)
      | (refine wpL_store rfl 38 (.tmp 4) (.tmp 11) rfl p rZero.cells.toArray rfl rfl _ _ g3 info_res rfl (all_oneCell_toArray (RT.one _)) ?_; intro w6 k6 g7 z7)))
  refine bodyPost_ret (results_row_tmp rfl _ _ p _ _ _ _ rfl g7 Try.underlying38 rfl info_res) rfl ?_
  exact ⟨rfl, ((k1.andNo k2).andNo k3).past k6 e0⟩
end
/-- what an appending turns of what was there -/
def logBlk (b sm : Nat) (ve vr : Value) : Nat → Prop := fun k => k = b ∨ k = sm ∨ ve.ownBlock = some k ∨ vr.ownBlock = some k
/-- where an appending stands -/
structure Mid (w0 : World) (b sb sm q p : Nat) (ve0 vr0 ve vr : Value) (c : List Value) (E : List ET) (R : List RT) (L : List KV) (x : ET) (r : RT) (w : World) : Prop where
  chg : Chg (logBlk b sm ve0 vr0) w0 w
  pb : w.heap[b]? = some (.cells c.toArray 59 (0, 0))
  ent : OwnL w 34 ET.cells 7 ve E
  res : OwnL w 38 RT.cells 4 vr R
  st : StAt w sb sm L
  xe : EntAt w q x
  xr : ResAt w p r
  lb : b < w0.heap.size
  lsb : sb < w0.heap.size
  lsm : sm < w0.heap.size
  lq : w0.heap.size ≤ q
  lp : w0.heap.size ≤ p
  vq : ∀ g, ve.ownBlock = some g → g ≠ q
  vp : ∀ g, vr.ownBlock = some g → g ≠ p
  ven : ∀ g, ve.ownBlock = some g → ve0.ownBlock = some g ∨ w0.heap.size ≤ g
  vrn : ∀ g, vr.ownBlock = some g → vr0.ownBlock = some g ∨ w0.heap.size ≤ g
section
variable {w0 w w' wD : World} {b sb sm q p : Nat} {ve0 vr0 ve vr v' : Value} {c : List Value} {E : List ET} {R : List RT} {L : List KV} {x : ET} {r : RT}
theorem Mid.no (h : Mid w0 b sb sm q p ve0 vr0 ve vr c E R L x r w) (k : Chg noBlk w w') : Mid w0 b sb sm q p ve0 vr0 ve vr c E R L x r w' :=
  ⟨h.chg.andNo k, k.at h.pb id, h.ent.no k, h.res.no k, h.st.no k, h.xe.no k, h.xr.no k, h.lb, h.lsb, h.lsm, h.lq, h.lp, h.vq, h.vp, h.ven, h.vrn⟩
theorem Mid.qp (h : Mid w0 b sb sm q p ve0 vr0 ve vr c E R L x r w) : q ≠ p := ne_type h.xe h.xr (by decide)
theorem Mid.hold (h : Mid w0 b sb sm q p ve0 vr0 ve vr c E R L x r w) (k : Chg (oneBlk q) w w') (hq : EntAt w' q x) : Mid w0 b sb sm q p ve0 vr0 ve vr c E R L x r w' := by
  have l1 := h.lb
  have l2 := h.lsb
  have l3 := h.lsm
  have l4 := h.lq
  exact ⟨h.chg.trans k fun i hi e => by have e : i = q := e; omega, k.at h.pb (fun e => by have e : b = q := e; omega), h.ent.kept k (fun g hg e => h.vq g hg e), h.res.kept k (fun g hg e => by
    have e : g = q := e
    obtain ⟨cur, hb⟩ := h.res.block hg
    exact ne_type hb h.xe (by decide) e), h.st.kept k (fun e => by have e : sb = q := e; omega) (fun e => by have e : sm = q := e; omega), hq, k.at h.xr (fun e => h.qp (Eq.symm e)), h.lb, h.lsb, h.lsm, h.lq, h.lp, h.vq, h.vp, h.ven, h.vrn⟩
theorem map_no_cells {w : World} {m g : Nat} {L : List KV} {cs : Array Value} {T : TypeId} {f : Nat × Nat} (h : MapAt w m L) (hg : w.heap[g]? = some (.cells cs T f)) : g ≠ m := fun e => by
  obtain ⟨es, clock, h1, _⟩ := h
  rw [e, h1] at hg
  cases hg
/-- an entry stands behind all others -/
theorem Mid.grow (h : Mid w0 b sb sm q p ve0 vr0 ve vr c E R L x r w) (kA : Chg noBlk w w') (kD : Chg (fun k => ve.ownBlock = some k) w' wD) (oD : wD.ownsRow 0 34 7 v' (E.length + 1) (flatC ET.cells E ++ x.cells)) (fD : v'.ownBlock = ve.ownBlock ∨ v'.ownBlock = some w'.heap.size) :
    Mid w0 b sb sm q p ve0 vr0 v' vr (c.set 0 v') (E ++ [x]) R L x r (wD.setCell ⟨b, 0, none⟩ v') := by
  have H := h.no kA
  have l1 := H.lb
  have l2 := H.lsb
  have l3 := H.lsm
  have l4 := H.lq
  have l5 := H.lp
  have ls := H.xe.lt
  have c1 := H.chg.size
  have nb : ∀ g, ve.ownBlock = some g → g ≠ b := fun g hg => by
    obtain ⟨cur, hb⟩ := H.ent.block hg
    exact ne_type hb H.pb (by decide)
  have nsb : ∀ g, ve.ownBlock = some g → g ≠ sb := fun g hg => by
    obtain ⟨cur, hb⟩ := H.ent.block hg
    exact ne_type hb H.st.p (by decide)
  have nsm : ∀ g, ve.ownBlock = some g → g ≠ sm := fun g hg => by
    obtain ⟨cur, hb⟩ := H.ent.block hg
    exact map_no_cells H.st.m hb
  have nvr : ∀ g, vr.ownBlock = some g → ¬ ve.ownBlock = some g := fun g hg hg2 => by
    obtain ⟨cur, hb⟩ := H.ent.block hg2
    obtain ⟨cur2, hb2⟩ := H.res.block hg
    exact ne_type hb hb2 (by decide) rfl
  have np : ¬ ve.ownBlock = some p := fun hg => by
    obtain ⟨cur, hb⟩ := H.ent.block hg
    exact ne_type hb H.xr (by decide) rfl
  have kS := setCell_chg wD b 0 v'
  have oD' : OwnL wD 34 ET.cells 7 v' (E ++ [x]) := ownL_grew oD
  have nb' : ∀ g, v'.ownBlock = some g → g ≠ b := fun g hg => by
    rcases fD with e | e
    · exact nb g (by rw [← e]; exact hg)
    · rw [hg] at e
      have e := Option.some.inj e
      omega
  have st1 := H.st.kept kD (fun e => nsb _ e rfl) (fun e => nsm _ e rfl)
  have bsb : sb ≠ b := ne_type H.st.p H.pb (by decide)
  have bsm : b ≠ sm := map_no_cells H.st.m H.pb
  refine ⟨(H.chg.trans kD fun i hi e => ?_).trans kS fun i hi e => .inl e, ?_, oD'.kept kS (fun g hg e => nb' g hg e), (H.res.kept kD nvr).kept kS (fun g hg e => ?_), st1.kept kS (fun e => bsb e) (fun e => bsm (Eq.symm e)), kS.at (kD.at H.xe fun e => H.vq _ e rfl) (fun e => by have e : q = b := e; omega), kS.at (kD.at H.xr np) (fun e => by have e : p = b := e; omega), l1, l2, l3, l4, l5, fun g hg => ?_, H.vp, fun g hg => ?_, H.vrn⟩
  · rcases H.ven i e with e | e
    · exact .inr (.inr (.inl e))
    · omega
  · rw [setCell_heap v' (kD.at H.pb fun e => nb _ e rfl)]
    simp
  · have e : g = b := e
    obtain ⟨cur, hb⟩ := H.res.block hg
    exact ne_type hb H.pb (by decide) e
  · rcases fD with e | e
    · exact H.vq g (by rw [← e]; exact hg)
    · rw [hg] at e
      have e := Option.some.inj e
      omega
  · rcases fD with e | e
    · exact H.ven g (by rw [← e]; exact hg)
    · rw [hg] at e
      have e := Option.some.inj e
      omega
/-- a result stands behind all others -/
theorem Mid.growR (h : Mid w0 b sb sm q p ve0 vr0 ve vr c E R L x r w) (kA : Chg noBlk w w') (kD : Chg (fun k => vr.ownBlock = some k) w' wD) (oD : wD.ownsRow 0 38 4 v' (R.length + 1) (flatC RT.cells R ++ r.cells)) (fD : v'.ownBlock = vr.ownBlock ∨ v'.ownBlock = some w'.heap.size) :
    Mid w0 b sb sm q p ve0 vr0 ve v' (c.set 1 v') E (R ++ [r]) L x r (wD.setCell ⟨b, 1, none⟩ v') := by
  have H := h.no kA
  have l1 := H.lb
  have l2 := H.lsb
  have l3 := H.lsm
  have l4 := H.lq
  have l5 := H.lp
  have ls := H.xr.lt
  have c1 := H.chg.size
  have nb : ∀ g, vr.ownBlock = some g → g ≠ b := fun g hg => by
    obtain ⟨cur, hb⟩ := H.res.block hg
    exact ne_type hb H.pb (by decide)
  have nsb : ∀ g, vr.ownBlock = some g → g ≠ sb := fun g hg => by
    obtain ⟨cur, hb⟩ := H.res.block hg
    exact ne_type hb H.st.p (by decide)
  have nsm : ∀ g, vr.ownBlock = some g → g ≠ sm := fun g hg => by
    obtain ⟨cur, hb⟩ := H.res.block hg
    exact map_no_cells H.st.m hb
  have nvr : ∀ g, ve.ownBlock = some g → ¬ vr.ownBlock = some g := fun g hg hg2 => by
    obtain ⟨cur, hb⟩ := H.res.block hg2
    obtain ⟨cur2, hb2⟩ := H.ent.block hg
    exact ne_type hb hb2 (by decide) rfl
  have np : ¬ vr.ownBlock = some q := fun hg => by
    obtain ⟨cur, hb⟩ := H.res.block hg
    exact ne_type hb H.xe (by decide) rfl
  have kS := setCell_chg wD b 1 v'
  have oD' : OwnL wD 38 RT.cells 4 v' (R ++ [r]) := ownL_grew oD
  have nb' : ∀ g, v'.ownBlock = some g → g ≠ b := fun g hg => by
    rcases fD with e | e
    · exact nb g (by rw [← e]; exact hg)
    · rw [hg] at e
      have e := Option.some.inj e
      omega
  have st1 := H.st.kept kD (fun e => nsb _ e rfl) (fun e => nsm _ e rfl)
  have bsb : sb ≠ b := ne_type H.st.p H.pb (by decide)
  have bsm : b ≠ sm := map_no_cells H.st.m H.pb
  refine ⟨(H.chg.trans kD fun i hi e => ?_).trans kS fun i hi e => .inl e, ?_, (H.ent.kept kD nvr).kept kS (fun g hg e => ?_), oD'.kept kS (fun g hg e => nb' g hg e), st1.kept kS (fun e => bsb e) (fun e => bsm (Eq.symm e)), kS.at (kD.at H.xe np) (fun e => by have e : q = b := e; omega), kS.at (kD.at H.xr fun e => H.vp _ e rfl) (fun e => by have e : p = b := e; omega), l1, l2, l3, l4, l5, H.vq, fun g hg => ?_, H.ven, fun g hg => ?_⟩
  · rcases H.vrn i e with e | e
    · exact .inr (.inr (.inr e))
    · omega
  · rw [setCell_heap v' (kD.at H.pb fun e => nb _ e rfl)]
    simp
  · have e : g = b := e
    obtain ⟨cur, hb⟩ := H.ent.block hg
    exact ne_type hb H.pb (by decide) e
  · rcases fD with e | e
    · exact H.vp g (by rw [← e]; exact hg)
    · rw [hg] at e
      have e := Option.some.inj e
      omega
  · rcases fD with e | e
    · exact H.vrn g (by rw [← e]; exact hg)
    · rw [hg] at e
      have e := Option.some.inj e
      omega
end
/-- the entry at q, and what was there ahead of it as it was -/
structure HoldE (w1 : World) (b : Nat) (o : ET) (w : World) : Prop where
  chg : Chg (oneBlk b) w1 w
  lies : EntAt w b o
section
variable {w1 w w' : World} {b : Nat} {o : ET}
theorem HoldE.drew (h : HoldE w1 b o w) : HoldE w1 b o w.drew := ⟨h.chg.drew, h.lies⟩
theorem HoldE.drewN (h : HoldE w1 b o w) (n : Nat) : HoldE w1 b o (w.drewN n) := ⟨h.chg.drewN n, h.lies⟩
theorem HoldE.andNo (h : HoldE w1 b o w) (k : Chg noBlk w w') : HoldE w1 b o w' := ⟨h.chg.andNo k, h.lies.no k⟩
theorem HoldE.key (h : HoldE w1 b o w) : HoldE w1 b o (w.setCell ⟨b, 4, none⟩ (str o.op.key)) := ⟨h.chg.trans (setCell_chg w b 4 _) fun _ _ e => e, setCell_heap (str o.op.key) h.lies⟩
theorem HoldE.val (h : HoldE w1 b o w) : HoldE w1 b o (w.setCell ⟨b, 5, none⟩ (str o.op.val)) := ⟨h.chg.trans (setCell_chg w b 5 _) fun _ _ e => e, setCell_heap (str o.op.val) h.lies⟩
theorem holdE_keep (h : HoldE w1 b o w) : HoldE w1 b o w ∧ w.cell? ⟨b, 4, none⟩ = some (str o.op.key) ∧ w.cell? ⟨b, 5, none⟩ = some (str o.op.val) ∧ w.frozen? ⟨b, 4, none⟩ = false ∧ w.frozen? ⟨b, 5, none⟩ = false :=
  ⟨h, h.lies.c4, h.lies.c5, freeAt h.lies 4, freeAt h.lies 5⟩
end
theorem logC_set {ve0 vr0 ve vr : Value} {sb c : Nat} {E : List ET} {x : ET} (hc : c < 6) (hx : x.cl = (c : Int)) :
    ((((logC ve0 vr0 sb E).set 0 ve).set 1 vr).toArray.setIfInBounds (3 + c) (.int .i64 ((E.length : Int) + 1))) = (logC ve vr sb (E ++ [x])).toArray := by
  have e : (E ++ [x]).length = E.length + 1 := by simp
  unfold logC
  rw [e, lastN_all, lastN_all, lastN_all, lastN_all, lastN_all, lastN_all, hx]
  rcases c with _ | _ | _ | _ | _ | _ | c
  · simp
  · simp
  · simp
  · simp
  · simp
  · simp
  · omega
#print axioms Mid.grow
end Go.Proofs.Ytfffgegdcgfakaa
