/-
  Links: the document's Send.
-/
import Derived.Test.YtngldlfobdiipaaLinksBa
import Derived.Test.YtngldlfobdiipaaLinksK
import Derived.Test.YtngldlfobdiipaaKitS
import Derived.Test.YtngldlfobdiipaaKitR
import Derived.Deep.RegionLaw
import Derived.Deep.DrawnRows
import Derived.Deep.RegionHeld3
import Derived.Deep.DeepCutAuto
namespace Go.Proofs.Ytngldlfobdiipaa.Lk
open Go.ChangeShapes Go.WideShapes Go.ChangeAt Go.RowKit
set_option linter.unusedVariables false
attribute [local go_sem] bs_size bs_app bs_cut bs_tl bs_at
attribute [local go_sem ↓] Go.wp_at_zero Go.wp_at_succ
theorem infx_mail : (Try.prog.info? 33).map (fun i => (i.zero, i.size, i.bytes)) = some (some (.agg mZero.cells.toArray), 3, 32) := by kernel_rfl
/-- a mail read, a slice of one mail: met whole -/
def ldMl (x : Value) : Sem Value := Instr.loadAt 33 x
theorem ldMl_pre (x : Value) : Instr.loadAt 33 x = ldMl x := rfl
def bsMl (p : Array (Nat × Value)) : Sem Value := Instr.buildSlice 56 1 p
theorem bsMl_pre (p : Array (Nat × Value)) : Instr.buildSlice 56 1 p = bsMl p := rfl
theorem run_ldMl {w : World} {b : Nat} {x : ML} (h : MailAt w b x) : (ldMl (.pointer (some ⟨b, 0, none⟩))).run Try.prog w = .ok (.agg x.cells.toArray) w :=
  run_loadAt_mid w b 0 _ x.cells _ (fun j v hv => cellAt h (0 + j) v (by rw [Nat.zero_add]; simpa using hv)) Try.underlying33 rfl (by rw [info_mail]; rfl)
theorem run_bsMl (cs : Array Value) (h : cs.size = 3) (w : World) : (bsMl #[(0, .agg cs)]).run Try.prog w = .ok (.slice (some ⟨w.heap.size, 0, none⟩) 1 1) (w.alloc (.cells cs 33)) := by
  have hi := infx_mail
  cases hq : Try.prog.info? 33 with
  | none => simp [hq] at hi
  | some i =>
    simp only [hq, Option.map_some, Option.some.injEq, Prod.mk.injEq] at hi
    obtain ⟨h1, h2, _⟩ := hi
    exact run_buildSlice w _ _ 1 _ cs i (.agg mZero.cells.toArray) Try.underlying56 hq h1 (by rw [h2]; omega) (by rw [h2]; omega) (fill_one _ _ cs i.size (by simp) (by rw [h, h2]) (by simp [h2]))
attribute [local go_sem ↓] ldMl_pre bsMl_pre
/-- told: r; and the document's links have M now -/
def DoneR (S : Nat → Prop) (b cap : Nat) (r : Value) (M : List ML) (w : World) (e : Ending) (w' : World) : Prop := e = .returned r ∧ Chg S w w' ∧ ∃ v' S', Grew S w S' w' ∧ RefAt w' S' b v' cap M
section
variable {w w' : World} {S : Nat → Prop} {b cap : Nat} {v : Value} {L : List ML}
theorem RefAt.told (h : RefAt w S b v cap L) {r : Value} {e : Ending} {w' : World} (k : ToldN r w e w') : DoneR S b cap r L w e w' :=
  ⟨k.1, k.2.no _, v, S, fun i hi => ⟨.inl hi, k.2.lt (h.lt i hi)⟩, h.no k.2⟩
/-- a mail is written behind the others -/
theorem ref_fin {w7 wB wD : World} {v1 v2 : Value} {x : ML} (h : RefAt w7 S b v cap L) (kB : Chg noBlk w7 wB) (f1 : ∀ k, v1.ownBlock = some k → w7.heap.size ≤ k) (kD : Chg (fun k => v1.ownBlock = some k) wB wD) (oD : wD.ownsRow 0 33 3 v2 (L.length + 1) (flatC ML.cells L ++ x.cells)) (fD : v2.ownBlock = v1.ownBlock ∨ v2.ownBlock = some wB.heap.size) :
    wD.heap[b]? = some (.cells #[.int .i64 (cap : Int), v] 58 (0, 0)) ∧ Chg S w7 (wD.setCell ⟨b, 1, none⟩ v2) ∧ ∃ S', Grew S w7 S' (wD.setCell ⟨b, 1, none⟩ v2) ∧ RefAt (wD.setCell ⟨b, 1, none⟩ v2) S' b v2 cap (L ++ [x]) := by
  have z1 := kB.size
  have KD : Chg noBlk w7 wD := kB.trans kD fun i hi e => by have := f1 i e; omega
  have hb := KD.at h.blk id
  have new : ∀ g, v2.ownBlock = some g → w7.heap.size ≤ g := fun g hg => by
    rcases fD with e | e <;> rw [hg] at e
    · exact f1 g e.symm
    · have e := Option.some.inj e
      omega
  have kS := setCell_chg wD b 1 v2
  have lb := h.lt b h.inb
  have own := OwnL.kept (ownL_grew oD) kS fun g hg e => by have := new g hg; have e : g = b := e; omega
  have hb2 := setCell_heap (o := 1) v2 hb
  refine ⟨hb, (KD.no _).trans kS fun i _ e => by have e : i = b := e; rw [e]; exact h.inb, fun k => k = b ∨ v2.ownBlock = some k, fun k hk => ?_, hb2, own, .inl rfl, fun g hg => .inr hg, fun k hk => ?_⟩
  · rcases hk with rfl | hk
    · exact ⟨.inl h.inb, lt_of_block hb2⟩
    · exact ⟨.inr (new k hk), OwnL.lt own hk⟩
  · rcases hk with rfl | hk
    · exact lt_of_block hb2
    · exact OwnL.lt own hk
set_option maxRecDepth 100000 in
theorem rsend_arg (x : ML) (ha : argB x = true) (b : Nat) : Calls Try.prog 17 #[.pointer (some ⟨b, 0, none⟩), .agg x.cells.toArray] w (ToldN (.int .i64 2) w) := by
  have A1 := hide (raddress_any x.fr)
  have A2 := hide (raddress_any x.to)
  have hw : (isA x.fr = false) ∨ (isA x.fr = true ∧ isA x.to = false) ∨ (isA x.fr = true ∧ isA x.to = true ∧ (x.fr == x.to) = true) := by
    rcases argB_ways x with h | h | h | h
    · exact .inl h.2
    · exact .inr (.inl h.2)
    · exact .inr (.inr h.2)
    · rw [ha] at h
      cases h.1
  clear ha
  have tk : True := True.intro
  rcases hw with e1 | ⟨e1, e2⟩ | ⟨e1, e2, d3⟩
  case' inl => rw [e1] at A1
  case' inr.inl => rw [e1] at A1; rw [e2] at A2; clear e2
  case' inr.inr => rw [e1] at A1; rw [e2] at A2; clear e2
  all_goals
    clear e1
    go_enter Try.func17, Try.ntmps17
    go_wp2_with (first
      | (go_at_call 30; (with_reducible refine (unhide A1 _).mono ?_); rintro e w3 ⟨rfl, rfl⟩)
      | (go_at_call 30; (with_reducible refine (unhide A2 _).mono ?_); rintro e w3 ⟨rfl, rfl⟩)
      | ((with_reducible show wpList _ _ _ (_ :: _) _ _); clear tk; refine wpL_box rfl 33 (.tmp 1) rfl x.cells.toArray rfl ?_; intro q w1 e1 k1 g1 z1; have G1 : MailAt w1 q x := g1; have c0 := G1.c0; have c1 := G1.c1; clear g1 z1 e1))
    go_ret
    exact ⟨rfl, k1⟩
set_option maxRecDepth 100000 in
theorem rsend_long {x : ML} (ha : argB x = false) (hl : 512 < x.txt.length) (b : Nat) : Calls Try.prog 17 #[.pointer (some ⟨b, 0, none⟩), .agg x.cells.toArray] w (ToldN (.int .i64 3) w) := by
  have A1 := hide (raddress_any x.fr)
  have A2 := hide (raddress_any x.to)
  have hw : (isA x.fr = true ∧ isA x.to = true ∧ (x.fr == x.to) = false) := by
    rcases argB_ways x with h | h | h | h
    · rw [ha] at h; cases h.1
    · rw [ha] at h; cases h.1
    · rw [ha] at h; cases h.1
    · exact h.2
  obtain ⟨e1, e2, d3⟩ := hw
  rw [e1] at A1
  rw [e2] at A2
  have d4 : (512 : Int) < (x.txt.length : Int) := by omega
  clear ha e1 e2 hl
  have tk : True := True.intro
  go_enter Try.func17, Try.ntmps17
  go_wp2_with (first
    | (go_at_call 30; (with_reducible refine (unhide A1 _).mono ?_); rintro e w3 ⟨rfl, rfl⟩)
    | (go_at_call 30; (with_reducible refine (unhide A2 _).mono ?_); rintro e w3 ⟨rfl, rfl⟩)
    | ((with_reducible show wpList _ _ _ (_ :: _) _ _); clear tk; refine wpL_box rfl 33 (.tmp 1) rfl x.cells.toArray rfl ?_; intro q w1 e1 k1 g1 z1; have G1 : MailAt w1 q x := g1; have c0 := G1.c0; have c1 := G1.c1; have c2 := G1.c2; clear g1 z1 e1))
  go_ret
  exact ⟨rfl, k1⟩
theorem rsend_keep {w1 w' : World} {q : Nat} {x : ML} (h : RefAt w1 S b v cap L) (gq : MailAt w1 q x) (k : Chg noBlk w1 w') :
    Chg noBlk w1 w' ∧ w'.cell? ⟨b, 0, none⟩ = some (.int .i64 (cap : Int)) ∧ w'.cell? ⟨q, 0, none⟩ = some (.int .i64 x.fr) ∧ w'.cell? ⟨q, 1, none⟩ = some (.int .i64 x.to) := by
  have g' : MailAt w' q x := k.at gq id
  exact ⟨k, (h.no k).c0, g'.c0, g'.c1⟩
set_option maxRecDepth 100000 in
set_option maxHeartbeats 4000000 in
theorem rsend_full (h : RefAt w S b v cap L) (hf : L.length ≤ 999) (hcap : cap ≤ 64) {x : ML} (ha : argB x = false) (hl : ¬ 512 < x.txt.length) (hc : cap ≤ (sel L x.fr x.to).length) : Calls Try.prog 17 #[.pointer (some ⟨b, 0, none⟩), .agg x.cells.toArray] w (ToldN (.int .i64 60) w) := by
  have A1 := hide (raddress_any x.fr)
  have A2 := hide (raddress_any x.to)
  have hw : (isA x.fr = true ∧ isA x.to = true ∧ (x.fr == x.to) = false) := by
    rcases argB_ways x with h | h | h | h
    · rw [ha] at h; cases h.1
    · rw [ha] at h; cases h.1
    · rw [ha] at h; cases h.1
    · exact h.2
  obtain ⟨e1, e2, d3⟩ := hw
  rw [e1] at A1
  rw [e2] at A2
  have HL := hide (fun w' (k : Chg noBlk w w') => rlist_any (h.no k) (by omega) x.fr x.to)
  obtain ⟨T, hT⟩ : ∃ T, sel L x.fr x.to = T := ⟨_, rfl⟩
  rw [hT] at HL hc
  have d4 : ¬ (512 : Int) < (x.txt.length : Int) := by omega
  have d5 : (cap : Int) ≤ (T.length : Int) := by omega
  have HS := hide h
  clear h ha e1 e2 hl hc hT
  have tk : True := True.intro
  go_enter Try.func17, Try.ntmps17
  go_wp2_with (first
    | (go_at_call 30; (with_reducible refine (unhide A1 _).mono ?_); rintro e w3 ⟨rfl, rfl⟩)
    | (go_at_call 30; (with_reducible refine (unhide A2 _).mono ?_); rintro e w3 ⟨rfl, rfl⟩)
    | ((with_reducible show wpList _ _ _ (_ :: _) _ _); clear tk; refine wpL_box rfl 33 (.tmp 1) rfl x.cells.toArray rfl ?_; intro q w1 e1 k1 g1 z1; have G1 : MailAt w1 q x := g1; have c0 := G1.c0; have c1 := G1.c1; have c2 := G1.c2; have K1 := hide k1; clear g1 z1 e1 k1))
  have HG := hide G1
  have KE := hide (fun w' k => rsend_keep (w' := w') ((unhide HS).no (unhide K1)) (unhide HG) k)
  have HL1 := hide (unhide HL _ (unhide K1).drew)
  have B0 := Chg.refl noBlk w1
  clear c0 c1 c2 G1
  go_region_held3 (fun w' => Chg noBlk w1 w' ∧ w'.cell? ⟨b, 0, none⟩ = some (.int .i64 (cap : Int)) ∧ w'.cell? ⟨q, 0, none⟩ = some (.int .i64 x.fr) ∧ w'.cell? ⟨q, 1, none⟩ = some (.int .i64 x.to))
    ((refine unhide KE _ ?_; go_split_ands; first | assumption | exact Chg.drew (by assumption) | exact Chg.drewN (by assumption) _ | exact Chg.andNo (by assumption) (by assumption) | exact Chg.alloc (by assumption) _))
    (first
      | (go_at_call 25; (with_reducible refine (unhide HL1).mono ?_); rintro e wC ⟨v2, rfl, k2, o2, f2⟩; obtain ⟨ad2, cp2, e2⟩ := own_form o2; subst e2; have kC : Chg noBlk w1 wC := (B0.drew).andNo k2; clear o2 f2))
  all_goals
    go_wp2_with fail
    go_ret
    exact ⟨rfl, (unhide K1).andNo kC⟩
set_option maxRecDepth 100000 in
set_option maxHeartbeats 4000000 in
theorem rsend_ok (h : RefAt w S b v cap L) (hf : L.length ≤ 999) (hcap : cap ≤ 64) {x : ML} (ha : argB x = false) (hl : ¬ 512 < x.txt.length) (hc : ¬ cap ≤ (sel L x.fr x.to).length) : Calls Try.prog 17 #[.pointer (some ⟨b, 0, none⟩), .agg x.cells.toArray] w (DoneR S b cap (.int .i64 0) (L ++ [x]) w) := by
  have A1 := hide (raddress_any x.fr)
  have A2 := hide (raddress_any x.to)
  have hw : (isA x.fr = true ∧ isA x.to = true ∧ (x.fr == x.to) = false) := by
    rcases argB_ways x with h | h | h | h
    · rw [ha] at h; cases h.1
    · rw [ha] at h; cases h.1
    · rw [ha] at h; cases h.1
    · exact h.2
  obtain ⟨e1, e2, d3⟩ := hw
  rw [e1] at A1
  rw [e2] at A2
  have HL := hide (fun w' (k : Chg noBlk w w') => rlist_any (h.no k) (by omega) x.fr x.to)
  obtain ⟨T, hT⟩ : ∃ T, sel L x.fr x.to = T := ⟨_, rfl⟩
  rw [hT] at HL hc
  have d4 : ¬ (512 : Int) < (x.txt.length : Int) := by omega
  have d5 : ¬ (cap : Int) ≤ (T.length : Int) := by omega
  obtain ⟨ad, cp, rfl⟩ := h.form
  have HS := hide h
  clear h ha e1 e2 hl hc hT
  have tk : True := True.intro
  go_enter Try.func17, Try.ntmps17
  go_wp2_with (first
    | (go_at_call 30; (with_reducible refine (unhide A1 _).mono ?_); rintro e w3 ⟨rfl, rfl⟩)
    | (go_at_call 30; (with_reducible refine (unhide A2 _).mono ?_); rintro e w3 ⟨rfl, rfl⟩)
    | ((with_reducible show wpList _ _ _ (_ :: _) _ _); clear tk; refine wpL_box rfl 33 (.tmp 1) rfl x.cells.toArray rfl ?_; intro q w1 e1 k1 g1 z1; have G1 : MailAt w1 q x := g1; have c0 := G1.c0; have c1 := G1.c1; have c2 := G1.c2; have K1 := hide k1; clear g1 z1 e1 k1))
  have HG := hide G1
  have KE := hide (fun w' k => rsend_keep (w' := w') ((unhide HS).no (unhide K1)) (unhide HG) k)
  have HL1 := hide (unhide HL _ (unhide K1).drew)
  have B0 := Chg.refl noBlk w1
  clear c0 c1 c2 G1
  go_region_held3 (fun w' => Chg noBlk w1 w' ∧ w'.cell? ⟨b, 0, none⟩ = some (.int .i64 (cap : Int)) ∧ w'.cell? ⟨q, 0, none⟩ = some (.int .i64 x.fr) ∧ w'.cell? ⟨q, 1, none⟩ = some (.int .i64 x.to))
    ((refine unhide KE _ ?_; go_split_ands; first | assumption | exact Chg.drew (by assumption) | exact Chg.drewN (by assumption) _ | exact Chg.andNo (by assumption) (by assumption) | exact Chg.alloc (by assumption) _))
    (first
      | (go_at_call 25; (with_reducible refine (unhide HL1).mono ?_); rintro e w4 ⟨v2, rfl, k2, o2, f2⟩; obtain ⟨ad2, cp2, e2⟩ := own_form o2; subst e2; have kC : Chg noBlk w1 w4 := (B0.drew).andNo k2; clear o2 f2))
  have K4 := hide ((unhide K1).andNo kC)
  have H4 := hide ((unhide HS).no (unhide K4))
  have G4 := hide (show MailAt w4 q x from kC.at (unhide HG) id)
  rename_i hJ
  clear hJ kC k2 B0 HL1 KE HG
  go_wp2_with fail
  have c0 : w4.drew.cell? ⟨b, 1, none⟩ = some (.slice ad L.length cp) := (unhide H4).c1
  have c0b : (w4.alloc (.cells x.cells.toArray 33)).cell? ⟨b, 1, none⟩ = some (.slice ad L.length cp) := ((unhide H4).no ((Chg.refl noBlk w4).alloc _)).c1
  have la : (ldMl (.pointer (some ⟨q, 0, none⟩))).run Try.prog w4.drew = .ok (.agg x.cells.toArray) w4.drew := run_ldMl (show MailAt w4.drew q x from unhide G4)
  have bs := run_bsMl x.cells.toArray rfl
  have LA := hide (fun wC (kC : Chg noBlk w4.drew wC) => (show (ldMl (.pointer (some ⟨q, 0, none⟩))).run Try.prog wC = .ok (.agg x.cells.toArray) wC from run_ldMl (show MailAt wC q x from kC.at (show MailAt w4.drew q x from unhide G4) id)))
  have HRD := hide (fun w' (k : Chg noBlk w4 w') => OwnL.reads ((unhide H4).no k).row ML.one)
  have R1 := hide (unhide HRD w4.drew (Chg.refl noBlk w4).drew)
  have R2 := hide (unhide HRD (w4.drew.alloc (.cells x.cells.toArray 33)) ((Chg.refl noBlk w4).drew.alloc _))
  have B1 := hide (fun wC (kC : Chg noBlk w4.drew wC) => (show Chg noBlk w4 (wC.alloc (.cells x.cells.toArray 33)) from (((Chg.refl noBlk w4).drew).andNo kC).alloc _))
  have B2 := hide (fun wC (kC : Chg noBlk (w4.drew.alloc (.cells x.cells.toArray 33)) wC) => (show Chg noBlk w4 wC from (((Chg.refl noBlk w4).drew).alloc _).andNo kC))
  have F1 := hide (fun (v1 : Value) (fC : ∀ k, v1.ownBlock = some k → k = w4.drew.heap.size) => (show ∀ k, v1.ownBlock = some k → w4.heap.size ≤ k from fun k hk => Nat.le_of_eq (fC k hk).symm))
  have F2 := hide (fun (v1 : Value) (fC : ∀ k, v1.ownBlock = some k → k = (w4.drew.alloc (.cells x.cells.toArray 33)).heap.size) => (show ∀ k, v1.ownBlock = some k → w4.heap.size ≤ k from fun k hk => by rw [fC k hk]; show w4.heap.size ≤ (w4.heap.push _).size; simp))
  have m1 : L.length ≤ maxLen := by unfold maxLen; omega
  have m2 : L.length + 1 ≤ maxLen := by unfold maxLen; omega
  have m3 : L.length * 32 ≤ 140737488355328 := by omega
  have m4 : (L.length + 1) * 32 ≤ 140737488355328 := by omega
  go_region_law (first
    | (refine step_clone rfl (.tmp 42) 56 (by rfl) 33 (.agg mZero.cells.toArray) 3 32 Try.underlying56 infx_mail rfl (by decide) (.slice ad L.length cp) L.length (flatC ML.cells L) (by rfl) (unhide R1) m1 m3 ?_; intro v1 wC kC oC fC vC; have laC := unhide LA wC kC)
    | (refine step_clone rfl (.tmp 42) 56 (by rfl) 33 (.agg mZero.cells.toArray) 3 32 Try.underlying56 infx_mail rfl (by decide) (.slice ad L.length cp) L.length (flatC ML.cells L) (by rfl) (unhide R2) m1 m3 ?_; intro v1 wC kC oC fC vC)
    | (refine step_append rfl (.tmp 43) (.tmp 45) 56 (by rfl) 33 (.agg mZero.cells.toArray) 3 32 Try.underlying56 infx_mail rfl (by decide) v1 L.length (flatC ML.cells L) (by rfl) (oC.alloc _) (.slice (some ⟨wC.heap.size, 0, none⟩) 1 1) 1 x.cells (by rfl) (reads_new1 (Chg.refl _ _) (ML.len x) (ML.one x)) m2 m4 ?_; intro v2 wD kD oD fD; have PQ := ref_fin (unhide H4) (unhide B1 _ kC) (unhide F1 _ fC) kD oD fD; obtain ⟨g9, cap9, rfl, _, _⟩ := World.ownsRow.form oD (by omega); have cb := cellAt PQ.1 1 _ rfl; have fb := freeAt PQ.1 1; have HPQ := hide PQ; clear kD oD fD PQ)
    | (refine step_append rfl (.tmp 43) (.tmp 45) 56 (by rfl) 33 (.agg mZero.cells.toArray) 3 32 Try.underlying56 infx_mail rfl (by decide) v1 L.length (flatC ML.cells L) (by rfl) oC (.slice (some ⟨w4.heap.size, 0, none⟩) 1 1) 1 x.cells (by rfl) (reads_new1 (W := w4.drew) kC (ML.len x) (ML.one x)) m2 m4 ?_; intro v2 wD kD oD fD; have PQ := ref_fin (unhide H4) (unhide B2 _ kC) (unhide F2 _ fC) kD oD fD; obtain ⟨g9, cap9, rfl, _, _⟩ := World.ownsRow.form oD (by omega); have cb := cellAt PQ.1 1 _ rfl; have fb := freeAt PQ.1 1; have HPQ := hide PQ; clear kD oD fD PQ))
  all_goals
    clear c0 c0b la bs
    go_wp2_with fail
    go_ret
    obtain ⟨_, q1, S', q2, q3⟩ := unhide HPQ
    exact ⟨rfl, ((unhide K4).no _).trans q1 fun _ _ e => e, _, S', fun k hk => ⟨((q2 k hk).1).imp id fun e => Nat.le_trans (unhide K4).size e, (q2 k hk).2⟩, q3⟩
theorem rsend_any (h : RefAt w S b v cap L) (hf : L.length ≤ 999) (hcap : cap ≤ 64) (x : ML) :
    Calls Try.prog 17 #[.pointer (some ⟨b, 0, none⟩), .agg x.cells.toArray] w (DoneR S b cap (.int .i64 (snd cap L x)) (sndL cap L x) w) := by
  cases ha : argB x
  · by_cases hl : 512 < x.txt.length
    · have e := snd_long (cap := cap) (L := L) (argB_eq x ▸ ha) hl
      rw [sndL_no (by rw [e]; omega), e]
      exact (rsend_long ha hl b).mono fun e w' k => h.told k
    by_cases hc : cap ≤ (sel L x.fr x.to).length
    · have e := snd_full (cap := cap) (L := L) (argB_eq x ▸ ha) hl hc
      rw [sndL_no (by rw [e]; omega), e]
      exact (rsend_full h hf hcap ha hl hc).mono fun e w' k => h.told k
    · have e := snd_ok (cap := cap) (L := L) (argB_eq x ▸ ha) hl hc
      rw [sndL_ok e, e]
      exact rsend_ok h hf hcap ha hl hc
  · have e := snd_arg (cap := cap) (L := L) (argB_eq x ▸ ha)
    rw [sndL_no (by rw [e]; omega), e]
    exact (rsend_arg x ha b).mono fun e w' k => h.told k
end
end Go.Proofs.Ytngldlfobdiipaa.Lk
