/-
  Links: Send that takes it.
-/
import Derived.Test.YtngldlfobdiipaaLinksI
namespace Go.Proofs.Ytngldlfobdiipaa.Lk
open Go.ChangeShapes Go.WideShapes Go.ChangeAt Go.RowKit
set_option linter.unusedVariables false
attribute [local go_sem] bs_size bs_app bs_cut bs_tl bs_at
attribute [local go_sem ↓] Go.wp_at_zero Go.wp_at_succ
section
variable {w w' : World} {b m cap : Nat} {L : List ML} {F : Hd} {S : Nat → Prop}
theorem send_keep {w5 w' : World} {b m q p cap : Nat} {L : List ML} {F : Hd} {x : ML} (h : LkAt w5 b m cap L F) (gq : MailAt w5 q x) (gp : w5.heap[p]? = some (.cells #[.int .i64 x.fr, .int .i64 x.to] 61 (0, 0))) (nq : ¬ lkBlk m (F x.fr x.to) q) (np : ¬ lkBlk m (F x.fr x.to) p) (k : Chg (lkBlk m (F x.fr x.to)) w5 w') :
    Chg (lkBlk m (F x.fr x.to)) w5 w' ∧ w'.cell? ⟨b, 1, none⟩ = some (.map (some m)) ∧ w'.cell? ⟨p, 0, none⟩ = some (.int .i64 x.fr) ∧ w'.cell? ⟨p, 1, none⟩ = some (.int .i64 x.to) ∧ w'.cell? ⟨q, 2, none⟩ = some (str x.txt) := by
  have nb : ¬ lkBlk m (F x.fr x.to) b := fun e => by
    rcases e with e | e
    · exact h.ne e
    · exact h.neF e rfl
  have gp' := k.at gp np
  exact ⟨k, k.cell h.c1 nb, cellAt gp' 0 _ rfl, cellAt gp' 1 _ rfl, (show MailAt w' q x from k.at gq nq).c2⟩
theorem own_form1 {w : World} {v : Value} {T : List (List UInt8)} {t : List UInt8} (h : w.ownsRow 0 9 1 v (T.length + 1) (flatC txC T ++ [str t])) : OwnT w v (T ++ [t]) ∧ ∃ ad cap, v = .slice ad (T.length + 1) cap := by
  have h' : OwnT w v (T ++ [t]) := ownL_grew h
  obtain ⟨ad, cap, e⟩ := own_form h'
  exact ⟨h', ad, cap, by rw [e]; simp⟩
set_option maxRecDepth 100000 in
set_option maxHeartbeats 2000000 in
theorem send_ok (h : LkAt w b m cap L F) {x : ML} (ha : argB x = false) (hl : ¬ 512 < x.txt.length) (hc : ¬ cap ≤ (sel L x.fr x.to).length) (hf : L.length ≤ 999) :
    Calls Try.prog 16 #[.pointer (some ⟨b, 0, none⟩), .agg x.cells.toArray] w (DidK (.returned (.int .i64 0)) b m cap F (F x.fr x.to) (L ++ [x]) w) := by
  have hin := hide (fun w' (c : Chg noBlk w w') => isnone_at (h.no c))
  have A1 := hide (address_any x.fr)
  have A2 := hide (address_any x.to)
  have hw : (isA x.fr = true ∧ isA x.to = true ∧ (x.fr == x.to) = false) := by
    rcases argB_ways x with h | h | h | h
    · rw [ha] at h; cases h.1
    · rw [ha] at h; cases h.1
    · rw [ha] at h; cases h.1
    · exact h.2
  obtain ⟨e1, e2, d3⟩ := hw
  have HE := hide (fun (w5 : World) (k5 : Chg noBlk w w5) (W : World) (k : Chg noBlk w5 W) => ent_at (x := x) (h.no k5) k e1 e2 hf)
  rw [e1] at A1
  rw [e2] at A2
  have HLK := hide (fun w' (c : Chg noBlk w w') => (h.no c).m.look (wfI_A e1) (wfI_A e2))
  obtain ⟨ad, ac, e⟩ := own_form (h.m.rows.row x.fr x.to)
  have HV := hide e
  rw [e] at HLK
  unfold pr at HLK
  have HK := hide (clone_n x.txt (by omega))
  have hsl := sel_len L x.fr x.to
  have HT0 := hide (show (sel L x.fr x.to).length ≤ 999 by omega)
  have HC := hide hc
  have HA := hide ha
  have HL := hide hl
  obtain ⟨T, hT⟩ : ∃ T, sel L x.fr x.to = T := ⟨_, rfl⟩
  rw [hT] at HLK hc HV HT0
  have HTT := hide hT
  have d4 : ¬ (512 : Int) < (x.txt.length : Int) := by omega
  have d5 : ¬ (cap : Int) ≤ (T.length : Int) := by omega
  have HS := hide h
  have HB := hide (h.past x.fr x.to)
  have m2 : T.length + 1 ≤ maxLen := by have := unhide HT0; unfold maxLen; omega
  have m4 : (T.length + 1) * 16 ≤ 140737488355328 := by have := unhide HT0; omega
  have M2 := hide m2
  have M4 := hide m4
  clear h ha e1 e2 hl hc hT e hsl hf m2 m4
  have tk : True := True.intro
  go_enter Try.func16, Try.ntmps16
  go_wp2_with (first
    | (go_at_call 26; (with_reducible refine (unhide hin _ k1).mono ?_); rintro e w2 ⟨rfl, rfl⟩)
    | (go_at_call 28; (with_reducible refine (unhide A1 _).mono ?_); rintro e w3 ⟨rfl, rfl⟩)
    | (go_at_call 28; (with_reducible refine (unhide A2 _).mono ?_); rintro e w3 ⟨rfl, rfl⟩)
    | ((with_reducible show wpList _ _ _ (_ :: _) _ _); first
      | (clear tk; refine wpL_box rfl 33 (.tmp 1) rfl x.cells.toArray rfl ?_; intro q w1 e1 k1 g1 z1; have eq0 : w.heap.size ≤ q := Nat.le_of_eq e1; have G1 : MailAt w1 q x := g1; have c0 := G1.c0; have c1 := G1.c1; have c2 := G1.c2; clear g1 z1 e1)
      | (refine wpL_alloc rfl 61 rfl _ zero_pair ?_; intro p w3 e3 k3 g3 z3; have e4 : w1.heap.size ≤ p := Nat.le_of_eq e3; clear e3 z3)
      | (refine wpL_store rfl 61 (.tmp 5) (.tmp 33) rfl p #[.int .i64 x.fr, .int .i64 x.to] rfl rfl _ _ g3 info_pair rfl (pair_one _ _) ?_; intro w4 k4 g4 z4; have K13 := hide (k3.past k4 e4); have K4 := hide (k1.andNo (k3.past k4 e4)))))
  have b0 := ((unhide HS).no (unhide K4)).c0
  have b1 := ((unhide HS).no (unhide K4)).c1
  have p0 : w4.cell? ⟨p, 0, none⟩ = some (.int .i64 x.fr) := cellAt g4 0 _ rfl
  have p1 : w4.cell? ⟨p, 1, none⟩ = some (.int .i64 x.to) := cellAt g4 1 _ rfl
  have LK := fun n => unhide HLK _ ((unhide K4).drewN n)
  have Q4 : MailAt w4 q x := (unhide K13).at G1 id
  have ep0 : w.heap.size ≤ p := Nat.le_trans k1.size e4
  clear k1 k3 k4 G1 c0 c1 c2 g3 z4
  go_quiet (fail)
  go_wp2_with fail
  have K5 := hide ((unhide K4).drewN nq)
  have G5 : (w4.drewN nq).heap[p]? = some (.cells #[.int .i64 x.fr, .int .i64 x.to] 61 (0, 0)) := g4
  have Q5 : MailAt (w4.drewN nq) q x := Q4
  clear b0 b1 p0 p1 LK g4 Q4 K4 K13
  generalize w4.drewN nq = w5 at K5 G5 Q5 ⊢
  have S5 := hide ((unhide HS).no (unhide K5))
  have KE := hide (fun w' k => send_keep (w' := w') (unhide S5) Q5 G5 (unhide HB q eq0) (unhide HB p ep0) k)
  have HE5 := hide (fun W k => unhide HE w5 (unhide K5) W k)
  obtain ⟨st0, wE0, hE0, kE0, kM0, en0⟩ := unhide HE5 _ ((Chg.refl noBlk w5).drew)
  have HVE := unhide HV
  rw [HVE] at hE0
  have EN0 := hide en0
  have KM0 := hide kM0
  clear en0 kM0 HE hin A1 A2 HLK
  have B0 := Chg.refl (lkBlk m (F x.fr x.to)) w5
  have HST := hide (fun (wE W W' : World) (st : Nat) (en : Ent w5 wE b m cap L F x st) (k : Chg noBlk wE W) (v' : Value) (k' : Chg (fun i => (Value.slice ad T.length ac).ownBlock = some i) W W') (o : W'.ownsRow 0 9 1 v' (T.length + 1) (flatC txC T ++ [str x.txt])) (hb : v'.ownBlock = (Value.slice ad T.length ac).ownBlock ∨ v'.ownBlock = some W.heap.size) =>
    (show ∃ ad9 cap9 w9, v' = .slice ad9 (T.length + 1) cap9 ∧ (Instr.entryStore 49 (.map (some m)) (.int .i64 (st : Int)) (.slice ad9 (T.length + 1) cap9)).run Try.prog W' = .ok () w9 ∧ Chg (lkBlk m (F x.fr x.to)) w5 W' ∧ Chg (lkBlk m (F x.fr x.to)) w5 w9 ∧ DidK (.returned (.int .i64 0)) b m cap F (F x.fr x.to) (L ++ [x]) w5 (.returned (.int .i64 0)) w9 by
      obtain ⟨o', ad9, cap9, e9⟩ := own_form1 o
      subst e9
      rw [← HVE] at k' hb
      obtain ⟨w9, h1, h2, h3⟩ := en.store k k' (by rw [unhide HTT]; exact o') hb (unhide HA) (unhide HL) (unhide HC)
      exact ⟨ad9, cap9, w9, rfl, h1, (((en.chg.andNo k).mono fun _ _ e => .inl e).trans k' fun i _ e => .inr e), h2, h3⟩))
  have HO := hide (fun (wE W : World) (st : Nat) (en : Ent w5 wE b m cap L F x st) (k : Chg noBlk wE W) => (show W.ownsRow 0 9 1 (.slice ad T.length ac) T.length (flatC txC T) by
    have := en.own k
    rw [HVE, unhide HTT] at this
    exact this))
  clear HVE HC HA HL d5 d4 d3
  go_region_held3 (fun w' => Chg (lkBlk m (F x.fr x.to)) w5 w' ∧ w'.cell? ⟨b, 1, none⟩ = some (.map (some m)) ∧ w'.cell? ⟨p, 0, none⟩ = some (.int .i64 x.fr) ∧ w'.cell? ⟨p, 1, none⟩ = some (.int .i64 x.to) ∧ w'.cell? ⟨q, 2, none⟩ = some (str x.txt))
    ((refine unhide KE _ ?_; go_split_ands; first | assumption | exact Chg.drew (by assumption) | exact Chg.drewN (by assumption) _ | exact Chg.andNo (by assumption) (by assumption) | exact Chg.alloc (by assumption) _))
    (first
      | (go_at_call 29; (with_reducible refine (unhide HK _).mono ?_); rintro e wC ⟨rfl, kC⟩; first
          | (have kc0 : Chg noBlk w5.drew wC := kC
             have KC := hide (((Chg.refl noBlk w5).drew).andNo kc0)
             obtain ⟨st1, wE1, hE1, kE1, kM1, en1⟩ := unhide HE5 _ (unhide KC)
             rw [unhide HV] at hE1
             have EN1 := hide en1
             have KM1 := hide kM1
             obtain ⟨st2, wE2, hE2, kE2, kM2, en2⟩ := unhide HE5 _ ((unhide KC).alloc (.cells #[str x.txt] 9))
             rw [unhide HV] at hE2
             have EN2 := hide en2
             have KM2 := hide kM2
             have GE2 := hide (show wE2.heap[wC.heap.size]? = some (.cells (txC x.txt).toArray 9 (0, 0)) from kM2.at (heap_alloc_new wC _) (fun e => by have e : wC.heap.size = m := e; have := (unhide S5).m.lt; have := (unhide KC).size; omega))
             clear en1 kM1 en2 kM2 kc0)
          | (have kc1 : Chg noBlk wE0 wC := kC
             have KC0 := hide kc1
             clear kc1))
      | (refine step_append rfl (.tmp 51) (.tmp 55) 46 (by rfl) 9 (str []) 1 16 Try.underlying46 infx_str rfl (by decide) (.slice ad T.length ac) T.length (flatC txC T) (by rfl) (unhide HO _ _ _ (unhide EN0) ((unhide KC0).alloc _)) (.slice (some ⟨wC.heap.size, 0, none⟩) 1 1) 1 [str x.txt] (by rfl) (reads_new1 (W := wC) (t := 9) (Chg.refl _ _) rfl (txC_one _)) (unhide M2) (unhide M4) ?_
         intro v' wD kD oD fD
         obtain ⟨ad9, cap9, w9, rfl, hst, kW, k9, did⟩ := unhide HST _ _ _ _ (unhide EN0) ((unhide KC0).alloc _) _ kD oD fD
         have DID := hide did
         clear did kD oD fD)
      | (refine step_append rfl (.tmp 51) (.tmp 55) 46 (by rfl) 9 (str []) 1 16 Try.underlying46 infx_str rfl (by decide) (.slice ad T.length ac) T.length (flatC txC T) (by rfl) (unhide HO _ _ _ (unhide EN1) ((Chg.refl noBlk wE1).alloc _)) (.slice (some ⟨wE1.heap.size, 0, none⟩) 1 1) 1 [str x.txt] (by rfl) (reads_new1 (W := wE1) (t := 9) (Chg.refl _ _) rfl (txC_one _)) (unhide M2) (unhide M4) ?_
         intro v' wD kD oD fD
         obtain ⟨ad9, cap9, w9, rfl, hst, kW, k9, did⟩ := unhide HST _ _ _ _ (unhide EN1) ((Chg.refl noBlk wE1).alloc _) _ kD oD fD
         have DID := hide did
         clear did kD oD fD)
      | (refine step_append rfl (.tmp 51) (.tmp 55) 46 (by rfl) 9 (str []) 1 16 Try.underlying46 infx_str rfl (by decide) (.slice ad T.length ac) T.length (flatC txC T) (by rfl) (unhide HO _ _ _ (unhide EN2) (Chg.refl noBlk wE2)) (.slice (some ⟨wC.heap.size, 0, none⟩) 1 1) 1 [str x.txt] (by rfl) (reads_at1 (t := 9) (unhide GE2) rfl (txC_one _)) (unhide M2) (unhide M4) ?_
         intro v' wD kD oD fD
         obtain ⟨ad9, cap9, w9, rfl, hst, kW, k9, did⟩ := unhide HST _ _ _ _ (unhide EN2) (Chg.refl noBlk wE2) _ kD oD fD
         have DID := hide did
         clear did kD oD fD)
      )
  all_goals
    go_wp2_with fail
    go_ret
    exact (unhide DID).pre (unhide K5)
theorem argB_eq (x : ML) : argB x = (!isA x.fr || !isA x.to || x.fr == x.to) := rfl
theorem send_any (h : LkAt w b m cap L F) (x : ML) (hf : L.length ≤ 999) :
    Calls Try.prog 16 #[.pointer (some ⟨b, 0, none⟩), .agg x.cells.toArray] w (DidK (.returned (.int .i64 (snd cap L x))) b m cap F (F x.fr x.to) (sndL cap L x) w) := by
  cases ha : argB x
  · by_cases hl : 512 < x.txt.length
    · have e := snd_long (cap := cap) (L := L) (argB_eq x ▸ ha) hl
      rw [sndL_no (by rw [e]; omega), e]
      exact (send_long h ha hl).mono fun e w' k => DidK.told h k
    by_cases hc : cap ≤ (sel L x.fr x.to).length
    · have e := snd_full (cap := cap) (L := L) (argB_eq x ▸ ha) hl hc
      rw [sndL_no (by rw [e]; omega), e]
      exact (send_full h ha hl hc).mono fun e w' k => DidK.told h k
    · have e := snd_ok (cap := cap) (L := L) (argB_eq x ▸ ha) hl hc
      rw [sndL_ok e, e]
      exact send_ok h ha hl hc hf
  · have e := snd_arg (cap := cap) (L := L) (argB_eq x ▸ ha)
    rw [sndL_no (by rw [e]; omega), e]
    exact (send_arg h ha).mono fun e w' k => DidK.told h k
set_option maxRecDepth 100000 in
theorem double_no (h : LkAt w b m cap L F) {x y : Int} (hx : wfI x) (hy : wfI y) {i : Int} (hi : hasN (sel L x y) i = false) :
    Calls Try.prog 13 #[.pointer (some ⟨b, 0, none⟩), .int .i64 x, .int .i64 y, .int .i64 i] w (ToldN (.int .i64 4) w) := by
  have HF := hide (find_no h hx hy hi)
  clear h hx hy hi
  go_enter Try.func13, Try.ntmps13
  go_wp2_with (first
    | (go_at_call 23; (with_reducible refine (unhide HF).mono ?_); rintro e w1 ⟨rfl, k1⟩)
    | ((with_reducible show wpList _ _ _ (_ :: _) _ _); first
      | (refine wpL_alloc rfl 33 rfl _ zero_mail ?_; intro q w2 e2 k2 g2 z2; have eq2 : w1.heap.size ≤ q := Nat.le_of_eq e2; clear e2 z2)
      | (refine wpL_store rfl 33 (.tmp 9) (.tmp 17) rfl q mZero.cells.toArray rfl rfl _ _ g2 info_mail rfl (all_oneCell_toArray (ML.one _)) ?_; intro w3 k3 g3 z3; have K3 := k2.past k3 eq2)))
  go_ret
  exact ⟨rfl, k1.andNo K3⟩
set_option maxRecDepth 100000 in
theorem double_yes (h : LkAt w b m cap L F) (hf : L.length ≤ 999) {x y : Int} (hx : wfI x) (hy : wfI y) {k : Nat} {t : List UInt8} (hi : (sel L x y)[k]? = some t) :
    Calls Try.prog 13 #[.pointer (some ⟨b, 0, none⟩), .int .i64 x, .int .i64 y, .int .i64 (k : Int)] w (DidK (.returned (.int .i64 (snd cap L ⟨x, y, t⟩))) b m cap F (F x y) (sndL cap L ⟨x, y, t⟩) w) := by
  have HF := hide (find_yes h hx hy hi (by omega))
  have HS := hide (fun w' (c : Chg noBlk w w') => send_any (h.no c) (⟨x, y, t⟩ : ML) hf)
  obtain ⟨z, hz⟩ : ∃ z, z = (⟨x, y, t⟩ : ML) := ⟨_, rfl⟩
  rw [← hz] at HF HS ⊢
  have e : F z.fr z.to = F x y := by rw [hz]
  rw [e] at HS
  obtain ⟨n, hn⟩ : ∃ n, snd cap L z = n := ⟨_, rfl⟩
  obtain ⟨M, hM⟩ : ∃ n, sndL cap L z = n := ⟨_, rfl⟩
  rw [hn, hM] at HS ⊢
  clear h hf hx hy hi hz e hn hM
  go_enter Try.func13, Try.ntmps13
  go_wp2_with (first
    | (go_at_call 23; (with_reducible refine (unhide HF).mono ?_); rintro e w1 ⟨rfl, k1⟩)
    | (go_at_call 16; (with_reducible refine (unhide HS _ (k1.andNo K3)).mono ?_); rintro e w4 d4; obtain ⟨F4, rfl, k4, h4, r4⟩ := id d4; have D4 := hide d4; clear k4 h4 r4 d4)
    | ((with_reducible show wpList _ _ _ (_ :: _) _ _); first
      | (refine wpL_alloc rfl 33 rfl _ zero_mail ?_; intro q w2 e2 k2 g2 z2; have eq2 : w1.heap.size ≤ q := Nat.le_of_eq e2; clear e2 z2)
      | (refine wpL_store rfl 33 (.tmp 9) (.tmp 17) rfl q z.cells.toArray rfl rfl _ _ g2 info_mail rfl (all_oneCell_toArray (ML.one _)) ?_; intro w3 k3 g3 z3; have K3 := k2.past k3 eq2)
      | (refine wpL_load rfl 33 (.tmp 9) rfl q rfl z.cells.toArray _ _ g3 _ Try.underlying33 rfl info_mail ?_)))
  go_ret
  exact (unhide D4).pre (k1.andNo K3)
theorem double_any (h : LkAt w b m cap L F) (hf : L.length ≤ 999) {x y : Int} (hx : wfI x) (hy : wfI y) (i : Int) :
    Calls Try.prog 13 #[.pointer (some ⟨b, 0, none⟩), .int .i64 x, .int .i64 y, .int .i64 i] w (DidK (.returned (.int .i64 (dblE cap L x y i))) b m cap F (F x y) (dblL cap L x y i) w) := by
  unfold dblE dblL fndM
  cases hi : hasN (sel L x y) i
  · exact (double_no h hx hy hi).mono fun e w' k => DidK.told h k
  · obtain ⟨h0, h1⟩ := hasN_yes.1 hi
    obtain ⟨k, rfl⟩ := Int.eq_ofNat_of_zero_le h0
    have hk : k < (sel L x y).length := by omega
    have := double_yes h hf hx hy (k := k) (List.getElem?_eq_getElem hk)
    simpa [List.getD, List.getElem?_eq_getElem hk] using this
end
end Go.Proofs.Ytngldlfobdiipaa.Lk
