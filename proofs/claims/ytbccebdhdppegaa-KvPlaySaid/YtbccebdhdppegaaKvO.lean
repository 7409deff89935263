/-
  Keys with values: a swap is done, or tells why: the walk.
-/
import Derived.Test.YtbccebdhdppegaaKvN
namespace Go.Proofs.Ytbccebdhdppegaa
open Go.ChangeShapes Go.WideShapes Go.ChangeAt Go.RowKit
set_option linter.unusedVariables false
attribute [local go_sem] bs_size bs_app bs_cut bs_tl bs_at
attribute [local go_sem ↓] eq_res
theorem op_ne {w w' : World} {b m q : Nat} {o : PT} {r : RT} {L : List KV} (h : OpAt w q o) (hq : q ≠ m) (k : Chg (oneBlk m) w w') : OpAt w' q o := h.but k hq
theorem two_cells {w2 w' : World} {a b : Addr} {u v : Value} (c0 : w2.cell? a = some u) (c1 : w2.cell? b = some v) (k : Chg noBlk w2 w') : Chg noBlk w2 w' ∧ w'.cell? a = some u ∧ w'.cell? b = some v := ⟨k, k.cell c0 id, k.cell c1 id⟩
theorem four_keep {w2 w' : World} {q m : Nat} {a b c d : Value} (f0 : w2.cell? ⟨q, 0, none⟩ = some a) (f1 : w2.cell? ⟨q, 1, none⟩ = some b) (f2 : w2.cell? ⟨q, 2, none⟩ = some c) (f3 : w2.cell? ⟨q, 3, none⟩ = some d) (hq : q ≠ m) (k : Chg (oneBlk m) w2 w') :
    Chg (oneBlk m) w2 w' ∧ w'.cell? ⟨q, 0, none⟩ = some a ∧ w'.cell? ⟨q, 1, none⟩ = some b ∧ w'.cell? ⟨q, 2, none⟩ = some c ∧ w'.cell? ⟨q, 3, none⟩ = some d := ⟨k, k.cell f0 hq, k.cell f1 hq, k.cell f2 hq, k.cell f3 hq⟩
set_option maxRecDepth 100000 in
set_option maxHeartbeats 8000000 in
theorem swap_in (ad : Option Addr) (l : List AT) (cap : Nat) (o : PT) (p : Nat) (hp : p ≤ 65535) (w : World) (h : ActsIn w ad l) (hg : greatL l 60 = false) (hc : chk (swp o 0) = 0) :
    Calls Try.prog 5 #[.slice ad l.length cap, .agg o.cells.toArray, .int .u16 (p : Int)] w (ToldN (.bool true) w) := by
  have hl := (greatL_no hg).1
  have HG := hide (fun w' (c : Chg noBlk w w') => great_any ad l cap 60 w' (by omega) (fun i a e => by obtain ⟨ok, b, off, e1, e2⟩ := h i a e; exact ⟨ok, b, off, e1, range_kept e2 c⟩) (by omega))
  rw [hg] at HG
  have C := fun w => check_any (swp o 0) w
  rw [hc] at C
  have HC := hide C
  have HA := hide h
  have HK := hide hc
  have kl : o.key.length ≤ maxLen := by have := (chk_fit.1 hc).l1; have : o.key.length ≤ 16 := this; unfold maxLen; omega
  have KL := hide kl
  clear h hg hc kl C
  have t1 : True := True.intro
  go_enter Try.func5, Try.ntmps5
  go_wp2_with (first
    | (go_at_call 6; refine (unhide HG _ K3).mono ?_; rintro e w4 ⟨rfl, k4⟩; have Q4 := Q3.no k4; have c0 : _ = some (Value.int .i64 4) := Q4.c0; have c1 := Q4.c1; have c2 := Q4.c2; have c3 : _ = some (Value.int .i64 0) := Q4.c3)
    | (go_at_call 18; refine (unhide HC _).mono ?_; rintro e w5 ⟨rfl, k5⟩; have Q5 := Q4.no k5; clear c0 c1 c2 c3)
    | (go_at_call 8; (with_reducible refine (new_any _).mono ?_); rintro e w6 ⟨b, m, rfl, eb, em, k6, s6⟩)
    | ((with_reducible show wpList _ _ _ (_ :: _) _ _); first
      | (clear t1; refine wpL_box rfl 29 (.tmp 1) rfl o.cells.toArray rfl ?_; intro q w1 e1 k1 g1 z1; have eq0 : w.heap.size ≤ q := Nat.le_of_eq e1; clear e1 z1)
      | (refine wpL_set rfl 3 (.tmp 16) (.const (.int .i64 4)) rfl q 0 (.int .i64 4) rfl rfl rfl info_int _ _ g1 (by show 0 < 4; omega) ?_; intro w2 k2 g2 z2; have Q2 := set0 (w := w) g2; clear g2 z2)
      | (refine wpL_set rfl 3 (.tmp 17) (.const (.int .i64 0)) rfl q 3 (.int .i64 0) rfl rfl rfl info_int _ _ Q2 (by show 3 < 4; omega) ?_; intro w3 k3 g3 z3; have Q3 : OpAt w3 q (swp o 0) := set3 (w := w) 0 g3; have K3 := (k1.past k2 eq0).past k3 eq0; clear g3 z3)))
  have hqm : q < m := by have := Q5.lt; omega
  have hqb : q < b := by have := Q5.lt; omega
  have hm0 : w.heap.size ≤ m := by omega
  have hb0 : w.heap.size ≤ b := by omega
  have HB0 := hide (show SwapAt w b m q o l.length (.int .i64 0) w6 from ⟨0, [], by omega, rfl, s6, Q5.no k6, by simp, (fun c hc => by cases hc), (fun c hc => by cases hc), ((K3.andNo k4).andNo k5).andNo k6⟩)
  clear k1 k2 k3 k4 k5 k6 Q2 Q3 Q4 Q5 s6 g1 K3 HG HC eb em
  go_loopw [8] (fun i wr => SwapAt w b m q o l.length i wr) (fun i wr => l.length - (intOf i).toNat)
  case atStart => exact unhide HB0
  case round =>
    clear HB0
    obtain ⟨k, L, hk, rfl, hs, hq, hn, hv, hy, kw⟩ := hrel
    have KW := hide kw
    have S0 := hide hs
    have Q0 := hide hq
    have V0 := hide hv
    have Y0 := hide hy
    clear kw hs hq hv hy
    by_cases hlt : k < l.length
    · have d1 : decide (k < l.length) = true := by simpa using hlt
      obtain ⟨a, ha⟩ : ∃ a, l[k]? = some a := ⟨_, List.getElem?_eq_getElem hlt⟩
      obtain ⟨hok, bb, off, rfl, hrng⟩ := unhide HA k a ha
      have i1 : (0 : Int) ≤ (k : Int) := by omega
      have i2 : (k : Int) < (l.length : Int) := by omega
      have i3 : (k : Int) < 60 := by omega
      have hr1 := hide (act_op (range_kept hrng (unhide KW)))
      have HP := hide (apply_at (unhide S0) ((k : Int) + 1) a.op (by unfold maxLen; omega))
      clear ha hok hrng
      go_wp2_with (first
        | (go_at_call 12; (with_reducible refine (unhide HP).mono ?_); rintro e w7 ⟨rfl, k7, s7⟩; have K7 := hide k7; have S7 := hide s7; clear k7 s7)
        | ((with_reducible show wpList _ _ _ (_ :: _) _ _); refine wpList_load_mid rfl 29 (.tmp 39) rfl bb (off + k * 6 + 2) rfl a.op.cells _ (unhide hr1) Try.underlying29 rfl (by rw [info_op5]; rfl) ?_))
      go_roundw
      case rel => exact ⟨k + 1, appL L ((k : Int) + 1) a.op, by omega, by go_num, unhide S7, (unhide Q0).but (unhide K7) (by omega), by have := appL_len L ((k : Int) + 1) a.op; omega, (unhide V0).app _ _, (unhide Y0).app _ _, (unhide KW).past (unhide K7) hm0⟩
      case measure => simp [intOf]; omega
    · obtain rfl : k = l.length := by omega
      have i1 : (0 : Int) ≤ (l.length : Int) := by omega
      have i2 : (l.length : Int) ≤ 60 := by omega
      obtain ⟨v, hv⟩ : ∃ v, (p : Int) % 4097 = v := ⟨_, rfl⟩
      have v0 : 0 ≤ v := by omega
      have v1 : v ≤ 4096 := by omega
      have p0 : (0 : Int) ≤ (p : Int) := by omega
      have p1 : (p : Int) ≤ 65535 := by omega
      obtain ⟨iv, hiv⟩ : ∃ iv, (look L o.key 0).ver = iv := ⟨_, rfl⟩
      obtain ⟨vl, hvl⟩ : ∃ vl, (look L o.key 0).val = vl := ⟨_, rfl⟩
      have iv2 := (unhide V0).look o.key
      rw [hiv] at iv2
      have q1 : wr.cell? ⟨q, 1, none⟩ = some (str o.key) := (unhide Q0).c1
      have HLK := hide (look_at (unhide S0) (unhide KL) 0)
      have HCP := hide (fun w' (c : Chg noBlk wr w') => copy_at ((unhide S0).no c))
      by_cases e : iv = v
      · subst e
        have d1 : (iv != iv) = false := by simp
        have hno := swp_yes (i := (l.length : Int) + 1) (unhide HK) v0 v1 (by omega) (by omega) hiv
        have HP := hide (fun w' b2 m2 (s : StAt w' b2 m2 L) => apply_is s (by unfold maxLen; omega) hno)
        have HR := hide hiv
        have HVL := hide hvl
        have HIV := hide hiv
        obtain ⟨r0, hr0⟩ : ∃ r, look L o.key 0 = r := ⟨_, rfl⟩
        rw [hr0] at HLK HR HVL
        clear  hno hiv hvl hr0
        have t1 : True := True.intro
        have t2 : True := True.intro
        have t3 : True := True.intro
        have t4 : True := True.intro
        have t5 : True := True.intro
        have t6 : True := True.intro
        have t7 : True := True.intro
        have t8 : True := True.intro
        have t9 : True := True.intro
        have ta : True := True.intro
        go_wp2_with (first
          | (go_at_call 10; (with_reducible refine (unhide HLK).mono ?_); rintro e w8 ⟨rfl, k8⟩)
          | (go_at_call 9; (with_reducible refine (unhide HCP _ K10).mono ?_); rintro e w11 ⟨b2, m2, rfl, eb2, em2, k11, s11⟩; have R11 := R10.no k11; have K11 := K10.andNo k11; have hm2 := s11.m.lt; have hb2 := s11.lt)
          | (go_at_call 12; (with_reducible refine (unhide HP _ _ _ s14).mono ?_); rintro e w15 ⟨rfl, k15, s15⟩; have R15 := R14.but k15 (by omega); have B15 := B14.but k15 (by omega); have K15 := K14.past k15 (by have := k8.size; omega))
          | ((with_reducible show wpList _ _ _ (_ :: _) _ _); first
            | (clear t1; refine wpL_alloc rfl 33 rfl _ zero_res ?_; intro p10 w9 e9 k9 g9 z9; have e9b : w8.heap.size ≤ p10 := Nat.le_of_eq e9; clear e9 z9)
            | (clear t2; refine wpL_store rfl 33 (.tmp 10) (.tmp 48) rfl p10 r0.cells.toArray rfl rfl _ _ g9 info_res rfl (all_oneCell_toArray (RT.one _)) ?_; intro w10 k10 R10 z10; have R10 : ResAt w10 p10 r0 := R10; have K10 := k8.andNo (k9.past k10 e9b); have hp10 := R10.lt; clear g9 k9 k10 z10)
            | (clear t5; refine wpL_load rfl 29 (.tmp 4) rfl q rfl _ _ _ ((unhide Q0).no K11) _ Try.underlying29 rfl info_op5 ?_)
            | (clear t3; refine wpL_alloc rfl 29 rfl _ zero_op ?_; intro p12 w12 e12 k12 g12 z12; have e12b : w11.heap.size ≤ p12 := Nat.le_of_eq e12; clear e12 z12)
            | (clear t7; refine wpL_store rfl 29 (.tmp 12) (.tmp 51) rfl p12 (swp o 0).cells.toArray rfl rfl _ _ g12 info_op5 rfl (all_oneCell_toArray (PT.one _)) ?_; intro w13 k13 g13 z13; have k13b := k12.past k13 e12b; clear k12 k13 g12 z13)
            | (clear t8; refine wpL_set rfl 3 (.tmp 55) (.tmp 54) rfl p12 3 (.int .i64 iv) rfl (by rw [← hv]; rfl) rfl info_int _ _ g13 (by show 3 < 4; omega) ?_; intro w14 k14 g14 z14; have B14 : OpAt w14 p12 (swp o iv) := set3 (w := w) iv g14; have k14b := k13b.past k14 e12b; have K14 := K11.andNo k14b; have R14 := R11.no k14b; have s14 := s11.no k14b; clear g13 g14 z14 k13b k14)
            | (clear t6; refine wpL_load rfl 29 (.tmp 12) rfl p12 rfl _ _ _ B14 _ Try.underlying29 rfl info_op5 ?_)
            | (clear t4; refine wpL_alloc rfl 33 rfl _ zero_res ?_; intro p13 w16 e16 k16 g16 z16; have e16b : w15.heap.size ≤ p13 := Nat.le_of_eq e16; clear e16 z16)
            | (clear t9; refine wpL_store rfl 33 (.tmp 13) (.tmp 59) rfl p13 (RT.cells ⟨1, [], (l.length : Int) + 1, (l.length : Int) + 1⟩).toArray rfl rfl _ _ g16 info_res rfl (all_oneCell_toArray (RT.one _)) ?_; intro w17 k17 R17 z17; have R17 : ResAt w17 p13 ⟨1, [], (l.length : Int) + 1, (l.length : Int) + 1⟩ := R17; have k17b := k16.past k17 e16b; have K17 := K15.andNo k17b; have s17 := s15.no k17b; have T17 := R15.no k17b; have B17 := B15.no k17b; have x0 : _ = some (Value.int .i64 iv) := B17.c3; have x1 := T17.c1; have x2 := T17.c2; rw [unhide HVL] at x1; rw [unhide HR] at x2; have Q18 := (unhide Q0).no K17; clear k16 k17 g16 z17)
            | (clear ta; (with_reducible show wpList _ _ _ (⟨none, Op.store 3 _ _, _, _, _, _⟩ :: _) _ _); refine wpL_set rfl 3 (.tmp 83) (.tmp 82) rfl q 3 (.int .i64 iv) rfl rfl rfl info_int _ _ Q18 (by show 3 < 4; omega) ?_; intro w19 k19 g19 z19; have Q19 : OpAt w19 q (swp o iv) := set3 (w := w) iv g19)))
        have S19 := hide ((((unhide S0).no K17)).kept k19 (fun e => by have e : b = q := e; omega) (fun e => by have e : m = q := e; omega))
        have eb3 : w10.heap.size ≤ b2 := eb2
        have em3 : w10.heap.size ≤ m2 := em2
        obtain ⟨L2, hL2, P19⟩ : ∃ L2, (L2 = L ∨ L2 = put L ⟨o.key, o.val, (l.length : Int) + 1⟩) ∧ Hid (StAt w19 b2 m2 L2) :=
          ⟨(put L ⟨o.key, o.val, (l.length : Int) + 1⟩), .inr rfl, hide (show StAt w19 b2 m2 (put L ⟨o.key, o.val, (l.length : Int) + 1⟩) from s17.kept k19 (fun e => by have e : b2 = q := e; have := (unhide Q0).lt; have := K10.size; omega) (fun e => by have e : m2 = q := e; have := (unhide Q0).lt; have := K10.size; omega))⟩
        have K19 := hide (((unhide KW).andNo K17).past k19 (by omega))
        have hmm : m2 ≠ m := by have := (unhide S0).m.lt; have := K10.size; omega
        have hmb : b2 ≠ m := by have := (unhide S0).m.lt; have := K10.size; omega
        clear S0 Q0 HLK HCP HP HR HVL k8 K10 K11 K14 K15 K17 R11 R14 R15 T17 B14 B15 B17 R17 s11 s14 s15 s17 k11 k14b k15 k17b eb2 em2 eb3 em3 hm2 hb2 hp10 e9b e12b e16b x2 k19 g19 z19 R10 Q18 q1 KW p0 p1 hv v0 v1
        have HL2 := hide hL2
        clear hL2
        have hq19 := Q19.c0
        have f0 : w19.cell? ⟨q, 0, none⟩ = some (.int .i64 4) := Q19.c0
        have f1 : w19.cell? ⟨q, 1, none⟩ = some (str o.key) := Q19.c1
        have f2 : w19.cell? ⟨q, 2, none⟩ = some (str o.val) := Q19.c2
        have f3 : w19.cell? ⟨q, 3, none⟩ = some (.int .i64 iv) := Q19.c3
        have hqm2 : q ≠ m := by omega
        have KE := hide (fun w' k => four_keep (w' := w') f0 f1 f2 f3 hqm2 k)
        have hyes := swp_yes (i := (l.length : Int) + 1) (unhide HK) iv2.1 iv2.2 (by omega) (by omega) (unhide HIV)
        have HAP := hide (fun w' (c : Chg noBlk w19 w') => swp_put0 ((unhide S19).no c) (by unfold maxLen; omega) hyes)
        have B0 := Chg.refl (oneBlk m) w19
        have B1 := Chg.refl noBlk w19
        clear f0 f1 f2 f3 hyes hq19
        go_region_held3 (fun w' => Chg (oneBlk m) w19 w' ∧ w'.cell? ⟨q, 0, none⟩ = some (.int .i64 4) ∧ w'.cell? ⟨q, 1, none⟩ = some (str o.key) ∧ w'.cell? ⟨q, 2, none⟩ = some (str o.val) ∧ w'.cell? ⟨q, 3, none⟩ = some (.int .i64 iv))
          ((refine unhide KE _ ?_; go_split_ands; first | assumption | exact Chg.drew (by assumption) | exact Chg.drewN (by assumption) _ | exact Chg.andNo (by assumption) (by assumption) | exact Chg.trans (by assumption) (by assumption) fun _ _ e => e))
          (first
            | (go_at_call 12; refine (unhide HAP _ B1.drew).mono ?_; rintro e w20 ⟨rfl, k20, s20⟩)
            | (go_at_call 10; refine (look_put0 s20 (unhide KL)).mono ?_; rintro e w21 ⟨rfl, k21⟩))
        rename_i hH
        obtain ⟨K20, f0, f1, f2, f3⟩ := hH
        have K21 := hide ((unhide K19).past K20 hm0)
        have S21 := hide (s20.no k21)
        have P21 := hide (P19.out.kept K20 hmb hmm)
        have hq21 : ¬ oneBlk m q := fun e => by have e : q = m := e; omega
        have Q21 := hide (K20.at Q19 hq21 : OpAt w21 q (swp o iv))
        have hL3 := hide (show L2.length ≤ 1000 from by
          rcases unhide HL2 with h | h
          · rw [h]; omega
          · rw [h]; have := put_len L ⟨o.key, o.val, (l.length : Int) + 1⟩; omega)
        have HKY := hide (fun w' (c : Chg noBlk w21 w') => keys_any ((unhide P21).no c) (by have := unhide hL3; omega))
        clear f0 f1 f2 f3 KE HAP B0 B1 k20 s20 k21 K20 Q19 S19 P19 K19 hq21
        go_wp2_with (go_at_call 17; (with_reducible refine (unhide HKY _ (Chg.refl _ _)).mono ?_); rintro e w22 ⟨ad2, cap2, rfl, k22, ky⟩)
        have KY := hide ky
        have K22 := hide ((unhide K21).andNo k22)
        have S22 := hide ((unhide S21).no k22)
        have P22 := hide ((unhide P21).no k22)
        have Q22 : Hid (OpAt w22 q (swp o iv)) := hide (OpAt.no (unhide Q21) k22)
        clear ky k22 S21 P21 Q21 K21 HKY
        have hlen := unhide hL3
        go_loopw [15] (fun i wr => ∃ k2 : Nat, k2 ≤ L2.length ∧ i = .int .i64 (k2 : Int) ∧ Chg noBlk w22 wr) (fun i wr => L2.length - (intOf i).toNat)
        case atStart => exact ⟨0, by omega, rfl, Chg.refl _ _⟩
        case round =>
          obtain ⟨k2, hk2, rfl, kz⟩ := hrel
          have KZ := hide kz
          clear kz
          by_cases hlt2 : k2 < L2.length
          · have d2 : decide (k2 < L2.length) = true := by simpa using hlt2
            obtain ⟨c, hc⟩ : ∃ c, L2[k2]? = some c := ⟨_, List.getElem?_eq_getElem hlt2⟩
            obtain ⟨g, rfl, ck⟩ := ((unhide KY).no (unhide KZ)) k2 c hc
            have j1 : (0 : Int) ≤ (k2 : Int) := by omega
            have j2 : (k2 : Int) < (L2.length : Int) := by omega
            have qk : wr.cell? ⟨q, 1, none⟩ = some (str o.key) := (OpAt.no (unhide Q22) (unhide KZ)).c1
            have hkl := swp_keyd (unhide HK) (unhide Y0) (unhide HL2) (List.mem_of_getElem? hc)
            clear hc
            by_cases he : c.key = o.key
            · have dq : (c.key == o.key) = true := by simpa using he
              clear he
              go_wp2
              go_quiet (fail)
              go_wp2
              go_roundw
              case rel => exact ⟨k2 + 1, by omega, by go_num, (unhide KZ).drewN _⟩
              case measure => simp [intOf]; omega
            · have dq : (c.key == o.key) = false := by simpa using he
              obtain ⟨rc, hrc⟩ : ∃ r, look L c.key 3 = r := ⟨_, rfl⟩
              have e1 : look (put L ⟨o.key, o.val, (l.length : Int) + 1⟩) c.key 3 = rc := (look_put_other L ⟨o.key, o.val, (l.length : Int) + 1⟩ he 3).trans hrc
              have e2 : look L2 c.key 3 = rc := by
                rcases unhide HL2 with h | h
                · rw [h]; exact hrc
                · rw [h]; exact e1
              obtain ⟨x1, x2, x3, x4⟩ := rc
              have HB1 := hide (fun w' (k : Chg noBlk wr w' ∧ w'.cell? ⟨g, k2, none⟩ = some (str c.key) ∧ w'.cell? ⟨q, 1, none⟩ = some (str o.key)) => look_is ((unhide S22).no ((unhide KZ).andNo k.1)) hkl e1)
              have HB2 := hide (fun w' (k : Chg noBlk wr w' ∧ w'.cell? ⟨g, k2, none⟩ = some (str c.key) ∧ w'.cell? ⟨q, 1, none⟩ = some (str o.key)) => look_is ((unhide P22).no ((unhide KZ).andNo k.1)) hkl e2)
              have KE := hide (fun w' k => two_cells (w' := w') ck qk k)
              have B0 := Chg.refl noBlk wr
              clear he hrc e1 e2
              go_wp2
              go_region_held3 (fun w' => Chg noBlk wr w' ∧ w'.cell? ⟨g, k2, none⟩ = some (str c.key) ∧ w'.cell? ⟨q, 1, none⟩ = some (str o.key))
                ((refine unhide KE _ ?_; go_split_ands; first | assumption | exact Chg.drew (by assumption) | exact Chg.drewN (by assumption) _ | exact Chg.andNo (by assumption) (by assumption)))
                (first
                  | (go_at_call 10; (with_reducible refine (unhide HB1 _ (by assumption)).mono ?_); rintro e w30 ⟨rfl, k30⟩)
                  | (go_at_call 10; (with_reducible refine (unhide HB2 _ (by assumption)).mono ?_); rintro e w30 ⟨rfl, k30⟩))
              all_goals
                rename_i hJ
                obtain ⟨kj, _, _⟩ := hJ
                have KJ := hide kj
                clear kj KE B0 HB1 HB2 k30
                go_wp2
                go_roundw
                case rel => exact ⟨k2 + 1, by omega, by go_num, (unhide KZ).andNo (unhide KJ)⟩
                case measure => simp [intOf]; omega
          · obtain rfl : k2 = L2.length := by omega
            go_wp2_with (go_at_call 7; (with_reducible refine (stored_any _).mono ?_); rintro e w24 ⟨rfl, k24⟩)
            go_ret
            exact ⟨rfl, ((unhide K22).andNo (unhide KZ)).andNo k24⟩
      · have d1 : (v != iv) = true := by simpa using Ne.symm e
        have hno := swp_no (i := (l.length : Int) + 1) (unhide HK) v0 v1 (by omega) (by omega) (by rw [hiv]; exact e)
        rw [hiv, hvl] at hno
        have HP := hide (fun w' b2 m2 (s : StAt w' b2 m2 L) => apply_is s (by unfold maxLen; omega) hno)
        have HR := hide hiv
        have HVL := hide hvl
        have HIV := hide hiv
        obtain ⟨r0, hr0⟩ : ∃ r, look L o.key 0 = r := ⟨_, rfl⟩
        rw [hr0] at HLK HR HVL
        clear e hno hiv hvl hr0
        have t1 : True := True.intro
        have t2 : True := True.intro
        have t3 : True := True.intro
        have t4 : True := True.intro
        have t5 : True := True.intro
        have t6 : True := True.intro
        have t7 : True := True.intro
        have t8 : True := True.intro
        have t9 : True := True.intro
        have ta : True := True.intro
        go_wp2_with (first
          | (go_at_call 10; (with_reducible refine (unhide HLK).mono ?_); rintro e w8 ⟨rfl, k8⟩)
          | (go_at_call 9; (with_reducible refine (unhide HCP _ K10).mono ?_); rintro e w11 ⟨b2, m2, rfl, eb2, em2, k11, s11⟩; have R11 := R10.no k11; have K11 := K10.andNo k11; have hm2 := s11.m.lt; have hb2 := s11.lt)
          | (go_at_call 12; (with_reducible refine (unhide HP _ _ _ s14).mono ?_); rintro e w15 ⟨rfl, k15, s15⟩; have R15 := R14.but k15 (by omega); have B15 := B14.but k15 (by omega); have K15 := K14.past k15 (by have := k8.size; omega))
          | (go_at_call 15; (with_reducible refine (same_eq ((unhide S0).no K17) s17).mono ?_); rintro e w18 ⟨rfl, k18⟩; have K18 := K17.andNo k18; have s18 := s17.no k18; have T18 := T17.no k18; clear x0 x1 x2 y0 y1 y2 y3; have x2 := T18.c2; rw [unhide HR] at x2; have Q18 := (unhide Q0).no K18)
          | ((with_reducible show wpList _ _ _ (_ :: _) _ _); first
            | (clear t1; refine wpL_alloc rfl 33 rfl _ zero_res ?_; intro p10 w9 e9 k9 g9 z9; have e9b : w8.heap.size ≤ p10 := Nat.le_of_eq e9; clear e9 z9)
            | (clear t2; refine wpL_store rfl 33 (.tmp 10) (.tmp 48) rfl p10 r0.cells.toArray rfl rfl _ _ g9 info_res rfl (all_oneCell_toArray (RT.one _)) ?_; intro w10 k10 R10 z10; have R10 : ResAt w10 p10 r0 := R10; have K10 := k8.andNo (k9.past k10 e9b); have hp10 := R10.lt; clear g9 k9 k10 z10)
            | (clear t5; refine wpL_load rfl 29 (.tmp 4) rfl q rfl _ _ _ ((unhide Q0).no K11) _ Try.underlying29 rfl info_op5 ?_)
            | (clear t3; refine wpL_alloc rfl 29 rfl _ zero_op ?_; intro p12 w12 e12 k12 g12 z12; have e12b : w11.heap.size ≤ p12 := Nat.le_of_eq e12; clear e12 z12)
            | (clear t7; refine wpL_store rfl 29 (.tmp 12) (.tmp 51) rfl p12 (swp o 0).cells.toArray rfl rfl _ _ g12 info_op5 rfl (all_oneCell_toArray (PT.one _)) ?_; intro w13 k13 g13 z13; have k13b := k12.past k13 e12b; clear k12 k13 g12 z13)
            | (clear t8; refine wpL_set rfl 3 (.tmp 55) (.tmp 54) rfl p12 3 (.int .i64 v) rfl (by rw [← hv]; rfl) rfl info_int _ _ g13 (by show 3 < 4; omega) ?_; intro w14 k14 g14 z14; have B14 : OpAt w14 p12 (swp o v) := set3 (w := w) v g14; have k14b := k13b.past k14 e12b; have K14 := K11.andNo k14b; have R14 := R11.no k14b; have s14 := s11.no k14b; clear g13 g14 z14 k13b k14)
            | (clear t6; refine wpL_load rfl 29 (.tmp 12) rfl p12 rfl _ _ _ B14 _ Try.underlying29 rfl info_op5 ?_)
            | (clear t4; refine wpL_alloc rfl 33 rfl _ zero_res ?_; intro p13 w16 e16 k16 g16 z16; have e16b : w15.heap.size ≤ p13 := Nat.le_of_eq e16; clear e16 z16)
            | (clear t9; refine wpL_store rfl 33 (.tmp 13) (.tmp 59) rfl p13 (RT.cells ⟨3, vl, iv, (l.length : Int) + 1⟩).toArray rfl rfl _ _ g16 info_res rfl (all_oneCell_toArray (RT.one _)) ?_; intro w17 k17 R17 z17; have R17 : ResAt w17 p13 ⟨3, vl, iv, (l.length : Int) + 1⟩ := R17; have k17b := k16.past k17 e16b; have K17 := K15.andNo k17b; have s17 := s15.no k17b; have T17 := R15.no k17b; have B17 := B15.no k17b; have x0 : _ = some (Value.int .i64 v) := B17.c3; have x1 := T17.c1; have x2 := T17.c2; rw [unhide HVL] at x1; rw [unhide HR] at x2; have y0 : _ = some (Value.int .i64 3) := R17.c0; have y1 : _ = some (str vl) := R17.c1; have y2 : _ = some (Value.int .i64 iv) := R17.c2; have y3 : _ = some (Value.int .i64 ((l.length : Int) + 1)) := R17.c3; clear k16 k17 g16 z17)
            | (clear ta; (with_reducible show wpList _ _ _ (⟨none, Op.store 3 _ _, _, _, _, _⟩ :: _) _ _); refine wpL_set rfl 3 (.tmp 83) (.tmp 82) rfl q 3 (.int .i64 iv) rfl rfl rfl info_int _ _ Q18 (by show 3 < 4; omega) ?_; intro w19 k19 g19 z19; have Q19 : OpAt w19 q (swp o iv) := set3 (w := w) iv g19)))
        have S19 := hide ((((unhide S0).no K18)).kept k19 (fun e => by have e : b = q := e; omega) (fun e => by have e : m = q := e; omega))
        have eb3 : w10.heap.size ≤ b2 := eb2
        have em3 : w10.heap.size ≤ m2 := em2
        obtain ⟨L2, hL2, P19⟩ : ∃ L2, (L2 = L ∨ L2 = put L ⟨o.key, o.val, (l.length : Int) + 1⟩) ∧ Hid (StAt w19 b2 m2 L2) :=
          ⟨L, .inl rfl, hide (show StAt w19 b2 m2 L from s18.kept k19 (fun e => by have e : b2 = q := e; have := (unhide Q0).lt; have := K10.size; omega) (fun e => by have e : m2 = q := e; have := (unhide Q0).lt; have := K10.size; omega))⟩
        have K19 := hide (((unhide KW).andNo K18).past k19 (by omega))
        have hmm : m2 ≠ m := by have := (unhide S0).m.lt; have := K10.size; omega
        have hmb : b2 ≠ m := by have := (unhide S0).m.lt; have := K10.size; omega
        clear d1 K18 s18 T18 k18 S0 Q0 HLK HCP HP HR HVL k8 K10 K11 K14 K15 K17 R11 R14 R15 T17 B14 B15 B17 R17 s11 s14 s15 s17 k11 k14b k15 k17b eb2 em2 eb3 em3 hm2 hb2 hp10 e9b e12b e16b x2 k19 g19 z19 R10 Q18 q1 KW p0 p1 hv v0 v1
        have HL2 := hide hL2
        clear hL2
        have hq19 := Q19.c0
        have f0 : w19.cell? ⟨q, 0, none⟩ = some (.int .i64 4) := Q19.c0
        have f1 : w19.cell? ⟨q, 1, none⟩ = some (str o.key) := Q19.c1
        have f2 : w19.cell? ⟨q, 2, none⟩ = some (str o.val) := Q19.c2
        have f3 : w19.cell? ⟨q, 3, none⟩ = some (.int .i64 iv) := Q19.c3
        have hqm2 : q ≠ m := by omega
        have KE := hide (fun w' k => four_keep (w' := w') f0 f1 f2 f3 hqm2 k)
        have hyes := swp_yes (i := (l.length : Int) + 1) (unhide HK) iv2.1 iv2.2 (by omega) (by omega) (unhide HIV)
        have HAP := hide (fun w' (c : Chg noBlk w19 w') => swp_put0 ((unhide S19).no c) (by unfold maxLen; omega) hyes)
        have B0 := Chg.refl (oneBlk m) w19
        have B1 := Chg.refl noBlk w19
        clear f0 f1 f2 f3 hyes hq19
        go_region_held3 (fun w' => Chg (oneBlk m) w19 w' ∧ w'.cell? ⟨q, 0, none⟩ = some (.int .i64 4) ∧ w'.cell? ⟨q, 1, none⟩ = some (str o.key) ∧ w'.cell? ⟨q, 2, none⟩ = some (str o.val) ∧ w'.cell? ⟨q, 3, none⟩ = some (.int .i64 iv))
          ((refine unhide KE _ ?_; go_split_ands; first | assumption | exact Chg.drew (by assumption) | exact Chg.drewN (by assumption) _ | exact Chg.andNo (by assumption) (by assumption) | exact Chg.trans (by assumption) (by assumption) fun _ _ e => e))
          (first
            | (go_at_call 12; refine (unhide HAP _ B1.drew).mono ?_; rintro e w20 ⟨rfl, k20, s20⟩)
            | (go_at_call 10; refine (look_put0 s20 (unhide KL)).mono ?_; rintro e w21 ⟨rfl, k21⟩))
        rename_i hH
        obtain ⟨K20, f0, f1, f2, f3⟩ := hH
        have K21 := hide ((unhide K19).past K20 hm0)
        have S21 := hide (s20.no k21)
        have P21 := hide (P19.out.kept K20 hmb hmm)
        have hq21 : ¬ oneBlk m q := fun e => by have e : q = m := e; omega
        have Q21 := hide (K20.at Q19 hq21 : OpAt w21 q (swp o iv))
        have hL3 := hide (show L2.length ≤ 1000 from by
          rcases unhide HL2 with h | h
          · rw [h]; omega
          · rw [h]; have := put_len L ⟨o.key, o.val, (l.length : Int) + 1⟩; omega)
        have HKY := hide (fun w' (c : Chg noBlk w21 w') => keys_any ((unhide P21).no c) (by have := unhide hL3; omega))
        clear f0 f1 f2 f3 KE HAP B0 B1 k20 s20 k21 K20 Q19 S19 P19 K19 hq21
        go_wp2_with (go_at_call 17; (with_reducible refine (unhide HKY _ (Chg.refl _ _)).mono ?_); rintro e w22 ⟨ad2, cap2, rfl, k22, ky⟩)
        have KY := hide ky
        have K22 := hide ((unhide K21).andNo k22)
        have S22 := hide ((unhide S21).no k22)
        have P22 := hide ((unhide P21).no k22)
        have Q22 : Hid (OpAt w22 q (swp o iv)) := hide (OpAt.no (unhide Q21) k22)
        clear ky k22 S21 P21 Q21 K21 HKY
        have hlen := unhide hL3
        go_loopw [15] (fun i wr => ∃ k2 : Nat, k2 ≤ L2.length ∧ i = .int .i64 (k2 : Int) ∧ Chg noBlk w22 wr) (fun i wr => L2.length - (intOf i).toNat)
        case atStart => exact ⟨0, by omega, rfl, Chg.refl _ _⟩
        case round =>
          obtain ⟨k2, hk2, rfl, kz⟩ := hrel
          have KZ := hide kz
          clear kz
          by_cases hlt2 : k2 < L2.length
          · have d2 : decide (k2 < L2.length) = true := by simpa using hlt2
            obtain ⟨c, hc⟩ : ∃ c, L2[k2]? = some c := ⟨_, List.getElem?_eq_getElem hlt2⟩
            obtain ⟨g, rfl, ck⟩ := ((unhide KY).no (unhide KZ)) k2 c hc
            have j1 : (0 : Int) ≤ (k2 : Int) := by omega
            have j2 : (k2 : Int) < (L2.length : Int) := by omega
            have qk : wr.cell? ⟨q, 1, none⟩ = some (str o.key) := (OpAt.no (unhide Q22) (unhide KZ)).c1
            have hkl := swp_keyd (unhide HK) (unhide Y0) (unhide HL2) (List.mem_of_getElem? hc)
            clear hc
            by_cases he : c.key = o.key
            · have dq : (c.key == o.key) = true := by simpa using he
              clear he
              go_wp2
              go_quiet (fail)
              go_wp2
              go_roundw
              case rel => exact ⟨k2 + 1, by omega, by go_num, (unhide KZ).drewN _⟩
              case measure => simp [intOf]; omega
            · have dq : (c.key == o.key) = false := by simpa using he
              obtain ⟨rc, hrc⟩ : ∃ r, look L c.key 3 = r := ⟨_, rfl⟩
              have e1 : look (put L ⟨o.key, o.val, (l.length : Int) + 1⟩) c.key 3 = rc := (look_put_other L ⟨o.key, o.val, (l.length : Int) + 1⟩ he 3).trans hrc
              have e2 : look L2 c.key 3 = rc := by
                rcases unhide HL2 with h | h
                · rw [h]; exact hrc
                · rw [h]; exact e1
              obtain ⟨x1, x2, x3, x4⟩ := rc
              have HB1 := hide (fun w' (k : Chg noBlk wr w' ∧ w'.cell? ⟨g, k2, none⟩ = some (str c.key) ∧ w'.cell? ⟨q, 1, none⟩ = some (str o.key)) => look_is ((unhide S22).no ((unhide KZ).andNo k.1)) hkl e1)
              have HB2 := hide (fun w' (k : Chg noBlk wr w' ∧ w'.cell? ⟨g, k2, none⟩ = some (str c.key) ∧ w'.cell? ⟨q, 1, none⟩ = some (str o.key)) => look_is ((unhide P22).no ((unhide KZ).andNo k.1)) hkl e2)
              have KE := hide (fun w' k => two_cells (w' := w') ck qk k)
              have B0 := Chg.refl noBlk wr
              clear he hrc e1 e2
              go_wp2
              go_region_held3 (fun w' => Chg noBlk wr w' ∧ w'.cell? ⟨g, k2, none⟩ = some (str c.key) ∧ w'.cell? ⟨q, 1, none⟩ = some (str o.key))
                ((refine unhide KE _ ?_; go_split_ands; first | assumption | exact Chg.drew (by assumption) | exact Chg.drewN (by assumption) _ | exact Chg.andNo (by assumption) (by assumption)))
                (first
                  | (go_at_call 10; (with_reducible refine (unhide HB1 _ (by assumption)).mono ?_); rintro e w30 ⟨rfl, k30⟩)
                  | (go_at_call 10; (with_reducible refine (unhide HB2 _ (by assumption)).mono ?_); rintro e w30 ⟨rfl, k30⟩))
              all_goals
                rename_i hJ
                obtain ⟨kj, _, _⟩ := hJ
                have KJ := hide kj
                clear kj KE B0 HB1 HB2 k30
                go_wp2
                go_roundw
                case rel => exact ⟨k2 + 1, by omega, by go_num, (unhide KZ).andNo (unhide KJ)⟩
                case measure => simp [intOf]; omega
          · obtain rfl : k2 = L2.length := by omega
            go_wp2_with (go_at_call 7; (with_reducible refine (stored_any _).mono ?_); rintro e w24 ⟨rfl, k24⟩)
            go_ret
            exact ⟨rfl, ((unhide K22).andNo (unhide KZ)).andNo k24⟩
end Go.Proofs.Ytbccebdhdppegaa
