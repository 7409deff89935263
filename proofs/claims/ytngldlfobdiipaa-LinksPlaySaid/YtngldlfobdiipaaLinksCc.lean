/-
  Links: the law that whatever is done, each answer and all mail is the document's: an act gone through.
-/
import Derived.Test.YtngldlfobdiipaaLinksM
import Derived.Test.YtngldlfobdiipaaLinksBd
import Derived.Test.YtngldlfobdiipaaLinksBe
import Derived.Test.YtngldlfobdiipaaLinksCa
import Derived.Test.YtngldlfobdiipaaLinksCb
namespace Go.Proofs.Ytngldlfobdiipaa.Lk
open Go.ChangeShapes Go.WideShapes Go.ChangeAt Go.RowKit
set_option linter.unusedVariables false
attribute [local go_sem] bs_size bs_app bs_cut bs_tl bs_at
attribute [local go_sem ↓] Go.wp_at_zero Go.wp_at_succ
attribute [local go_sem ↓] eq_mail
/-- the program's links have L, the document's M; no block is both's -/
structure Both (w0 w : World) (S T : Nat → Prop) (p : Value) (b : Nat) (v : Value) (cap : Nat) (L M : List ML) : Prop where
  lk : IsLk w S p cap L
  rf : RefAt w T b v cap M
  dis : ∀ k, S k → ¬ T k
  newS : ∀ k, S k → w0.heap.size ≤ k
  newT : ∀ k, T k → w0.heap.size ≤ k
  chg : Chg noBlk w0 w
section
variable {w0 w w' : World} {S S' T T' : Nat → Prop} {p v v' : Value} {b cap q : Nat} {L L' M M' : List ML} {x : AT}
theorem Both.no (h : Both w0 w S T p b v cap L M) (k : Chg noBlk w w') : Both w0 w' S T p b v cap L M := ⟨h.lk.no k, h.rf.no k, h.dis, h.newS, h.newT, h.chg.andNo k⟩
theorem Both.stepA (h : Both w0 w S T p b v cap L M) (k : Chg S w w') (g : Grew S w S' w') (l : IsLk w' S' p cap L') : Both w0 w' S' T p b v cap L' M :=
  ⟨l, h.rf.kept k fun i hi e => h.dis i e hi, fun i hi e => by
    rcases (g i hi).1 with e2 | e2
    · exact h.dis i e2 e
    · have := h.rf.lt i e
      omega, g.new h.newS h.chg.size, h.newT, h.chg.trans k fun i hi e => by have := h.newS i e; omega⟩
theorem Both.stepR (h : Both w0 w S T p b v cap L M) (k : Chg T w w') (g : Grew T w T' w') (r : RefAt w' T' b v' cap M') : Both w0 w' S T' p b v' cap L M' :=
  ⟨h.lk.kept k fun i hi e => h.dis i hi e, r, fun i hi e => by
    rcases (g i e).1 with e2 | e2
    · exact h.dis i hi e2
    · have := h.lk.lt i hi
      omega, h.newS, g.new h.newT h.chg.size, h.chg.trans k fun i hi e => by have := h.newT i e; omega⟩
/-- and the act stands at q -/
structure Rnd (w0 w : World) (S T : Nat → Prop) (p : Value) (b : Nat) (v : Value) (cap : Nat) (L M : List ML) (q : Nat) (x : AT) : Prop where
  both : Both w0 w S T p b v cap L M
  act : ActAt w q x
  ns : ¬ S q
  nt : ¬ T q
theorem Rnd.no (h : Rnd w0 w S T p b v cap L M q x) (k : Chg noBlk w w') : Rnd w0 w' S T p b v cap L M q x := ⟨h.both.no k, h.act.no k, h.ns, h.nt⟩
theorem Rnd.stepA (h : Rnd w0 w S T p b v cap L M q x) (k : Chg S w w') (g : Grew S w S' w') (l : IsLk w' S' p cap L') : Rnd w0 w' S' T p b v cap L' M q x :=
  ⟨h.both.stepA k g l, k.at h.act h.ns, g.out h.ns (lt_of_block h.act), h.nt⟩
theorem Rnd.stepR (h : Rnd w0 w S T p b v cap L M q x) (k : Chg T w w') (g : Grew T w T' w') (r : RefAt w' T' b v' cap M') : Rnd w0 w' S T' p b v' cap L M' q x :=
  ⟨h.both.stepR k g r, k.at h.act h.nt, h.ns, g.out h.nt (lt_of_block h.act)⟩
end
theorem lk_cap {w : World} {S : Nat → Prop} {p : Value} {cap : Nat} {L : List ML} (h : IsLk w S p cap L) : cap ≤ 64 := by obtain ⟨h0, b, m, F, rfl, hl, _⟩ := h; exact hl.high
theorem run_ldMl_act {w : World} {q : Nat} {x : AT} (h : ActAt w q x) : (ldMl (.pointer (some ⟨q, 1, none⟩))).run Try.prog w = .ok (.agg x.m.cells.toArray) w :=
  run_loadAt_mid w q 1 _ x.m.cells _ h.mail Try.underlying33 rfl (by rw [info_mail]; rfl)
theorem ok_wf {x : AT} (h : x.Ok) : wfI x.m.fr ∧ wfI x.m.to := ⟨wfI_of h.m0.f0, wfI_of h.m0.t0⟩
theorem eq_mlz (z : ML) (w : World) : (Op.equalIn 10000 33 (.agg z.cells.toArray) (.agg z.cells.toArray)).run Try.prog w = .ok true w := eq_mail _ _ _ w
attribute [local go_sem ↓] eq_mlz ldMl_pre
/-- where the acts' going through stands -/
def PlayAt (w0 : World) (p : Value) (b cap len : Nat) (i : Value) (w : World) : Prop := ∃ (k : Nat) (S T : Nat → Prop) (v : Value) (L : List ML), k ≤ len ∧ i = .int .i64 (k : Int) ∧ Both w0 w S T p b v cap L L ∧ L.length ≤ k
set_option maxRecDepth 100000 in
set_option maxHeartbeats 8000000 in
theorem play_in (ad : Option Addr) (l : List AT) (cp : Nat) (cap : Nat) (w : World) (h : ActsIn w ad l) (h1 : 1 ≤ cap) (h2 : cap ≤ 64) (hg : greatL l 120 = false) (hm : l.length ≤ 9223372036854775807) :
    Calls Try.prog 3 #[.int .i64 (cap : Int), .slice ad l.length cp] w (ToldN (.bool true) w) := by
  have HG := hide (show Calls Try.prog 6 #[.slice ad l.length cp, .int .i64 120] w (Told (.bool false) w) from hg ▸ great_any ad l cp 120 w (by omega) h hm)
  have HN := hide (lk_new cap w h1 h2)
  have HR := hide (fun w => rnew_yes cap w h1 h2)
  have HL := hide h
  have hlen : l.length ≤ 120 := (greatL_no hg).1
  clear h hg hm h1
  go_enter Try.func3, Try.ntmps3
  go_wp2_with (first
    | (go_at_call 6; (with_reducible refine (unhide HG).mono ?_); rintro e w1 ⟨rfl, rfl⟩)
    | (go_at_call 8; (with_reducible refine (unhide HN).mono ?_); rintro e w1 ⟨b0, S1, rfl, f1, l1, k1⟩; have K1 := hide k1; have F1 := hide f1; have L1 := hide l1; clear f1 l1 k1)
    | (go_at_call 9; (with_reducible refine (unhide HR _).mono ?_); rintro e w2 ⟨rb, rfl, f2, k2, r2⟩; have K2 := hide k2; have F2 := hide f2; have R2 := hide r2; clear f2 r2 k2))
  have HB0 := hide (show PlayAt w (.pointer (some ⟨b0, 0, none⟩)) rb cap l.length (.int .i64 0) w2 from ⟨0, S1, oneBlk rb, _, [], by omega, rfl, ⟨(unhide L1).no (unhide K2), unhide R2, fun k hk e => by have e : k = rb := e; have := (unhide L1).lt k hk; have := unhide F2; omega, unhide F1, fun k e => by have e : k = rb := e; have := unhide F2; have := (unhide K1).size; omega, (unhide K1).andNo (unhide K2)⟩, by simp⟩)
  clear HG HN HR K1 F1 L1 K2 F2 R2
  go_loopw [9] (fun i wr => PlayAt w (.pointer (some ⟨b0, 0, none⟩)) rb cap l.length i wr) (fun i wr => l.length - (intOf i).toNat)
  case atStart => exact unhide HB0
  case round =>
    clear HB0
    obtain ⟨k, S, T, v, L, hk, rfl, hb, hle⟩ := hrel
    have HB := hide hb
    have HLE := hide hle
    have i3 : L.length ≤ 120 := by omega
    clear hb hle
    by_cases hlt : k < l.length
    · have d1 : decide (k < l.length) = true := by simpa using hlt
      obtain ⟨x, hx⟩ : ∃ x, l[k]? = some x := ⟨_, List.getElem?_eq_getElem hlt⟩
      obtain ⟨ok, g, off, rfl, hr⟩ := unhide HL k x hx
      have HRW := hide (range_kept hr (unhide HB).chg)
      have HOK := hide ok
      have i1 : (0 : Int) ≤ (k : Int) := by omega
      have i2 : (k : Int) < (l.length : Int) := by omega
      have i4 : (k : Int) < 120 := by omega
      clear hx ok hr
      go_upto_region 11 with ((with_reducible show wpList _ _ _ (_ :: _) _ _); first
        | (refine wpList_load_mid rfl 35 (.tmp 59) rfl g (off + k * 5) rfl x.cells _ (unhide HRW) Try.underlying35 rfl (by rw [size_act]; rfl) ?_)
        | (refine wpL_alloc rfl 35 rfl _ zero_act ?_; intro q w3 e3 k3 g3 z3; have eq0 : wr.heap.size ≤ q := Nat.le_of_eq e3; clear e3 z3)
        | (refine wpL_store rfl 35 (.tmp 10) (.tmp 60) rfl q x.cells.toArray rfl rfl _ _ g3 (by rw [size_act]; rfl) rfl (all_oneCell_toArray (AT.one _)) ?_; intro w4 k4 g4 z4))
      have R4 := hide (show Rnd w w4 S T (.pointer (some ⟨b0, 0, none⟩)) rb v cap L L q x from ⟨(unhide HB).no (k3.past k4 eq0), g4, (unhide HB).lk.out eq0, fun e => by have := (unhide HB).rf.lt q e; omega⟩)
      have c1 := (unhide R4).act.c1
      have c2 := (unhide R4).act.c2
      clear k3 g3 k4 g4 z4 eq0 HB HRW
      go_quiet (fail)
      clear c1 c2
      have R5 := hide ((unhide R4).no ((Chg.refl noBlk w4).drewN nq))
      clear R4
      generalize w4.drewN nq = w5 at R5 ⊢
      obtain ⟨kd, hkd⟩ : ∃ kd : Int, x.k % 8 = kd := ⟨_, rfl⟩
      have hk0 := (unhide HOK).k0
      have hkr : 0 ≤ kd ∧ kd ≤ 7 := by omega
      have c0 := (unhide R5).act.c0
      go_upto_region 15 with fail
      simp only [hkd]
      clear hkd hk0
      by_cases h4 : kd = 4
      · have e4 : (kd == 4) = true := by simpa using h4
        obtain ⟨z, hz⟩ : ∃ z, fndM L x.m.fr x.m.to x.i = z := ⟨_, rfl⟩
        obtain ⟨er, her⟩ : ∃ z, fndE L x.m.fr x.m.to x.i = z := ⟨_, rfl⟩
        obtain ⟨M, hM⟩ : ∃ z, dlv L x.m.fr x.m.to x.i = z := ⟨_, rfl⟩
        have hml : M.length ≤ L.length := by rw [← hM]; exact dlv_len _ _ _ _
        have HA := hide (lk_deliver (unhide R5).both.lk (by omega) (ok_wf (unhide HOK)).1 (ok_wf (unhide HOK)).2 x.i)
        have HR := hide (fun w' S' L' (R : Rnd w w' S' T (.pointer (some ⟨b0, 0, none⟩)) rb v cap L' L q x) => rdeliver_any R.both.rf (by omega) x.m.fr x.m.to (unhide HOK).i0)
        rw [hz, her, hM] at HA HR
        have t1 : True := True.intro
        have t2 : True := True.intro
        have c4 := (unhide R5).act.c4
        clear hz her hM h4
        go_wp2_with (first
          | (go_at_call 10; (with_reducible refine (unhide HA).mono ?_); rintro e6 w6 ⟨rfl, k6, S6, g6, l6⟩; have R6 := hide ((unhide R5).stepA k6 g6 l6); clear k6 g6 l6 c4 c0)
          | (go_at_call 11; (with_reducible refine (unhide HR _ _ _ (unhide R8)).mono ?_); rintro e9 w9 ⟨rfl, k9, v9, T9, g9, r9⟩; have R9 := hide ((unhide R8).stepR k9 g9 r9); have m9 := k9.at g8 (unhide NT); clear k9 g9 r9 g8 c4)
          | (go_at_call 18; (with_reducible refine (alike_any (unhide R11).both.lk (unhide R11).both.rf (by omega)).mono ?_); rintro ez wz ⟨rfl, kz⟩)
          | ((with_reducible show wpList _ _ _ (_ :: _) _ _); first
            | (clear t1; refine wpL_alloc rfl 33 rfl _ zero_mail ?_; intro pa w7 e7 k7 g7 z7; have eq7 : w6.heap.size ≤ pa := Nat.le_of_eq e7; have NT := hide (show ¬ T pa from fun e => by have := (unhide R6).both.rf.lt pa e; omega); clear e7 z7)
            | (refine wpL_store rfl 33 (.tmp 14) (.tmp 88) rfl pa z.cells.toArray rfl rfl _ _ g7 info_mail rfl (all_oneCell_toArray (ML.one _)) ?_; intro w8 k8 g8 z8; have R8 := hide ((unhide R6).no (k7.past k8 eq7)); have c4 := (unhide R8).act.c4; clear k7 k8 g7 z8)
            | (clear t2; refine wpL_alloc rfl 33 rfl _ zero_mail ?_; intro pc w10 e10 k10 g10 z10; have eq10 : w9.heap.size ≤ pc := Nat.le_of_eq e10; clear e10 z10)
            | (refine wpL_store rfl 33 (.tmp 16) (.tmp 97) rfl pc z.cells.toArray rfl rfl _ _ g10 info_mail rfl (all_oneCell_toArray (ML.one _)) ?_; intro w11 k11 g11 z11; have R11 := hide ((unhide R9).no (k10.past k11 eq10)); have m11 := (k10.past k11 eq10).at m9 id; clear k10 k11 g10 z11 m9)
            | (refine wpL_load rfl 33 (.tmp 14) rfl pa rfl z.cells.toArray _ _ m11 _ Try.underlying33 rfl info_mail ?_)
            | (refine wpL_load rfl 33 (.tmp 16) rfl pc rfl z.cells.toArray _ _ g11 _ Try.underlying33 rfl info_mail ?_)))
        have REL := hide (show PlayAt w (.pointer (some ⟨b0, 0, none⟩)) rb cap l.length (.int .i64 ((k : Int) + 1)) wz from ⟨k + 1, _, _, _, M, by omega, by go_num, ((unhide R11).no kz).both, by have := unhide HLE; omega⟩)
        go_roundw
        case rel => exact unhide REL
        case measure => simp [intOf]; omega
      · have e4 : (kd == 4) = false := by simpa using h4
        by_cases h5 : kd = 5
        · have e5 : (kd == 5) = true := by simpa using h5
          obtain ⟨z, hz⟩ : ∃ z, fndM L x.m.fr x.m.to x.i = z := ⟨_, rfl⟩
          obtain ⟨er, her⟩ : ∃ z, fndE L x.m.fr x.m.to x.i = z := ⟨_, rfl⟩
          obtain ⟨M, hM⟩ : ∃ z, dlv L x.m.fr x.m.to x.i = z := ⟨_, rfl⟩
          have HML := hide (show M.length ≤ L.length by rw [← hM]; exact dlv_len _ _ _ _)
          have HR := hide (rdeliver_any (unhide R5).both.rf (by omega) x.m.fr x.m.to (unhide HOK).i0)
          have HA := hide (fun w' T' v' M' (R : Rnd w w' S T' (.pointer (some ⟨b0, 0, none⟩)) rb v' cap L M' q x) => lk_drop R.both.lk (by omega) (ok_wf (unhide HOK)).1 (ok_wf (unhide HOK)).2 x.i)
          rw [hz, her, hM] at HR
          rw [her, hM] at HA
          have c4 := (unhide R5).act.c4
          clear hz her hM h4 h5
          go_wp2_with (first
            | (go_at_call 11; (with_reducible refine (unhide HR).mono ?_); rintro e6 w6 ⟨rfl, k6, v6, T6, g6, r6⟩; have R6 := hide ((unhide R5).stepR k6 g6 r6); clear k6 g6 r6 c4 c0)
            | (go_at_call 12; (with_reducible refine (unhide HA _ _ _ _ (unhide R8)).mono ?_); rintro e9 w9 ⟨rfl, k9, S9, g9, l9⟩; have R9 := hide ((unhide R8).stepA k9 g9 l9); clear k9 g9 l9 c4)
            | (go_at_call 18; (with_reducible refine (alike_any (unhide R9).both.lk (unhide R9).both.rf (by have := unhide HML; omega)).mono ?_); rintro ez wz ⟨rfl, kz⟩)
            | ((with_reducible show wpList _ _ _ (_ :: _) _ _); first
              | (refine wpL_alloc rfl 33 rfl _ zero_mail ?_; intro pa w7 e7 k7 g7 z7; have eq7 : w6.heap.size ≤ pa := Nat.le_of_eq e7; clear e7 z7)
              | (refine wpL_store rfl 33 (.tmp 18) (.tmp 116) rfl pa z.cells.toArray rfl rfl _ _ g7 info_mail rfl (all_oneCell_toArray (ML.one _)) ?_; intro w8 k8 g8 z8; have R8 := hide ((unhide R6).no (k7.past k8 eq7)); have c4 := (unhide R8).act.c4; clear k7 k8 g7 z8 g8)))
          have REL := hide (show PlayAt w (.pointer (some ⟨b0, 0, none⟩)) rb cap l.length (.int .i64 ((k : Int) + 1)) wz from ⟨k + 1, _, _, _, M, by omega, by go_num, ((unhide R9).no kz).both, by have := unhide HLE; have := unhide HML; omega⟩)
          go_roundw
          case rel => exact unhide REL
          case measure => simp [intOf]; omega
        · have e5 : (kd == 5) = false := by simpa using h5
          by_cases h6 : kd = 6
          · have e6 : (kd == 6) = true := by simpa using h6
            obtain ⟨er, her⟩ : ∃ z, dblE cap L x.m.fr x.m.to x.i = z := ⟨_, rfl⟩
            obtain ⟨M, hM⟩ : ∃ z, dblL cap L x.m.fr x.m.to x.i = z := ⟨_, rfl⟩
            have HML := hide (show M.length ≤ L.length + 1 by rw [← hM]; exact dbl_len _ _ _ _ _)
            have HA := hide (lk_double ((unhide R5).no (Chg.refl noBlk w5).drew).both.lk (by omega) (ok_wf (unhide HOK)).1 (ok_wf (unhide HOK)).2 x.i)
            have HR := hide (fun w' S' L' (R : Rnd w w' S' T (.pointer (some ⟨b0, 0, none⟩)) rb v cap L' L q x) => rdouble_any R.both.rf (by omega) h2 x.m.fr x.m.to x.i)
            rw [her, hM] at HR HA
            have c4 := (unhide R5).act.c4
            have c4d : w5.drew.cell? ⟨q, 4, none⟩ = some (.int .i64 x.i) := c4
            clear her hM h4 h5 h6
            go_wp2_with fail
            go_region_held3 (fun w' => w'.cell? ⟨q, 4, none⟩ = some (.int .i64 x.i))
              ((first | assumption))
              (first
                | (go_at_call 13; (with_reducible refine (unhide HA).mono ?_); rintro e6 w6 ⟨rfl, k6, S6, g6, l6⟩; have R6 := hide (((unhide R5).no (Chg.refl noBlk w5).drew).stepA k6 g6 l6); have c46 := (unhide R6).act.c4; clear k6 g6 l6)
                | (go_at_call 14; (with_reducible refine (unhide HR _ _ _ (unhide R6)).mono ?_); rintro e9 w9 ⟨rfl, k9, v9, T9, g9, r9⟩; have R9 := hide ((unhide R6).stepR k9 g9 r9); have c49 := (unhide R9).act.c4; clear k9 g9 r9))
            all_goals
              rename_i hJ
              clear hJ c4 c4d c46 c49 HA HR c0
              go_wp2_with (go_at_call 18; (with_reducible refine (alike_any (unhide R9).both.lk (unhide R9).both.rf (by have := unhide HML; omega)).mono ?_); rintro ez wz ⟨rfl, kz⟩)
              have REL := hide (show PlayAt w (.pointer (some ⟨b0, 0, none⟩)) rb cap l.length (.int .i64 ((k : Int) + 1)) wz from ⟨k + 1, _, _, _, M, by omega, by go_num, ((unhide R9).no kz).both, by have := unhide HLE; have := unhide HML; omega⟩)
              go_roundw
              case rel => exact unhide REL
              case measure => simp [intOf]; omega
          · have e6 : (kd == 6) = false := by simpa using h6
            by_cases h7 : kd = 7
            · have e7 : (kd == 7) = true := by simpa using h7
              have HC := hide (lk_copy (unhide R5).both.lk (by omega))
              obtain ⟨r1, hr1⟩ : ∃ z, snd cap L x.m = z := ⟨_, rfl⟩
              obtain ⟨M1, hM1⟩ : ∃ z, sndL cap L x.m = z := ⟨_, rfl⟩
              have hl1 : M1.length ≤ L.length + 1 := by rw [← hM1]; exact snd_len _ _ _
              have HSN := hide (fun w' S' p' (h : IsLk w' S' p' cap L) => lk_send h x.m (by omega))
              rw [hr1, hM1] at HSN
              obtain ⟨r2, hr2⟩ : ∃ z, fndE M1 x.m.fr x.m.to 0 = z := ⟨_, rfl⟩
              obtain ⟨M2, hM2⟩ : ∃ z, dlv M1 x.m.fr x.m.to 0 = z := ⟨_, rfl⟩
              have hl2 : M2.length ≤ M1.length := by rw [← hM2]; exact dlv_len _ _ _ _
              have HD1 := hide (fun w' S' p' (h : IsLk w' S' p' cap M1) => lk_drop h (by omega) (ok_wf (unhide HOK)).1 (ok_wf (unhide HOK)).2 0)
              rw [hr2, hM2] at HD1
              obtain ⟨r3, hr3⟩ : ∃ z, fndE M2 x.m.fr x.m.to 0 = z := ⟨_, rfl⟩
              obtain ⟨M3, hM3⟩ : ∃ z, dlv M2 x.m.fr x.m.to 0 = z := ⟨_, rfl⟩
              have HD2 := hide (fun w' S' p' (h : IsLk w' S' p' cap M2) => lk_drop h (by omega) (ok_wf (unhide HOK)).1 (ok_wf (unhide HOK)).2 0)
              rw [hr3, hM3] at HD2
              have t1 : True := True.intro
              clear h4 h5 h6 h7 hr1 hM1 hr2 hM2 hr3 hM3 c0 hl1 hl2
              go_wp2_with (first
                | (go_at_call 15; (with_reducible refine (unhide HC).mono ?_); rintro e6 w6 ⟨cb, S6, rfl, f6, l6, k6⟩; have C6 := hide (show Own w5 w6 S6 _ cap L from ⟨l6, f6, k6⟩); have A6 := hide ((unhide R5).no k6).act.mail; clear f6 l6 k6)
                | (go_at_call 16; (with_reducible refine (unhide HSN _ _ _ (unhide C6).lk).mono ?_); rintro e7 w7 ⟨rfl, k7, S7, g7, l7⟩; have C7 := hide ((unhide C6).step k7 g7 l7); clear k7 g7 l7)
                | (clear t1; go_at_call 12; (with_reducible refine (unhide HD1 _ _ _ (unhide C7).lk).mono ?_); rintro e8 w8 ⟨rfl, k8, S8, g8, l8⟩; have C8 := hide ((unhide C7).step k8 g8 l8); clear k8 g8 l8)
                | (go_at_call 12; (with_reducible refine (unhide HD2 _ _ _ (unhide C8).lk).mono ?_); rintro e9 w9 ⟨rfl, k9, S9, g9, l9⟩; have R9 := hide ((unhide R5).no ((unhide C8).step k9 g9 l9).chg); clear k9 g9 l9)
                | (go_at_call 18; (with_reducible refine (alike_any (unhide R9).both.lk (unhide R9).both.rf (by omega)).mono ?_); rintro ez wz ⟨rfl, kz⟩)
                | ((with_reducible show wpList _ _ _ (_ :: _) _ _); refine wpList_load_mid rfl 33 (.tmp 146) rfl q 1 rfl x.m.cells _ (unhide A6) Try.underlying33 rfl (by rw [info_mail]; rfl) ?_))
              have REL := hide (show PlayAt w (.pointer (some ⟨b0, 0, none⟩)) rb cap l.length (.int .i64 ((k : Int) + 1)) wz from ⟨k + 1, _, _, _, L, by omega, by go_num, ((unhide R9).no kz).both, by have := unhide HLE; omega⟩)
              go_roundw
              case rel => exact unhide REL
              case measure => simp [intOf]; omega
            · have e7 : (kd == 7) = false := by simpa using h7
              obtain ⟨er, her⟩ : ∃ z, snd cap L x.m = z := ⟨_, rfl⟩
              obtain ⟨M, hM⟩ : ∃ z, sndL cap L x.m = z := ⟨_, rfl⟩
              have HML := hide (show M.length ≤ L.length + 1 by rw [← hM]; exact snd_len _ _ _)
              have HA := hide (lk_send ((unhide R5).no (Chg.refl noBlk w5).drew).both.lk x.m (by omega))
              have HR := hide (fun w' S' L' (R : Rnd w w' S' T (.pointer (some ⟨b0, 0, none⟩)) rb v cap L' L q x) => rsend_any R.both.rf (by omega) h2 x.m)
              rw [her, hM] at HR HA
              have c4 := run_ldMl_act (unhide R5).act
              have c4d : (ldMl (.pointer (some ⟨q, 1, none⟩))).run Try.prog w5.drew = .ok (.agg x.m.cells.toArray) w5.drew := run_ldMl_act ((unhide R5).no (Chg.refl noBlk w5).drew).act
              clear her hM h4 h5 h6 h7
              go_wp2_with fail
              go_region_held3 (fun w' => (ldMl (.pointer (some ⟨q, 1, none⟩))).run Try.prog w' = .ok (.agg x.m.cells.toArray) w')
                ((first | assumption))
                (first
                  | (go_at_call 16; (with_reducible refine (unhide HA).mono ?_); rintro e6 w6 ⟨rfl, k6, S6, g6, l6⟩; have R6 := hide (((unhide R5).no (Chg.refl noBlk w5).drew).stepA k6 g6 l6); have c46 := run_ldMl_act (unhide R6).act; clear k6 g6 l6)
                  | (go_at_call 17; (with_reducible refine (unhide HR _ _ _ (unhide R6)).mono ?_); rintro e9 w9 ⟨rfl, k9, v9, T9, g9, r9⟩; have R9 := hide ((unhide R6).stepR k9 g9 r9); have c49 := run_ldMl_act (unhide R9).act; clear k9 g9 r9))
              all_goals
                rename_i hJ
                clear hJ c4 c4d c46 c49 HA HR c0
                go_wp2_with (go_at_call 18; (with_reducible refine (alike_any (unhide R9).both.lk (unhide R9).both.rf (by have := unhide HML; omega)).mono ?_); rintro ez wz ⟨rfl, kz⟩)
                have REL := hide (show PlayAt w (.pointer (some ⟨b0, 0, none⟩)) rb cap l.length (.int .i64 ((k : Int) + 1)) wz from ⟨k + 1, _, _, _, M, by omega, by go_num, ((unhide R9).no kz).both, by have := unhide HLE; have := unhide HML; omega⟩)
                go_roundw
                case rel => exact unhide REL
                case measure => simp [intOf]; omega
    · obtain rfl : k = l.length := by omega
      have HC := hide (lk_copy (unhide HB).lk (by omega))
      go_wp2_with (first
        | (go_at_call 15; (with_reducible refine (unhide HC).mono ?_); rintro e6 w6 ⟨cb, S6, rfl, f6, l6, k6⟩; have L6 := hide l6; have B6 := hide ((unhide HB).no k6); clear f6 l6 k6)
        | (go_at_call 18; (with_reducible refine (alike_any (unhide L6) (unhide B6).rf (by omega)).mono ?_); rintro ez wz ⟨rfl, kz⟩)
        | (go_at_call 7; (with_reducible refine (mailed_any _).mono ?_); rintro e9 w9 ⟨rfl, k9⟩))
      go_ret
      exact ⟨rfl, (((unhide B6).no kz).no k9).chg⟩
end Go.Proofs.Ytngldlfobdiipaa.Lk
