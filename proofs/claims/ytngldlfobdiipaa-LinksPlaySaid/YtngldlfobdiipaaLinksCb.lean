/-
  Links: the law's comparing: texts, Alike.
-/
import Derived.Test.YtngldlfobdiipaaLinksBb
import Derived.Test.YtngldlfobdiipaaLinksP
import Derived.Deep.RegionHeld3
import Derived.Deep.DeepCutAuto
namespace Go.Proofs.Ytngldlfobdiipaa.Lk
open Go.ChangeShapes Go.WideShapes Go.ChangeAt Go.RowKit
set_option linter.unusedVariables false
attribute [local go_sem] bs_size bs_app bs_cut bs_tl bs_at
attribute [local go_sem ↓] Go.wp_at_zero Go.wp_at_succ
set_option maxRecDepth 100000 in
theorem texts_same {w : World} {v1 v2 : Value} {T : List (List UInt8)} (h1 : OwnT w v1 T) (h2 : OwnT w v2 T) (hl : T.length ≤ 1000) : Calls Try.prog 32 #[v1, v2] w (ToldN (.bool true) w) := by
  obtain ⟨ad1, c1, rfl⟩ := own_form h1
  obtain ⟨ad2, c2, rfl⟩ := own_form h2
  have HA := hide h1
  have HB := hide h2
  have d0 : ((T.length : Int) != (T.length : Int)) = false := by simp
  clear h1 h2
  go_enter Try.func32, Try.ntmps32
  go_wp2
  go_loopw [5] (fun i wr => ∃ k : Nat, k ≤ T.length ∧ i = .int .i64 (k : Int) ∧ Chg noBlk w wr) (fun i wr => T.length - (intOf i).toNat)
  case atStart => exact ⟨0, by omega, rfl, Chg.refl _ _⟩
  case round =>
    obtain ⟨k, hk, rfl, kw⟩ := hrel
    have KW := hide kw
    clear kw
    by_cases hlt : k < T.length
    · have d1 : decide (k < T.length) = true := by simpa using hlt
      obtain ⟨t, ht⟩ : ∃ t, T[k]? = some t := ⟨_, List.getElem?_eq_getElem hlt⟩
      obtain ⟨g1, q1, e1, x1⟩ := own_cell ((unhide HA).no (unhide KW)) ht
      obtain ⟨g2, q2, e2, x2⟩ := own_cell ((unhide HB).no (unhide KW)) ht
      injection e1 with e1 _ e3
      injection e2 with e2 _ e4
      subst e1
      subst e2
      subst e3
      subst e4
      have i1 : (0 : Int) ≤ (k : Int) := by omega
      have i2 : (k : Int) < (T.length : Int) := by omega
      have i3 : (k : Int) ≤ 1000 := by omega
      have dt : (t == t) = true := by simp
      clear ht
      go_wp2
      go_quiet (fail)
      clear x1 x2
      have KZ := hide ((unhide KW).drewN nq)
      go_wp2
      go_roundw
      case rel => exact ⟨k + 1, by omega, by go_num, unhide KZ⟩
      case measure => simp [intOf]; omega
    · obtain rfl : k = T.length := by omega
      go_wp2
      go_ret
      exact ⟨rfl, unhide KW⟩
set_option maxRecDepth 100000 in
theorem eq_arr (a b : Int) (w : World) : (Op.equalIn 10000 65 (.agg #[.int .i64 a, .int .i64 b]) (.agg #[.int .i64 a, .int .i64 b])).run Try.prog w = .ok true w := by
  have hi := info_arr
  cases hq : Try.prog.info? 65 with
  | none => simp [hq] at hi
  | some i =>
    cases hz : Try.prog.info? 3 with
    | none => exact absurd hz (by decide +kernel)
    | some j =>
      rw [run_equalIn_array w 9999 _ _ Try.underlying65 hz]
      rw [show List.range 2 = [0, 1] from rfl]
      have c1 : Try.prog.cellsOf 3 = 1 := by kernel_rfl
      rw [c1]
      simp [Op.eqItems, go_sem]
attribute [local go_sem ↓] eq_arr
/-- told: these are just the document's -/
theorem pair_cell {w : World} {ps : List (Int × Int)} {ad : Option Addr} (h : RowsIn encP (fun _ => True) 2 w ad ps) {k : Nat} {x : Int × Int} (hx : ps[k]? = some x) : ∃ g off, ad = some ⟨g, off, none⟩ ∧ w.rangeAt g (off + k * 2) (encP x) := by
  obtain ⟨_, g, off, e, hr⟩ := h k x hx
  exact ⟨g, off, e, hr⟩
theorem two_pairs {wr w' : World} {g1 o1 g2 o2 k : Nat} {x : Int × Int} (h1 : wr.rangeAt g1 (o1 + k * 2) (encP x)) (h2 : wr.rangeAt g2 (o2 + k * 2) (encP x)) (c : Chg noBlk wr w') :
    Chg noBlk wr w' ∧ w'.cell? ⟨g1, o1 + k * 2, none⟩ = some (.int .i64 x.1) ∧ w'.cell? ⟨g1, o1 + k * 2 + 1, none⟩ = some (.int .i64 x.2) ∧ w'.cell? ⟨g2, o2 + k * 2, none⟩ = some (.int .i64 x.1) ∧ w'.cell? ⟨g2, o2 + k * 2 + 1, none⟩ = some (.int .i64 x.2) :=
  ⟨c, range_kept h1 c 0 _ rfl, range_kept h1 c 1 _ rfl, range_kept h2 c 0 _ rfl, range_kept h2 c 1 _ rfl⟩
set_option maxRecDepth 100000 in
set_option maxHeartbeats 8000000 in
theorem alike_any {w : World} {S T : Nat → Prop} {p : Value} {b cap cap' : Nat} {v : Value} {L : List ML} (ha : IsLk w S p cap L) (hr : RefAt w T b v cap' L) (hl : L.length ≤ 999) :
    Calls Try.prog 18 #[p, .pointer (some ⟨b, 0, none⟩)] w (ToldN (.bool true) w) := by
  have HP := hide (lk_pairs ha (by omega))
  have HQ := hide (fun w' (k : Chg noBlk w w') => rpairs_any (hr.no k) (by omega))
  have HAL := hide (fun w' (k : Chg noBlk w w') => lk_all (ha.no k) (by omega))
  have HLL := hide (fun w' (k : Chg noBlk w w') x y (hx : wfI x) (hy : wfI y) => lk_list (ha.no k) (by omega) hx hy)
  have HRL := hide (fun w' (k : Chg noBlk w w') x y => rlist_any (hr.no k) (by omega) x y)
  have HCN := hide (fun w' (k : Chg noBlk w w') x y (hx : wfI x) (hy : wfI y) => lk_count (ha.no k) hx hy)
  have HFT := hide ha.fit
  have HGI := hide (gridP_is ha.fit)
  obtain ⟨gs, hgs⟩ : ∃ gs, gridP L 38 = gs := ⟨_, rfl⟩
  rw [hgs] at HQ HGI
  clear hgs
  obtain ⟨adl, cpl, rfl⟩ := hr.form
  have HH := hide hr
  have d0 : ((L.length : Int) != (L.length : Int)) = false := by simp
  clear ha hr
  go_enter Try.func18, Try.ntmps18
  go_upto_region 2 with (first
    | (go_at_call 19; (with_reducible refine (unhide HP).mono ?_); rintro e w2 ⟨ps, hps, vp, rfl, k2, o2, f2⟩; have HPS := hide hps; have K2 := hide k2; obtain ⟨adp, cpp, rfl, _, _, rp⟩ := o2.form encP_len; have RP := hide rp; clear o2 f2 rp hps k2)
    | (go_at_call 31; (with_reducible refine (unhide HQ _ (unhide K2)).mono ?_); rintro e w3 ⟨vq, rfl, k3, o3, f3⟩; have epq := (unhide HPS).one (unhide HGI); subst epq; obtain ⟨adq, cpq, rfl, _, _, rq⟩ := o3.form encP_len; have RQ := hide rq; have K3 := hide ((unhide K2).andNo k3); have RP3 := hide (rows_no (unhide RP) k3); clear o3 f3 rq k3))
  have i0 : ps.length ≤ 1000 := Nat.le_trans (unhide HPS).few (by omega)
  have d1 : ((ps.length : Int) != (ps.length : Int)) = false := by simp
  have HAL3 := hide (unhide HAL _ ((unhide K3).drew))
  have KE := hide (fun w' (k : Chg noBlk w3 w') => (show Chg noBlk w3 w' ∧ w'.cell? ⟨b, 1, none⟩ = some (.slice adl L.length cpl) from ⟨k, ((unhide HH).no ((unhide K3).andNo k)).c1⟩))
  have B0 := Chg.refl noBlk w3
  clear RP
  go_region_held3 (fun w' => Chg noBlk w3 w' ∧ w'.cell? ⟨b, 1, none⟩ = some (.slice adl L.length cpl))
    ((refine unhide KE _ ?_; go_split_ands; first | assumption | exact Chg.drew (by assumption) | exact Chg.drewN (by assumption) _ | exact Chg.andNo (by assumption) (by assumption)))
    ((go_at_call 22; (with_reducible refine (unhide HAL3).mono ?_); rintro e w4 ⟨rfl, k4⟩; have k34 : Chg noBlk w3 w4 := (B0.drew).andNo k4))
  have K4 := hide ((unhide K3).andNo k34)
  have RP4 := hide (rows_no (unhide RP3) k34)
  have RQ4 := hide (rows_no (unhide RQ) k34)
  rename_i hJ
  clear hJ k34 k4 B0 KE HAL3 RP3 RQ K3 HP HQ HAL d0
  have HH4 := hide ((unhide HH).no (unhide K4))
  have z1 : sel L (-1) 0 = [] := by
    refine Classical.byContradiction fun h => ?_
    obtain ⟨m, hm, e1, e2⟩ := sel_mem h
    have := isA_yes.1 ((unhide HFT).1 m hm).1
    omega
  have z2 : sel L 38 99 = [] := by
    refine Classical.byContradiction fun h => ?_
    obtain ⟨m, hm, e1, e2⟩ := sel_mem h
    have := isA_yes.1 ((unhide HFT).1 m hm).1
    omega
  have HC1 := hide (fun w' (k : Chg noBlk w w') => (show Calls Try.prog 20 #[p, .int .i64 (-1), .int .i64 0] w' (Told (.int .i64 0) w') from by
    have := unhide HCN w' k (-1) 0 (wfI_of (by omega)) (wfI_of (by omega))
    rw [z1] at this
    exact this))
  have HC2 := hide (fun w' (k : Chg noBlk w w') => (show Calls Try.prog 21 #[p, .int .i64 38, .int .i64 99] w' (NewT [] w') from by
    have := unhide HLL w' k 38 99 (wfI_of (by omega)) (wfI_of (by omega))
    rw [z2] at this
    exact this))
  clear z1 z2
  go_wp2_with fail
  go_loopw [7] (fun i wr => ∃ k : Nat, k ≤ ps.length ∧ i = .int .i64 (k : Int) ∧ Chg noBlk w4 wr) (fun i wr => ps.length - (intOf i).toNat)
  case atStart => exact ⟨0, by omega, rfl, Chg.refl _ _⟩
  case round =>
    obtain ⟨k, hk, rfl, kw⟩ := hrel
    have KW := hide kw
    have KV := hide ((unhide K4).andNo kw)
    clear kw
    by_cases hlt : k < ps.length
    · have d2 : decide (k < ps.length) = true := by simpa using hlt
      obtain ⟨x, hx⟩ : ∃ x, ps[k]? = some x := ⟨_, List.getElem?_eq_getElem hlt⟩
      obtain ⟨hw1, hw2⟩ := (unhide HPS).wf x (List.mem_of_getElem? hx)
      obtain ⟨g1, o1, rfl, r1⟩ := pair_cell (unhide RP4) hx
      obtain ⟨g2, o2, rfl, r2⟩ := pair_cell (unhide RQ4) hx
      have R1 := hide (range_kept r1 (unhide KW))
      have R2 := hide (range_kept r2 (unhide KW))
      have x0 : wr.cell? ⟨g2, o2 + k * 2, none⟩ = some (.int .i64 x.1) := unhide R2 0 _ rfl
      have x1 : wr.cell? ⟨g2, o2 + k * 2 + 1, none⟩ = some (.int .i64 x.2) := unhide R2 1 _ rfl
      obtain ⟨T, hT⟩ : ∃ T, sel L x.1 x.2 = T := ⟨_, rfl⟩
      have hTl : T.length ≤ 1000 := by rw [← hT]; exact Nat.le_trans (sel_len _ _ _) (by omega)
      have H1 := hide (fun w' (k : Chg noBlk w w') => (show Calls Try.prog 21 #[p, .int .i64 x.1, .int .i64 x.2] w' (NewT T w') from hT ▸ unhide HLL w' k x.1 x.2 hw1 hw2))
      have H2 := hide (fun w' (k : Chg noBlk w w') => (show Calls Try.prog 25 #[.pointer (some ⟨b, 0, none⟩), .int .i64 x.1, .int .i64 x.2] w' (NewT T w') from hT ▸ unhide HRL w' k x.1 x.2))
      have H3 := hide (fun w' (k : Chg noBlk w w') => (show Calls Try.prog 20 #[p, .int .i64 x.1, .int .i64 x.2] w' (Told (.int .i64 (T.length : Int)) w') from hT ▸ unhide HCN w' k x.1 x.2 hw1 hw2))
      have i1 : (0 : Int) ≤ (k : Int) := by omega
      have i2 : (k : Int) < (ps.length : Int) := by omega
      have i3 : (k : Int) ≤ 1000 := by omega
      clear hx hw1 hw2 r1 r2 hT
      go_wp2
      go_quiet (fail)
      clear x0 x1
      have KQ := hide (((Chg.refl noBlk wr)).drewN nq)
      go_upto_region 9 with (go_at_call 21; (with_reducible refine (unhide H1 _ ((unhide KV).andNo (unhide KQ))).mono ?_); rintro e w5 ⟨v5, rfl, k5, o5, f5⟩; obtain ⟨ad5, cp5, e5⟩ := own_form o5; subst e5; have K5 := hide ((unhide KQ).andNo k5); have O5 := hide o5; clear k5 o5 f5)
      have KV5 := hide ((unhide KV).andNo (unhide K5))
      have d4 : ((T.length : Int) != (T.length : Int)) = false := by simp
      have KE := hide (fun w' (c : Chg noBlk w5 w') => two_pairs (wr := w5) (w' := w') (range_kept (unhide R1) (unhide K5)) (range_kept (unhide R2) (unhide K5)) c)
      have HB1 := hide (fun w' (c : Chg noBlk w5 w' ∧ w'.cell? ⟨g1, o1 + k * 2, none⟩ = some (.int .i64 x.1) ∧ w'.cell? ⟨g1, o1 + k * 2 + 1, none⟩ = some (.int .i64 x.2) ∧ w'.cell? ⟨g2, o2 + k * 2, none⟩ = some (.int .i64 x.1) ∧ w'.cell? ⟨g2, o2 + k * 2 + 1, none⟩ = some (.int .i64 x.2)) => unhide H2 w' ((unhide KV5).andNo c.1))
      have HB2 := hide (fun w' v (c : Chg noBlk w5 w' ∧ w'.cell? ⟨g1, o1 + k * 2, none⟩ = some (.int .i64 x.1) ∧ w'.cell? ⟨g1, o1 + k * 2 + 1, none⟩ = some (.int .i64 x.2) ∧ w'.cell? ⟨g2, o2 + k * 2, none⟩ = some (.int .i64 x.1) ∧ w'.cell? ⟨g2, o2 + k * 2 + 1, none⟩ = some (.int .i64 x.2)) (o : OwnT w' v T) => texts_same ((unhide O5).no c.1) o hTl)
      have HB3 := hide (fun w' (c : Chg noBlk w5 w' ∧ w'.cell? ⟨g1, o1 + k * 2, none⟩ = some (.int .i64 x.1) ∧ w'.cell? ⟨g1, o1 + k * 2 + 1, none⟩ = some (.int .i64 x.2) ∧ w'.cell? ⟨g2, o2 + k * 2, none⟩ = some (.int .i64 x.1) ∧ w'.cell? ⟨g2, o2 + k * 2 + 1, none⟩ = some (.int .i64 x.2)) => unhide H3 w' ((unhide KV5).andNo c.1))
      have B0 := Chg.refl noBlk w5
      clear H1 H2 H3
      go_region_held3 (fun w' => Chg noBlk w5 w' ∧ w'.cell? ⟨g1, o1 + k * 2, none⟩ = some (.int .i64 x.1) ∧ w'.cell? ⟨g1, o1 + k * 2 + 1, none⟩ = some (.int .i64 x.2) ∧ w'.cell? ⟨g2, o2 + k * 2, none⟩ = some (.int .i64 x.1) ∧ w'.cell? ⟨g2, o2 + k * 2 + 1, none⟩ = some (.int .i64 x.2))
        ((refine unhide KE _ ?_; go_split_ands; first | assumption | exact Chg.drew (by assumption) | exact Chg.drewN (by assumption) _ | exact Chg.andNo (by assumption) (by assumption)))
        (first
          | (go_at_call 25; (with_reducible refine (unhide HB1 _ (by assumption)).mono ?_); rintro e w6 ⟨v6, rfl, k6, o6, f6⟩; have k56 : Chg noBlk w5 w6 := (B0.drew).andNo k6)
          | (go_at_call 32; (with_reducible refine (unhide HB2 _ _ (by assumption) o6).mono ?_); rintro e w7 ⟨rfl, k7⟩; have k57 : Chg noBlk w5 w7 := k56.andNo k7)
          | (go_at_call 20; (with_reducible refine (unhide HB3 _ (by assumption)).mono ?_); rintro e w8 ⟨rfl, rfl⟩))
      all_goals
        have K9 := hide ((unhide K5).andNo k57)
        rename_i hJ
        clear hJ k57 k7 k56 f6 o6 k6 B0 KE HB1 HB2 HB3
        go_wp2
        go_roundw
        case rel => exact ⟨k + 1, by omega, by go_num, (unhide KW).andNo (unhide K9)⟩
        case measure => simp [intOf]; omega
    · obtain rfl : k = ps.length := by omega
      go_wp2_with (first
        | (go_at_call 20; (with_reducible refine (unhide HC1 _ (unhide KV)).mono ?_); rintro e w5 ⟨rfl, rfl⟩)
        | (go_at_call 21; (with_reducible refine (unhide HC2 _ (unhide KV)).mono ?_); rintro e w5 ⟨v5, rfl, k5, o5, f5⟩; obtain ⟨ad5, cp5, e5⟩ := own_form o5; subst e5))
      go_ret
      exact ⟨rfl, (unhide KV).andNo k5⟩
end Go.Proofs.Ytngldlfobdiipaa.Lk
