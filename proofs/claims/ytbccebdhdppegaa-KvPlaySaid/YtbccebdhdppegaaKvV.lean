/-
  Keys with values: whatever is applied, and looked at, is the document's.
-/
import Derived.Test.YtbccebdhdppegaaKvU
namespace Go.Proofs.Ytbccebdhdppegaa
open Go.ChangeShapes Go.WideShapes Go.ChangeAt Go.RowKit
set_option linter.unusedVariables false
attribute [local go_sem] bs_size bs_app bs_cut bs_tl bs_at
attribute [local go_sem ↓] eq_res
theorem map_no_cell {w : World} {m : Nat} {L : List KV} (h : MapAt w m L) (o : Nat) : w.cell? ⟨m, o, none⟩ = none := by
  obtain ⟨es, clock, hb, _⟩ := h
  simp [World.cell?, hb]
theorem SlC.but {w w' : World} {ad : Option Addr} {cap m : Nat} {L M : List KV} (h : SlC w ad cap L) (hm : MapAt w m M) (k : Chg (oneBlk m) w w') : SlC w' ad cap L :=
  ⟨h.le, h.few, h.nil, h.at_, fun i c hc => by
    obtain ⟨t, g, off, e, hr⟩ := h.cells i c hc
    refine ⟨t, g, off, e, fun j v hv => k.cell (hr j v hv) fun e => ?_⟩
    have e : g = m := e
    subst e
    have := hr j v hv
    rw [map_no_cell hm] at this
    cases this⟩
theorem apply_lit {w : World} {b m : Nat} {L M : List KV} {i : Int} {o : PT} {y1 y3 y4 : Int} {y2 : List UInt8} (h : StAt w b m L) (hn : L.length ≤ 400) (e : appR L i o = ⟨y1, y2, y3, y4⟩) (e1 : appL L i o = M) :
    Calls Try.prog 12 #[.pointer (some ⟨b, 0, none⟩), .int .i64 i, .agg o.cells.toArray] w (fun e w' => e = .returned (.agg #[.int .i64 y1, str y2, .int .i64 y3, .int .i64 y4]) ∧ Chg (oneBlk m) w w' ∧ StAt w' b m M) := by
  have := apply_at h i o (by unfold maxLen; omega)
  rw [e, e1] at this
  exact this
theorem rapply_lit {w : World} {ad : Option Addr} {cap : Nat} {L M : List KV} {i : Int} {o : PT} {y1 y3 y4 : Int} {y2 : List UInt8} (h : SlC w ad cap L) (hn : L.length ≤ 400) (e : appR L i o = ⟨y1, y2, y3, y4⟩) (e1 : appL L i o = M) :
    Calls Try.prog 13 #[.slice ad L.length cap, .int .i64 i, .agg o.cells.toArray] w (fun e w' => ∃ ad' cap', e = .returned (.tuple #[.slice ad' M.length cap', .agg #[.int .i64 y1, str y2, .int .i64 y3, .int .i64 y4]]) ∧ SlC w' ad' cap' M ∧ Chg noBlk w w') := by
  have := rapply_at h (by omega) i o
  rw [e, e1] at this
  exact this
/-- where the acts stand -/
def PlayAt (w0 : World) (b m len : Nat) (c nx i : Value) (w : World) : Prop :=
  ∃ (n N : Nat) (L : List KV) (ad : Option Addr) (cap : Nat), n ≤ len ∧ i = .int .i64 (n : Int) ∧ nx = .int .i64 (N : Int) ∧ N ≤ n + 1 ∧ c = .slice ad L.length cap ∧ StAt w b m L ∧ SlC w ad cap L ∧ Keyd L ∧ L.length ≤ n ∧ Chg noBlk w0 w
theorem three_keep {w2 w' : World} {P : Addr} {q m : Nat} {a b c d : Value} {p : Nat} {e f g h : Value} (a2 : w2.cell? ⟨q, 2, none⟩ = some a) (a3 : w2.cell? ⟨q, 3, none⟩ = some b) (a4 : w2.cell? ⟨q, 4, none⟩ = some c) (a5 : w2.cell? ⟨q, 5, none⟩ = some d)
    (b0 : w2.cell? ⟨p, 0, none⟩ = some e) (b1 : w2.cell? ⟨p, 1, none⟩ = some f) (b2 : w2.cell? ⟨p, 2, none⟩ = some g) (b3 : w2.cell? ⟨p, 3, none⟩ = some h) (hq : q ≠ m) (hp : p ≠ m) (k : Chg (oneBlk m) w2 w') :
    Chg (oneBlk m) w2 w' ∧ w'.cell? ⟨q, 2, none⟩ = some a ∧ w'.cell? ⟨q, 3, none⟩ = some b ∧ w'.cell? ⟨q, 4, none⟩ = some c ∧ w'.cell? ⟨q, 5, none⟩ = some d ∧ w'.cell? ⟨p, 0, none⟩ = some e ∧ w'.cell? ⟨p, 1, none⟩ = some f ∧ w'.cell? ⟨p, 2, none⟩ = some g ∧ w'.cell? ⟨p, 3, none⟩ = some h :=
  ⟨k, k.cell a2 hq, k.cell a3 hq, k.cell a4 hq, k.cell a5 hq, k.cell b0 hp, k.cell b1 hp, k.cell b2 hp, k.cell b3 hp⟩
theorem built_spoil : Try.prog.built 29 [(0, .int .i64 2), (1, .string ⟨#[107]⟩), (2, .string ⟨#[115, 112, 111, 105, 108, 116]⟩)] = some (PT.cells ⟨2, [107], [115, 112, 111, 105, 108, 116], 0⟩).toArray := by kernel_rfl
theorem built_take (k : List UInt8) : Try.prog.built 29 [(0, .int .i64 3), (1, str k)] = some (PT.cells ⟨3, k, [], 0⟩).toArray := by kernel_rfl
set_option maxRecDepth 100000 in
set_option maxHeartbeats 8000000 in
theorem play_in (ad : Option Addr) (l : List AT) (cap : Nat) (w : World) (h : ActsIn w ad l) (hg : greatL l 100 = false) :
    Calls Try.prog 3 #[.slice ad l.length cap] w (ToldN (.bool true) w) := by
  have hl := (greatL_no hg).1
  have HGR := hide (greatL_no hg).2
  have HG := hide (great_any ad l cap 100 w (by omega) h (by omega))
  rw [hg] at HG
  have HA := hide h
  clear h hg
  go_enter Try.func3, Try.ntmps3
  go_wp2_with (first
    | (go_at_call 6; refine (unhide HG).mono ?_; rintro e w1 ⟨rfl, k1⟩)
    | (go_at_call 8; (with_reducible refine (new_any _).mono ?_); rintro e w2 ⟨b, m, rfl, eb, em, k2, s2⟩))
  have hb0 : w.heap.size ≤ b := by have := k1.size; omega
  have hm0 : w.heap.size ≤ m := by have := k1.size; omega
  have HB0 := hide (show PlayAt w b m l.length (.slice none 0 0) (.int .i64 1) (.int .i64 0) w2 from ⟨0, 1, [], none, 0, by omega, rfl, rfl, by omega, rfl, s2, slc_nil _, (fun c hc => by cases hc), by simp, k1.andNo k2⟩)
  clear k1 k2 s2 HG eb em
  go_loopw [4, 5, 6] (fun c nx i wr => PlayAt w b m l.length c nx i wr) (fun c nx i wr => l.length - (intOf i).toNat)
  case atStart => exact unhide HB0
  case round =>
    clear HB0
    obtain ⟨n, N, L, ad2, cap2, hn, rfl, rfl, hN, rfl, hs, hc, hy, hL, kw⟩ := hrel
    have KW := hide kw
    have S0 := hide hs
    have C0 := hide hc
    have Y0 := hide hy
    clear kw hs hc hy
    by_cases hlt : n < l.length
    · have d1 : decide (n < l.length) = true := by simpa using hlt
      obtain ⟨a, ha⟩ : ∃ a, l[n]? = some a := ⟨_, List.getElem?_eq_getElem hlt⟩
      obtain ⟨hok, bb, off, rfl, hrng⟩ := unhide HA n a ha
      have hgr := great_no.1 (unhide HGR n a ha)
      have hkl : a.op.key.length ≤ maxLen := by unfold maxLen; omega
      have i1 : (0 : Int) ≤ (n : Int) := by omega
      have i2 : (n : Int) < (l.length : Int) := by omega
      have i3 : (0 : Int) ≤ (N : Int) := by omega
      have i4 : (N : Int) ≤ 101 := by omega
      have hr1 := hide (range_kept hrng (unhide KW))
      have k0 := hok.k0
      have KK := hide hkl
      have HCP := hide (fun w' (c : Chg noBlk wr w') => copy_at ((unhide S0).no c))
      clear ha hok hrng hgr hkl
      have t1 : True := True.intro
      have t2 : True := True.intro
      have t3 : True := True.intro
      by_cases s7 : a.k % 9 = 7
      · have t7 : (a.k % 9 == 7) = true := by simp; omega
        clear s7
        obtain ⟨rc, hrc⟩ : ∃ r, look L a.op.key a.i = r := ⟨_, rfl⟩
        obtain ⟨x1, x2, x3, x4⟩ := rc
        have HRC := hide hrc
        clear hrc
        go_wp2_with (first
          | (clear t1; go_at_call 9; (with_reducible refine (unhide HCP _ k5).mono ?_); rintro e w6 ⟨b2, m2, rfl, eb2, em2, k6, s6⟩; have A6 := A5.no k6; have K6 := hide (k5.andNo k6); have S6 := hide s6; have hxm : x < m2 := Nat.lt_of_lt_of_le A5.lt em2; have hmm2 : m < m2 := Nat.lt_of_lt_of_le ((unhide S0).no k5).m.lt em2; have hmb2 : m < b2 := Nat.lt_of_lt_of_le ((unhide S0).no k5).m.lt eb2; have hbm2 : b < m2 := Nat.lt_of_lt_of_le ((unhide S0).no k5).lt em2; have hwm2 : wr.heap.size ≤ m2 := Nat.le_trans k5.size em2; clear k5 k6 s6; have a0 := A6.c0; have a1 := A6.c1; have a2 := A6.c2; have a3 := A6.c3; have a4 := A6.c4; have a5 := A6.c5)
          | ((with_reducible show wpList _ _ _ (_ :: _) _ _); first
            | (refine wpList_load_mid rfl 31 (.tmp 24) rfl bb (off + n * 6) rfl a.cells _ (unhide hr1) Try.underlying31 rfl (by rw [size_act]; rfl) ?_)
            | (clear t2; refine wpL_alloc rfl 31 rfl _ zero_act ?_; intro x w4 e4 k4 g4 z4; have e4b : wr.heap.size ≤ x := Nat.le_of_eq e4; clear e4 z4)
            | (clear t3; refine wpL_store rfl 31 (.tmp 7) (.tmp 25) rfl x a.cells.toArray rfl rfl _ _ g4 (by rw [size_act]; rfl) rfl (all_oneCell_toArray (AT.one _)) ?_; intro w5 k5' g5 z5; have A5 : ActAt w5 x a := g5; have k5 := k4.past k5' e4b; clear k4 k5' g4 g5 z5)
            | fail))
        have HB1 := hide (fun w' (k : Chg noBlk w6 w' ∧ w'.cell? ⟨x, 3, none⟩ = some (str a.op.key) ∧ w'.cell? ⟨x, 1, none⟩ = some (.int .i64 a.i)) => look_is (((unhide S0).no (unhide K6)).no k.1) (unhide KK) (unhide HRC))
        have HB2 := hide (fun w' (k : Chg noBlk w6 w' ∧ w'.cell? ⟨x, 3, none⟩ = some (str a.op.key) ∧ w'.cell? ⟨x, 1, none⟩ = some (.int .i64 a.i)) => rlook_is (((unhide C0).no (unhide K6)).no k.1) (by omega) (unhide HRC))
        have KE' := hide (fun w' k => two_cells (w' := w') a3 a1 k)
        have B0 := Chg.refl noBlk w6
        clear a0 a1 a2 a3 a4 a5
        go_region_held3 (fun w' => Chg noBlk w6 w' ∧ w'.cell? ⟨x, 3, none⟩ = some (str a.op.key) ∧ w'.cell? ⟨x, 1, none⟩ = some (.int .i64 a.i))
          ((refine unhide KE' _ ?_; go_split_ands; first | assumption | exact Chg.drew (by assumption) | exact Chg.drewN (by assumption) _ | exact Chg.andNo (by assumption) (by assumption)))
          (first
            | (go_at_call 10; (with_reducible refine (unhide HB1 _ (by assumption)).mono ?_); rintro e w30 ⟨rfl, k30⟩)
            | (go_at_call 11; (with_reducible refine (unhide HB2 _ (by assumption)).mono ?_); rintro e w30 ⟨rfl, k30⟩))
        all_goals
          rename_i hJ
          obtain ⟨kj, _, _⟩ := hJ
          have KJ := hide ((unhide K6).andNo kj)
          clear kj KE' B0 HB1 HB2 k30
          obtain ⟨wE, rfl⟩ : ∃ v, v = w30 := ⟨_, rfl⟩
          have SE := hide ((unhide S0).no (unhide KJ))
          have CE := hide ((unhide C0).no (unhide KJ))
          have YE := hide (unhide Y0)
          have KE := hide ((unhide KW).andNo (unhide KJ))
          have HAL := hide (alike_at (unhide SE) (unhide CE) (unhide YE) (by omega))
          have HCO := hide (fun w' (c : Chg noBlk wE w') => copy_at ((unhide SE).no c))
          have HSE := hide (fun w' (c : Chg noBlk wE w') => (unhide SE).no c)
          have t5 : True := True.intro
          go_wp2_with (first
            | (go_at_call 14; (with_reducible refine (unhide HAL).mono ?_); rintro e w40 ⟨rfl, k40⟩)
            | (go_at_call 9; (with_reducible refine (unhide HCO _ k40).mono ?_); rintro e w41 ⟨b9, m9, rfl, _, _, k41, s41⟩)
            | (go_at_call 15; (with_reducible refine (same_eq (unhide HSE _ (k40.andNo k41)) s41).mono ?_); rintro e w42 ⟨rfl, k42⟩))
          have KZ := hide ((k40.andNo k41).andNo k42)
          clear k40 k41 s41 k42 HAL HCO HSE
          go_roundw
          case rel => exact ⟨n + 1, N, L, ad2, cap2, by omega, by go_num, rfl, by omega, rfl, (unhide SE).no (unhide KZ), (unhide CE).no (unhide KZ), unhide YE, by omega, (unhide KE).andNo (unhide KZ)⟩
          case measure => simp [intOf]; omega
      by_cases s8 : a.k % 9 = 8
      · have t7 : (a.k % 9 == 7) = false := by simp; omega
        have t8 : (a.k % 9 == 8) = true := by simp; omega
        clear s7 s8
        have u1 : True := True.intro
        have u2 : True := True.intro
        go_wp2_with (first
          | (clear t1; go_at_call 9; (with_reducible refine (unhide HCP _ k5).mono ?_); rintro e w6 ⟨b2, m2, rfl, eb2, em2, k6, s6⟩; have A6 := A5.no k6; have K6 := hide (k5.andNo k6); have S6 := hide s6; have hxm : x < m2 := Nat.lt_of_lt_of_le A5.lt em2; have hmm2 : m < m2 := Nat.lt_of_lt_of_le ((unhide S0).no k5).m.lt em2; have hmb2 : m < b2 := Nat.lt_of_lt_of_le ((unhide S0).no k5).m.lt eb2; have hbm2 : b < m2 := Nat.lt_of_lt_of_le ((unhide S0).no k5).lt em2; have hwm2 : wr.heap.size ≤ m2 := Nat.le_trans k5.size em2; clear k5 k6 s6; have a0 := A6.c0; have a1 := A6.c1; have a2 := A6.c2; have a3 := A6.c3; have a4 := A6.c4; have a5 := A6.c5)
          | (clear u1; go_at_call 12; refine (apply_at (unhide S6) 1 ⟨2, [107], [115, 112, 111, 105, 108, 116], 0⟩ (by unfold maxLen; omega)).mono ?_; rintro e w7 ⟨rfl, k7, s7⟩; have K7 := hide k7; have S7 := hide s7; have A7 : ActAt w7 x a := k7.at A6 (Nat.ne_of_lt hxm); clear a0 a1 a2 a3 a4 a5; have a3 := A7.c3; clear k7 s7)
          | (clear u2; go_at_call 12; refine (apply_at (unhide S7) 2 ⟨3, a.op.key, [], 0⟩ (by unfold maxLen; have := appL_len L 1 ⟨2, [107], [115, 112, 111, 105, 108, 116], 0⟩; omega)).mono ?_; rintro e w8 ⟨rfl, k8, s8⟩; have K8 := hide k8; clear k8 s8)
          | ((with_reducible show wpList _ _ _ (_ :: _) _ _); first
            | (refine wpList_load_mid rfl 31 (.tmp 24) rfl bb (off + n * 6) rfl a.cells _ (unhide hr1) Try.underlying31 rfl (by rw [size_act]; rfl) ?_)
            | (clear t2; refine wpL_alloc rfl 31 rfl _ zero_act ?_; intro x w4 e4 k4 g4 z4; have e4b : wr.heap.size ≤ x := Nat.le_of_eq e4; clear e4 z4)
            | (clear t3; refine wpL_store rfl 31 (.tmp 7) (.tmp 25) rfl x a.cells.toArray rfl rfl _ _ g4 (by rw [size_act]; rfl) rfl (all_oneCell_toArray (AT.one _)) ?_; intro w5 k5' g5 z5; have A5 : ActAt w5 x a := g5; have k5 := k4.past k5' e4b; clear k4 k5' g4 g5 z5)
            | (clear t3; fail)
            | (refine wpL_build rfl 29 _ rfl (PT.cells ⟨2, [107], [115, 112, 111, 105, 108, 116], 0⟩).toArray built_spoil ?_)
            | (refine wpL_build rfl 29 _ rfl (PT.cells ⟨3, a.op.key, [], 0⟩).toArray (built_take a.op.key) ?_)))
        obtain ⟨wE, rfl⟩ : ∃ v, v = w8 := ⟨_, rfl⟩
        have KM := hide ((unhide K7).trans (unhide K8) fun _ _ e => e)
        have SE := hide (((unhide S0).no (unhide K6)).kept (unhide KM) (Nat.ne_of_lt hbm2) (Nat.ne_of_lt hmm2))
        have CE := hide (((unhide C0).no (unhide K6)).but (unhide S6).m (unhide KM))
        have YE := hide (unhide Y0)
        have KE := hide (((unhide KW).andNo (unhide K6)).past (unhide KM) (Nat.le_trans (unhide KW).size hwm2))
        clear S6 K7 K8 S7 a3 A7 A6 k0
        have HAL := hide (alike_at (unhide SE) (unhide CE) (unhide YE) (by omega))
        have HCO := hide (fun w' (c : Chg noBlk wE w') => copy_at ((unhide SE).no c))
        have HSE := hide (fun w' (c : Chg noBlk wE w') => (unhide SE).no c)
        have t5 : True := True.intro
        go_wp2_with (first
          | (go_at_call 14; (with_reducible refine (unhide HAL).mono ?_); rintro e w40 ⟨rfl, k40⟩)
          | (go_at_call 9; (with_reducible refine (unhide HCO _ k40).mono ?_); rintro e w41 ⟨b9, m9, rfl, _, _, k41, s41⟩)
          | (go_at_call 15; (with_reducible refine (same_eq (unhide HSE _ (k40.andNo k41)) s41).mono ?_); rintro e w42 ⟨rfl, k42⟩))
        have KZ := hide ((k40.andNo k41).andNo k42)
        clear k40 k41 s41 k42 HAL HCO HSE
        go_roundw
        case rel => exact ⟨n + 1, N, L, ad2, cap2, by omega, by go_num, rfl, by omega, rfl, (unhide SE).no (unhide KZ), (unhide CE).no (unhide KZ), unhide YE, by omega, (unhide KE).andNo (unhide KZ)⟩
        case measure => simp [intOf]; omega
      by_cases s6 : a.k % 9 = 6
      · have t7 : (a.k % 9 == 7) = false := by simp; omega
        have t8 : (a.k % 9 == 8) = false := by simp; omega
        have t6 : (a.k % 9 == 6) = true := by simp; omega
        clear s7 s8 s6
        obtain ⟨M, hM⟩ : ∃ M, appL L a.i a.op = M := ⟨_, rfl⟩
        obtain ⟨r, hr⟩ : ∃ r, appR L a.i a.op = r := ⟨_, rfl⟩
        obtain ⟨y1, y2, y3, y4⟩ := r
        have YE : Hid (Keyd M) := hide (by rw [← hM]; exact (unhide Y0).app _ _)
        have hML : M.length ≤ L.length + 1 := by rw [← hM]; exact appL_len _ _ _
        have HRA := hide (fun w' (k : Chg noBlk wr w') => rapply_lit ((unhide C0).no k) (by omega) hr hM)
        have HAPP := hide (fun w' (k : Chg noBlk wr w') => apply_lit ((unhide S0).no k) (by omega) hr hM)
        clear hM hr
        have u1 : True := True.intro
        have u2 : True := True.intro
        have u3 : True := True.intro
        have u4 : True := True.intro
        go_wp2_with (first
          | (clear t1; go_at_call 9; (with_reducible refine (unhide HCP _ k5).mono ?_); rintro e w6 ⟨b2, m2, rfl, eb2, em2, k6, s6⟩; have A6 := A5.no k6; have K6 := hide (k5.andNo k6); have S6 := hide s6; have hxm : x < m2 := Nat.lt_of_lt_of_le A5.lt em2; have hmm2 : m < m2 := Nat.lt_of_lt_of_le ((unhide S0).no k5).m.lt em2; have hmb2 : m < b2 := Nat.lt_of_lt_of_le ((unhide S0).no k5).m.lt eb2; have hbm2 : b < m2 := Nat.lt_of_lt_of_le ((unhide S0).no k5).lt em2; have hwm2 : wr.heap.size ≤ m2 := Nat.le_trans k5.size em2; clear k5 k6 s6; have a0 := A6.c0; have a1 := A6.c1; have a2 := A6.c2; have a3 := A6.c3; have a4 := A6.c4; have a5 := A6.c5)
          | (clear u1; go_at_call 13; refine (unhide HRA _ (unhide K6)).mono ?_; rintro e w7 ⟨ad3, cap3, rfl, c7, k7⟩)
          | ((with_reducible show wpList _ _ _ (_ :: _) _ _); first
            | (refine wpList_load_mid rfl 31 (.tmp 24) rfl bb (off + n * 6) rfl a.cells _ (unhide hr1) Try.underlying31 rfl (by rw [size_act]; rfl) ?_)
            | (clear t2; refine wpL_alloc rfl 31 rfl _ zero_act ?_; intro x w4 e4 k4 g4 z4; have e4b : wr.heap.size ≤ x := Nat.le_of_eq e4; clear e4 z4)
            | (clear t3; refine wpL_store rfl 31 (.tmp 7) (.tmp 25) rfl x a.cells.toArray rfl rfl _ _ g4 (by rw [size_act]; rfl) rfl (all_oneCell_toArray (AT.one _)) ?_; intro w5 k5' g5 z5; have A5 : ActAt w5 x a := g5; have k5 := k4.past k5' e4b; clear k4 k5' g4 g5 z5)
            | (clear u2; refine wpList_load_mid rfl 29 (.tmp 41) rfl x 2 rfl a.op.cells _ A6.op Try.underlying29 rfl (by rw [info_op5]; rfl) ?_)
            | (clear u3; refine wpL_alloc rfl 33 rfl _ zero_res ?_; intro p w8 e8 k8 g8 z8; have e8b : w7.heap.size ≤ p := Nat.le_of_eq e8; clear e8 z8)
            | (clear u4; refine wpL_store rfl 33 (.tmp 11) (.tmp 45) rfl p (RT.cells ⟨y1, y2, y3, y4⟩).toArray rfl rfl _ _ g8 info_res rfl (all_oneCell_toArray (RT.one _)) ?_; intro w9 k9' R9 z9; have R9 : ResAt w9 p ⟨y1, y2, y3, y4⟩ := R9; have k9 := k8.past k9' e8b; have C9 := hide (c7.no k9); have A9 : ActAt w9 x a := A6.no (k7.andNo k9); have hmp : m < p := Nat.lt_of_lt_of_le (((unhide S0).no (unhide K6)).no k7).m.lt e8b; have K9 := hide ((unhide K6).andNo (k7.andNo k9)); have P9 := hide ((unhide S6).no (k7.andNo k9)); clear k8 k9' g8 z9 c7 k7 k9)))
        have hxm' : x ≠ m := by have := (unhide S0).m.lt; omega
        have hpm' : p ≠ m := by omega
        have KE' := hide (fun w' k => three_keep (w' := w') (P := ⟨x, 2, none⟩) A9.c2 A9.c3 A9.c4 A9.c5 R9.c0 R9.c1 R9.c2 R9.c3 hxm' hpm' k)
        have HAP := hide (fun w' (k : Chg noBlk w9 w') => unhide HAPP w' ((unhide K9).andNo k))
        have HAL := hide (fun w' (k : Chg (oneBlk m) w9 w' ∧ w'.cell? ⟨x, 2, none⟩ = some (.int .i64 a.op.k) ∧ w'.cell? ⟨x, 3, none⟩ = some (str a.op.key) ∧ w'.cell? ⟨x, 4, none⟩ = some (str a.op.val) ∧ w'.cell? ⟨x, 5, none⟩ = some (.int .i64 a.op.ver) ∧ w'.cell? ⟨p, 0, none⟩ = some (.int .i64 y1) ∧ w'.cell? ⟨p, 1, none⟩ = some (str y2) ∧ w'.cell? ⟨p, 2, none⟩ = some (.int .i64 y3) ∧ w'.cell? ⟨p, 3, none⟩ = some (.int .i64 y4)) => alike_at ((unhide P9).kept k.1 (Nat.ne_of_gt hmb2) (Nat.ne_of_gt hmm2)) (((unhide C0).no (unhide K9)).but ((unhide S0).no (unhide K9)).m k.1) (unhide Y0) (by omega))
        have B0 := Chg.refl (oneBlk m) w9
        have B1 := Chg.refl noBlk w9
        clear a0 a1 a2 a3 a4 a5 R9 HAPP HRA
        go_region_held3 (fun w' => Chg (oneBlk m) w9 w' ∧ w'.cell? ⟨x, 2, none⟩ = some (.int .i64 a.op.k) ∧ w'.cell? ⟨x, 3, none⟩ = some (str a.op.key) ∧ w'.cell? ⟨x, 4, none⟩ = some (str a.op.val) ∧ w'.cell? ⟨x, 5, none⟩ = some (.int .i64 a.op.ver) ∧ w'.cell? ⟨p, 0, none⟩ = some (.int .i64 y1) ∧ w'.cell? ⟨p, 1, none⟩ = some (str y2) ∧ w'.cell? ⟨p, 2, none⟩ = some (.int .i64 y3) ∧ w'.cell? ⟨p, 3, none⟩ = some (.int .i64 y4))
          ((refine unhide KE' _ ?_; go_split_ands; first | assumption | exact Chg.drew (by assumption) | exact Chg.drewN (by assumption) _ | exact Chg.andNo (by assumption) (by assumption) | exact Chg.trans (by assumption) (by assumption) fun _ _ e => e))
          (first
            | (go_at_call 12; refine (unhide HAP _ B1.drew).mono ?_; rintro e w10 ⟨rfl, k10, s10⟩)
            | (go_at_call 14; (with_reducible refine (unhide HAL _ (by assumption)).mono ?_); rintro e w11 ⟨rfl, k11⟩))
        rename_i hH
        obtain ⟨K20, f1, f2, f3, f4, f5, f6, f7, f8⟩ := hH
        obtain ⟨wE, rfl⟩ : ∃ v, v = w11 := ⟨_, rfl⟩
        have SE := hide (s10.no k11)
        have CE := hide ((unhide C9).but ((unhide S0).no (unhide K9)).m K20)
        have KE := hide (((unhide KW).andNo (unhide K9)).past K20 hm0)
        clear f1 f2 f3 f4 f5 f6 f7 f8 K20 KE' HAP HAL B0 B1 k10 s10 k11 C9 K9 P9 S6 A6 A9 k0
        have HAL := hide (alike_at (unhide SE) (unhide CE) (unhide YE) (by omega))
        have HCO := hide (fun w' (c : Chg noBlk wE w') => copy_at ((unhide SE).no c))
        have HSE := hide (fun w' (c : Chg noBlk wE w') => (unhide SE).no c)
        have t5 : True := True.intro
        go_wp2_with (first
          | (go_at_call 14; (with_reducible refine (unhide HAL).mono ?_); rintro e w40 ⟨rfl, k40⟩)
          | (go_at_call 9; (with_reducible refine (unhide HCO _ k40).mono ?_); rintro e w41 ⟨b9, m9, rfl, _, _, k41, s41⟩)
          | (go_at_call 15; (with_reducible refine (same_eq (unhide HSE _ (k40.andNo k41)) s41).mono ?_); rintro e w42 ⟨rfl, k42⟩))
        have KZ := hide ((k40.andNo k41).andNo k42)
        clear k40 k41 s41 k42 HAL HCO HSE
        go_roundw
        case rel => exact ⟨n + 1, N + 1, M, ad3, cap3, by omega, by go_num, by go_num, by omega, rfl, (unhide SE).no (unhide KZ), (unhide CE).no (unhide KZ), unhide YE, by omega, (unhide KE).andNo (unhide KZ)⟩
        case measure => simp [intOf]; omega
      · have t7 : (a.k % 9 == 7) = false := by simp; omega
        have t8 : (a.k % 9 == 8) = false := by simp; omega
        have t6 : (a.k % 9 == 6) = false := by simp; omega
        clear s7 s8 s6
        obtain ⟨M, hM⟩ : ∃ M, appL L (N : Int) a.op = M := ⟨_, rfl⟩
        obtain ⟨r, hr⟩ : ∃ r, appR L (N : Int) a.op = r := ⟨_, rfl⟩
        obtain ⟨y1, y2, y3, y4⟩ := r
        have YE : Hid (Keyd M) := hide (by rw [← hM]; exact (unhide Y0).app _ _)
        have hML : M.length ≤ L.length + 1 := by rw [← hM]; exact appL_len _ _ _
        have HRA := hide (fun w' (k : Chg noBlk wr w') => rapply_lit ((unhide C0).no k) (by omega) hr hM)
        have HAPP := hide (fun w' (k : Chg noBlk wr w') => apply_lit ((unhide S0).no k) (by omega) hr hM)
        clear hM hr
        have u1 : True := True.intro
        have u2 : True := True.intro
        have u3 : True := True.intro
        have u4 : True := True.intro
        go_wp2_with (first
          | (clear t1; go_at_call 9; (with_reducible refine (unhide HCP _ k5).mono ?_); rintro e w6 ⟨b2, m2, rfl, eb2, em2, k6, s6⟩; have A6 := A5.no k6; have K6 := hide (k5.andNo k6); have S6 := hide s6; have hxm : x < m2 := Nat.lt_of_lt_of_le A5.lt em2; have hmm2 : m < m2 := Nat.lt_of_lt_of_le ((unhide S0).no k5).m.lt em2; have hmb2 : m < b2 := Nat.lt_of_lt_of_le ((unhide S0).no k5).m.lt eb2; have hbm2 : b < m2 := Nat.lt_of_lt_of_le ((unhide S0).no k5).lt em2; have hwm2 : wr.heap.size ≤ m2 := Nat.le_trans k5.size em2; clear k5 k6 s6; have a0 := A6.c0; have a1 := A6.c1; have a2 := A6.c2; have a3 := A6.c3; have a4 := A6.c4; have a5 := A6.c5)
          | (clear u1; go_at_call 13; refine (unhide HRA _ (unhide K6)).mono ?_; rintro e w7 ⟨ad3, cap3, rfl, c7, k7⟩)
          | ((with_reducible show wpList _ _ _ (_ :: _) _ _); first
            | (refine wpList_load_mid rfl 31 (.tmp 24) rfl bb (off + n * 6) rfl a.cells _ (unhide hr1) Try.underlying31 rfl (by rw [size_act]; rfl) ?_)
            | (clear t2; refine wpL_alloc rfl 31 rfl _ zero_act ?_; intro x w4 e4 k4 g4 z4; have e4b : wr.heap.size ≤ x := Nat.le_of_eq e4; clear e4 z4)
            | (clear t3; refine wpL_store rfl 31 (.tmp 7) (.tmp 25) rfl x a.cells.toArray rfl rfl _ _ g4 (by rw [size_act]; rfl) rfl (all_oneCell_toArray (AT.one _)) ?_; intro w5 k5' g5 z5; have A5 : ActAt w5 x a := g5; have k5 := k4.past k5' e4b; clear k4 k5' g4 g5 z5)
            | (clear u2; refine wpList_load_mid rfl 29 (.tmp 41) rfl x 2 rfl a.op.cells _ A6.op Try.underlying29 rfl (by rw [info_op5]; rfl) ?_)
            | (clear u3; refine wpL_alloc rfl 33 rfl _ zero_res ?_; intro p w8 e8 k8 g8 z8; have e8b : w7.heap.size ≤ p := Nat.le_of_eq e8; clear e8 z8)
            | (clear u4; refine wpL_store rfl 33 (.tmp 11) (.tmp 45) rfl p (RT.cells ⟨y1, y2, y3, y4⟩).toArray rfl rfl _ _ g8 info_res rfl (all_oneCell_toArray (RT.one _)) ?_; intro w9 k9' R9 z9; have R9 : ResAt w9 p ⟨y1, y2, y3, y4⟩ := R9; have k9 := k8.past k9' e8b; have C9 := hide (c7.no k9); have A9 : ActAt w9 x a := A6.no (k7.andNo k9); have hmp : m < p := Nat.lt_of_lt_of_le (((unhide S0).no (unhide K6)).no k7).m.lt e8b; have K9 := hide ((unhide K6).andNo (k7.andNo k9)); have P9 := hide ((unhide S6).no (k7.andNo k9)); clear k8 k9' g8 z9 c7 k7 k9)))
        have hxm' : x ≠ m := by have := (unhide S0).m.lt; omega
        have hpm' : p ≠ m := by omega
        have KE' := hide (fun w' k => three_keep (w' := w') (P := ⟨x, 2, none⟩) A9.c2 A9.c3 A9.c4 A9.c5 R9.c0 R9.c1 R9.c2 R9.c3 hxm' hpm' k)
        have HAP := hide (fun w' (k : Chg noBlk w9 w') => unhide HAPP w' ((unhide K9).andNo k))
        have HAL := hide (fun w' (k : Chg (oneBlk m) w9 w' ∧ w'.cell? ⟨x, 2, none⟩ = some (.int .i64 a.op.k) ∧ w'.cell? ⟨x, 3, none⟩ = some (str a.op.key) ∧ w'.cell? ⟨x, 4, none⟩ = some (str a.op.val) ∧ w'.cell? ⟨x, 5, none⟩ = some (.int .i64 a.op.ver) ∧ w'.cell? ⟨p, 0, none⟩ = some (.int .i64 y1) ∧ w'.cell? ⟨p, 1, none⟩ = some (str y2) ∧ w'.cell? ⟨p, 2, none⟩ = some (.int .i64 y3) ∧ w'.cell? ⟨p, 3, none⟩ = some (.int .i64 y4)) => alike_at ((unhide P9).kept k.1 (Nat.ne_of_gt hmb2) (Nat.ne_of_gt hmm2)) (((unhide C0).no (unhide K9)).but ((unhide S0).no (unhide K9)).m k.1) (unhide Y0) (by omega))
        have B0 := Chg.refl (oneBlk m) w9
        have B1 := Chg.refl noBlk w9
        clear a0 a1 a2 a3 a4 a5 R9 HAPP HRA
        go_region_held3 (fun w' => Chg (oneBlk m) w9 w' ∧ w'.cell? ⟨x, 2, none⟩ = some (.int .i64 a.op.k) ∧ w'.cell? ⟨x, 3, none⟩ = some (str a.op.key) ∧ w'.cell? ⟨x, 4, none⟩ = some (str a.op.val) ∧ w'.cell? ⟨x, 5, none⟩ = some (.int .i64 a.op.ver) ∧ w'.cell? ⟨p, 0, none⟩ = some (.int .i64 y1) ∧ w'.cell? ⟨p, 1, none⟩ = some (str y2) ∧ w'.cell? ⟨p, 2, none⟩ = some (.int .i64 y3) ∧ w'.cell? ⟨p, 3, none⟩ = some (.int .i64 y4))
          ((refine unhide KE' _ ?_; go_split_ands; first | assumption | exact Chg.drew (by assumption) | exact Chg.drewN (by assumption) _ | exact Chg.andNo (by assumption) (by assumption) | exact Chg.trans (by assumption) (by assumption) fun _ _ e => e))
          (first
            | (go_at_call 12; refine (unhide HAP _ B1.drew).mono ?_; rintro e w10 ⟨rfl, k10, s10⟩)
            | (go_at_call 14; (with_reducible refine (unhide HAL _ (by assumption)).mono ?_); rintro e w11 ⟨rfl, k11⟩))
        rename_i hH
        obtain ⟨K20, f1, f2, f3, f4, f5, f6, f7, f8⟩ := hH
        obtain ⟨wE, rfl⟩ : ∃ v, v = w11 := ⟨_, rfl⟩
        have SE := hide (s10.no k11)
        have CE := hide ((unhide C9).but ((unhide S0).no (unhide K9)).m K20)
        have KE := hide (((unhide KW).andNo (unhide K9)).past K20 hm0)
        clear f1 f2 f3 f4 f5 f6 f7 f8 K20 KE' HAP HAL B0 B1 k10 s10 k11 C9 K9 P9 S6 A6 A9 k0
        have HAL := hide (alike_at (unhide SE) (unhide CE) (unhide YE) (by omega))
        have HCO := hide (fun w' (c : Chg noBlk wE w') => copy_at ((unhide SE).no c))
        have HSE := hide (fun w' (c : Chg noBlk wE w') => (unhide SE).no c)
        have t5 : True := True.intro
        go_wp2_with (first
          | (go_at_call 14; (with_reducible refine (unhide HAL).mono ?_); rintro e w40 ⟨rfl, k40⟩)
          | (go_at_call 9; (with_reducible refine (unhide HCO _ k40).mono ?_); rintro e w41 ⟨b9, m9, rfl, _, _, k41, s41⟩)
          | (go_at_call 15; (with_reducible refine (same_eq (unhide HSE _ (k40.andNo k41)) s41).mono ?_); rintro e w42 ⟨rfl, k42⟩))
        have KZ := hide ((k40.andNo k41).andNo k42)
        clear k40 k41 s41 k42 HAL HCO HSE
        go_roundw
        case rel => exact ⟨n + 1, N + 1, M, ad3, cap3, by omega, by go_num, by go_num, by omega, rfl, (unhide SE).no (unhide KZ), (unhide CE).no (unhide KZ), unhide YE, by omega, (unhide KE).andNo (unhide KZ)⟩
        case measure => simp [intOf]; omega
    · obtain rfl : n = l.length := by omega
      go_wp2_with (go_at_call 7; (with_reducible refine (stored_any _).mono ?_); rintro e w24 ⟨rfl, k24⟩)
      go_ret
      exact ⟨rfl, (unhide KW).andNo k24⟩
end Go.Proofs.Ytbccebdhdppegaa
