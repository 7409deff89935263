/-
  Counters: whatever is added, they are the document's.
-/
import Derived.Test.YtpgmpfhhmnnejaaCountsF
namespace Go.Proofs.Ytpgmpfhhmnnejaa
open Go.ChangeShapes Go.WideShapes Go.ChangeAt Go.RowKit
set_option linter.unusedVariables false
/-- where the acts stand -/
def PlayAt (w0 : World) (b g len : Nat) (r i : Value) (w : World) : Prop := ∃ (k q cap : Nat) (l : List Int), k ≤ len ∧ r = .slice (some ⟨q, 0, none⟩) l.length cap ∧ i = .int .i64 (k : Int) ∧ Both w0 w b g q cap l
set_option maxRecDepth 100000 in
set_option maxHeartbeats 4000000 in
theorem play_in (n : Nat) (h1 : 1 ≤ n) (h2 : n ≤ 64) (ad : Option Addr) (L : List AT) (cap0 : Nat) (w : World) (hl : L.length ≤ 100) (h : ActsIn w ad L) :
    Calls Try.prog 3 #[.int .i64 (n : Int), .slice ad L.length cap0] w (ToldB true w) := by
  have HA := hide h
  clear h
  have NW := hide (fun w => new_c h1 h2 w)
  have RW := hide (fun w => rnew_c h1 h2 w)
  go_enter Try.func3, Try.ntmps3
  go_wp2_with (first
    | (go_at_call 7; refine (unhide NW _).mono ?_; rintro e w2 ⟨b, g, rfl, eb, eg, k2, hc⟩)
    | (go_at_call 8; refine (unhide RW _).mono ?_; rintro e w3 ⟨q, rfl, eq, k3, hr⟩))
  have HB0 := hide (show PlayAt w b g L.length (.slice (some ⟨q, 0, none⟩) n n) (.int .i64 0) w3 from ⟨0, q, n, List.replicate n 0, by omega, by simp, rfl, hc.no k3, hr, eb, eg, by have := k2.size; omega, by have := hc.ltg; omega, k2.andNo k3⟩)
  clear NW RW k2 k3 hc hr eb eg eq
  go_loopw [7, 9] (fun r i wr => PlayAt w b g L.length r i wr) (fun r i wr => L.length - (intOf i).toNat)
  case atStart => exact unhide HB0
  case round =>
    clear HB0
    obtain ⟨k, q, cap, l, hk, rfl, rfl, hB⟩ := hrel
    have HB := hide hB
    clear hB
    by_cases hlt : k < L.length
    · have d1 : decide (k < L.length) = true := by simpa using hlt
      obtain ⟨a, ha⟩ : ∃ a, L[k]? = some a := ⟨_, List.getElem?_eq_getElem hlt⟩
      obtain ⟨hok, bb, off, rfl, hrng⟩ := unhide HA k a ha
      have i1 : (0 : Int) ≤ (k : Int) := by omega
      have i2 : (k : Int) < (L.length : Int) := by omega
      have hr1 := range_kept hrng (unhide HB).kept
      have hbb : bb < w.heap.size := by have := hrng 0 (.int .i64 a.i) rfl; exact World.block_lt_of_cell? w _ this
      have HOK := hide hok
      have CC := hide (copy_at (unhide HB).p)
      have HR := hide hr1
      clear ha hok hrng hr1
      go_wp2_with (first
        | (go_at_call 9; refine (unhide CC).mono ?_; rintro e w6 ⟨b2, g2, rfl, eb2, eg2, k6, h6⟩; have H6 := hide h6; have K6 := hide k6; clear CC h6 k6))
      have c0 : w6.cell? ⟨bb, off + k * 2, none⟩ = some (.int .i64 a.i) := range_kept (unhide HR) (unhide K6) 0 (.int .i64 a.i) rfl
      have c1 : w6.cell? ⟨bb, off + k * 2 + 1, none⟩ = some (.int .i64 a.y) := range_kept (unhide HR) (unhide K6) 1 (.int .i64 a.y) rfl
      have CA := hide (fun w' (h : CAt w' b g l) => add_any h (unhide HOK))
      have CR := hide (fun w' (h : LAt w' q cap l) => radd_any h (unhide HB).p.fit (unhide HOK))
      have ng : ¬ oneBlk g bb := fun e => by have e : bb = g := e; have := (unhide HB).ng; omega
      have hl2 := addL_len l a
      have HL2 := hide hl2
      have HC6 := hide ((unhide HB).p.no (unhide K6))
      have HR6 := hide ((unhide HB).r.no (unhide K6))
      have nqg := (unhide HB).nqg
      clear hl2
      go_cut [11, 12] from 47 to 108 (fun x e wx => x = .int .i64 (addX l a) ∧ e = .int .i64 (addE l a) ∧ Chg (oneBlk g) w6 wx ∧ CAt wx b g (addL l a))
      case first =>
        go_region_with (first
          | (go_at_call 10; refine (unhide CA _ (by exact (unhide HC6).drew)).mono ?_; rintro e w7 ⟨rfl, k7', h7⟩; have k7 : Chg (oneBlk g) w6 w7 := (by exact ⟨k7'.os, k7'.tape, k7'.output, k7'.size, k7'.block⟩); clear k7'))
        all_goals
          go_wp2_with fail
          go_meet
          case rel => first | exact ⟨rfl, rfl, k7, h7⟩ | exact ⟨rfl, rfl, k7.drew, h7.drew⟩
      case rest =>
      obtain ⟨rfl, rfl, k7, h7⟩ := hcut
      obtain ⟨w7, rfl⟩ : ∃ w7, w7 = wc := ⟨_, rfl⟩
      have K7 := hide k7
      have H7 := hide h7
      have c2 := k7.cell c0 ng
      have c3 := k7.cell c1 ng
      have HR7 := hide ((unhide HR6).kept k7 (fun e => nqg e))
      clear k7 h7 c0 c1 CA
      go_wp2_with fail
      go_cut [13, 14, 15] from 47 to 108 (fun s x e wx => ∃ q2 cap2, s = .slice (some ⟨q2, 0, none⟩) (addL l a).length cap2 ∧ x = .int .i64 (addX l a) ∧ e = .int .i64 (addE l a) ∧ (q2 = q ∨ w7.heap.size ≤ q2) ∧ Chg noBlk w7 wx ∧ LAt wx q2 cap2 (addL l a))
      case first =>
        go_region_with (first
          | (go_at_call 11; refine (unhide CR _ (by exact (unhide HR7).drew)).mono ?_; rintro e w8 ⟨q2, cap2, rfl, hq2, k8', h8⟩; have k8 : Chg noBlk w7 w8 := (by exact ⟨k8'.os, k8'.tape, k8'.output, k8'.size, k8'.block⟩); clear k8'))
        all_goals
          go_wp2_with fail
          go_meet
          case rel => first | exact ⟨q2, cap2, rfl, rfl, rfl, hq2, k8, h8⟩ | exact ⟨q2, cap2, rfl, rfl, rfl, hq2, k8.drew, h8.drew⟩
      case rest =>
      obtain ⟨q2, cap2, rfl, rfl, rfl, hq2, k8, h8⟩ := hcut
      obtain ⟨w8, rfl⟩ : ∃ w8, w8 = wc := ⟨_, rfl⟩
      have K8 := hide k8
      have H8 := hide h8
      have HQ2 := hide hq2
      clear k8 h8 hq2 CR c2 c3
      have HD8 := hide (((unhide H6).kept (unhide K7) (fun e => by have e : b2 = g := e; have := (unhide HB).p.ltg; omega) (fun e => by have e : g2 = g := e; have := (unhide HB).p.ltg; omega)).no (unhide K8))
      have S1 := hide (fun w' k => same_at ((unhide HD8).no (w' := w') k) (((unhide HR7).no (unhide K8)).no (w' := w') k))
      have S2 := hide (fun w' k => same_at (((unhide H7).no (unhide K8)).no (w' := w') k) ((unhide H8).no (w' := w') k))
      have hl3 : 0 < l.length := (unhide HB).p.fit.pos
      obtain ⟨y0, hy0⟩ : ∃ y0, l[0]? = some y0 := ⟨_, List.getElem?_eq_getElem hl3⟩
      have AD := hide (fun w' k => add_at (k := 0) (by' := 5) ((unhide HD8).no (w' := w') k) (by omega) (by omega) hy0)
      clear hy0 hl3
      go_wp2_with (first
        | (go_at_call 12; refine (unhide S1 _ (Chg.refl _ _)).mono ?_; rintro e w9 ⟨rfl, k9⟩; have K9 := hide k9; clear k9 S1)
        | (go_at_call 12; refine (unhide S2 _ (unhide K9)).mono ?_; rintro e w10 ⟨rfl, k10⟩; have K10 := hide ((unhide K9).andNo k10); clear k10 K9 S2)
        | (go_at_call 10; refine (unhide AD _ (unhide K10)).mono ?_; rintro e w11 ⟨rfl, k11, h11⟩; have K11 := hide k11; clear k11 h11 AD))
      go_roundw
      case rel => exact ⟨k + 1, q2, cap2, addL l a, by omega, rfl, by go_num, (unhide HB).next (unhide K6) eg2 (unhide H6).ltg (unhide K7) (unhide H7) ((unhide K8).andNo (unhide K10)) ((unhide H8).no (unhide K10)) (unhide HQ2) (unhide K11)⟩
      case measure => simp [intOf]; omega
    · have d1 : decide (k < L.length) = false := by simpa using hlt
      have S1 := hide (same_at (unhide HB).p (unhide HB).r)
      go_wp2_with (first
        | (go_at_call 12; refine (unhide S1).mono ?_; rintro e w6 ⟨rfl, k6⟩)
        | (go_at_call 6; refine (added_any _).mono ?_; rintro e w7 ⟨rfl, k7⟩))
      go_ret
      exact ⟨rfl, ((unhide HB).kept.andNo k6).andNo k7⟩
end Go.Proofs.Ytpgmpfhhmnnejaa
