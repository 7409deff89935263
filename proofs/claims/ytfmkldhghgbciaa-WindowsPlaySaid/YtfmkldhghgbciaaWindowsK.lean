/-
  Windows: whatever is done with one.
-/
import Derived.Test.YtfmkldhghgbciaaWindowsF
import Derived.Test.YtfmkldhghgbciaaWindowsJ
import Derived.Deep.CutBlock
import Derived.Deep.CutRange
import Derived.Deep.RegionHeld3
namespace Go.Proofs.Ytfmkldhghgbciaa
open Go.ChangeShapes Go.WideShapes Go.ChangeAt Go.RowKit
set_option linter.unusedVariables false
/-- the two windows, alike, and apart -/
structure Both (w0 w : World) (b q : Nat) (x : Win) : Prop where
  p : WK 45 w b x
  r : WK 39 w q x
  ne : b ≠ q
  nb : w0.heap.size ≤ b
  nq : w0.heap.size ≤ q
  kept : Chg noBlk w0 w
section
variable {w0 w5 w6 w7 : World} {b q : Nat} {x y : Win}
theorem Both.no (h : Both w0 w5 b q x) (k : Chg noBlk w5 w6) : Both w0 w6 b q x := ⟨h.p.no k, h.r.no k, h.ne, h.nb, h.nq, h.kept.andNo k⟩
theorem both_two (h : Both w0 w5 b q x) (k6 : Chg (oneBlk b) w5 w6) (h6 : WK 45 w6 b y) (k7 : Chg (oneBlk q) w6 w7) (h7 : WK 39 w7 q y) : Both w0 w7 b q y :=
  ⟨h6.kept k7 (fun e => h.ne e), h7, h.ne, h.nb, h.nq, (h.kept.trans k6 fun i hi e => by have e : i = b := e; have := h.nb; omega).trans k7 fun i hi e => by have e : i = q := e; have := h.nq; omega⟩
end
/-- where the acts stand -/
def PlayAt (w0 : World) (b q len : Nat) (i : Value) (w : World) : Prop := ∃ (k : Nat) (x : Win), k ≤ len ∧ i = .int .i64 (k : Int) ∧ Both w0 w b q x
/-- what one act leads to, and tells -/
def Told (w0 : World) (b q : Nat) (ok is n m : Value) (w : World) : Prop := ∃ (y : Win) (v : Bool) (i : Int), ok = .bool v ∧ is = .bool v ∧ n = .int .i64 i ∧ m = .int .i64 i ∧ Both w0 w b q y
set_option maxRecDepth 100000 in
set_option maxHeartbeats 40000000 in
theorem play_in (c i j : Int) (hm : mayB c i j = true) (ad : Option Addr) (l : List AT) (cap : Nat) (w : World) (hl : l.length ≤ 200) (h : ActsIn w ad l) :
    Calls Try.prog 3 #[.int .i64 c, .agg #[.int .i64 i, .int .i64 j], .slice ad l.length cap] w (ToldB true w) := by
  have HA := hide h
  clear h
  have NW := hide (fun w => new_k hm w)
  have RW := hide (fun w => rnew_yes hm w)
  clear hm
  go_enter Try.func3, Try.ntmps3
  go_wp2_with (first
    | (refine wpL_box rfl 22 (.tmp 1) rfl #[.int .i64 i, .int .i64 j] rfl ?_; intro x0 w1 e1 k1 g1 z1; have c0 := cellAt g1 0 (.int .i64 i) (by rfl); have c1 := cellAt g1 1 (.int .i64 j) (by rfl))
    | (go_at_call 7; refine (unhide NW _).mono ?_; rintro e w2 ⟨b, rfl, e2, k2, h2⟩; have c0 := k2.cell c0 id; have c1 := k2.cell c1 id)
    | (go_at_call 8; refine (unhide RW _).mono ?_; rintro e w3 ⟨q, rfl, e3, k3, h3⟩))
  have B0 : Both w w3 b q ⟨c, i, j, i, 0⟩ := ⟨h2.no k3, h3, by have := h2.lt; omega, by have := k1.size; omega, by have := k1.size; have := k2.size; omega, (k1.andNo k2).andNo k3⟩
  have HB0 := hide B0
  clear B0 NW RW k1 k2 k3 h2 h3 g1 e1 e2 e3 z1 c0 c1
  go_loopw [11] (fun i wr => PlayAt w b q l.length i wr) (fun i wr => l.length - (intOf i).toNat)
  case atStart => exact ⟨0, _, by omega, rfl, unhide HB0⟩
  case round =>
    clear HB0
    obtain ⟨k, x, hk, rfl, hB⟩ := hrel
    have HB := hide hB
    clear hB
    by_cases hlt : k < l.length
    · have d1 : decide (k < l.length) = true := by simpa using hlt
      obtain ⟨a, ha⟩ : ∃ a, l[k]? = some a := ⟨_, List.getElem?_eq_getElem hlt⟩
      obtain ⟨hok, bb, off, rfl, hrng⟩ := unhide HA k a ha
      have i1 : (0 : Int) ≤ (k : Int) := by omega
      have i2 : (k : Int) < (l.length : Int) := by omega
      have hr1 := range_kept hrng (unhide HB).kept
      have HOK := hide hok
      clear ha hok hrng
      go_upto_block 2 with (first
        | (refine wpList_load_mid rfl 33 (.tmp 65) rfl bb (off + k * 2) rfl a.cells _ hr1 Try.underlying33 rfl (by rw [size_act]; rfl) ?_)
        | (refine wpL_alloc rfl 33 rfl _ zero_act ?_; intro x1 w4 e4 k4 g1 z4)
        | (refine wpL_store rfl 33 (.tmp 12) (.tmp 66) rfl x1 a.cells.toArray rfl rfl _ _ g1 (by rw [size_act]; rfl) rfl a.one ?_; intro w5 k5 g1 z5; have c9 := cellAt g1 0 (.int .u8 a.k) (by rfl)))
      have HB5 := hide ((unhide HB).no (k4.trans k5 fun i hi e => by have e : i = x1 := e; omega))
      have c9i := cellAt g1 1 (.int .i64 a.i) (by rfl)
      have ki := (unhide HOK).i0
      have k0 := (unhide HOK).k0
      have hxb : ¬ oneBlk b x1 := fun e => by have e : x1 = b := e; have := (unhide HB).p.lt; omega
      have hxq : ¬ oneBlk q x1 := fun e => by have e : x1 = q := e; have := (unhide HB).r.lt; omega
      have hqb : ¬ oneBlk b q := fun e => by have e : q = b := e; have := (unhide HB).ne; omega
      have hx1 : x1 < w5.heap.size := by omega
      obtain ⟨o1, o2, o3, o4, o5, o6, o7, o8, o9⟩ := (unhide HB).p.2
      clear k4 k5 g1 e4 z4 z5 hr1 i1 i2
      go_cut [13, 14, 15, 16, 17] (fun ok is n m _ wx => Told w b q ok is n m wx)
      case first =>
        by_cases s3 : a.k % 13 = 3
        · have t3 : (a.k % 13 == 3) = true := by simp; omega
          clear s3
          have CA := hide (fun w' (h : WK 45 w' b x) => ack_k h a.i ki rfl rfl)
          have CB := hide (fun w' (h : WK 39 w' q x) => ack_d h a.i ki rfl rfl)
          go_wp2_with fail
          go_region_with (first
            | (go_at_call 9; refine (unhide CA _ (by exact (unhide HB5).p)).mono ?_; rintro e w6 ⟨rfl, k6', h6⟩; have k6 : Chg (oneBlk b) w5 w6 := (by exact ⟨k6'.os, k6'.tape, k6'.output, k6'.size, k6'.block⟩); clear k6'; have g6 := hide ((unhide HB5).r.kept k6 hqb); have c9j := k6.cell c9i hxb)
            | (go_at_call 10; refine (unhide CB _ (by exact unhide g6)).mono ?_; rintro e w7 ⟨rfl, k7', h7⟩; have k7 : Chg (oneBlk q) w6 w7 := (by exact ⟨k7'.os, k7'.tape, k7'.output, k7'.size, k7'.block⟩); clear k7'))
          all_goals
            have B7 := both_two (unhide HB5) k6 h6 k7 h7
            have HB7 := hide B7
            clear B7 k6 h6 k7 h7 g6 c9j CA CB
            go_wp2_with fail
            go_meet
            case rel => first | exact ⟨x.ack a.i, _, _, rfl, rfl, rfl, rfl, unhide HB7⟩ | exact ⟨x.ack a.i, _, _, rfl, rfl, rfl, rfl, (unhide HB7).no ((Chg.refl _ _).drew)⟩
        by_cases s4 : a.k % 13 = 4
        · have t3 : (a.k % 13 == 3) = false := by simp; omega
          have t4 : (a.k % 13 == 4) = true := by simp; omega
          clear s4 s3
          have CA := hide (grant_k (unhide HB5).p a.i ki rfl)
          have CB := hide (fun w' (h : WK 39 w' q x) => grant_d h a.i ki rfl)
          go_wp2_with (first
            | (go_at_call 11; refine (unhide CA).mono ?_; rintro e w6 ⟨rfl, k6, h6⟩; have g6 := hide ((unhide HB5).r.kept k6 hqb); have c9i := k6.cell c9i hxb)
            | (go_at_call 12; refine (unhide CB _ (unhide g6)).mono ?_; rintro e w7 ⟨rfl, k7, h7⟩))
          go_meet
          case rel => exact ⟨x.grant a.i, _, _, rfl, rfl, rfl, rfl, both_two (unhide HB5) k6 h6 k7 h7⟩
        by_cases s5 : a.k % 13 = 5
        · have t3 : (a.k % 13 == 3) = false := by simp; omega
          have t4 : (a.k % 13 == 4) = false := by simp; omega
          have t5 : (a.k % 13 == 5) = true := by simp; omega
          clear s5 s3 s4
          have CA := hide (next_k (unhide HB5).p rfl rfl rfl)
          have CB := hide (fun w' (h : WK 39 w' q x) => next_d h rfl rfl rfl)
          go_wp2_with (first
            | (go_at_call 13; refine (unhide CA).mono ?_; rintro e w6 ⟨rfl, k6, h6⟩; have g6 := hide ((unhide HB5).r.kept k6 hqb))
            | (go_at_call 14; refine (unhide CB _ (unhide g6)).mono ?_; rintro e w7 ⟨rfl, k7, h7⟩))
          go_meet
          case rel => exact ⟨x.next, _, _, rfl, rfl, rfl, rfl, both_two (unhide HB5) k6 h6 k7 h7⟩
        by_cases s6 : a.k % 13 = 6
        · have t3 : (a.k % 13 == 3) = false := by simp; omega
          have t4 : (a.k % 13 == 4) = false := by simp; omega
          have t5 : (a.k % 13 == 5) = false := by simp; omega
          have t6 : (a.k % 13 == 6) = true := by simp; omega
          clear s6 s3 s4 s5
          have CA := hide (next_k (unhide HB5).p rfl rfl rfl)
          have CB := hide (fun w' (h : WK 39 w' q x) => next_d h rfl rfl rfl)
          go_wp2_with (first
            | (go_at_call 13; refine (unhide CA).mono ?_; rintro e w6 ⟨rfl, k6, h6⟩; have g6 := hide ((unhide HB5).r.kept k6 hqb))
            | (go_at_call 14; refine (unhide CB _ (unhide g6)).mono ?_; rintro e w7 ⟨rfl, k7, h7⟩))
          go_meet
          case rel => exact ⟨x.next, _, _, rfl, rfl, rfl, rfl, both_two (unhide HB5) k6 h6 k7 h7⟩
        by_cases s7 : a.k % 13 = 7
        · have t3 : (a.k % 13 == 3) = false := by simp; omega
          have t4 : (a.k % 13 == 4) = false := by simp; omega
          have t5 : (a.k % 13 == 5) = false := by simp; omega
          have t6 : (a.k % 13 == 6) = false := by simp; omega
          have t7 : (a.k % 13 == 7) = true := by simp; omega
          clear s7 s3 s4 s5 s6
          have CA := hide (next_k (unhide HB5).p rfl rfl rfl)
          have CB := hide (fun w' (h : WK 39 w' q x) => next_d h rfl rfl rfl)
          go_wp2_with (first
            | (go_at_call 13; refine (unhide CA).mono ?_; rintro e w6 ⟨rfl, k6, h6⟩; have g6 := hide ((unhide HB5).r.kept k6 hqb))
            | (go_at_call 14; refine (unhide CB _ (unhide g6)).mono ?_; rintro e w7 ⟨rfl, k7, h7⟩))
          go_meet
          case rel => exact ⟨x.next, _, _, rfl, rfl, rfl, rfl, both_two (unhide HB5) k6 h6 k7 h7⟩
        by_cases s8 : a.k % 13 = 8
        · have t3 : (a.k % 13 == 3) = false := by simp; omega
          have t4 : (a.k % 13 == 4) = false := by simp; omega
          have t5 : (a.k % 13 == 5) = false := by simp; omega
          have t6 : (a.k % 13 == 6) = false := by simp; omega
          have t7 : (a.k % 13 == 7) = false := by simp; omega
          have t8 : (a.k % 13 == 8) = true := by simp; omega
          clear s8 s3 s4 s5 s6 s7
          have CA := hide (back_k (unhide HB5).p a.i ki rfl)
          have CB := hide (fun w' (h : WK 39 w' q x) => back_d h a.i ki rfl)
          go_wp2_with (first
            | (go_at_call 15; refine (unhide CA).mono ?_; rintro e w6 ⟨rfl, k6, h6⟩; have g6 := hide ((unhide HB5).r.kept k6 hqb); have c9i := k6.cell c9i hxb)
            | (go_at_call 16; refine (unhide CB _ (unhide g6)).mono ?_; rintro e w7 ⟨rfl, k7, h7⟩))
          go_meet
          case rel => exact ⟨x.back a.i, _, _, rfl, rfl, rfl, rfl, both_two (unhide HB5) k6 h6 k7 h7⟩
        by_cases s9 : a.k % 13 = 9
        · have t3 : (a.k % 13 == 3) = false := by simp; omega
          have t4 : (a.k % 13 == 4) = false := by simp; omega
          have t5 : (a.k % 13 == 5) = false := by simp; omega
          have t6 : (a.k % 13 == 6) = false := by simp; omega
          have t7 : (a.k % 13 == 7) = false := by simp; omega
          have t8 : (a.k % 13 == 8) = false := by simp; omega
          have t9 : (a.k % 13 == 9) = true := by simp; omega
          clear s9 s3 s4 s5 s6 s7 s8
          have CA := hide (renew_k (unhide HB5).p rfl)
          have CB := hide (fun w' (h : WK 39 w' q x) => renew_d h rfl)
          go_wp2_with (first
            | (go_at_call 17; refine (unhide CA).mono ?_; rintro e w6 ⟨rfl, k6, h6⟩; have g6 := hide ((unhide HB5).r.kept k6 hqb))
            | (go_at_call 18; refine (unhide CB _ (unhide g6)).mono ?_; rintro e w7 ⟨rfl, k7, h7⟩))
          go_meet
          case rel => exact ⟨x.renew, _, _, rfl, rfl, rfl, rfl, both_two (unhide HB5) k6 h6 k7 h7⟩
        by_cases s10 : a.k % 13 = 10
        · have t3 : (a.k % 13 == 3) = false := by simp; omega
          have t4 : (a.k % 13 == 4) = false := by simp; omega
          have t5 : (a.k % 13 == 5) = false := by simp; omega
          have t6 : (a.k % 13 == 6) = false := by simp; omega
          have t7 : (a.k % 13 == 7) = false := by simp; omega
          have t8 : (a.k % 13 == 8) = false := by simp; omega
          have t9 : (a.k % 13 == 9) = false := by simp; omega
          have t10 : (a.k % 13 == 10) = true := by simp; omega
          clear s10 s3 s4 s5 s6 s7 s8 s9
          have cq := (unhide HB5).r.1.cells.2.2.1
          have CA := hide (ack_k (unhide HB5).p (x.d + 1) (by omega) rfl rfl)
          have CB := hide (fun w' (h : WK 39 w' q x) => ack_d h (x.d + 1) (by omega) rfl rfl)
          go_wp2_with (first
            | (go_at_call 9; refine (unhide CA).mono ?_; rintro e w6 ⟨rfl, k6, h6⟩; have g6 := hide ((unhide HB5).r.kept k6 hqb); have cq := k6.cell cq hqb)
            | (go_at_call 10; refine (unhide CB _ (unhide g6)).mono ?_; rintro e w7 ⟨rfl, k7, h7⟩))
          go_meet
          case rel => exact ⟨x.ack (x.d + 1), _, _, rfl, rfl, rfl, rfl, both_two (unhide HB5) k6 h6 k7 h7⟩
        by_cases s11 : a.k % 13 = 11
        · have t3 : (a.k % 13 == 3) = false := by simp; omega
          have t4 : (a.k % 13 == 4) = false := by simp; omega
          have t5 : (a.k % 13 == 5) = false := by simp; omega
          have t6 : (a.k % 13 == 6) = false := by simp; omega
          have t7 : (a.k % 13 == 7) = false := by simp; omega
          have t8 : (a.k % 13 == 8) = false := by simp; omega
          have t9 : (a.k % 13 == 9) = false := by simp; omega
          have t10 : (a.k % 13 == 10) = false := by simp; omega
          have t11 : (a.k % 13 == 11) = true := by simp; omega
          clear s11 s3 s4 s5 s6 s7 s8 s9 s10
          have cq := (unhide HB5).r.1.cells.2.1
          have CA := hide (grant_k (unhide HB5).p (x.l + 2) (by omega) rfl)
          have CB := hide (fun w' (h : WK 39 w' q x) => grant_d h (x.l + 2) (by omega) rfl)
          go_wp2_with (first
            | (go_at_call 11; refine (unhide CA).mono ?_; rintro e w6 ⟨rfl, k6, h6⟩; have g6 := hide ((unhide HB5).r.kept k6 hqb); have cq := k6.cell cq hqb)
            | (go_at_call 12; refine (unhide CB _ (unhide g6)).mono ?_; rintro e w7 ⟨rfl, k7, h7⟩))
          go_meet
          case rel => exact ⟨x.grant (x.l + 2), _, _, rfl, rfl, rfl, rfl, both_two (unhide HB5) k6 h6 k7 h7⟩
        by_cases s12 : a.k % 13 = 12
        · have t3 : (a.k % 13 == 3) = false := by simp; omega
          have t4 : (a.k % 13 == 4) = false := by simp; omega
          have t5 : (a.k % 13 == 5) = false := by simp; omega
          have t6 : (a.k % 13 == 6) = false := by simp; omega
          have t7 : (a.k % 13 == 7) = false := by simp; omega
          have t8 : (a.k % 13 == 8) = false := by simp; omega
          have t9 : (a.k % 13 == 9) = false := by simp; omega
          have t10 : (a.k % 13 == 10) = false := by simp; omega
          have t11 : (a.k % 13 == 11) = false := by simp; omega
          have t12 : (a.k % 13 == 12) = true := by simp; omega
          clear s12 s3 s4 s5 s6 s7 s8 s9 s10 s11
          have CC := hide (copy_k (unhide HB5).p)
          go_wp2_with (first
            | (go_at_call 19; refine (unhide CC).mono ?_; rintro e w6 ⟨b2, rfl, e6, k6, h6⟩; have c9i := k6.cell c9i id; have hx2 : ¬ oneBlk b2 x1 := fun e => (by have e : x1 = b2 := e; omega); have D1 := hide (push_k h6 rfl rfl); have KC := hide k6; clear k6 h6 CC)
            | (go_at_call 20; refine (unhide D1).mono ?_; rintro e w7 ⟨rfl, k7, h7⟩; have c9i := k7.cell c9i hx2; have D2 := hide (ack_k h7 a.i ki rfl rfl); have KC := hide ((unhide KC).trans k7 (fun i hi e => (by have e : i = b2 := e; omega))); clear k7 h7 D1)
            | (go_at_call 9; refine (unhide D2).mono ?_; rintro e w8 ⟨rfl, k8, h8⟩; have c9i := k8.cell c9i hx2; have D3 := hide (grant_k h8 a.i ki rfl); have KC := hide ((unhide KC).trans k8 (fun i hi e => (by have e : i = b2 := e; omega))); clear k8 h8 D2)
            | (go_at_call 11; refine (unhide D3).mono ?_; rintro e w9 ⟨rfl, k9, h9⟩; have D4 := hide (next_k h9 rfl rfl rfl); have KC := hide ((unhide KC).trans k9 (fun i hi e => (by have e : i = b2 := e; omega))); clear k9 h9 D3)
            | (go_at_call 13; refine (unhide D4).mono ?_; rintro e wa ⟨rfl, ka, ha⟩; have D5 := hide (renew_k ha rfl); have KC := hide ((unhide KC).trans ka (fun i hi e => (by have e : i = b2 := e; omega))); clear ka ha D4)
            | (go_at_call 17; refine (unhide D5).mono ?_; rintro e wb ⟨rfl, kb, hb⟩; have KC := hide ((unhide KC).trans kb (fun i hi e => (by have e : i = b2 := e; omega))); clear kb hb D5))
          go_meet
          case rel => exact ⟨x, _, _, rfl, rfl, rfl, rfl, (unhide HB5).no (unhide KC)⟩
        have t3 : (a.k % 13 == 3) = false := by simp; omega
        have t4 : (a.k % 13 == 4) = false := by simp; omega
        have t5 : (a.k % 13 == 5) = false := by simp; omega
        have t6 : (a.k % 13 == 6) = false := by simp; omega
        have t7 : (a.k % 13 == 7) = false := by simp; omega
        have t8 : (a.k % 13 == 8) = false := by simp; omega
        have t9 : (a.k % 13 == 9) = false := by simp; omega
        have t10 : (a.k % 13 == 10) = false := by simp; omega
        have t11 : (a.k % 13 == 11) = false := by simp; omega
        have t12 : (a.k % 13 == 12) = false := by simp; omega
        clear s3 s4 s5 s6 s7 s8 s9 s10 s11 s12
        have CA := hide (push_k (unhide HB5).p rfl rfl)
        have CB := hide (fun w' (h : WK 39 w' q x) => push_d h rfl rfl)
        go_wp2_with (first
          | (go_at_call 20; refine (unhide CA).mono ?_; rintro e w6 ⟨rfl, k6, h6⟩; have g6 := hide ((unhide HB5).r.kept k6 hqb))
          | (go_at_call 21; refine (unhide CB _ (unhide g6)).mono ?_; rintro e w7 ⟨rfl, k7, h7⟩))
        go_meet
        case rel => exact ⟨x.push, _, _, rfl, rfl, rfl, rfl, both_two (unhide HB5) k6 h6 k7 h7⟩
      case rest =>
        obtain ⟨y, v, n, rfl, rfl, rfl, rfl, hy⟩ := hcut
        have YX := hide hy
        have CL := hide (alike_any hy.p hy.r)
        clear hy
        go_wp2_with (first
          | (go_at_call 22; refine (unhide CL).mono ?_; rintro e w7 ⟨rfl, k7⟩))
        go_roundw
        case rel => exact ⟨k + 1, y, by omega, by go_num, (unhide YX).no k7⟩
        case measure => simp [intOf]; omega
    · have d1 : decide (k < l.length) = false := by simpa using hlt
      have CC := hide (copy_k (unhide HB).p)
      go_wp2_with (first
        | (go_at_call 19; refine (unhide CC).mono ?_; rintro e w2 ⟨b2, rfl, e2, k2, h2⟩; have CL := hide (alike_any h2 ((unhide HB).no k2).r); have KC := hide ((unhide HB).kept.andNo k2); clear h2 k2)
        | (go_at_call 22; refine (unhide CL).mono ?_; rintro e w3 ⟨rfl, k3⟩)
        | (go_at_call 6; refine (framed_any _).mono ?_; rintro e w4 ⟨rfl, k4⟩))
      go_ret
      exact ⟨rfl, ((unhide KC).andNo k3).andNo k4⟩
end Go.Proofs.Ytfmkldhghgbciaa
