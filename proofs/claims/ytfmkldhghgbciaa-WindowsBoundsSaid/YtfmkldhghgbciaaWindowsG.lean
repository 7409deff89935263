/-
  Windows: whatever is done, Done, Sent and Next stay within.
-/
import Derived.Test.YtfmkldhghgbciaaWindowsF
import Derived.Deep.CutBlock
import Derived.Deep.CutRange
namespace Go.Proofs.Ytfmkldhghgbciaa
open Go.ChangeShapes Go.WideShapes Go.ChangeAt Go.RowKit
set_option linter.unusedVariables false
/-- where the acts stand: a window with at most as many entries as acts were -/
def BoundAt (w0 : World) (b : Nat) (n : Int) (len : Nat) (i : Value) (w : World) : Prop :=
  ∃ (k : Nat) (x : Win), k ≤ len ∧ i = .int .i64 (k : Int) ∧ WK 45 w b x ∧ x.c = n ∧ x.l ≤ (k : Int) ∧ x.l - x.d ≤ n ∧ Chg noBlk w0 w
/-- what one act leads to -/
def After (w0 : World) (b : Nat) (n : Int) (k : Nat) (x : Win) (w : World) : Prop :=
  ∃ y : Win, WK 45 w b y ∧ y.c = n ∧ y.l ≤ (k : Int) + 1 ∧ y.l - y.d ≤ n ∧ x.d ≤ y.d ∧ x.l ≤ y.l ∧ Chg noBlk w0 w
/-- what an act leaves, and what it may change -/
def Kin (x y : Win) : Prop := y.c = x.c ∧ y.l = x.l ∧ x.d ≤ y.d
theorem fold_ack (x : Win) (i j : Int) : Kin x ((x.ack i).ack j) := by
  have h : ∀ (x : Win) (i : Int), Kin x (x.ack i) := fun x i => by
    unfold Win.ack Win.canAck
    split
    · rename_i h
      simp at h
      exact ⟨rfl, rfl, by show x.d ≤ i; omega⟩
    · exact ⟨rfl, rfl, Int.le_refl _⟩
  obtain ⟨h1, h2, h3⟩ := h x i
  obtain ⟨g1, g2, g3⟩ := h (x.ack i) j
  exact ⟨g1.trans h1, g2.trans h2, Int.le_trans h3 g3⟩
section
variable {w0 w5 w6 w7 : World} {b k : Nat} {n : Int} {x y : Win}
theorem after_one (kw : Chg noBlk w0 w5) (hb : w0.heap.size ≤ b) (k6 : Chg (oneBlk b) w5 w6) (h : WK 45 w6 b y) (hc : x.c = n) (hl : x.l ≤ (k : Int)) (hd : x.l - x.d ≤ n) (hk : Kin x y) : After w0 b n k x w6 := by
  obtain ⟨h1, h2, h3⟩ := hk
  exact ⟨y, h, h1.trans hc, by omega, by omega, h3, by omega, kw.trans k6 fun i hi e => by have e : i = b := e; omega⟩
theorem after_two (kw : Chg noBlk w0 w5) (hb : w0.heap.size ≤ b) (k6 : Chg (oneBlk b) w5 w6) (k7 : Chg (oneBlk b) w6 w7) (h : WK 45 w7 b y) (hc : x.c = n) (hl : x.l ≤ (k : Int)) (hd : x.l - x.d ≤ n) (hk : Kin x y) : After w0 b n k x w7 :=
  after_one kw hb (k6.trans k7 fun _ _ e => e) h hc hl hd hk
end
set_option maxRecDepth 100000 in
set_option maxHeartbeats 40000000 in
theorem bounds_in (q : Nat) (hq : q ≤ 255) (ad : Option Addr) (l : List AT) (cap : Nat) (w : World) (hl : l.length ≤ 200) (h : ActsIn w ad l) :
    Calls Try.prog 5 #[.int .u8 (q : Int), .slice ad l.length cap] w (ToldB true w) := by
  have HA := hide h
  clear h
  obtain ⟨n, hn⟩ : ∃ n : Int, n = 1 + (q : Int) % 16 := ⟨_, rfl⟩
  have n1 : 1 ≤ n := by omega
  have n2 : n ≤ 16 := by omega
  have NW := hide (fun w => new_k (c := n) (l := 0) (d := 0) (by simp [mayB]; omega) w)
  have HN := hide hn
  go_enter Try.func5, Try.ntmps5
  go_wp2_with (first
    | (go_at_call 7; rw [← unhide HN]; refine (unhide NW _).mono ?_; rintro e w1 ⟨b, rfl, hb, k1, h1⟩; have H1 := hide h1; have K1 := hide k1; clear NW h1 k1))
  have B0 : BoundAt w b n l.length (.int .i64 0) w1 := ⟨0, _, by omega, rfl, unhide H1, rfl, by simp, by simp; omega, unhide K1⟩
  have HB0 := hide B0
  clear B0 H1 K1
  rw [← unhide HN]
  go_loopw [8] (fun i wr => BoundAt w b n l.length i wr) (fun i wr => l.length - (intOf i).toNat)
  case atStart => exact unhide HB0
  case round =>
    clear HB0 hn
    obtain ⟨k, x, hk, rfl, hx, hc, hlk, hld, kw⟩ := hrel
    have HX := hide hx
    have HC := hide hc
    have KW := hide kw
    have ok := hx.2
    obtain ⟨c1, c2, d0, dl, l2, s0, sl, m0, m2⟩ := ok
    clear hx hc kw
    by_cases hlt : k < l.length
    · have d1 : decide (k < l.length) = true := by simpa using hlt
      obtain ⟨a, ha⟩ : ∃ a, l[k]? = some a := ⟨_, List.getElem?_eq_getElem hlt⟩
      obtain ⟨hok, bb, off, rfl, hrng⟩ := unhide HA k a ha
      have i1 : (0 : Int) ≤ (k : Int) := by omega
      have i2 : (k : Int) < (l.length : Int) := by omega
      have hr1 := range_kept hrng (unhide KW)
      have HOK := hide hok
      have CD := hide (fun w' (h : Chg noBlk wr w') => done_k ((unhide HX).no h) rfl)
      have CL := hide (fun w' (h : Chg noBlk wr w') => last_k ((unhide HX).no h) rfl)
      clear ha hok hrng
      go_upto_block 2 with (first
        | (refine wpList_load_mid rfl 33 (.tmp 37) rfl bb (off + k * 2) rfl a.cells _ hr1 Try.underlying33 rfl (by rw [size_act]; rfl) ?_)
        | (refine wpL_alloc rfl 33 rfl _ zero_act ?_; intro x1 w4 e4 k4 g1 z4)
        | (refine wpL_store rfl 33 (.tmp 9) (.tmp 38) rfl x1 a.cells.toArray rfl rfl _ _ g1 (by rw [size_act]; rfl) rfl a.one ?_; intro w5 k5 g1 z5; have K5 := hide (k4.trans k5 fun i hi e => by have e : i = x1 := e; omega); have c9 := cellAt g1 0 (.int .u8 a.k) (by rfl))
        | (go_at_call 24; refine (unhide CD _ (unhide K5)).mono ?_; rintro e w' ⟨rfl, rfl⟩)
        | (go_at_call 23; refine (unhide CL _ (unhide K5)).mono ?_; rintro e w' ⟨rfl, rfl⟩))
      have KW5 := hide ((unhide KW).andNo (unhide K5))
      have HX5 := hide ((unhide HX).no (unhide K5))
      have c9i := cellAt g1 1 (.int .i64 a.i) (by rfl)
      have ki := (unhide HOK).i0
      have k0 := (unhide HOK).k0
      clear k4 k5 g1 e4 z4 z5 CD CL K5 hr1 i1 i2
      go_cut [12, 13] (fun _ _ wx => After w b n k x wx)
      case first =>
        have kk : (k : Int) < 200 := by omega
        have CA := hide (fun w' (h : WK 45 w' b x) => ack_k h a.i ki rfl rfl)
        have CB := hide (fun w' (h : WK 45 w' b (x.ack a.i)) => ack_k h (x.d + 1) (by omega) rfl rfl)
        have CG := hide (fun w' (h : WK 45 w' b x) => grant_k h a.i ki rfl)
        have CH := hide (fun w' (h : WK 45 w' b (x.grant a.i)) => grant_k h (x.l + 1) (by omega) rfl)
        have CBK := hide (back_k (unhide HX5) a.i ki rfl)
        have CR := hide (renew_k (unhide HX5) rfl)
        by_cases s3 : a.k % 13 = 3
        · have t3 : (a.k % 13 == 3) = true := by simp; omega
          clear s3
          go_wp2_with (first
            | (go_at_call 9; refine (unhide CA _ (unhide HX5)).mono ?_; rintro e w6 ⟨rfl, k6, h6⟩; have HX6 := hide h6; clear CA)
            | (go_at_call 9; refine (unhide CB _ (unhide HX6)).mono ?_; rintro e w7 ⟨rfl, k7, h7⟩))
          go_meet
          case rel => exact after_two (unhide KW5) hb k6 k7 h7 (unhide HC) hlk hld (fold_ack x a.i (x.d + 1))
        by_cases s10 : a.k % 13 = 10
        · have t3 : (a.k % 13 == 3) = false := by simp; omega
          have t10 : (a.k % 13 == 10) = true := by simp; omega
          clear s10 s3
          go_wp2_with (first
            | (go_at_call 9; refine (unhide CA _ (unhide HX5)).mono ?_; rintro e w6 ⟨rfl, k6, h6⟩; have HX6 := hide h6; clear CA)
            | (go_at_call 9; refine (unhide CB _ (unhide HX6)).mono ?_; rintro e w7 ⟨rfl, k7, h7⟩))
          go_meet
          case rel => exact after_two (unhide KW5) hb k6 k7 h7 (unhide HC) hlk hld (fold_ack x a.i (x.d + 1))
        by_cases s4 : a.k % 13 = 4
        · have t3 : (a.k % 13 == 3) = false := by simp; omega
          have t10 : (a.k % 13 == 10) = false := by simp; omega
          have t4 : (a.k % 13 == 4) = true := by simp; omega
          clear s4 s3 s10
          go_wp2_with (first
            | (go_at_call 11; refine (unhide CG _ (unhide HX5)).mono ?_; rintro e w6 ⟨rfl, k6, h6⟩; have HX6 := hide h6; clear CG)
            | (go_at_call 11; refine (unhide CH _ (unhide HX6)).mono ?_; rintro e w7 ⟨rfl, k7, h7⟩))
          go_meet
          case rel => exact after_two (unhide KW5) hb k6 k7 h7 (unhide HC) hlk hld ⟨rfl, rfl, Int.le_refl _⟩
        by_cases s11 : a.k % 13 = 11
        · have t3 : (a.k % 13 == 3) = false := by simp; omega
          have t10 : (a.k % 13 == 10) = false := by simp; omega
          have t4 : (a.k % 13 == 4) = false := by simp; omega
          have t11 : (a.k % 13 == 11) = true := by simp; omega
          clear s11 s3 s10 s4
          go_wp2_with (first
            | (go_at_call 11; refine (unhide CG _ (unhide HX5)).mono ?_; rintro e w6 ⟨rfl, k6, h6⟩; have HX6 := hide h6; clear CG)
            | (go_at_call 11; refine (unhide CH _ (unhide HX6)).mono ?_; rintro e w7 ⟨rfl, k7, h7⟩))
          go_meet
          case rel => exact after_two (unhide KW5) hb k6 k7 h7 (unhide HC) hlk hld ⟨rfl, rfl, Int.le_refl _⟩
        by_cases s5 : a.k % 13 = 5
        · have t3 : (a.k % 13 == 3) = false := by simp; omega
          have t10 : (a.k % 13 == 10) = false := by simp; omega
          have t4 : (a.k % 13 == 4) = false := by simp; omega
          have t11 : (a.k % 13 == 11) = false := by simp; omega
          have t5 : (a.k % 13 == 5) = true := by simp; omega
          clear s5 s3 s10 s4 s11
          cases hcn : x.canNext with
          | true =>
            obtain ⟨q1, q2⟩ : x.s < x.l ∧ x.s < x.m := by simpa [Win.canNext] using hcn
            have hn1 : x.nextN = x.s + 1 := by simp [Win.nextN, hcn]
            have hn2 : x.next = { x with s := x.s + 1 } := by simp [Win.next, hcn]
            have CN := hide (next_k (unhide HX5) hn1 hcn hn2)
            have t20 : decide (x.m < x.s + 1) = false := by simp; omega
            have t21 : decide (x.l < x.s + 1) = false := by simp; omega
            have t22 : decide (x.s + 1 < 1) = false := by simp; omega
            clear hcn hn1 hn2
            go_wp2_with (first
              | (go_at_call 13; refine (unhide CN).mono ?_; rintro e w6 ⟨rfl, k6, h6⟩; have HX6 := hide h6; have CM := hide (limit_k h6 (n := x.m) rfl))
              | (go_at_call 26; refine (unhide CM).mono ?_; rintro e w7 ⟨rfl, rfl⟩))
            go_meet
            case rel => exact after_one (unhide KW5) hb k6 (unhide HX6) (unhide HC) hlk hld ⟨rfl, rfl, Int.le_refl _⟩
          | false =>
            have hn1 : x.nextN = 0 := by simp [Win.nextN, hcn]
            have hn2 : x.next = x := by simp [Win.next, hcn]
            have CN := hide (next_k (unhide HX5) hn1 hcn hn2)
            have q0 : x.l ≤ x.s ∨ x.m ≤ x.s := by
              have := hcn; simp [Win.canNext] at this; omega
            clear hcn hn1 hn2
            by_cases q1 : x.m < x.l
            · have t20 : decide (x.s < x.m) = false := by simp; omega
              clear q0
              go_wp2_with (first
                | (go_at_call 13; refine (unhide CN).mono ?_; rintro e w6 ⟨rfl, k6, h6⟩; have HX6 := hide h6; have CM := hide (limit_k h6 rfl); have CS := hide (sent_k h6 rfl))
                | (go_at_call 26; refine (unhide CM).mono ?_; rintro e w7 ⟨rfl, rfl⟩)
                | (go_at_call 25; refine (unhide CS).mono ?_; rintro e w7 ⟨rfl, rfl⟩))
              go_meet
              case rel => exact after_one (unhide KW5) hb k6 (unhide HX6) (unhide HC) hlk hld ⟨rfl, rfl, Int.le_refl _⟩
            · have t20 : decide (x.s < x.l) = false := by simp; omega
              have q2 : x.l ≤ x.m := by omega
              clear q0 q1
              go_wp2_with (first
                | (go_at_call 13; refine (unhide CN).mono ?_; rintro e w6 ⟨rfl, k6, h6⟩; have HX6 := hide h6; have CM := hide (limit_k h6 rfl); have CS := hide (sent_k h6 rfl))
                | (go_at_call 26; refine (unhide CM).mono ?_; rintro e w7 ⟨rfl, rfl⟩)
                | (go_at_call 25; refine (unhide CS).mono ?_; rintro e w7 ⟨rfl, rfl⟩))
              go_meet
              case rel => exact after_one (unhide KW5) hb k6 (unhide HX6) (unhide HC) hlk hld ⟨rfl, rfl, Int.le_refl _⟩
        by_cases s6 : a.k % 13 = 6
        · have t3 : (a.k % 13 == 3) = false := by simp; omega
          have t10 : (a.k % 13 == 10) = false := by simp; omega
          have t4 : (a.k % 13 == 4) = false := by simp; omega
          have t11 : (a.k % 13 == 11) = false := by simp; omega
          have t5 : (a.k % 13 == 5) = false := by simp; omega
          have t6 : (a.k % 13 == 6) = true := by simp; omega
          clear s6 s3 s10 s4 s11 s5
          cases hcn : x.canNext with
          | true =>
            obtain ⟨q1, q2⟩ : x.s < x.l ∧ x.s < x.m := by simpa [Win.canNext] using hcn
            have hn1 : x.nextN = x.s + 1 := by simp [Win.nextN, hcn]
            have hn2 : x.next = { x with s := x.s + 1 } := by simp [Win.next, hcn]
            have CN := hide (next_k (unhide HX5) hn1 hcn hn2)
            have t20 : decide (x.m < x.s + 1) = false := by simp; omega
            have t21 : decide (x.l < x.s + 1) = false := by simp; omega
            have t22 : decide (x.s + 1 < 1) = false := by simp; omega
            clear hcn hn1 hn2
            go_wp2_with (first
              | (go_at_call 13; refine (unhide CN).mono ?_; rintro e w6 ⟨rfl, k6, h6⟩; have HX6 := hide h6; have CM := hide (limit_k h6 (n := x.m) rfl))
              | (go_at_call 26; refine (unhide CM).mono ?_; rintro e w7 ⟨rfl, rfl⟩))
            go_meet
            case rel => exact after_one (unhide KW5) hb k6 (unhide HX6) (unhide HC) hlk hld ⟨rfl, rfl, Int.le_refl _⟩
          | false =>
            have hn1 : x.nextN = 0 := by simp [Win.nextN, hcn]
            have hn2 : x.next = x := by simp [Win.next, hcn]
            have CN := hide (next_k (unhide HX5) hn1 hcn hn2)
            have q0 : x.l ≤ x.s ∨ x.m ≤ x.s := by
              have := hcn; simp [Win.canNext] at this; omega
            clear hcn hn1 hn2
            by_cases q1 : x.m < x.l
            · have t20 : decide (x.s < x.m) = false := by simp; omega
              clear q0
              go_wp2_with (first
                | (go_at_call 13; refine (unhide CN).mono ?_; rintro e w6 ⟨rfl, k6, h6⟩; have HX6 := hide h6; have CM := hide (limit_k h6 rfl); have CS := hide (sent_k h6 rfl))
                | (go_at_call 26; refine (unhide CM).mono ?_; rintro e w7 ⟨rfl, rfl⟩)
                | (go_at_call 25; refine (unhide CS).mono ?_; rintro e w7 ⟨rfl, rfl⟩))
              go_meet
              case rel => exact after_one (unhide KW5) hb k6 (unhide HX6) (unhide HC) hlk hld ⟨rfl, rfl, Int.le_refl _⟩
            · have t20 : decide (x.s < x.l) = false := by simp; omega
              have q2 : x.l ≤ x.m := by omega
              clear q0 q1
              go_wp2_with (first
                | (go_at_call 13; refine (unhide CN).mono ?_; rintro e w6 ⟨rfl, k6, h6⟩; have HX6 := hide h6; have CM := hide (limit_k h6 rfl); have CS := hide (sent_k h6 rfl))
                | (go_at_call 26; refine (unhide CM).mono ?_; rintro e w7 ⟨rfl, rfl⟩)
                | (go_at_call 25; refine (unhide CS).mono ?_; rintro e w7 ⟨rfl, rfl⟩))
              go_meet
              case rel => exact after_one (unhide KW5) hb k6 (unhide HX6) (unhide HC) hlk hld ⟨rfl, rfl, Int.le_refl _⟩
        by_cases s7 : a.k % 13 = 7
        · have t3 : (a.k % 13 == 3) = false := by simp; omega
          have t10 : (a.k % 13 == 10) = false := by simp; omega
          have t4 : (a.k % 13 == 4) = false := by simp; omega
          have t11 : (a.k % 13 == 11) = false := by simp; omega
          have t5 : (a.k % 13 == 5) = false := by simp; omega
          have t6 : (a.k % 13 == 6) = false := by simp; omega
          have t7 : (a.k % 13 == 7) = true := by simp; omega
          clear s7 s3 s10 s4 s11 s5 s6
          cases hcn : x.canNext with
          | true =>
            obtain ⟨q1, q2⟩ : x.s < x.l ∧ x.s < x.m := by simpa [Win.canNext] using hcn
            have hn1 : x.nextN = x.s + 1 := by simp [Win.nextN, hcn]
            have hn2 : x.next = { x with s := x.s + 1 } := by simp [Win.next, hcn]
            have CN := hide (next_k (unhide HX5) hn1 hcn hn2)
            have t20 : decide (x.m < x.s + 1) = false := by simp; omega
            have t21 : decide (x.l < x.s + 1) = false := by simp; omega
            have t22 : decide (x.s + 1 < 1) = false := by simp; omega
            clear hcn hn1 hn2
            go_wp2_with (first
              | (go_at_call 13; refine (unhide CN).mono ?_; rintro e w6 ⟨rfl, k6, h6⟩; have HX6 := hide h6; have CM := hide (limit_k h6 (n := x.m) rfl))
              | (go_at_call 26; refine (unhide CM).mono ?_; rintro e w7 ⟨rfl, rfl⟩))
            go_meet
            case rel => exact after_one (unhide KW5) hb k6 (unhide HX6) (unhide HC) hlk hld ⟨rfl, rfl, Int.le_refl _⟩
          | false =>
            have hn1 : x.nextN = 0 := by simp [Win.nextN, hcn]
            have hn2 : x.next = x := by simp [Win.next, hcn]
            have CN := hide (next_k (unhide HX5) hn1 hcn hn2)
            have q0 : x.l ≤ x.s ∨ x.m ≤ x.s := by
              have := hcn; simp [Win.canNext] at this; omega
            clear hcn hn1 hn2
            by_cases q1 : x.m < x.l
            · have t20 : decide (x.s < x.m) = false := by simp; omega
              clear q0
              go_wp2_with (first
                | (go_at_call 13; refine (unhide CN).mono ?_; rintro e w6 ⟨rfl, k6, h6⟩; have HX6 := hide h6; have CM := hide (limit_k h6 rfl); have CS := hide (sent_k h6 rfl))
                | (go_at_call 26; refine (unhide CM).mono ?_; rintro e w7 ⟨rfl, rfl⟩)
                | (go_at_call 25; refine (unhide CS).mono ?_; rintro e w7 ⟨rfl, rfl⟩))
              go_meet
              case rel => exact after_one (unhide KW5) hb k6 (unhide HX6) (unhide HC) hlk hld ⟨rfl, rfl, Int.le_refl _⟩
            · have t20 : decide (x.s < x.l) = false := by simp; omega
              have q2 : x.l ≤ x.m := by omega
              clear q0 q1
              go_wp2_with (first
                | (go_at_call 13; refine (unhide CN).mono ?_; rintro e w6 ⟨rfl, k6, h6⟩; have HX6 := hide h6; have CM := hide (limit_k h6 rfl); have CS := hide (sent_k h6 rfl))
                | (go_at_call 26; refine (unhide CM).mono ?_; rintro e w7 ⟨rfl, rfl⟩)
                | (go_at_call 25; refine (unhide CS).mono ?_; rintro e w7 ⟨rfl, rfl⟩))
              go_meet
              case rel => exact after_one (unhide KW5) hb k6 (unhide HX6) (unhide HC) hlk hld ⟨rfl, rfl, Int.le_refl _⟩
        by_cases s8 : a.k % 13 = 8
        · have t3 : (a.k % 13 == 3) = false := by simp; omega
          have t10 : (a.k % 13 == 10) = false := by simp; omega
          have t4 : (a.k % 13 == 4) = false := by simp; omega
          have t11 : (a.k % 13 == 11) = false := by simp; omega
          have t5 : (a.k % 13 == 5) = false := by simp; omega
          have t6 : (a.k % 13 == 6) = false := by simp; omega
          have t7 : (a.k % 13 == 7) = false := by simp; omega
          have t8 : (a.k % 13 == 8) = true := by simp; omega
          clear s8 s3 s10 s4 s11 s5 s6 s7
          go_wp2_with (first
            | (go_at_call 15; refine (unhide CBK).mono ?_; rintro e w6 ⟨rfl, k6, h6⟩))
          go_meet
          case rel => exact after_one (unhide KW5) hb k6 h6 (unhide HC) hlk hld ⟨rfl, rfl, Int.le_refl _⟩
        by_cases s9 : a.k % 13 = 9
        · have t3 : (a.k % 13 == 3) = false := by simp; omega
          have t10 : (a.k % 13 == 10) = false := by simp; omega
          have t4 : (a.k % 13 == 4) = false := by simp; omega
          have t11 : (a.k % 13 == 11) = false := by simp; omega
          have t5 : (a.k % 13 == 5) = false := by simp; omega
          have t6 : (a.k % 13 == 6) = false := by simp; omega
          have t7 : (a.k % 13 == 7) = false := by simp; omega
          have t8 : (a.k % 13 == 8) = false := by simp; omega
          have t9 : (a.k % 13 == 9) = true := by simp; omega
          clear s9 s3 s10 s4 s11 s5 s6 s7 s8
          go_wp2_with (first
            | (go_at_call 17; refine (unhide CR).mono ?_; rintro e w6 ⟨rfl, k6, h6⟩))
          go_meet
          case rel => exact after_one (unhide KW5) hb k6 h6 (unhide HC) hlk hld ⟨rfl, rfl, Int.le_refl _⟩
        have t3 : (a.k % 13 == 3) = false := by simp; omega
        have t10 : (a.k % 13 == 10) = false := by simp; omega
        have t4 : (a.k % 13 == 4) = false := by simp; omega
        have t11 : (a.k % 13 == 11) = false := by simp; omega
        have t5 : (a.k % 13 == 5) = false := by simp; omega
        have t6 : (a.k % 13 == 6) = false := by simp; omega
        have t7 : (a.k % 13 == 7) = false := by simp; omega
        have t8 : (a.k % 13 == 8) = false := by simp; omega
        have t9 : (a.k % 13 == 9) = false := by simp; omega
        clear s3 s10 s4 s11 s5 s6 s7 s8 s9
        cases hcp : x.canPush with
        | true =>
          obtain ⟨q1, q2⟩ : x.l < x.d + x.c ∧ x.l < 4096 := by simpa [Win.canPush] using hcp
          have hn2 : x.push = { x with l := x.l + 1 } := by simp [Win.push, hcp]
          have CP := hide (push_k (unhide HX5) hcp hn2)
          have t20 : decide (x.l - x.d < n) = true := by have := unhide HC; simp; omega
          have q3 : x.l - x.d < n := by have := unhide HC; omega
          clear hcp hn2
          go_wp2_with (first
            | (go_at_call 20; refine (unhide CP).mono ?_; rintro e w6 ⟨rfl, k6, h6⟩; have HX6 := hide h6))
          go_meet
          case rel => exact ⟨_, unhide HX6, unhide HC, by show x.l + 1 ≤ _; omega, by show x.l + 1 - x.d ≤ n; omega, Int.le_refl _, by show x.l ≤ x.l + 1; omega, (unhide KW5).trans k6 fun i hi e => by have e : i = b := e; omega⟩
        | false =>
          have hn2 : x.push = x := by simp [Win.push, hcp]
          have CP := hide (push_k (unhide HX5) hcp hn2)
          have t20 : decide (x.l - x.d < n) = false := by
            have h1 := unhide HC
            have h2 := hcp
            simp [Win.canPush] at h2
            simp
            omega
          clear hcp hn2
          go_wp2_with (first
            | (go_at_call 20; refine (unhide CP).mono ?_; rintro e w6 ⟨rfl, k6, h6⟩; have HX6 := hide h6))
          go_meet
          case rel => exact after_one (unhide KW5) hb k6 (unhide HX6) (unhide HC) hlk hld ⟨rfl, rfl, Int.le_refl _⟩
      case rest =>
        obtain ⟨y, hy, yc, yl, yld, dy, ly, kw⟩ := hcut
        have YX := hide hy
        have KY := hide kw
        obtain ⟨p1, p2, p3, p4, p5, p6, p7, p8, p9⟩ := hy.2
        have D1 := hide (done_k hy rfl)
        have D2 := hide (last_k hy rfl)
        have D3 := hide (sent_k hy rfl)
        have hfree : y.free = n - (y.l - y.d) := by unfold Win.free; omega
        have D4 := hide (free_k hy hfree)
        have D5 := hide (fun q => last_k (hy.drewN q) rfl)
        have D6 := hide (fun q => done_k (hy.drewN q) rfl)
        have YC := hide yc
        clear hy kw hfree yc
        have t1 : decide (y.d < x.d) = false := by simp; omega
        have t2 : decide (y.l < x.l) = false := by simp; omega
        have t3 : decide (y.l < y.d) = false := by simp; omega
        have t4 : decide (y.l < y.s) = false := by simp; omega
        have t5 : decide (y.s < 0) = false := by simp; omega
        have t6 : decide (n < y.l - y.d) = false := by simp; omega
        go_wp2_with (first
          | (go_at_call 24; refine (unhide D1).mono ?_; rintro e w' ⟨rfl, rfl⟩)
          | (go_at_call 23; refine (unhide D2).mono ?_; rintro e w' ⟨rfl, rfl⟩)
          | (go_at_call 25; refine (unhide D3).mono ?_; rintro e w' ⟨rfl, rfl⟩)
          | (go_at_call 28; refine (unhide D4).mono ?_; rintro e w' ⟨rfl, q1, rfl⟩)
          | (go_at_call 23; refine (unhide D5 _).mono ?_; rintro e w' ⟨rfl, rfl⟩)
          | (go_at_call 24; refine (unhide D6 _).mono ?_; rintro e w' ⟨rfl, rfl⟩))
        go_roundw
        case rel => exact ⟨k + 1, y, by omega, by go_num, (unhide YX).drewN q1, unhide YC, by omega, by omega, (unhide KY).drewN q1⟩
        case measure => simp [intOf]; omega
    · have d1 : decide (k < l.length) = false := by simpa using hlt
      go_wp2_with (first
        | (go_at_call 6; refine (framed_any _).mono ?_; rintro e w4 ⟨rfl, k4⟩))
      go_ret
      exact ⟨rfl, (unhide KW).andNo k4⟩
end Go.Proofs.Ytfmkldhghgbciaa
