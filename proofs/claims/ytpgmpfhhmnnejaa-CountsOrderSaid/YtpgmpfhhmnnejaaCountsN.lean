/-
  Counters: in which order is added makes no difference.
-/
import Derived.Test.YtpgmpfhhmnnejaaCountsM

namespace Go.Proofs.Ytpgmpfhhmnnejaa
open Go.ChangeShapes Go.WideShapes Go.ChangeAt Go.RowKit
set_option linter.unusedVariables false
/-- the acts, by numbers; turned -/
def nth (L : List AT) (i : Nat) : AT := L.getD i ⟨0, 0⟩
def turned (L : List AT) (m : Nat) (i : Nat) : AT := nth L ((i + m) % L.length)
/-- both, apart -/
structure Pair (w0 w : World) (b g b2 g2 : Nat) (l l2 : List Int) : Prop where
  p : CAt w b g l
  r : CAt w b2 g2 l2
  ng : g ≠ g2
  nbg : b ≠ g2
  nbg2 : b2 ≠ g
  sb : w0.heap.size ≤ b ∧ w0.heap.size ≤ g ∧ w0.heap.size ≤ b2 ∧ w0.heap.size ≤ g2
  kept : Chg noBlk w0 w
section
variable {w0 w5 w6 w7 : World} {b g b2 g2 : Nat} {l l2 m m2 : List Int}
theorem Pair.no (h : Pair w0 w5 b g b2 g2 l l2) (k : Chg noBlk w5 w6) : Pair w0 w6 b g b2 g2 l l2 := ⟨h.p.no k, h.r.no k, h.ng, h.nbg, h.nbg2, h.sb, h.kept.andNo k⟩
theorem Pair.next (h : Pair w0 w5 b g b2 g2 l l2) (k6 : Chg (oneBlk g) w5 w6) (h6 : CAt w6 b g m) (k7 : Chg (oneBlk g2) w6 w7) (h7 : CAt w7 b2 g2 m2) : Pair w0 w7 b g b2 g2 m m2 :=
  ⟨h6.kept k7 (fun e => h.nbg e) (fun e => h.ng e), h7, h.ng, h.nbg, h.nbg2, h.sb, (h.kept.trans k6 fun i hi e => by have e : i = g := e; have := h.sb; omega).trans k7 fun i hi e => by have e : i = g2 := e; have := h.sb; omega⟩
end
theorem alloc2_fst (w : World) (A B : Obj) : ((w.alloc A).alloc B).drew.heap[w.heap.size]? = some A := (Below.heap_alloc (w.alloc A) B _ (by simp)).trans (heap_alloc_new w A)
theorem alloc2_snd (w : World) (A B : Obj) : ((w.alloc A).alloc B).drew.heap[w.heap.size + 1]? = some B := by
  have h := heap_alloc_new (w.alloc A) B
  rw [show (w.alloc A).heap.size = w.heap.size + 1 by simp] at h
  exact h
theorem alloc2_chg (w : World) (A B : Obj) : Chg noBlk w ((w.alloc A).alloc B).drew := (((Chg.refl _ w).alloc A).alloc B).drew
/-- where the acts stand -/
def OrdAt (w0 : World) (b g b2 g2 : Nat) (L : List AT) (m : Nat) (i : Value) (w : World) : Prop := ∃ k : Nat, k ≤ L.length ∧ i = .int .i64 (k : Int) ∧ Pair w0 w b g b2 g2 (four (come (nth L) k)) (four (come (turned L m) k))
set_option maxRecDepth 100000 in
set_option maxHeartbeats 4000000 in
theorem order_in (ad : Option Addr) (L : List AT) (cap0 m : Nat) (hm : m ≤ 255) (w : World) (hl : L.length ≤ 80) (h : ActsIn w ad L) :
    Calls Try.prog 5 #[.slice ad L.length cap0, .int .u8 (m : Int)] w (ToldB true w) := by
  have HA := hide h
  clear h
  have NW := hide (fun w => new_c (n := 4) (by omega) (by omega) w)
  go_enter Try.func5, Try.ntmps5
  go_wp2_with fail
  refine (unhide NW _).mono ?_
  rintro e w2 ⟨b, g, rfl, eb, eg, k2, hc⟩
  have HC := hide hc
  have K2 := hide k2
  clear hc k2
  go_wp2_with fail
  refine (unhide NW _).mono ?_
  rintro e w3 ⟨b2, g2, rfl, eb2, eg2, k3, hr⟩
  have lb := (unhide HC).ltb
  have lg := (unhide HC).ltg
  have HB0 := hide (show OrdAt w b g b2 g2 L m (.int .i64 0) w3 from ⟨0, by omega, rfl, (unhide HC).no k3, hr, by omega, by omega, by omega, ⟨eb, eg, by have := (unhide K2).size; omega, by have := (unhide K2).size; omega⟩, (unhide K2).andNo k3⟩)
  clear NW HC K2 k3 hr eb eg eb2 eg2 lb lg
  go_wp2_with fail
  go_loopw [9] (fun i wr => OrdAt w b g b2 g2 L m i wr) (fun i wr => L.length - (intOf i).toNat)
  case atStart => exact unhide HB0
  case round =>
    clear HB0
    obtain ⟨k, hk, rfl, hB⟩ := hrel
    have HB := hide hB
    clear hB
    by_cases hlt : k < L.length
    · have d1 : decide (k < L.length) = true := by simpa using hlt
      obtain ⟨a, ha⟩ : ∃ a, L[k]? = some a := ⟨_, List.getElem?_eq_getElem hlt⟩
      have hz : (k + m) % L.length < L.length := Nat.mod_lt _ (by omega)
      obtain ⟨c, hc⟩ : ∃ c, L[(k + m) % L.length]? = some c := ⟨_, List.getElem?_eq_getElem hz⟩
      have na : nth L k = a := by simp [nth, ha]
      have nc : turned L m k = c := by simp [turned, nth, hc]
      obtain ⟨hok, bb, off, rfl, hrng⟩ := unhide HA k a ha
      obtain ⟨hok2, bb2, off2, e2, hrng2⟩ := unhide HA _ c hc
      simp only [Option.some.injEq, Addr.mk.injEq, and_true] at e2
      obtain ⟨rfl, rfl⟩ := e2
      have i1 : (0 : Int) ≤ (k : Int) := by omega
      have i2 : (k : Int) < (L.length : Int) := by omega
      have hr1 := range_kept hrng (unhide HB).kept
      have hr2 := range_kept hrng2 (unhide HB).kept
      obtain ⟨z, hz0⟩ : ∃ z, (k + m) % L.length = z := ⟨_, rfl⟩
      rw [hz0] at hz hr2
      have hzz : ((k : Int) + (m : Int)) % (L.length : Int) = (z : Int) := by rw [← hz0]; simp
      have w1 : IntKind.i64.wrap ((k : Int) + (m : Int)) = (k : Int) + (m : Int) := IntWalk.i64_in _ (by omega)
      have i3 : (0 : Int) ≤ (z : Int) := by omega
      have i4 : (z : Int) < (L.length : Int) := by omega
      have nz : ¬ L = [] := by intro e; rw [e] at hlt; simp at hlt
      have w0 : IntKind.i64.wrap (m : Int) = (m : Int) := IntWalk.i64_in _ (by omega)
      have hzt : ((k : Int) + (m : Int)).tmod (L.length : Int) = (z : Int) := by rw [Int.tmod_eq_emod_of_nonneg (by omega)]; exact hzz
      have ca0 := hr1 0 (.int .i64 a.i) rfl
      have ca1 := hr1 1 (.int .i64 a.y) rfl
      have cc0 := hr2 0 (.int .i64 c.i) rfl
      have cc1 := hr2 1 (.int .i64 c.y) rfl
      simp only [Nat.add_zero] at ca0 cc0
      have hbb : bb < wr.heap.size := World.block_lt_of_cell? _ _ ca0
      have HOK := hide hok
      have HOK2 := hide hok2
      have NA := hide na
      have NC := hide nc
      clear ha hc hz0 hok hok2 hrng hrng2 hr1 hr2 na nc
      go_wp2_with fail
      go_cut [10, 11] from 35 to 88 (fun x y wx => ∃ bx by', x = .pointer (some ⟨bx, 0, none⟩) ∧ y = .pointer (some ⟨by', 0, none⟩) ∧ wr.heap.size ≤ bx ∧ wr.heap.size ≤ by' ∧ wx.heap[bx]? = some (.cells a.cells.toArray 35 (0, 0)) ∧ wx.heap[by']? = some (.cells c.cells.toArray 35 (0, 0)) ∧ Chg noBlk wr wx)
      case first =>
        go_region
        all_goals
          go_wp2_with fail
          go_meet
          case rel =>
            first
              | exact ⟨_, _, rfl, rfl, by simp, by simp, alloc2_fst wr _ _, alloc2_snd wr _ _, alloc2_chg wr _ _⟩
              | exact ⟨_, _, rfl, rfl, by simp, by simp, alloc2_snd wr _ _, alloc2_fst wr _ _, alloc2_chg wr _ _⟩
      case rest =>
      obtain ⟨bx, bt, rfl, rfl, sx, st, gx, gt, kx⟩ := hcut
      obtain ⟨w5, rfl⟩ : ∃ w5, w5 = wc := ⟨_, rfl⟩
      have HB5 := hide ((unhide HB).no kx)
      have x0 := cellAt gx 0 (.int .i64 a.i) rfl
      have x1 := cellAt gx 1 (.int .i64 a.y) rfl
      have t0 := cellAt gt 0 (.int .i64 c.i) rfl
      have t1 := cellAt gt 1 (.int .i64 c.y) rfl
      have lg := (unhide HB).p.ltg
      have lg2 := (unhide HB).r.ltg
      have nxg : ¬ oneBlk g bx := fun e => by have e : bx = g := e; omega
      have ntg : ¬ oneBlk g bt := fun e => by have e : bt = g := e; omega
      have nxg2 : ¬ oneBlk g2 bx := fun e => by have e : bx = g2 := e; omega
      have ntg2 : ¬ oneBlk g2 bt := fun e => by have e : bt = g2 := e; omega
      have m1 := i64_and3 a.i
      have m2 := i64_and3 c.i
      obtain ⟨A1, A2⟩ := come_next (nth L) k
      obtain ⟨C1, C2⟩ := come_next (turned L m) k
      rw [unhide NA] at A1 A2
      rw [unhide NC] at C1 C2
      obtain ⟨ea, hea⟩ : ∃ ea, addE (four (come (nth L) k)) a.low = ea := ⟨_, rfl⟩
      obtain ⟨ec, hec⟩ : ∃ ec, addE (four (come (turned L m) k)) c.low = ec := ⟨_, rfl⟩
      rw [hea] at A2
      rw [hec] at C2
      obtain ⟨va, hva⟩ : ∃ va, decide (0 ≤ a.y) = va := ⟨_, rfl⟩
      obtain ⟨vc, hvc⟩ : ∃ vc, decide (0 ≤ c.y) = vc := ⟨_, rfl⟩
      have hva2 : (ea == 0) = va := by
        rw [← hva, A2]
        by_cases hy : a.y < 0
        · rw [if_pos hy]; simp; omega
        · rw [if_neg hy]; simp; omega
      have hvc2 : (ec == 0) = vc := by
        rw [← hvc, C2]
        by_cases hy : c.y < 0
        · rw [if_pos hy]; simp; omega
        · rw [if_neg hy]; simp; omega
      have P1 := add_any (unhide HB5).p (low_ok (unhide HOK))
      rw [A1, hea] at P1
      have P2 := fun w' (h : CAt w' b2 g2 (four (come (turned L m) k))) => add_any h (low_ok (unhide HOK2))
      rw [C1, hec] at P2
      obtain ⟨xa, hxa⟩ : ∃ xa, addX (four (come (nth L) k)) a.low = xa := ⟨_, rfl⟩
      obtain ⟨xc, hxc⟩ : ∃ xc, addX (four (come (turned L m) k)) c.low = xc := ⟨_, rfl⟩
      rw [hxa] at P1
      rw [hxc] at P2
      have HP1 := hide P1
      have HP2 := hide P2
      have HN := hide (unhide HB5).ng
      have HR5 := hide (unhide HB5).r
      have hn1 := (unhide HB5).nbg2
      clear gx gt kx ca0 ca1 cc0 cc1 A1 A2 C1 C2 hea hec P1 P2 hxa hxc sx st lg lg2 hzz hzt w1 hbb
      go_wp2_with fail
      refine (unhide HP1).mono ?_
      rintro e w6 ⟨rfl, k6, h6⟩
      replace x0 := k6.cell x0 nxg
      replace x1 := k6.cell x1 nxg
      replace t0 := k6.cell t0 ntg
      replace t1 := k6.cell t1 ntg
      have HR6 := hide ((unhide HR5).kept k6 (fun e => hn1 e) (fun e => unhide HN e.symm))
      have K6 := hide k6
      have H6 := hide h6
      clear k6 h6 HP1
      go_wp2_with fail
      refine (unhide HP2 _ (unhide HR6)).mono ?_
      rintro e w7 ⟨rfl, k7, h7⟩
      replace x1 := k7.cell x1 nxg2
      replace t1 := k7.cell t1 ntg2
      have K7 := hide k7
      have H7 := hide h7
      clear k7 h7 HP2 x0 t0
      go_wp2_with fail
      go_roundw
      case rel => exact ⟨k + 1, by omega, by go_num, (unhide HB5).next (unhide K6) (unhide H6) (unhide K7) (unhide H7)⟩
      case measure => simp [intOf]; omega
    · have d1 : decide (k < L.length) = false := by simpa using hlt
      obtain rfl : k = L.length := by omega
      have heq : four (come (turned L m) L.length) = four (come (nth L) L.length) := by
        rcases Nat.eq_zero_or_pos L.length with h0 | h0
        · rw [h0]; rfl
        · have := come_turn (nth L) h0 m
          unfold turned
          rw [this]
      have HB2 := unhide HB
      rw [heq] at HB2
      obtain ⟨l, hll⟩ : ∃ l, four (come (nth L) L.length) = l := ⟨_, rfl⟩
      rw [hll] at HB2
      have h4 : l.length = 4 := by rw [← hll]; rfl
      have HF := hide HB2
      clear hll heq HB HB2 HA
      go_wp2_with fail
      go_loopw [16] (fun i wz => ∃ j : Nat, j ≤ 4 ∧ i = .int .i64 (j : Int) ∧ wz = wr) (fun i wz => 4 - (intOf i).toNat)
      case atStart => exact ⟨0, by omega, rfl, rfl⟩
      case round =>
        obtain ⟨j, hj, rfl, rfl⟩ := hrel
        by_cases hj2 : j < 4
        · have d2 : decide ((j : Int) < 4) = true := by simp; omega
          obtain ⟨x, hx⟩ : ∃ x, l[j]? = some x := ⟨_, List.getElem?_eq_getElem (by omega)⟩
          obtain ⟨x0, x1⟩ := (unhide HF).p.fit.at hx
          have e1 : decide (x < 0) = false := by simp; omega
          have e2 : decide (4611686018427387904 < x) = false := by simp; omega
          have G1 := hide (get_at (unhide HF).p hx)
          have G2 := hide (get_at (unhide HF).r hx)
          clear hx
          go_wp2_with fail
          refine (unhide G1).mono ?_; rintro e w' ⟨rfl, rfl⟩
          go_wp2_with fail
          refine (unhide G2).mono ?_; rintro e w' ⟨rfl, rfl⟩
          go_wp2_with fail
          refine (unhide G1).mono ?_; rintro e w' ⟨rfl, rfl⟩
          go_wp2_with fail
          refine (unhide G1).mono ?_; rintro e w' ⟨rfl, rfl⟩
          go_wp2_with fail
          go_roundw
          case rel => exact ⟨j + 1, by omega, by go_num, by first | rfl | trivial⟩
          case measure => simp [intOf]; omega
        · have d2 : decide ((j : Int) < 4) = false := by simp; omega
          go_wp2_with (first
            | (go_at_call 6; refine (added_any _).mono ?_; rintro e w6 ⟨rfl, k6⟩))
          go_ret
          exact ⟨rfl, (unhide HF).kept.andNo k6⟩
set_option maxRecDepth 100000 in
theorem order_out (ad : Option Addr) (n cap0 m : Nat) (w : World) (hn : 80 < n) :
    Calls Try.prog 5 #[.slice ad n cap0, .int .u8 (m : Int)] w (ToldB true w) := by
  go_enter Try.func5, Try.ntmps5
  go_wp2_with (first
    | (go_at_call 6; refine (added_any _).mono ?_; rintro e w4 ⟨rfl, k4⟩))
  go_ret
  exact ⟨rfl, k4⟩
theorem order_any (ad : Option Addr) (L : List AT) (cap0 m : Nat) (hm : m ≤ 255) (w : World) (h : ActsIn w ad L) :
    Calls Try.prog 5 #[.slice ad L.length cap0, .int .u8 (m : Int)] w (ToldB true w) := by
  by_cases hl : L.length ≤ 80
  · exact order_in ad L cap0 m hm w hl h
  · exact order_out ad L.length cap0 m w (by omega)
end Go.Proofs.Ytpgmpfhhmnnejaa
