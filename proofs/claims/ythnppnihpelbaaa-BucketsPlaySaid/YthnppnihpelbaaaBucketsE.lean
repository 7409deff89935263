/-
  The document's buckets.
-/
import Derived.Test.YthnppnihpelbaaaBucketsC
import Derived.Deep.CutRange
namespace Go.Proofs.Ythnppnihpelbaaa
open Go.ChangeShapes Go.WideShapes Go.ChangeAt Go.RowKit
set_option linter.unusedVariables false
/-- at b stands the document's bucket x -/
def DAt (w : World) (b : Nat) (x : Bkt) : Prop := w.heap[b]? = some (.cells #[.int .i64 x.c, .int .i64 x.r, .int .i64 x.t, .int .i64 x.s, .int .i64 x.k] 43 (0, 0))
def DK (w : World) (b : Nat) (x : Bkt) : Prop := DAt w b x ∧ x.Ok
/-- told: v; behind it the document's bucket at b is x -/
def DidD (b : Nat) (v : Value) (x : Bkt) (w : World) (e : Ending) (w' : World) : Prop := e = .returned v ∧ Chg (oneBlk b) w w' ∧ DK w' b x
def MadeD (v : Value → Value) (x : Bkt) (w : World) (e : Ending) (w' : World) : Prop := ∃ b, e = .returned (v (.pointer (some ⟨b, 0, none⟩))) ∧ w.heap.size ≤ b ∧ Chg noBlk w w' ∧ DK w' b x
section
variable {w w' : World} {b : Nat} {x : Bkt} {S : Nat → Prop}
theorem DAt.kept (h : DAt w b x) (k : Chg S w w') (hn : ¬ S b) : DAt w' b x := k.at h hn
theorem DAt.cells (h : DAt w b x) : w.cell? ⟨b, 0, none⟩ = some (.int .i64 x.c) ∧ w.cell? ⟨b, 1, none⟩ = some (.int .i64 x.r) ∧ w.cell? ⟨b, 2, none⟩ = some (.int .i64 x.t) ∧ w.cell? ⟨b, 3, none⟩ = some (.int .i64 x.s) ∧ w.cell? ⟨b, 4, none⟩ = some (.int .i64 x.k) :=
  ⟨cellAt h 0 _ rfl, cellAt h 1 _ rfl, cellAt h 2 _ rfl, cellAt h 3 _ rfl, cellAt h 4 _ rfl⟩
theorem DK.kept (h : DK w b x) (k : Chg S w w') (hn : ¬ S b) : DK w' b x := ⟨h.1.kept k hn, h.2⟩
theorem DK.no (h : DK w b x) (k : Chg noBlk w w') : DK w' b x := h.kept k id
theorem DK.drewN (h : DK w b x) (n : Nat) : DK (w.drewN n) b x := h
theorem DK.lt (h : DK w b x) : b < w.heap.size := lt_of_block h.1
theorem tok_d {y : Bkt} (h : DAt w b y) : tokOf b w = y.t := by
  unfold tokOf
  rw [h.cells.2.2.1]
  rfl
theorem come_d {y : Bkt} {n : Nat} (h : DAt w b y) :
    DAt (((w.drewN n).setCell ⟨b, 2, none⟩ (.int .i64 (y.t + 1))).setCell ⟨b, 3, none⟩ (.int .i64 (y.s + y.r))) b y.come ∧ Chg (oneBlk b) w (((w.drewN n).setCell ⟨b, 2, none⟩ (.int .i64 (y.t + 1))).setCell ⟨b, 3, none⟩ (.int .i64 (y.s + y.r))) := by
  have h1 : (w.drewN n).heap[b]? = _ := h
  have h2 := setCell_heap (.int .i64 (y.t + 1)) h1 (o := 2)
  have h3 := setCell_heap (.int .i64 (y.s + y.r)) h2 (o := 3)
  refine ⟨?_, (((Chg.refl _ w).drewN n).trans (setCell_chg (w.drewN n) b 2 (.int .i64 (y.t + 1))) fun _ _ e => e).trans (setCell_chg _ b 3 (.int .i64 (y.s + y.r))) fun _ _ e => e⟩
  unfold DAt
  rw [h3]
  rfl
/-- where the tokens come: as many as are due are due still -/
def FillD (b : Nat) (x : Bkt) (w wr : World) : Prop := ∃ y : Bkt, y.Ok ∧ DAt wr b y ∧ y.fill = x.fill ∧ y.c = x.c ∧ Chg (oneBlk b) w wr
set_option maxRecDepth 100000 in
set_option maxHeartbeats 4000000 in
/-- the loop, and what follows it -/
theorem bring_d (h : DK w b x) (now : Int) (hi : -9223372036854775808 ≤ now ∧ now ≤ 9223372036854775807) : Calls Try.prog 16 #[.pointer (some ⟨b, 0, none⟩), .int .i64 now] w (DidD b (.tuple #[]) (x.bring now) w) := by
  obtain ⟨c0, c1, c2, c3, c4⟩ := h.1.cells
  have H := hide h
  have OT := hide (h.2.tick now)
  have OY := hide (h.2.bring now)
  clear h c0 c1 c2 c3
  go_enter Try.func16, Try.ntmps16
  go_upto_if 5 with fail
  go_cut [1] (fun m wx => m = .int .i64 (min now 1099511627776) ∧ w = wx)
  case first =>
    by_cases a : 1099511627776 < now
    · have e : decide (1099511627776 < now) = true := by simpa using a
      go_wp2_with fail
      go_meet
      case rel => exact ⟨by congr 1; omega, rfl⟩
    · have e : decide (1099511627776 < now) = false := by simpa using a
      go_wp2_with fail
      go_meet
      case rel => exact ⟨by congr 1; omega, rfl⟩
  case rest =>
    obtain ⟨rfl, rfl⟩ := hcut
    obtain ⟨m, hm⟩ : ∃ m, m = min now 1099511627776 := ⟨_, rfl⟩
    rw [← hm]
    have HM := hide hm
    clear hm
    go_upto_if 11 with fail
    go_cut [] (fun wx => DAt wx b (x.tick now) ∧ Chg (oneBlk b) w wx)
    case first =>
      by_cases a : x.k < m
      · have e : decide (x.k < m) = true := by simpa using a
        have ht : x.tick now = { x with k := m } := by have := unhide HM; unfold Bkt.tick; congr 1; omega
        have HT := hide ht
        clear ht
        go_wp2_with (first
          | (refine wpL_set rfl 3 (.tmp 15) (.tmp 13) rfl b 4 (.int .i64 m) rfl rfl rfl size_int _ _ (unhide H).1 (by simp) ?_; intro w2 k2 g2 z2))
        go_frame
        go_meet
        case rel =>
          refine ⟨?_, k2⟩
          rw [unhide HT]
          unfold DAt
          rw [g2]
          rfl
      · have e : decide (x.k < m) = false := by simpa using a
        have ht : x.tick now = x := by
          have := unhide HM
          have h2 : max x.k (min now 1099511627776) = x.k := by omega
          unfold Bkt.tick; rw [h2]
        have HT := hide ht
        clear ht
        go_wp2_with fail
        go_meet
        case rel =>
          refine ⟨?_, Chg.refl _ _⟩
          rw [unhide HT]
          exact (unhide H).1
    case rest =>
      obtain ⟨h5, k5⟩ := hcut
      have HF0 : Hid (FillD b (x.tick now) w wc) := hide ⟨x.tick now, unhide OT, h5, rfl, rfl, k5⟩
      clear h5 k5 HM c4 OT H
      go_wp2_with fail
      go_loopw [] (fun wr => FillD b (x.tick now) w wr) (fun wr => (x.c - tokOf b wr).toNat)
      case atStart => exact unhide HF0
      case round =>
        clear HF0
        obtain ⟨y, oy, hy, hf, hc, kw⟩ := hrel
        obtain ⟨c0, c1, c2, c3, c4⟩ := hy.cells
        have HY := hide hy
        have HF := hide hf
        have HC := hide hc
        have KW := hide kw
        have OZ := hide oy
        obtain ⟨h1, h2, h3, h4, h5, h6, h7, h8, h9⟩ := oy
        have f2 := freeAt hy 2
        have f3 := freeAt hy 3
        clear hy hf hc kw
        have w1 : IntKind.i64.wrap (y.s + y.r) = y.s + y.r := IntWalk.i64_in _ (by omega)
        have w2 : IntKind.i64.wrap (y.t + 1) = y.t + 1 := IntWalk.i64_in _ (by omega)
        by_cases a1 : y.t < y.c
        · have e1 : decide (y.t < y.c) = true := by simpa using a1
          by_cases a2 : y.s + y.r ≤ y.k
          · have e2 : decide (y.s + y.r ≤ y.k) = true := by simpa using a2
            go_wp2_with fail
            go_quiet (fail)
            go_wp2_with fail
            go_region
            go_wp2_with fail
            go_roundw
            case rel =>
              have hm : y.may = true := by simp [Bkt.may, a1, a2]
              obtain ⟨r1, r2⟩ := come_d (n := nq + 1) (unhide HY)
              exact ⟨y.come, (unhide OZ).come hm, r1, (fill_may hm).symm.trans (unhide HF), unhide HC, (unhide KW).trans r2 fun _ _ e => e⟩
            case measure =>
              have hc : y.c = x.c := unhide HC
              have r1 := tok_d (come_d (n := nq + 1) (unhide HY)).1
              rw [tok_d (unhide HY), r1]
              simp only [Bkt.come]
              omega
          · have e2 : decide (y.s + y.r ≤ y.k) = false := by simpa using a2
            have hm : y.may = false := by simp [Bkt.may]; omega
            have hb : x.bring now = y.top := by unfold Bkt.bring; rw [← unhide HF, fill_not hm]
            have HB := hide hb
            clear hb hm
            have e3 : (y.t == y.c) = false := by simp; omega
            have ht : y.top = y := by unfold Bkt.top; rw [if_neg (by omega)]
            have HT := hide ht
            clear ht
            go_wp2_with fail
            go_quiet (fail)
            go_wp2_with fail
            go_quiet (fail)
            go_wp2_with fail
            go_end0
            refine ⟨rfl, ((unhide KW).drewN _).drewN _, ?_, unhide OY⟩
            rw [unhide HB, unhide HT]
            exact unhide HY
        · have e1 : decide (y.t < y.c) = false := by simpa using a1
          have hm : y.may = false := by simp [Bkt.may]; omega
          have hb : x.bring now = y.top := by unfold Bkt.bring; rw [← unhide HF, fill_not hm]
          have HB := hide hb
          clear hb hm
          have a3 : y.t = y.c := by omega
          have e3 : (y.t == y.c) = true := by simpa using a3
          have ht : y.top = { y with s := y.k } := by unfold Bkt.top; rw [if_pos a3]
          have HT := hide ht
          clear ht a3
          go_wp2_with fail
          go_quiet (fail)
          go_wp2_with fail
          go_quiet (fail)
          go_wp2_with (first
            | (refine wpL_set rfl 3 (.tmp 76) (.tmp 74) rfl b 3 (.int .i64 y.k) rfl rfl rfl size_int _ _ (unhide HY) (by simp) ?_; intro w2 k2 g2 z2))
          go_end0
          refine ⟨rfl, ((unhide KW).drewN _).trans k2 fun _ _ e => e, ?_, unhide OY⟩
          rw [unhide HB, unhide HT]
          unfold DAt
          rw [g2]
          rfl
end
end Go.Proofs.Ythnppnihpelbaaa
