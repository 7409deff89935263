/-
  Contracts of buckets: one that is none; one brought to a tick.
-/
import Derived.Test.YthnppnihpelbaaaBucketsA
import Derived.Test.YthnppnihpelbaaaProg
import Derived.Deep.QuietTactic
import Derived.BigQuiet
import Derived.RegionTactic
import Derived.ChangeAlike
import Derived.Deep.DeepCutAuto
import Derived.IntWalk
import Derived.Maps.RangeWalk
namespace Go.Proofs.Ythnppnihpelbaaa
open Go.ChangeShapes Go.WideShapes Go.ChangeAt Go.RowKit
set_option linter.unusedVariables false
theorem ret_int {k : IntKind} {a b : Int} (h : a = b) : Ending.returned (.int k a) = .returned (.int k b) := by rw [h]
/-- at b stands the bucket x -/
def BAt (w : World) (b : Nat) (x : Bkt) : Prop := w.heap[b]? = some (.cells #[.int .i64 x.c, .int .i64 x.r, .int .i64 x.t, .int .i64 x.k, .int .i64 x.s] 38 (0, 0))
/-- one that New did not make -/
def IsNone (w : World) (p : Value) : Prop := p = .pointer none ∨ ∃ b, p = .pointer (some ⟨b, 0, none⟩) ∧ BAt w b ⟨0, 0, 0, 0, 0⟩
theorem size_int : (Try.prog.info? 3).map (·.size) = some 1 := by kernel_rfl
theorem size_bkt : (Try.prog.info? 38).map (·.size) = some 5 := by kernel_rfl
section
variable {w w' : World} {b : Nat} {x : Bkt} {S : Nat → Prop}
theorem BAt.kept (h : BAt w b x) (k : Chg S w w') (hn : ¬ S b) : BAt w' b x := k.at h hn
theorem BAt.drewN (h : BAt w b x) (n : Nat) : BAt (w.drewN n) b x := h
theorem BAt.lt (h : BAt w b x) : b < w.heap.size := lt_of_block h
theorem BAt.cells (h : BAt w b x) : w.cell? ⟨b, 0, none⟩ = some (.int .i64 x.c) ∧ w.cell? ⟨b, 1, none⟩ = some (.int .i64 x.r) ∧ w.cell? ⟨b, 2, none⟩ = some (.int .i64 x.t) ∧ w.cell? ⟨b, 3, none⟩ = some (.int .i64 x.k) ∧ w.cell? ⟨b, 4, none⟩ = some (.int .i64 x.s) :=
  ⟨cellAt h 0 _ rfl, cellAt h 1 _ rfl, cellAt h 2 _ rfl, cellAt h 3 _ rfl, cellAt h 4 _ rfl⟩
theorem none_at (h : BAt w b x) (hc : 1 ≤ x.r) : Calls Try.prog 14 #[.pointer (some ⟨b, 0, none⟩)] w (fun e w' => e = .returned (.bool false) ∧ w = w') := by
  have c1 := h.cells.2.1
  have d1 : (x.r == 0) = false := by simp; omega
  clear h
  go_enter Try.func14, Try.ntmps14
  go_wp2
  go_ret
  exact ⟨rfl, rfl⟩
theorem none_is {p : Value} (h : IsNone w p) : Calls Try.prog 14 #[p] w (fun e w' => e = .returned (.bool true) ∧ w = w') := by
  rcases h with rfl | ⟨b, rfl, h⟩
  · go_enter Try.func14, Try.ntmps14
    go_wp2
    go_ret
    exact ⟨rfl, rfl⟩
  · have c1 := h.cells.2.1
    clear h
    go_enter Try.func14, Try.ntmps14
    go_wp2
    go_ret
    exact ⟨rfl, rfl⟩
/-- its tokens, read -/
def tokOf (b : Nat) (w : World) : Int := match w.cell? ⟨b, 2, none⟩ with
  | some v => intOf v
  | none => 0
theorem tok_at {y : Bkt} (h : BAt w b y) : tokOf b w = y.t := by
  unfold tokOf
  rw [h.cells.2.2.1]
  rfl
theorem come_at {w2 : World} {y : Bkt} {n : Nat} (k : Chg (oneBlk b) (w.drewN n) w2) (g : w2.heap[b]? = some (.cells ((#[.int .i64 y.c, .int .i64 y.r, .int .i64 y.t, .int .i64 y.k, .int .i64 y.s] : Array Value).setIfInBounds 2 (.int .i64 (y.t + 1))) 38 (0, 0))) :
    BAt (w2.setCell ⟨b, 4, none⟩ (.int .i64 (y.s + y.r))).drew b y.come ∧ Chg (oneBlk b) w (w2.setCell ⟨b, 4, none⟩ (.int .i64 (y.s + y.r))).drew := by
  refine ⟨?_, (((Chg.refl _ w).drewN n).trans k fun _ _ e => e).trans ((setCell_chg w2 b 4 (.int .i64 (y.s + y.r))).drew) fun _ _ e => e⟩
  have := setCell_heap (.int .i64 (y.s + y.r)) g (o := 4)
  unfold BAt
  rw [heap_drew, this]
  rfl
/-- where the tokens come: as many as are due are due still -/
def FillAt (b : Nat) (x : Bkt) (w wr : World) : Prop := ∃ y : Bkt, y.Ok ∧ BAt wr b y ∧ y.fill = x.fill ∧ y.c = x.c ∧ Chg (oneBlk b) w wr
set_option maxRecDepth 100000 in
set_option maxHeartbeats 4000000 in
theorem bring_at (h : BAt w b x) (o : x.Ok) (now : Int) (hi : -9223372036854775808 ≤ now ∧ now ≤ 9223372036854775807) : Calls Try.prog 15 #[.pointer (some ⟨b, 0, none⟩), .int .i64 now] w (fun e w' => e = .returned (.tuple #[]) ∧ Chg (oneBlk b) w w' ∧ BAt w' b (x.bring now)) := by
  obtain ⟨c0, c1, c2, c3, c4⟩ := h.cells
  have H := hide h
  have OT := hide (o.tick now)
  obtain ⟨m, hm⟩ : ∃ m, m = min now 1099511627776 := ⟨_, rfl⟩
  obtain ⟨K, hK⟩ : ∃ K, K = max x.k m := ⟨_, rfl⟩
  have hmin : ∀ ts t W, (Builtin.min_ ts t #[.int .i64 now, .int .i64 1099511627776]).run Try.prog W = .ok (.int .i64 m) W := fun ts t W => by
    rw [run_min_int2, hm]; congr 2; split <;> omega
  have hmax : ∀ ts t W, (Builtin.max_ ts t #[.int .i64 x.k, .int .i64 m]).run Try.prog W = .ok (.int .i64 K) W := fun ts t W => by
    rw [run_max_int2, hK]; congr 2; split <;> omega
  have HX : Hid ({ x with k := K } = x.tick now) := hide (by rw [hK, hm]; rfl)
  clear h o c0 c1 c2 c4 hm hK
  go_enter Try.func15, Try.ntmps15
  go_wp2_with (first
    | (refine wpL_set rfl 3 (.tmp 13) (.tmp 11) rfl b 3 (.int .i64 K) rfl rfl rfl size_int _ _ (unhide H) (by simp) ?_; intro w2 k2 g2 z2))
  have HF0 : Hid (FillAt b (x.tick now) w w2) := hide ⟨x.tick now, unhide OT, by unfold BAt; rw [g2, ← unhide HX]; rfl, rfl, rfl, k2⟩
  clear k2 g2 z2 hmin hmax c3 HX H OT
  go_frame
  go_loopw [] (fun wr => FillAt b (x.tick now) w wr) (fun wr => (x.c - tokOf b wr).toNat)
  case atStart => exact unhide HF0
  case round =>
    clear HF0
    obtain ⟨y, oy, hy, hf, hc, kw⟩ := hrel
    obtain ⟨c0, c1, c2, c3, c4⟩ := hy.cells
    have HY := hide hy
    have HF := hide hf
    have HC := hide hc
    have KW := hide kw
    have OY := hide oy
    obtain ⟨h1, h2, h3, h4, h5, h6, h7, h8, h9⟩ := oy
    clear hy hf hc kw
    have w1 : IntKind.i64.wrap (y.s + y.r) = y.s + y.r := IntWalk.i64_in _ (by omega)
    have w2 : IntKind.i64.wrap (y.t + 1) = y.t + 1 := IntWalk.i64_in _ (by omega)
    by_cases a1 : y.t < y.c
    · have e1 : decide (y.t < y.c) = true := by simpa using a1
      by_cases a2 : y.s + y.r ≤ y.k
      · have e2 : decide (y.s + y.r ≤ y.k) = true := by simpa using a2
        go_wp2_with fail
        go_quiet (fail)
        go_wp2_with (first
          | (refine wpL_set rfl 3 (.tmp 45) (.tmp 43) rfl b 2 (.int .i64 (y.t + 1)) rfl rfl rfl size_int _ _ (unhide HY) (by simp) ?_; intro w2 k2 g2 z2; clear c0 c1 c2 c3 c4; have c4 := cellAt g2 4 (.int .i64 y.s) (by simp); have c1 := cellAt g2 1 (.int .i64 y.r) (by simp); have f4 := freeAt g2 4))
        have G2 := hide g2
        have K2 := hide k2
        clear g2 k2 z2
        go_region
        all_goals
          go_wp2_with fail
          go_roundw
          case rel =>
            have hm : y.may = true := by simp [Bkt.may, a1, a2]
            obtain ⟨r1, r2⟩ := come_at (unhide K2) (unhide G2)
            exact ⟨y.come, (unhide OY).come hm, r1, (fill_may hm).symm.trans (unhide HF), unhide HC, (unhide KW).trans r2 fun _ _ e => e⟩
          case measure =>
            have hc : y.c = x.c := unhide HC
            have r1 := tok_at (come_at (unhide K2) (unhide G2)).1
            rw [tok_at (unhide HY)]
            rw [r1]
            simp only [Bkt.come]
            omega
      · have e2 : decide (y.s + y.r ≤ y.k) = false := by simpa using a2
        have hm : y.may = false := by simp [Bkt.may]; omega
        have hb : x.bring now = y.top := by unfold Bkt.bring; rw [← unhide HF, fill_not hm]
        have HB := hide hb
        clear hb hm
        have e3 : (y.t == y.c) = false := by simp; omega
        have ht : y.top = y := by unfold Bkt.top; rw [if_neg (by omega)]
        have HT := hide ht
        clear ht
        go_wp2_with fail
        go_quiet (fail)
        go_wp2_with fail
        go_quiet (fail)
        go_wp2_with fail
        go_end0
        refine ⟨rfl, ((unhide KW).drewN _).drewN _, ?_⟩
        rw [unhide HB, unhide HT]
        exact unhide HY
    · have e1 : decide (y.t < y.c) = false := by simpa using a1
      have hm : y.may = false := by simp [Bkt.may]; omega
      have hb : x.bring now = y.top := by unfold Bkt.bring; rw [← unhide HF, fill_not hm]
      have HB := hide hb
      clear hb hm
      have a3 : y.t = y.c := by omega
      have e3 : (y.t == y.c) = true := by simpa using a3
      have ht : y.top = { y with s := y.k } := by unfold Bkt.top; rw [if_pos a3]
      have HT := hide ht
      clear ht a3
      go_wp2_with fail
      go_quiet (fail)
      go_wp2_with fail
      go_quiet (fail)
      go_wp2_with (first
        | (refine wpL_set rfl 3 (.tmp 72) (.tmp 70) rfl b 4 (.int .i64 y.k) rfl rfl rfl size_int _ _ (unhide HY) (by simp) ?_; intro w2 k2 g2 z2))
      go_end0
      refine ⟨rfl, ((unhide KW).drewN _).trans k2 fun _ _ e => e, ?_⟩
      rw [unhide HB, unhide HT]
      unfold BAt
      rw [g2]
      rfl
end
end Go.Proofs.Ythnppnihpelbaaa
