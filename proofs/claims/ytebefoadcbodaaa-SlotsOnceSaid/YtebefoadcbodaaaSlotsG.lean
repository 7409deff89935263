/-
  Slots that are none, and outcomes that are none.
-/
import Derived.Test.YtebefoadcbodaaaSlotsF
namespace Go.Proofs.Ytebefoadcbodaaa
open Go.ChangeShapes Go.WideShapes Go.ChangeAt Go.RowKit
set_option linter.unusedVariables false
theorem info_int : (Try.prog.info? 3).map (·.size) = some 1 := by kernel_rfl
/-- an outcome at b -/
def OAt (w : World) (b : Nat) (o : OT) : Prop := w.heap[b]? = some (.cells o.cells.toArray 29 (0, 0))
def OT.kind (o : OT) (k : Int) : OT := ⟨k, o.r, o.c, o.v, o.n, o.t⟩
theorem OAt.no {w w' : World} {b : Nat} {o : OT} (h : OAt w b o) (k : Chg noBlk w w') : OAt w' b o := k.at h id
theorem OAt.lt {w : World} {b : Nat} {o : OT} (h : OAt w b o) : b < w.heap.size := lt_of_block h
/-- where the turns stand -/
def NoneAt (w0 : World) (b : Nat) (o : OT) (s i : Value) (w : World) : Prop := ∃ k : Nat, k ≤ 2 ∧ i = .int .i64 (k : Int) ∧ SNone w s ∧ Chg noBlk w0 w ∧ OAt w b o
set_option maxRecDepth 100000 in
set_option maxHeartbeats 1600000 in
theorem none_any (o : OT) (w : World) : Calls Try.prog 4 #[.agg o.cells.toArray] w (ToldN (.bool true) w) := by
  go_enter Try.func4, Try.ntmps4
  go_wp2_with (first
    | (refine wpL_box rfl 29 (.tmp 0) rfl o.cells.toArray rfl ?_; intro b w1 e1 k1 g1 z1; have G1 : OAt w1 b o := g1; have K1 := hide k1; clear k1 g1 z1))
  go_loopw [3, 4] (fun s i wr => NoneAt w1 b o s i wr) (fun s i wr => 2 - (intOf i).toNat)
  case atStart => exact ⟨0, by omega, rfl, .inl rfl, Chg.refl _ _, G1⟩
  case round =>
    obtain ⟨k, hk, rfl, hs, hc, ho⟩ := hrel
    have HS := hide hs
    have HC := hide hc
    have HO := hide ho
    clear hs hc ho G1
    by_cases hlt : k < 2
    · have i1 : (k : Int) < 2 := by omega
      go_wp2_with (first
        | (refine wpL_load rfl 29 (.tmp 1) rfl b rfl o.cells.toArray _ _ (unhide HO) _ Try.underlying29 rfl info_outcome ?_)
        | (go_at_call 10; refine (set_none o (unhide HS)).mono ?_; rintro e w2 ⟨rfl, k2⟩)
        | (go_at_call 9; refine (same_none ((unhide HS).no k2)).mono ?_; rintro e w3 ⟨rfl, k3⟩)
        | (refine wpL_build rfl 48 #[] rfl (slotC false 0 0 oZero 0) built_zero ?_)
        | (refine wpL_box rfl 48 (.tmp 19) rfl (slotC false 0 0 oZero 0) rfl ?_; intro b4 w4 e4 k4 g4 z4))
      have K4 := (k2.andNo k3).andNo k4
      refine ⟨⟨k + 1, by omega, rfl, .inr ⟨b4, rfl, g4⟩, (unhide HC).andNo K4, (unhide HO).no K4⟩, by simp [intOf]; omega⟩
    · have i1 : ¬ (k : Int) < 2 := by omega
      go_wp2_with (first
        | (go_at_call 7; refine (new_s _).mono ?_; rintro e w2 ⟨p, rfl, e2, k2, g2⟩; have O2 := (unhide HO).no k2)
        | (refine wpL_set rfl 3 (.tmp 22) (.const (.int .i64 0)) rfl b 0 (.int .i64 0) rfl rfl rfl info_int _ _ O2 (by show 0 < 6; omega) ?_; intro w3 k3 g3 z3; have O3 : OAt w3 b (o.kind 0) := g3; have S3 : SlotIs w3 p (stC none) := k3.at g2 (fun e => by have e : p = b := e; have := (unhide HO).lt; omega))
        | (refine wpL_set rfl 3 (.tmp 32) (.const (.int .i64 4)) rfl b 0 (.int .i64 4) rfl rfl rfl info_int _ _ (O3.no (k4.andNo k5)) (by show 0 < 6; omega) ?_; intro w6 k6 g6 z6; have O6 : OAt w6 b (o.kind 4) := g6; have S6 : SlotIs w6 p (stC none) := k6.at (S3.no (k4.andNo k5)) (fun e => by have e : p = b := e; have := (unhide HO).lt; omega))
        | (have tk := O6; clear tk; refine wpL_load rfl 29 (.tmp 1) rfl b rfl (o.kind 4).cells.toArray _ _ O6 _ Try.underlying29 rfl info_outcome ?_)
        | (refine wpL_load rfl 29 (.tmp 1) rfl b rfl (o.kind 0).cells.toArray _ _ O3 _ Try.underlying29 rfl info_outcome ?_)
        | (have tk := O6; clear tk; go_at_call 10; refine (set_not (o := o.kind 4) S6 rfl).mono ?_; rintro e w7 ⟨rfl, k7⟩)
        | (go_at_call 10; refine (set_not (o := o.kind 0) S3 rfl).mono ?_; rintro e w4 ⟨rfl, k4⟩)
        | (have tk := O6; clear tk; go_at_call 9; refine (same_any (x := none) (S6.no k7)).mono ?_; rintro e w8 ⟨rfl, k8⟩)
        | (go_at_call 9; refine (same_any (x := none) (S3.no k4)).mono ?_; rintro e w5 ⟨rfl, k5⟩)
        | (go_at_call 6; refine (once_true _).mono ?_; rintro e w9 ⟨rfl, k9⟩))
      go_ret
      have A := ((unhide K1).andNo (unhide HC)).andNo k2
      have B := (A.past k3 (by omega)).andNo (k4.andNo k5)
      exact ⟨rfl, ((B.past k6 (by omega)).andNo (k7.andNo k8)).andNo k9⟩
end Go.Proofs.Ytebefoadcbodaaa
