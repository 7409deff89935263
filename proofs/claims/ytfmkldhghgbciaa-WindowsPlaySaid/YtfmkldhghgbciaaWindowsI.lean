/-
  The document's windows: what is done with one.
-/
import Derived.Test.YtfmkldhghgbciaaWindowsD
import Derived.Deep.QuietTactic
import Derived.BigQuiet
import Derived.Deep.DeepCutAuto
namespace Go.Proofs.Ytfmkldhghgbciaa
open Go.ChangeShapes Go.WideShapes Go.ChangeAt Go.RowKit
set_option linter.unusedVariables false
section
variable {w w' : World} {b : Nat} {x y : Win} {S : Nat → Prop} {v : Bool} {i n : Int}
theorem WAt.cells {T : TypeId} (h : WAt T w b x) : w.cell? ⟨b, 0, none⟩ = some (.int .i64 x.c) ∧ w.cell? ⟨b, 1, none⟩ = some (.int .i64 x.l) ∧ w.cell? ⟨b, 2, none⟩ = some (.int .i64 x.d) ∧ w.cell? ⟨b, 3, none⟩ = some (.int .i64 x.s) ∧ w.cell? ⟨b, 4, none⟩ = some (.int .i64 x.m) :=
  ⟨cellAt h 0 _ rfl, cellAt h 1 _ rfl, cellAt h 2 _ rfl, cellAt h 3 _ rfl, cellAt h 4 _ rfl⟩
/-- so many are counted, and there is none behind, or the next one -/
def FreeAt (b : Nat) (c l d : Int) (w : World) (n i : Value) (wr : World) : Prop := ∃ (j q : Nat), n = .int .i64 (j : Int) ∧ i = .int .i64 (l + 1 + (j : Int)) ∧ (0 < j → l + j ≤ d + c ∧ l + j ≤ 4096) ∧ wr = w.drewN q
theorem free_d (h : WK 39 w b x) (hn : x.free = n) : Calls Try.prog 30 #[.pointer (some ⟨b, 0, none⟩)] w (NumQ n w) := by
  obtain ⟨c, l, d, s, m⟩ := x
  obtain ⟨hw, h1, h2, h3, h4, h5, h6, h7, h8, h9⟩ := h
  dsimp only at h1 h2 h3 h4 h5 h6 h7 h8 h9
  obtain ⟨c0, c1, c2, c3, c4⟩ := hw.cells
  dsimp only at c0 c1 c2 c3 c4
  have HN := hide hn
  clear hn hw c3 c4 h6 h7 h8 h9
  go_enter Try.func30, Try.ntmps30
  go_wp2
  go_loopw [3, 4] (fun n i wr => FreeAt b c l d w n i wr) (fun n i wr => (4097 - intOf i).toNat)
  case atStart => exact ⟨0, 0, rfl, by simp, by omega, rfl⟩
  case round =>
    obtain ⟨j, q, rfl, rfl, hj, rfl⟩ := hrel
    have c0' : (w.drewN q).cell? ⟨b, 0, none⟩ = some (.int .i64 c) := c0
    have c2' : (w.drewN q).cell? ⟨b, 2, none⟩ = some (.int .i64 d) := c2
    have HJ := hide hj
    have hj2 : (j : Int) ≤ 4096 := by
      rcases Nat.eq_zero_or_pos j with e | e
      · omega
      · have := hj e; omega
    clear hj
    by_cases a1 : l + 1 + (j : Int) ≤ d + c
    · have e1 : decide (l + 1 + (j : Int) ≤ d + c) = true := by simpa using a1
      by_cases a2 : l + 1 + (j : Int) ≤ 4096
      · have e2 : decide (l + 1 + (j : Int) ≤ 4096) = true := by simpa using a2
        go_wp2_with fail
        go_quiet (fail)
        go_wp2
        go_roundw
        case rel => exact ⟨j + 1, _, by go_num, by congr 1; omega, by omega, rfl⟩
        case measure => simp [intOf]; omega
      · have e2 : decide (l + 1 + (j : Int) ≤ 4096) = false := by simpa using a2
        go_wp2_with fail
        go_quiet (fail)
        go_wp2
        go_ret
        refine ⟨?_, q + nq, World.drewN_drewN _ _ _⟩
        have := unhide HJ
        refine ret_int ?_
        rw [← unhide HN]
        unfold Win.free
        dsimp only
        omega
    · have e1 : decide (l + 1 + (j : Int) ≤ d + c) = false := by simpa using a1
      go_wp2_with fail
      go_quiet (fail)
      go_wp2
      go_ret
      refine ⟨?_, q + nq, World.drewN_drewN _ _ _⟩
      refine ret_int ?_
      have := unhide HJ
      rw [← unhide HN]
      unfold Win.free
      dsimp only
      omega
theorem push_d (h : WK 39 w b x) (hv : x.canPush = v) (hy : x.push = y) : Calls Try.prog 21 #[.pointer (some ⟨b, 0, none⟩)] w (DidK 39 b (.bool v) y w) := by
  have F := hide (free_d h rfl)
  have oy := h.2.push
  rw [hy] at oy
  have H := hide h
  have OY := hide oy
  clear oy
  cases hc : x.canPush with
  | true =>
    have hy2 : y = { x with l := x.l + 1 } := by rw [← hy]; simp [Win.push, hc]
    subst hy2
    obtain rfl : v = true := by rw [← hv, hc]
    obtain ⟨o1, o2⟩ : x.l < x.d + x.c ∧ x.l < 4096 := by simpa [Win.canPush] using hc
    have b1 := h.2.l2
    have b2 : 0 ≤ x.l := by have := h.2.d0; have := h.2.dl; omega
    have f0 : decide (0 < x.free) = true := decide_eq_true (by unfold Win.free; omega)
    obtain ⟨H0, H1⟩ := h
    obtain ⟨c0, c1, c2, c3, c4⟩ := H0.cells
    have c1' : ∀ q, (w.drewN q).cell? ⟨b, 1, none⟩ = some (.int .i64 x.l) := fun q => c1
    have C1 := hide c1'
    clear c0 c1 c2 c3 c4 H0 H1 c1' hc hv hy o1 o2
    go_enter Try.func21, Try.ntmps21
    go_wp2_with (first
      | (go_at_call 30; refine (unhide F).mono ?_; rintro e w1 ⟨rfl, q, rfl⟩; have c1 := unhide C1 q)
      | (refine wpL_set rfl 3 (.tmp 14) (.tmp 12) rfl b 1 (.int .i64 (x.l + 1)) rfl rfl rfl size_int _ _ (unhide H).1 (by simp) ?_; intro w2 k2 g2 z2))
    go_ret
    exact ⟨rfl, ((Chg.refl _ w).drewN q).trans k2 fun _ _ e => e, by unfold WAt; rw [g2]; rfl, unhide OY⟩
  | false =>
    have hy2 : y = x := by rw [← hy]; simp [Win.push, hc]
    subst hy2
    obtain rfl : v = false := by rw [← hv, hc]
    have f0 : decide (0 < y.free) = false := by
      have hx := hc
      simp only [Win.canPush, Bool.and_eq_false_iff, decide_eq_false_iff_not] at hx
      exact decide_eq_false (by unfold Win.free; omega)
    clear h hc hv hy
    go_enter Try.func21, Try.ntmps21
    go_wp2_with (first
      | (go_at_call 30; refine (unhide F).mono ?_; rintro e w1 ⟨rfl, q, rfl⟩))
    go_ret
    exact ⟨rfl, (Chg.refl _ w).drewN q, unhide H⟩
theorem ack_d (h : WK 39 w b x) (i : Int) (hi : -9223372036854775808 ≤ i ∧ i ≤ 9223372036854775807) (hv : x.canAck i = v) (hy : x.ack i = y) : Calls Try.prog 10 #[.pointer (some ⟨b, 0, none⟩), .int .i64 i] w (DidK 39 b (.bool v) y w) := by
  have OY := hide (h.2.ack i)
  rw [hy] at OY
  obtain ⟨c0, c1, c2, c3, c4⟩ := h.1.cells
  have H := hide h
  clear h c0 c3 c4
  by_cases a1 : x.d < i
  · have e1 : decide (x.d < i) = true := by simpa using a1
    by_cases a2 : i ≤ x.l
    · have e2 : decide (i ≤ x.l) = true := by simpa using a2
      have hy2 : y = { x with d := i } := by rw [← hy]; simp [Win.ack, Win.canAck, a1, a2]
      subst hy2
      obtain rfl : v = true := by rw [← hv]; simp [Win.canAck, a1, a2]
      clear hy hv
      go_enter Try.func10, Try.ntmps10
      go_wp2_with (first
        | (refine wpL_set rfl 3 (.tmp 24) (.tmp 22) rfl b 2 (.int .i64 i) rfl rfl rfl size_int _ _ (unhide H).1 (by simp) ?_; intro w2 k2 g2 z2))
      go_ret
      exact ⟨rfl, k2, by unfold WAt; rw [g2]; rfl, unhide OY⟩
    · have e2 : decide (i ≤ x.l) = false := by simpa using a2
      have hy2 : y = x := by rw [← hy]; simp [Win.ack, Win.canAck]; omega
      subst hy2
      obtain rfl : v = false := by rw [← hv]; simp [Win.canAck]; omega
      clear hy hv
      go_enter Try.func10, Try.ntmps10
      go_wp2
      go_ret
      exact ⟨rfl, Chg.refl _ _, unhide H⟩
  · have e1 : decide (x.d < i) = false := by simpa using a1
    have hy2 : y = x := by rw [← hy]; simp [Win.ack, Win.canAck]; omega
    subst hy2
    obtain rfl : v = false := by rw [← hv]; simp [Win.canAck]; omega
    clear hy hv
    go_enter Try.func10, Try.ntmps10
    go_wp2
    go_ret
    exact ⟨rfl, Chg.refl _ _, unhide H⟩
theorem grant_d (h : WK 39 w b x) (i : Int) (hi : -9223372036854775808 ≤ i ∧ i ≤ 9223372036854775807) (hy : x.grant i = y) : Calls Try.prog 12 #[.pointer (some ⟨b, 0, none⟩), .int .i64 i] w (DidK 39 b (.tuple #[]) y w) := by
  have OY := hide (h.2.grant i)
  rw [hy] at OY
  obtain ⟨c0, c1, c2, c3, c4⟩ := h.1.cells
  have H := hide h
  clear h c0 c1 c2 c3
  by_cases a1 : 4112 < i
  · have e1 : decide (4112 < i) = true := by simpa using a1
    by_cases a2 : x.m < 4112
    · have e2 : decide (x.m < 4112) = true := by simpa using a2
      have hy2 : y = { x with m := 4112 } := by rw [← hy]; simp [Win.grant]; omega
      subst hy2
      clear hy
      go_enter Try.func12, Try.ntmps12
      go_wp2_with (first
        | (refine wpL_set rfl 3 (.tmp 15) (.tmp 13) rfl b 4 (.int .i64 4112) rfl rfl rfl size_int _ _ (unhide H).1 (by simp) ?_; intro w2 k2 g2 z2))
      go_end0
      exact ⟨rfl, k2, by unfold WAt; rw [g2]; rfl, unhide OY⟩
    · have e2 : decide (x.m < 4112) = false := by simpa using a2
      have hy2 : y = x := by rw [← hy]; obtain ⟨c, l, d, s, m⟩ := x; simp [Win.grant] at a2 ⊢; omega
      subst hy2
      clear hy
      go_enter Try.func12, Try.ntmps12
      go_wp2
      go_end0
      exact ⟨rfl, Chg.refl _ _, unhide H⟩
  · have e1 : decide (4112 < i) = false := by simpa using a1
    by_cases a2 : x.m < i
    · have e2 : decide (x.m < i) = true := by simpa using a2
      have hy2 : y = { x with m := i } := by rw [← hy]; simp [Win.grant]; omega
      subst hy2
      clear hy
      go_enter Try.func12, Try.ntmps12
      go_wp2_with (first
        | (refine wpL_set rfl 3 (.tmp 15) (.tmp 13) rfl b 4 (.int .i64 i) rfl rfl rfl size_int _ _ (unhide H).1 (by simp) ?_; intro w2 k2 g2 z2))
      go_end0
      exact ⟨rfl, k2, by unfold WAt; rw [g2]; rfl, unhide OY⟩
    · have e2 : decide (x.m < i) = false := by simpa using a2
      have hy2 : y = x := by rw [← hy]; obtain ⟨c, l, d, s, m⟩ := x; simp [Win.grant] at a2 ⊢; omega
      subst hy2
      clear hy
      go_enter Try.func12, Try.ntmps12
      go_wp2
      go_end0
      exact ⟨rfl, Chg.refl _ _, unhide H⟩
theorem next_d (h : WK 39 w b x) (hn : x.nextN = n) (hv : x.canNext = v) (hy : x.next = y) : Calls Try.prog 14 #[.pointer (some ⟨b, 0, none⟩)] w (DidK 39 b (.tuple #[.int .i64 n, .bool v]) y w) := by
  have OY := hide h.2.next
  rw [hy] at OY
  obtain ⟨c0, c1, c2, c3, c4⟩ := h.1.cells
  have HC := hide (fun q => (h.drewN q).1.cells)
  have b1 : x.s ≤ 4096 := by have := h.2.sl; have := h.2.l2; omega
  have b2 := h.2.s0
  have H := hide h
  clear h c0 c2
  by_cases a1 : x.s < x.l
  · have e1 : decide (x.l ≤ x.s) = false := by simp; omega
    by_cases a2 : x.s < x.m
    · have e2 : decide (x.m ≤ x.s) = false := by simp; omega
      have hy2 : y = { x with s := x.s + 1 } := by rw [← hy]; simp [Win.next, Win.canNext, a1, a2]
      subst hy2
      obtain rfl : v = true := by rw [← hv]; simp [Win.canNext, a1, a2]
      obtain rfl : n = x.s + 1 := by rw [← hn]; simp [Win.nextN, Win.canNext, a1, a2]
      clear hy hv hn
      go_enter Try.func14, Try.ntmps14
      go_wp2_with fail
      go_quiet (fail)
      have c3' := (unhide HC nq).2.2.2.1
      clear c1 c3 c4
      go_wp2_with (first
        | (refine wpL_set rfl 3 (.tmp 30) (.tmp 28) rfl b 3 (.int .i64 (x.s + 1)) rfl rfl rfl size_int _ _ (unhide H).1 (by simp) ?_; intro w2 k2 g2 z2; clear c3'; have c3' := cellAt g2 3 (.int .i64 (x.s + 1)) (by simp)))
      go_ret2
      exact ⟨rfl, ((Chg.refl _ w).drewN nq).trans k2 fun _ _ e => e, by unfold WAt; rw [g2]; rfl, unhide OY⟩
    · have e2 : decide (x.m ≤ x.s) = true := by simp; omega
      have hy2 : y = x := by rw [← hy]; simp [Win.next, Win.canNext]; omega
      subst hy2
      obtain rfl : v = false := by rw [← hv]; simp [Win.canNext]; omega
      obtain rfl : n = 0 := by rw [← hn]; simp [Win.nextN, Win.canNext]; omega
      clear hy hv hn
      go_enter Try.func14, Try.ntmps14
      go_wp2_with fail
      go_quiet (fail)
      go_wp2
      go_ret2
      exact ⟨rfl, (Chg.refl _ w).drewN nq, unhide H⟩
  · have e1 : decide (x.l ≤ x.s) = true := by simp; omega
    have hy2 : y = x := by rw [← hy]; simp [Win.next, Win.canNext]; omega
    subst hy2
    obtain rfl : v = false := by rw [← hv]; simp [Win.canNext]; omega
    obtain rfl : n = 0 := by rw [← hn]; simp [Win.nextN, Win.canNext]; omega
    clear hy hv hn
    go_enter Try.func14, Try.ntmps14
    go_wp2_with fail
    go_quiet (fail)
    go_wp2
    go_ret2
    exact ⟨rfl, (Chg.refl _ w).drewN nq, unhide H⟩
theorem back_d (h : WK 39 w b x) (i : Int) (hi : -9223372036854775808 ≤ i ∧ i ≤ 9223372036854775807) (hy : x.back i = y) : Calls Try.prog 16 #[.pointer (some ⟨b, 0, none⟩), .int .i64 i] w (DidK 39 b (.tuple #[]) y w) := by
  have OY := hide (h.2.back i)
  rw [hy] at OY
  have ol : 0 ≤ x.l := by have := h.2.d0; have := h.2.dl; omega
  have H := hide h
  clear h
  by_cases a1 : i < 0
  · have e1 : decide (i < 0) = true := by simpa using a1
    have e2 : decide (x.l < i) = false := by simp; omega
    have hy2 : y = { x with s := 0 } := by rw [← hy]; simp [Win.back]; omega
    subst hy2
    clear hy
    go_enter Try.func16, Try.ntmps16
    go_wp2_with (first
      | (refine wpL_set rfl 3 (.tmp 7) (.tmp 5) rfl b 3 (.int .i64 i) rfl rfl rfl size_int _ _ (unhide H).1 (by simp) ?_; intro w2 k2 g2 z2; have c1 := cellAt g2 1 (.int .i64 x.l) (by simp))
      | (refine wpL_set rfl 3 (.tmp 12) (.const (.int .i64 0)) rfl b 3 (.int .i64 0) rfl rfl rfl size_int _ _ g2 (by simp) ?_; intro w3 k3 g3 z3; clear c1; have c1 := cellAt g3 1 (.int .i64 x.l) (by simp)))
    go_end0
    exact ⟨rfl, k2.trans k3 fun _ _ e => e, by unfold WAt; rw [g3]; rfl, unhide OY⟩
  · have e1 : decide (i < 0) = false := by simpa using a1
    by_cases a2 : x.l < i
    · have e2 : decide (x.l < i) = true := by simpa using a2
      have hy2 : y = { x with s := x.l } := by rw [← hy]; simp [Win.back]; omega
      subst hy2
      clear hy
      go_enter Try.func16, Try.ntmps16
      go_wp2_with (first
        | (refine wpL_set rfl 3 (.tmp 7) (.tmp 5) rfl b 3 (.int .i64 i) rfl rfl rfl size_int _ _ (unhide H).1 (by simp) ?_; intro w2 k2 g2 z2; have c1 := cellAt g2 1 (.int .i64 x.l) (by simp))
        | (refine wpL_set rfl 3 (.tmp 25) (.tmp 23) rfl b 3 (.int .i64 x.l) rfl rfl rfl size_int _ _ g2 (by simp) ?_; intro w3 k3 g3 z3; clear c1))
      go_end0
      exact ⟨rfl, k2.trans k3 fun _ _ e => e, by unfold WAt; rw [g3]; rfl, unhide OY⟩
    · have e2 : decide (x.l < i) = false := by simpa using a2
      have hy2 : y = { x with s := i } := by rw [← hy]; simp [Win.back]; omega
      subst hy2
      clear hy
      go_enter Try.func16, Try.ntmps16
      go_wp2_with (first
        | (refine wpL_set rfl 3 (.tmp 7) (.tmp 5) rfl b 3 (.int .i64 i) rfl rfl rfl size_int _ _ (unhide H).1 (by simp) ?_; intro w2 k2 g2 z2; have c1 := cellAt g2 1 (.int .i64 x.l) (by simp)))
      go_end0
      exact ⟨rfl, k2, by unfold WAt; rw [g2]; rfl, unhide OY⟩
theorem renew_d (h : WK 39 w b x) (hy : x.renew = y) : Calls Try.prog 18 #[.pointer (some ⟨b, 0, none⟩)] w (DidK 39 b (.tuple #[]) y w) := by
  have OY := hide h.2.renew
  rw [hy] at OY
  have c1 := h.1.cells.2.1
  have H := hide h
  subst hy
  clear h
  go_enter Try.func18, Try.ntmps18
  go_wp2_with (first
    | (refine wpL_set rfl 3 (.tmp 9) (.tmp 7) rfl b 3 (.int .i64 x.l) rfl rfl rfl size_int _ _ (unhide H).1 (by simp) ?_; intro w2 k2 g2 z2; clear c1)
    | (refine wpL_set rfl 3 (.tmp 11) (.const (.int .i64 0)) rfl b 4 (.int .i64 0) rfl rfl rfl size_int _ _ g2 (by simp) ?_; intro w3 k3 g3 z3))
  go_end0
  exact ⟨rfl, k2.trans k3 fun _ _ e => e, by unfold WAt; rw [g3]; rfl, unhide OY⟩
end
end Go.Proofs.Ytfmkldhghgbciaa
