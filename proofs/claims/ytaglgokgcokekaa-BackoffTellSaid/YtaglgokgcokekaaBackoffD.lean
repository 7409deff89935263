/-
  Backoff beside the document's; more tries.
-/
import Derived.Test.YtaglgokgcokekaaBackoffC
namespace Go.Proofs.Ytaglgokgcokekaa
open Go.ChangeShapes Go.WideShapes Go.ChangeAt Go.RowKit
set_option linter.unusedVariables false
set_option maxHeartbeats 4000000 in
theorem tell_any (t m : Int) (ht : -9223372036854775808 ≤ t ∧ t ≤ 9223372036854775807) (w : World) : Calls Try.prog 3 #[.int .i64 t, .int .i64 m] w fun e w' => e = .returned (.bool true) ∧ w = w' := by
  go_enter Try.func3, Try.ntmps3
  go_wp2_with fail
  go_loopw [5] (fun i wr => ∃ k : Int, -1 ≤ k ∧ k ≤ 20 ∧ i = .int .i64 k ∧ w = wr) (fun i wr => (20 - intOf i).toNat)
  case atStart => exact ⟨-1, by omega, by omega, rfl, rfl⟩
  case round =>
    obtain ⟨k, h0, h1, rfl, rfl⟩ := hrel
    by_cases a : k < 20
    · have e : decide (k < 20) = true := by simpa using a
      have w1 : IntKind.i64.wrap (k + 1) = k + 1 := IntWalk.i64_in _ (by omega)
      have A1 := hide (gap_is k m (by omega) w)
      have A2 := hide (gap_d k m (by omega) w)
      have A3 := hide (sum_is k m (by omega) w)
      have A4 := hide (sum_d k m (by omega) w)
      have A5 := hide (gap_is k t (by omega) w)
      have A6 := hide (gap_d k t (by omega) w)
      generalize gap k m = x1 at A1 A2
      generalize sumOf k m = x2 at A3 A4
      generalize gap k t = x3 at A5 A6
      go_wp2_with fail
      refine (unhide A1).mono ?_
      rintro e w1 ⟨rfl, rfl⟩
      go_wp2_with fail
      refine (unhide A2).mono ?_
      rintro e w1 ⟨rfl, rfl⟩
      go_wp2_with fail
      refine (unhide A3).mono ?_
      rintro e w1 ⟨rfl, rfl⟩
      go_wp2_with fail
      refine (unhide A4).mono ?_
      rintro e w1 ⟨rfl, rfl⟩
      go_wp2_with fail
      refine (unhide A5).mono ?_
      rintro e w1 ⟨rfl, rfl⟩
      go_wp2_with fail
      refine (unhide A6).mono ?_
      rintro e w1 ⟨rfl, rfl⟩
      go_wp2_with fail
      go_roundw
      case rel => exact ⟨k + 1, by omega, by omega, by first | rfl | trivial, by first | rfl | trivial⟩
      case measure => simp [intOf]; omega
    · have e : decide (k < 20) = false := by simpa using a
      have A1 := hide (gap_is t m (by omega) w)
      have A2 := hide (gap_d t m (by omega) w)
      have A3 := hide (sum_is t m (by omega) w)
      have A4 := hide (sum_d t m (by omega) w)
      have A5 := hide (gaps_is w)
      generalize gap t m = x1 at A1 A2
      generalize sumOf t m = x2 at A3 A4
      go_wp2_with fail
      refine (unhide A1).mono ?_
      rintro e w1 ⟨rfl, rfl⟩
      go_wp2_with fail
      refine (unhide A2).mono ?_
      rintro e w1 ⟨rfl, rfl⟩
      go_wp2_with fail
      refine (unhide A3).mono ?_
      rintro e w1 ⟨rfl, rfl⟩
      go_wp2_with fail
      refine (unhide A4).mono ?_
      rintro e w1 ⟨rfl, rfl⟩
      go_wp2_with fail
      refine (unhide A5).mono ?_
      rintro e w1 ⟨rfl, rfl⟩
      go_wp2_with fail
      go_ret
      exact ⟨rfl, rfl⟩
/-- what is asked of waits that follow each other -/
theorem more_facts (t m : Int) (h1 : 1 ≤ t) (h2 : t ≤ 65536) (m0 : 0 ≤ m) (m2 : m ≤ 255) :
    gap t m ≤ gap (t + 1) m ∧ gap (t + 1) m ≤ m ∧ gap (t + 1) m ≤ 64 ∧ sumOf (t + 1) m = sumOf t m + gap (t + 1) m ∧ gap t m ≤ sumOf t m ∧ (min m 64 ≤ gap (t + 1) m ∨ gap (t + 1) m = 2 * gap t m) ∧ (m = 0 ↔ gap t m = 0) ∧ 0 ≤ gap t m ∧ 0 ≤ sumOf t m ∧ sumOf t m ≤ 65536 * 64 := by
  have hw : wt m = min m 64 := by unfold wt; omega
  have g1 := gap_most t m
  have g2 := gap_most (t + 1) m
  have g3 := gap_mono m (show t ≤ t + 1 by omega)
  have s0 : sumOf t m = tot t m := by unfold sumOf; congr 1; omega
  have s1 : sumOf (t + 1) m = tot (t + 1) m := by unfold sumOf; congr 1; omega
  have s2 := tot_next (t := t) (m := m) (by omega)
  have s3 := tot_next (t := t - 1) (m := m) (by omega)
  rw [show t - 1 + 1 = t by omega] at s3
  have s4 := tot_in (t := t - 1) (m := m) (by omega)
  have s5 := tot_in (t := t) (m := m) (by omega)
  have p1 := pw_pos (t - 1)
  have e1 := gap_in (t := t) (m := m) h1
  have e2 := gap_in (t := t + 1) (m := m) (by omega)
  rw [show t + 1 - 1 = t - 1 + 1 by omega] at e2
  refine ⟨g3, by omega, by omega, by omega, by omega, ?_, by omega, by omega, by omega, by omega⟩
  by_cases a : 6 ≤ t
  · have := pw_high (show 6 ≤ t - 1 + 1 by omega); omega
  · have := pw_next (show 0 ≤ t - 1 by omega) (by omega); omega
set_option maxHeartbeats 4000000 in
theorem sums_any (t m : Int) (h1 : 0 ≤ t) (h2 : t ≤ 65535) (m0 : 0 ≤ m) (m2 : m ≤ 255) (w : World) : Calls Try.prog 4 #[.int .u16 t, .int .u8 m] w fun e w' => e = .returned (.bool true) ∧ w = w' := by
  obtain ⟨f1, f2, f3, f4, f5, f6, f7, f8, f9, f10⟩ := more_facts (1 + t) m (by omega) (by omega) m0 m2
  have A1 := hide (gap_is (1 + t) m (by omega) w)
  have A2 := hide (gap_is (1 + t + 1) m (by omega) w)
  have A3 := hide (sum_is (1 + t + 1) m (by omega) w)
  have A4 := hide (sum_is (1 + t) m (by omega) w)
  have A5 := hide (gaps_is w)
  generalize gap (1 + t) m = a at *
  generalize gap (1 + t + 1) m = b at *
  generalize sumOf (1 + t + 1) m = s at *
  generalize sumOf (1 + t) m = r at *
  have w1 : IntKind.i64.wrap (1 + t) = 1 + t := IntWalk.i64_in _ (by omega)
  have w2 : IntKind.i64.wrap (1 + t + 1) = 1 + t + 1 := IntWalk.i64_in _ (by omega)
  have w3 : IntKind.i64.wrap (r + b) = s := by rw [IntWalk.i64_in _ (by omega), f4]
  have w4 : IntKind.i64.wrap (2 * a) = 2 * a := IntWalk.i64_in _ (by omega)
  have w5 : IntKind.i64.wrap t = t := IntWalk.i64_in _ (by omega)
  have w6 : IntKind.i64.wrap m = m := IntWalk.i64_in _ (by omega)
  have e1 : decide (b < a) = false := by simp; omega
  have e2 : decide (m < b) = false := by simp; omega
  have e3 : decide (64 < b) = false := by simp; omega
  have e4 : decide (r < a) = false := by simp; omega
  obtain ⟨x, hx⟩ : ∃ x, x = min m 64 := ⟨_, rfl⟩
  have hmin : ∀ ts t W, (Builtin.min_ ts t #[.int .i64 m, .int .i64 64]).run Try.prog W = .ok (.int .i64 x) W := fun ts t W => by
    rw [run_min_int2, hx]; congr 2; split <;> omega
  obtain ⟨z, e6⟩ : ∃ z, (m == 0) = z := ⟨_, rfl⟩
  have e8 : (a == 0) = z := by rw [← e6, Bool.eq_iff_iff, beq_iff_eq, beq_iff_eq]; exact f7.symm
  by_cases hb : x ≤ b
  · have e5 : decide (x ≤ b) = true := by simpa using hb
    clear f1 f2 f3 f4 f5 f6 f7 f8 f9 f10 h1 h2 m0 m2 hx hb
    go_enter Try.func4, Try.ntmps4
    go_wp2_with fail
    refine (unhide A1).mono ?_
    rintro e w1 ⟨rfl, rfl⟩
    go_wp2_with fail
    refine (unhide A2).mono ?_
    rintro e w1 ⟨rfl, rfl⟩
    go_wp2_with fail
    refine (unhide A3).mono ?_
    rintro e w1 ⟨rfl, rfl⟩
    go_wp2_with fail
    refine (unhide A4).mono ?_
    rintro e w1 ⟨rfl, rfl⟩
    go_wp2_with fail
    refine (unhide A4).mono ?_
    rintro e w1 ⟨rfl, rfl⟩
    go_wp2_with fail
    refine (unhide A5).mono ?_
    rintro e w1 ⟨rfl, rfl⟩
    go_wp2_with fail
    go_ret
    exact ⟨rfl, rfl⟩
  · have e5 : decide (x ≤ b) = false := by simpa using hb
    have e7 : (b == 2 * a) = true := by simp; omega
    clear f1 f2 f3 f4 f5 f6 f7 f8 f9 f10 h1 h2 m0 m2 hx hb
    go_enter Try.func4, Try.ntmps4
    go_wp2_with fail
    refine (unhide A1).mono ?_
    rintro e w1 ⟨rfl, rfl⟩
    go_wp2_with fail
    refine (unhide A2).mono ?_
    rintro e w1 ⟨rfl, rfl⟩
    go_wp2_with fail
    refine (unhide A3).mono ?_
    rintro e w1 ⟨rfl, rfl⟩
    go_wp2_with fail
    refine (unhide A4).mono ?_
    rintro e w1 ⟨rfl, rfl⟩
    go_wp2_with fail
    refine (unhide A4).mono ?_
    rintro e w1 ⟨rfl, rfl⟩
    go_wp2_with fail
    refine (unhide A5).mono ?_
    rintro e w1 ⟨rfl, rfl⟩
    go_wp2_with fail
    go_ret
    exact ⟨rfl, rfl⟩
end Go.Proofs.Ytaglgokgcokekaa
