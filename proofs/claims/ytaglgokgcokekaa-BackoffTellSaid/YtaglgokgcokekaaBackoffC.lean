/-
  Contracts of the document's backoff; the examples.
-/
import Derived.Test.YtaglgokgcokekaaBackoffB
namespace Go.Proofs.Ytaglgokgcokekaa
open Go.ChangeShapes Go.WideShapes Go.ChangeAt Go.RowKit
set_option linter.unusedVariables false
set_option maxHeartbeats 4000000 in
theorem gap_d (t m : Int) (ht : -9223372036854775808 ≤ t ∧ t ≤ 9223372036854775807) (w : World) : Calls Try.prog 6 #[.int .i64 t, .int .i64 m] w (Told (gap t m) w) := by
  have HA : Hid (t < 1 → gap t m = 0) := hide fun h => gap_low h
  have HB := hide (gap_most t m)
  have HG : Hid (∀ n, 0 ≤ n → n + 1 ≤ t → n ≤ 6 → (t ≤ n + 1 ∨ wt m ≤ pw n) → min (pw n) (wt m) = gap t m) := hide fun n h0 h h6 he => gap_end h0 h h6 he
  generalize gap t m = g at *
  go_enter Try.func6, Try.ntmps6
  go_upto_if 8 with fail
  go_cut [1] (fun x wx => x = .int .i64 (min m 64) ∧ w = wx)
  case first =>
    by_cases a : 64 < m
    · have e : decide (64 < m) = true := by simpa using a
      go_wp2_with fail
      go_meet
      case rel => exact ⟨by congr 1; omega, rfl⟩
    · have e : decide (64 < m) = false := by simpa using a
      go_wp2_with fail
      go_meet
      case rel => exact ⟨by congr 1; omega, rfl⟩
  case rest =>
    obtain ⟨rfl, rfl⟩ := hcut
    have hw : wt m = max 0 (min m 64) := rfl
    have hx : min m 64 ≤ 64 := by omega
    generalize min m 64 = x at *
    by_cases a : t < 1
    · have e : decide (t < 1) = true := by simpa using a
      have hg := hide ((unhide HA) a)
      clear a hw hx
      go_wp2_with fail
      go_ret
      exact ⟨ret_int (unhide hg).symm, rfl⟩
    · have e : decide (t < 1) = false := by simpa using a
      by_cases b : x < 0
      · have e2 : decide (x < 0) = true := by simpa using b
        have hg : Hid (g = 0) := hide (by have := unhide HB; omega)
        clear a hw hx b
        go_wp2_with fail
        go_ret
        exact ⟨ret_int (unhide hg).symm, rfl⟩
      · have e2 : decide (x < 0) = false := by simpa using b
        have hwx : wt m = x := by omega
        rw [hwx] at HG
        clear hw hwx HA HB
        go_wp2_with fail
        go_loopw [5, 6] (fun p i wr => ∃ n : Int, 0 ≤ n ∧ n + 1 ≤ t ∧ n ≤ 6 ∧ p = .int .i64 (pw n) ∧ i = .int .i64 (n + 1) ∧ w = wr) (fun p i wr => (7 - intOf i).toNat)
        case atStart => exact ⟨0, by omega, by omega, by omega, rfl, rfl, rfl⟩
        case round =>
          obtain ⟨n, h0, h1, h6, rfl, rfl, rfl⟩ := hrel
          by_cases a1 : n + 1 < t
          · have e1 : decide (n + 1 < t) = true := by simpa using a1
            by_cases a2 : pw n < x
            · have e2 : decide (pw n < x) = true := by simpa using a2
              have h5 : n ≤ 5 := by
                by_cases h : n ≤ 5
                · exact h
                · have := pw_high (show 6 ≤ n by omega); omega
              have hp := pw_pos n
              have w1 : IntKind.i64.wrap (2 * pw n) = 2 * pw n := IntWalk.i64_in _ (by omega)
              have w2 : IntKind.i64.wrap (n + 1 + 1) = n + 1 + 1 := IntWalk.i64_in _ (by omega)
              go_wp2_with fail
              go_roundw
              case rel => exact ⟨n + 1, by omega, by omega, by omega, by rw [pw_next h0 h5], by first | rfl | trivial, by first | rfl | trivial⟩
              case measure => simp [intOf]; omega
            · have e2 : decide (pw n < x) = false := by simpa using a2
              have hend := (unhide HG) n h0 h1 h6 (Or.inr (by omega))
              have hmin : ∀ ts t W, (Builtin.min_ ts t #[.int .i64 (pw n), .int .i64 x]).run Try.prog W = .ok (.int .i64 g) W := fun ts t W => by
                rw [run_min_int2, ← hend]; congr 2; split <;> omega
              clear hend
              go_wp2_with fail
              go_ret
              exact ⟨rfl, rfl⟩
          · have e1 : decide (n + 1 < t) = false := by simpa using a1
            have hend := (unhide HG) n h0 h1 h6 (Or.inl (by omega))
            have hmin : ∀ ts t W, (Builtin.min_ ts t #[.int .i64 (pw n), .int .i64 x]).run Try.prog W = .ok (.int .i64 g) W := fun ts t W => by
              rw [run_min_int2, ← hend]; congr 2; split <;> omega
            clear hend
            go_wp2_with fail
            go_ret
            exact ⟨rfl, rfl⟩
set_option maxHeartbeats 4000000 in
theorem sum_d (t m : Int) (ht : -9223372036854775808 ≤ t ∧ t ≤ 9223372036854775807) (w : World) : Calls Try.prog 8 #[.int .i64 t, .int .i64 m] w (Told (sumOf t m) w) := by
  unfold sumOf
  go_enter Try.func8, Try.ntmps8
  go_upto_if 8 with fail
  go_cut [0] (fun x wx => x = .int .i64 (min t 1099511627776) ∧ w = wx)
  case first =>
    by_cases a : 1099511627776 < t
    · have e : decide (1099511627776 < t) = true := by simpa using a
      go_wp2_with fail
      go_meet
      case rel => exact ⟨by congr 1; omega, rfl⟩
    · have e : decide (1099511627776 < t) = false := by simpa using a
      go_wp2_with fail
      go_meet
      case rel => exact ⟨by congr 1; omega, rfl⟩
  case rest =>
    obtain ⟨rfl, rfl⟩ := hcut
    have T2 : min t 1099511627776 ≤ 1099511627776 := by omega
    have T1 : -9223372036854775808 ≤ min t 1099511627776 := by omega
    generalize min t 1099511627776 = T at *
    clear ht
    have G := hide fun n => gap_d n m
    have G9 := hide (gap_d 9 m (by omega) w)
    have HF : Hid (8 ≤ T → tot T m = tot 8 m + (T - 8) * gap 9 m) := hide fun h => by
      have h9 : gap 9 m = wt m := gap_high (by omega)
      rw [h9]
      exact tot_full (s := 8) (by omega) h h9
    have H9 := hide (gap_most 9 m)
    have HX := hide (wt_in m)
    generalize gap 9 m = g9 at G9 HF H9
    go_wp2_with fail
    go_loopw [5, 6] (fun p i wr => ∃ n : Int, 0 ≤ n ∧ (n ≤ T ∨ n = 0) ∧ n ≤ 8 ∧ p = .int .i64 (tot n m) ∧ i = .int .i64 (n + 1) ∧ w = wr) (fun p i wr => (9 - intOf i).toNat)
    case atStart => exact ⟨0, by omega, by omega, by omega, rfl, rfl, rfl⟩
    case round =>
      obtain ⟨n, h0, h1, h6, rfl, rfl, rfl⟩ := hrel
      have ht := tot_in (m := m) h0
      by_cases a1 : n + 1 ≤ T
      · have e1 : decide (n + 1 ≤ T) = true := by simpa using a1
        by_cases a2 : n + 1 ≤ 8
        · have e2 : decide (n + 1 ≤ 8) = true := by simpa using a2
          have C := hide ((unhide G) (n + 1) (by omega) w)
          have hg := gap_most (n + 1) m
          have hx := unhide HX
          have w1 : IntKind.i64.wrap (tot n m + gap (n + 1) m) = tot n m + gap (n + 1) m := IntWalk.i64_in _ (by omega)
          have w2 : IntKind.i64.wrap (n + 1 + 1) = n + 1 + 1 := IntWalk.i64_in _ (by omega)
          have hn := hide (tot_next (m := m) h0)
          clear hg hx G9
          generalize gap (n + 1) m = g at C w1 hn
          go_wp2_with (first
            | (go_at_call 6; refine (unhide C).mono ?_; rintro e w1 ⟨rfl, rfl⟩))
          go_roundw
          case rel => exact ⟨n + 1, by omega, by omega, by omega, by rw [unhide hn], by first | rfl | trivial, by first | rfl | trivial⟩
          case measure => simp [intOf]; omega
        · have e2 : decide (n + 1 ≤ 8) = false := by simpa using a2
          have hn8 : n = 8 := by omega
          subst hn8
          have e3 : decide (8 < T) = true := by simp; omega
          have h9 := unhide H9
          have hx := unhide HX
          have hend := (unhide HF) (by omega)
          have hm1 : 0 ≤ (T - 8) * g9 := Int.mul_nonneg (by omega) (by omega)
          have hm2 : (T - 8) * g9 ≤ 1099511627776 * 64 := Int.mul_le_mul (by omega) (by omega) (by omega) (by omega)
          have w1 : IntKind.i64.wrap (T - 8) = T - 8 := IntWalk.i64_in _ (by omega)
          have w3 : IntKind.i64.wrap ((T - 8) * g9) = (T - 8) * g9 := IntWalk.i64_in _ (by omega)
          have w4 : IntKind.i64.wrap (tot 8 m + (T - 8) * g9) = tot T m := by rw [IntWalk.i64_in _ (by omega), hend]
          clear hend hm1 hm2 hx h9
          go_wp2_with (first
            | (go_at_call 6; refine (unhide G9).mono ?_; rintro e w1 ⟨rfl, rfl⟩))
          go_ret
          exact ⟨rfl, rfl⟩
      · have e1 : decide (n + 1 ≤ T) = false := by simpa using a1
        have hend : tot n m = tot T m := by
          rcases h1 with h | h
          · congr 1; omega
          · subst h; rw [tot_low (by omega), tot_low (by omega)]
        have e3 : decide (8 < T) = false := by simp; omega
        rw [hend]
        clear hend h1
        go_wp2_with fail
        go_ret
        exact ⟨rfl, rfl⟩
/-- the chapter's examples -/
theorem gaps_is (w : World) : Calls Try.prog 9 #[] w fun e w' => e = .returned (.bool true) ∧ w = w' := by
  have g1 := hide (gap_is 1 5 (by omega) w)
  have g2 := hide (gap_is 2 5 (by omega) w)
  have g3 := hide (gap_is 4 5 (by omega) w)
  have g4 := hide (gap_is 9 100 (by omega) w)
  have g5 := hide (sum_is 4 5 (by omega) w)
  have g6 := hide (sum_is 3 0 (by omega) w)
  rw [show gap 1 5 = 1 by decide] at g1
  rw [show gap 2 5 = 2 by decide] at g2
  rw [show gap 4 5 = 5 by decide] at g3
  rw [show gap 9 100 = 64 by decide] at g4
  rw [show sumOf 4 5 = 12 by decide] at g5
  rw [show sumOf 3 0 = 0 by decide] at g6
  go_enter Try.func9, Try.ntmps9
  go_wp2_with fail
  refine (unhide g1).mono ?_
  rintro e w1 ⟨rfl, rfl⟩
  go_wp2_with fail
  refine (unhide g2).mono ?_
  rintro e w1 ⟨rfl, rfl⟩
  go_wp2_with fail
  refine (unhide g3).mono ?_
  rintro e w1 ⟨rfl, rfl⟩
  go_wp2_with fail
  refine (unhide g4).mono ?_
  rintro e w1 ⟨rfl, rfl⟩
  go_wp2_with fail
  refine (unhide g5).mono ?_
  rintro e w1 ⟨rfl, rfl⟩
  go_wp2_with fail
  refine (unhide g6).mono ?_
  rintro e w1 ⟨rfl, rfl⟩
  go_wp2_with fail
  go_ret
  exact ⟨rfl, rfl⟩
end Go.Proofs.Ytaglgokgcokekaa
