/-
  Contracts of backoff: a wait; all waits together.
-/
import Derived.Test.YtaglgokgcokekaaBackoffA
import Derived.Test.YtaglgokgcokekaaProg
import Derived.Deep.QuietTactic
import Derived.BigQuiet
import Derived.RegionTactic
import Derived.ChangeAlike
import Derived.Deep.DeepCutAuto
import Derived.Deep.CutRange
import Derived.IntWalk
import Derived.Maps.RangeWalk
namespace Go.Proofs.Ytaglgokgcokekaa
open Go.ChangeShapes Go.WideShapes Go.ChangeAt Go.RowKit
set_option linter.unusedVariables false
theorem ret_int {k : IntKind} {a b : Int} (h : a = b) : Ending.returned (.int k a) = .returned (.int k b) := by rw [h]
/-- told: this number; no block has turned -/
def Told (n : Int) (w : World) (e : Ending) (w' : World) : Prop := e = .returned (.int .i64 n) ∧ w = w'
theorem within_is (m : Int) (w : World) : Calls Try.prog 10 #[.int .i64 m] w (Told (wt m) w) := by
  obtain ⟨a, ha⟩ : ∃ a, a = min m 64 := ⟨_, rfl⟩
  have hmin : ∀ ts t W, (Builtin.min_ ts t #[.int .i64 m, .int .i64 64]).run Try.prog W = .ok (.int .i64 a) W := fun ts t W => by
    rw [run_min_int2, ha]; congr 2; split <;> omega
  have hmax : ∀ ts t W, (Builtin.max_ ts t #[.int .i64 0, .int .i64 a]).run Try.prog W = .ok (.int .i64 (wt m)) W := fun ts t W => by
    rw [run_max_int2]; unfold wt; rw [← ha]; congr 2; split <;> omega
  clear ha
  go_enter Try.func10, Try.ntmps10
  go_wp2_with fail
  go_ret
  exact ⟨rfl, rfl⟩
/-- where the wait doubles -/
theorem gap_end {n t m : Int} (h0 : 0 ≤ n) (h : n + 1 ≤ t) (h6 : n ≤ 6) (hend : t ≤ n + 1 ∨ wt m ≤ pw n) : min (pw n) (wt m) = gap t m := by
  rw [gap_in (by omega)]
  rcases hend with e | e
  · rw [show t - 1 = n by omega]
  · have := pw_mono (show n ≤ t - 1 by omega); omega
set_option maxHeartbeats 4000000 in
theorem gap_is (t m : Int) (ht : -9223372036854775808 ≤ t ∧ t ≤ 9223372036854775807) (w : World) : Calls Try.prog 5 #[.int .i64 t, .int .i64 m] w (Told (gap t m) w) := by
  by_cases a : t < 1
  · have e : decide (t < 1) = true := by simpa using a
    rw [gap_low a]
    clear a
    go_enter Try.func5, Try.ntmps5
    go_wp2_with fail
    go_ret
    exact ⟨rfl, rfl⟩
  · have e : decide (t < 1) = false := by simpa using a
    have I := hide (within_is m w)
    have HM := hide (wt_in m)
    have HG : Hid (∀ n, 0 ≤ n → n + 1 ≤ t → n ≤ 6 → (t ≤ n + 1 ∨ wt m ≤ pw n) → min (pw n) (wt m) = gap t m) := hide fun n h0 h h6 he => gap_end h0 h h6 he
    generalize wt m = x at I HM HG
    generalize gap t m = g at HG
    go_enter Try.func5, Try.ntmps5
    go_wp2_with (first
      | (go_at_call 10; refine (unhide I).mono ?_; rintro e w1 ⟨rfl, rfl⟩))
    clear I
    go_loopw [5, 6] (fun p i wr => ∃ n : Int, 0 ≤ n ∧ n + 1 ≤ t ∧ n ≤ 6 ∧ p = .int .i64 (pw n) ∧ i = .int .i64 (n + 1) ∧ w = wr) (fun p i wr => (7 - intOf i).toNat)
    case atStart => exact ⟨0, by omega, by omega, by omega, rfl, rfl, rfl⟩
    case round =>
      obtain ⟨n, h0, h1, h6, rfl, rfl, rfl⟩ := hrel
      by_cases a1 : n + 1 < t
      · have e1 : decide (n + 1 < t) = true := by simpa using a1
        by_cases a2 : pw n < x
        · have e2 : decide (pw n < x) = true := by simpa using a2
          have h5 : n ≤ 5 := by
            have := unhide HM
            by_cases h : n ≤ 5
            · exact h
            · have := pw_high (show 6 ≤ n by omega); omega
          have hp := pw_pos n
          have w1 : IntKind.i64.wrap (pw n * 2) = pw n * 2 := IntWalk.i64_in _ (by omega)
          have w2 : IntKind.i64.wrap (n + 1 + 1) = n + 1 + 1 := IntWalk.i64_in _ (by omega)
          go_wp2_with fail
          go_roundw
          case rel => exact ⟨n + 1, by omega, by omega, by omega, by rw [pw_next h0 h5, Int.mul_comm], by first | rfl | trivial, by first | rfl | trivial⟩
          case measure => simp [intOf]; omega
        · have e2 : decide (pw n < x) = false := by simpa using a2
          have hend := (unhide HG) n h0 h1 h6 (Or.inr (by omega))
          have hmin : ∀ ts t W, (Builtin.min_ ts t #[.int .i64 (pw n), .int .i64 x]).run Try.prog W = .ok (.int .i64 g) W := fun ts t W => by
            rw [run_min_int2, ← hend]; congr 2; split <;> omega
          clear hend
          go_wp2_with fail
          go_ret
          exact ⟨rfl, rfl⟩
      · have e1 : decide (n + 1 < t) = false := by simpa using a1
        have hend := (unhide HG) n h0 h1 h6 (Or.inl (by omega))
        have hmin : ∀ ts t W, (Builtin.min_ ts t #[.int .i64 (pw n), .int .i64 x]).run Try.prog W = .ok (.int .i64 g) W := fun ts t W => by
          rw [run_min_int2, ← hend]; congr 2; split <;> omega
        clear hend
        go_wp2_with fail
        go_ret
        exact ⟨rfl, rfl⟩
set_option maxHeartbeats 4000000 in
theorem sum_is (t m : Int) (ht : -9223372036854775808 ≤ t ∧ t ≤ 9223372036854775807) (w : World) : Calls Try.prog 7 #[.int .i64 t, .int .i64 m] w (Told (sumOf t m) w) := by
  unfold sumOf
  obtain ⟨T, hT⟩ : ∃ T, T = min t 1099511627776 := ⟨_, rfl⟩
  have hmin : ∀ ts t' W, (Builtin.min_ ts t' #[.int .i64 t, .int .i64 1099511627776]).run Try.prog W = .ok (.int .i64 T) W := fun ts t' W => by
    rw [run_min_int2, hT]; congr 2; split <;> omega
  rw [← hT]
  have T2 : T ≤ 1099511627776 := by omega
  have T1 : -9223372036854775808 ≤ T := by omega
  clear hT ht
  have I := hide (within_is m w)
  have HM := hide (wt_in m)
  have G := hide fun n => gap_is n (wt m)
  have hgg : ∀ n, gap n (wt m) = gap n m := fun n => by
    unfold gap
    rw [show wt (wt m) = wt m by unfold wt; omega]
  have HF : Hid (∀ s, 0 ≤ s → s ≤ T → gap (s + 1) m = wt m → tot T m = tot s m + (T - s) * wt m) := hide fun s h0 h h1 => tot_full h0 h h1
  have HH : Hid (∀ n, 7 ≤ n → gap n m = wt m) := hide fun n h => gap_high h
  have HG := hide fun n => gap_most n m
  simp only [hgg] at G
  clear hgg
  generalize wt m = x at I HM HG HF HH G
  go_enter Try.func7, Try.ntmps7
  go_wp2_with (first
    | (go_at_call 10; refine (unhide I).mono ?_; rintro e w1 ⟨rfl, rfl⟩))
  clear I hmin
  go_loopw [5, 6] (fun p i wr => ∃ n : Int, 0 ≤ n ∧ (n ≤ T ∨ n = 0) ∧ n ≤ 6 ∧ p = .int .i64 (tot n m) ∧ i = .int .i64 (n + 1) ∧ w = wr) (fun p i wr => (7 - intOf i).toNat)
  case atStart => exact ⟨0, by omega, by omega, by omega, rfl, rfl, rfl⟩
  case round =>
    obtain ⟨n, h0, h1, h6, rfl, rfl, rfl⟩ := hrel
    by_cases a1 : n + 1 ≤ T
    · have e1 : decide (n + 1 ≤ T) = true := by simpa using a1
      have C := hide ((unhide G) (n + 1) (by omega) w)
      have ht := tot_in (m := m) h0
      by_cases a2 : gap (n + 1) m = x
      · have e2 : (gap (n + 1) m == x) = true := by simpa using a2
        have hend := (unhide HF) n h0 (by omega) a2
        have hx := unhide HM
        have hm1 : 0 ≤ (T - n) * x := Int.mul_nonneg (by omega) (by omega)
        have hm2 : (T - n) * x ≤ 1099511627776 * 64 := Int.mul_le_mul (by omega) (by omega) (by omega) (by omega)
        have w1 : IntKind.i64.wrap (T - (n + 1)) = T - (n + 1) := IntWalk.i64_in _ (by omega)
        have w2 : IntKind.i64.wrap (T - (n + 1) + 1) = T - n := by rw [IntWalk.i64_in _ (by omega)]; omega
        have w3 : IntKind.i64.wrap ((T - n) * x) = (T - n) * x := IntWalk.i64_in _ (by omega)
        have w4 : IntKind.i64.wrap (tot n m + (T - n) * x) = tot T m := by rw [IntWalk.i64_in _ (by omega), hend]
        clear hend hm1 hm2 hx
        generalize gap (n + 1) m = g at C e2
        go_wp2_with (first
          | (go_at_call 5; refine (unhide C).mono ?_; rintro e w1 ⟨rfl, rfl⟩))
        go_ret
        exact ⟨rfl, rfl⟩
      · have e2 : (gap (n + 1) m == x) = false := by simpa using a2
        have h5 : n ≤ 5 := by
          by_cases h : n ≤ 5
          · exact h
          · exact absurd ((unhide HH) (n + 1) (by omega)) a2
        have hg := (unhide HG) (n + 1)
        have hx := unhide HM
        have w1 : IntKind.i64.wrap (tot n m + gap (n + 1) m) = tot n m + gap (n + 1) m := IntWalk.i64_in _ (by omega)
        have w2 : IntKind.i64.wrap (n + 1 + 1) = n + 1 + 1 := IntWalk.i64_in _ (by omega)
        have hn := hide (tot_next (m := m) h0)
        clear hg hx a2
        generalize gap (n + 1) m = g at C e2 w1 hn
        go_wp2_with (first
          | (go_at_call 5; refine (unhide C).mono ?_; rintro e w1 ⟨rfl, rfl⟩))
        go_roundw
        case rel => exact ⟨n + 1, by omega, by omega, by omega, by rw [unhide hn], by first | rfl | trivial, by first | rfl | trivial⟩
        case measure => simp [intOf]; omega
    · have e1 : decide (n + 1 ≤ T) = false := by simpa using a1
      have hend : tot n m = tot T m := by
        rcases h1 with h | h
        · congr 1; omega
        · subst h; rw [tot_low (by omega), tot_low (by omega)]
      rw [hend]
      clear hend h1
      go_wp2_with fail
      go_ret
      exact ⟨rfl, rfl⟩
end Go.Proofs.Ytaglgokgcokekaa
