/-
  Backoff: waits as plain numbers; all of them together.
-/
import Derived.Test.YtaglgokgcokekaaKitM
namespace Go.Proofs.Ytaglgokgcokekaa
open Go.ChangeShapes Go.WideShapes Go.ChangeAt Go.RowKit
set_option linter.unusedVariables false
theorem hide {p : Prop} (h : p) : Hid p := h
theorem unhide {p : Prop} (h : Hid p) : p := h
/-- twice as many each time, to the seventh -/
def pw (k : Int) : Int := if k ≤ 0 then 1 else if k ≤ 1 then 2 else if k ≤ 2 then 4 else if k ≤ 3 then 8 else if k ≤ 4 then 16 else if k ≤ 5 then 32 else 64
theorem pw_low {k : Int} (h : k ≤ 0) : pw k = 1 := by unfold pw; rw [if_pos h]
theorem pw_next {k : Int} (h : 0 ≤ k) (h6 : k ≤ 5) : pw (k + 1) = 2 * pw k := by
  have : k = 0 ∨ k = 1 ∨ k = 2 ∨ k = 3 ∨ k = 4 ∨ k = 5 := by omega
  rcases this with rfl | rfl | rfl | rfl | rfl | rfl <;> rfl
theorem pw_high {k : Int} (h : 6 ≤ k) : pw k = 64 := by unfold pw; repeat (first | rw [if_neg (by omega)] | rfl)
theorem pw_pos (k : Int) : 1 ≤ pw k ∧ pw k ≤ 64 := by unfold pw; repeat (first | (split; · omega) | omega)
theorem pw_mono {j k : Int} (h : j ≤ k) : pw j ≤ pw k := by
  by_cases a : k ≤ 0
  · rw [pw_low a, pw_low (by omega)]; omega
  · by_cases b : 6 ≤ j
    · rw [pw_high b, pw_high (by omega)]; omega
    · by_cases c : j ≤ 0
      · rw [pw_low c]; exact (pw_pos k).1
      · by_cases d : 6 ≤ k
        · rw [pw_high d]; exact (pw_pos j).2
        · have hj : j = 1 ∨ j = 2 ∨ j = 3 ∨ j = 4 ∨ j = 5 := by omega
          have hk : k = 1 ∨ k = 2 ∨ k = 3 ∨ k = 4 ∨ k = 5 := by omega
          rcases hj with rfl | rfl | rfl | rfl | rfl <;> rcases hk with rfl | rfl | rfl | rfl | rfl <;> first | decide | omega
/-- most, brought to a wait that may be -/
def wt (m : Int) : Int := max 0 (min m 64)
/-- how long is waited behind t tries -/
def gap (t m : Int) : Int := if t < 1 then 0 else min (pw (t - 1)) (wt m)
theorem wt_in (m : Int) : 0 ≤ wt m ∧ wt m ≤ 64 := by unfold wt; omega
theorem gap_low {t m : Int} (h : t < 1) : gap t m = 0 := by unfold gap; rw [if_pos h]
theorem gap_in {t m : Int} (h : 1 ≤ t) : gap t m = min (pw (t - 1)) (wt m) := by unfold gap; rw [if_neg (by omega)]
theorem gap_high {t m : Int} (h : 7 ≤ t) : gap t m = wt m := by rw [gap_in (by omega), pw_high (by omega)]; have := wt_in m; omega
theorem gap_most (t m : Int) : 0 ≤ gap t m ∧ gap t m ≤ wt m := by
  have := wt_in m; have := pw_pos (t - 1)
  unfold gap; split <;> omega
theorem gap_mono {s t : Int} (m : Int) (h : s ≤ t) : gap s m ≤ gap t m := by
  by_cases a : s < 1
  · rw [gap_low a]; exact (gap_most t m).1
  · rw [gap_in (by omega), gap_in (by omega)]
    have := pw_mono (show s - 1 ≤ t - 1 by omega)
    omega
/-- all waits up to the nth -/
def totN : Nat → Int → Int
  | 0, _ => 0
  | n + 1, m => totN n m + gap (n + 1) m
def tot (t m : Int) : Int := totN t.toNat m
theorem tot_low {t m : Int} (h : t ≤ 0) : tot t m = 0 := by
  unfold tot; rw [show t.toNat = 0 by omega]; rfl
theorem tot_next {t m : Int} (h : 0 ≤ t) : tot (t + 1) m = tot t m + gap (t + 1) m := by
  unfold tot
  rw [show (t + 1).toNat = t.toNat + 1 by omega]
  show totN t.toNat m + gap ((t.toNat : Int) + 1) m = _
  rw [Int.toNat_of_nonneg h]
theorem totN_in (n : Nat) (m : Int) : 0 ≤ totN n m ∧ totN n m ≤ n * 64 := by
  induction n with
  | zero => exact ⟨Int.le_refl _, by simp [totN]⟩
  | succ n ih =>
    have := gap_most ((n : Int) + 1) m
    have := wt_in m
    unfold totN
    push_cast
    omega
theorem tot_in {t m : Int} (h : 0 ≤ t) : 0 ≤ tot t m ∧ tot t m ≤ t * 64 := by
  have := totN_in t.toNat m
  unfold tot
  omega
/-- behind one that is the longest all are -/
theorem gap_full {s t : Int} {m : Int} (h : s ≤ t) (h1 : gap s m = wt m) : gap t m = wt m := by
  have := gap_mono m h; have := gap_most t m; omega
theorem totN_full (s : Int) (h0 : 0 ≤ s) (m : Int) (h1 : gap (s + 1) m = wt m) (n : Nat) : tot (s + n) m = tot s m + n * wt m := by
  induction n with
  | zero => simp
  | succ n ih =>
    have := tot_next (t := s + n) (m := m) (by omega)
    rw [show s + ((n + 1 : Nat) : Int) = s + n + 1 by push_cast; omega, this, ih, gap_full (by omega) h1]
    push_cast
    rw [Int.add_mul]
    omega
theorem tot_full {s t m : Int} (h0 : 0 ≤ s) (h : s ≤ t) (h1 : gap (s + 1) m = wt m) : tot t m = tot s m + (t - s) * wt m := by
  have := totN_full s h0 m h1 (t - s).toNat
  rw [Int.toNat_of_nonneg (by omega)] at this
  rw [← this]
  congr 1
  omega
/-- all waits together, of tries that may be -/
def sumOf (t m : Int) : Int := tot (min t 1099511627776) m
end Go.Proofs.Ytaglgokgcokekaa
