/-
  Contracts of windows: one made.
-/
import Derived.Test.YtfmkldhghgbciaaWindowsB
namespace Go.Proofs.Ytfmkldhghgbciaa
open Go.ChangeShapes Go.WideShapes Go.ChangeAt Go.RowKit
set_option linter.unusedVariables false
theorem build_win (c l d : Int) : Try.prog.built 45 [(0, .int .i64 c), (1, .int .i64 l), (2, .int .i64 d), (3, .int .i64 l)] = some #[.int .i64 c, .int .i64 l, .int .i64 d, .int .i64 l, .int .i64 0] := by kernel_rfl
/-- may these be? -/
def mayB (c l d : Int) : Bool := decide (1 ≤ c) && decide (c ≤ 16) && decide (0 ≤ d) && decide (d ≤ l) && decide (l ≤ 4096)
theorem may_ok {c l d : Int} (h : mayB c l d = true) : (⟨c, l, d, l, 0⟩ : Win).Ok := by
  simp [mayB] at h
  constructor <;> simp <;> omega
theorem new_yes {c l d : Int} (h : mayB c l d = true) (w : World) : Calls Try.prog 7 #[.int .i64 c, .int .i64 l, .int .i64 d] w (MadeW 45 (fun p => .tuple #[p, .int .i64 0]) ⟨c, l, d, l, 0⟩ w) := by
  simp [mayB] at h
  have e1 : decide (c < 1) = false := by simp; omega
  have e2 : decide (16 < c) = false := by simp; omega
  have e3 : decide (d < 0) = false := by simp; omega
  have e4 : decide (l < d) = false := by simp; omega
  have e5 : decide (4096 < l) = false := by simp; omega
  clear h
  go_enter Try.func7, Try.ntmps7
  go_wp2_with fail
  go_ret2
  exact ⟨w.heap.size, rfl, Nat.le_refl _, (Chg.refl _ _).alloc _, heap_alloc_new w _⟩
theorem new_no {c l d : Int} (h : mayB c l d = false) (w : World) : Calls Try.prog 7 #[.int .i64 c, .int .i64 l, .int .i64 d] w (fun e w' => e = .returned (.tuple #[.pointer none, .int .i64 2]) ∧ w = w') := by
  simp [mayB] at h
  by_cases e1 : c < 1
  · have f1 : decide (c < 1) = true := by simpa using e1
    go_enter Try.func7, Try.ntmps7
    go_wp2
    go_ret2
    exact ⟨rfl, rfl⟩
  have f1 : decide (c < 1) = false := by simpa using e1
  by_cases e2 : 16 < c
  · have f2 : decide (16 < c) = true := by simpa using e2
    clear h
    go_enter Try.func7, Try.ntmps7
    go_wp2
    go_ret2
    exact ⟨rfl, rfl⟩
  have f2 : decide (16 < c) = false := by simpa using e2
  by_cases e3 : d < 0
  · have f3 : decide (d < 0) = true := by simpa using e3
    clear h
    go_enter Try.func7, Try.ntmps7
    go_wp2
    go_ret2
    exact ⟨rfl, rfl⟩
  have f3 : decide (d < 0) = false := by simpa using e3
  by_cases e4 : l < d
  · have f4 : decide (l < d) = true := by simpa using e4
    clear h
    go_enter Try.func7, Try.ntmps7
    go_wp2
    go_ret2
    exact ⟨rfl, rfl⟩
  have f4 : decide (l < d) = false := by simpa using e4
  have f5 : decide (4096 < l) = true := by simp; omega
  clear h
  go_enter Try.func7, Try.ntmps7
  go_wp2
  go_ret2
  exact ⟨rfl, rfl⟩
end Go.Proofs.Ytfmkldhghgbciaa
