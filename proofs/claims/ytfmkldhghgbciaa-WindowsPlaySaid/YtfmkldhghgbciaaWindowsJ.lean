/-
  Windows: one is the document's; a new one of the document's.
-/
import Derived.Test.YtfmkldhghgbciaaWindowsI
import Derived.Deep.DeepCutAuto
import Derived.IntWalk
namespace Go.Proofs.Ytfmkldhghgbciaa
open Go.ChangeShapes Go.WideShapes Go.ChangeAt Go.RowKit
set_option linter.unusedVariables false
theorem quiet_w {P : Program} {f : FuncId} {args : Array Value} {w : World} {n : Nat} {v : Value}
    (h : Calls P f args (w.drewN n) fun e w' => e = .returned v ∧ w.drewN n = w') : Calls P f args (w.drewN n) fun e w'' => e = .returned v ∧ ∃ m, w'' = w.drewN m :=
  h.mono fun _ _ ⟨he, hm⟩ => ⟨he, n, hm.symm⟩
theorem quiet_n {P : Program} {f : FuncId} {args : Array Value} {w : World} {n : Nat} {v : Int}
    (h : Calls P f args (w.drewN n) (NumQ v (w.drewN n))) : Calls P f args (w.drewN n) fun e w'' => e = .returned (.int .i64 v) ∧ ∃ m, w'' = w.drewN m :=
  h.mono fun _ _ ⟨he, k, hm⟩ => ⟨he, n + k, by rw [hm, World.drewN_drewN]⟩
set_option maxRecDepth 100000 in
set_option maxHeartbeats 2000000 in
theorem alike_any {w : World} {b q : Nat} {x : Win} (h : WK 45 w b x) (g : WK 39 w q x) : Calls Try.prog 22 #[.pointer (some ⟨b, 0, none⟩), .pointer (some ⟨q, 0, none⟩)] w (ToldB true w) := by
  have C1 := hide (fun n => quiet_w (last_k (h.drewN n) rfl))
  have C2 := hide (fun n => quiet_w (done_k (h.drewN n) rfl))
  have C3 := hide (fun n => quiet_w (sent_k (h.drewN n) rfl))
  have C4 := hide (fun n => quiet_w (limit_k (h.drewN n) rfl))
  have C5 := hide (fun n => quiet_n (offer_k (h.drewN n) rfl))
  have C6 := hide (fun n => quiet_n (free_k (h.drewN n) rfl))
  have C7 := hide (fun n => quiet_n (free_d (g.drewN n) rfl))
  obtain ⟨c0, c1, c2, c3, c4⟩ := g.1.cells
  obtain ⟨o1, o2, o3, o4, o5, o6, o7, o8, o9⟩ := h.2
  clear h g
  generalize x.free = fr at C6 C7
  have wr : IntKind.i64.wrap (x.d + x.c) = x.d + x.c := IntWalk.i64_in _ (by omega)
  go_enter Try.func22, Try.ntmps22
  go_wp2_with fail
  go_quiet (first
    | (go_at_call 23; exact unhide C1 _)
    | (go_at_call 24; exact unhide C2 _)
    | (go_at_call 25; exact unhide C3 _)
    | (go_at_call 26; exact unhide C4 _)
    | (go_at_call 27; exact unhide C5 _)
    | (go_at_call 28; exact unhide C6 _)
    | (go_at_call 30; exact unhide C7 _))
  go_wp2
  go_ret
  exact ⟨rfl, (Chg.refl _ _).drewN _⟩
theorem rnew_yes {c l d : Int} (h : mayB c l d = true) (w : World) : Calls Try.prog 8 #[.int .i64 c, .int .i64 l, .int .i64 d] w (MadeK 39 (fun p => .tuple #[p, .int .i64 0]) ⟨c, l, d, l, 0⟩ w) := by
  have ok := may_ok h
  simp [mayB] at h
  have e1 : decide (c < 1) = false := by simp; omega
  have e2 : decide (16 < c) = false := by simp; omega
  have e3 : decide (d < 0) = false := by simp; omega
  have e4 : decide (l < d) = false := by simp; omega
  have e5 : decide (4096 < l) = false := by simp; omega
  have OK := hide ok
  clear h ok
  go_enter Try.func8, Try.ntmps8
  go_wp2_with fail
  go_ret2
  exact ⟨w.heap.size, rfl, Nat.le_refl _, (Chg.refl _ _).alloc _, heap_alloc_new w _, unhide OK⟩
theorem rnew_no {c l d : Int} (h : mayB c l d = false) (w : World) : Calls Try.prog 8 #[.int .i64 c, .int .i64 l, .int .i64 d] w (fun e w' => e = .returned (.tuple #[.pointer none, .int .i64 2]) ∧ w = w') := by
  simp [mayB] at h
  by_cases e1 : c < 1
  · have f1 : decide (c < 1) = true := by simpa using e1
    clear h
    go_enter Try.func8, Try.ntmps8
    go_wp2
    go_ret2
    exact ⟨rfl, rfl⟩
  have f1 : decide (c < 1) = false := by simpa using e1
  by_cases e2 : 16 < c
  · have f2 : decide (16 < c) = true := by simpa using e2
    clear h
    go_enter Try.func8, Try.ntmps8
    go_wp2
    go_ret2
    exact ⟨rfl, rfl⟩
  have f2 : decide (16 < c) = false := by simpa using e2
  by_cases e3 : d < 0
  · have f3 : decide (d < 0) = true := by simpa using e3
    clear h
    go_enter Try.func8, Try.ntmps8
    go_wp2
    go_ret2
    exact ⟨rfl, rfl⟩
  have f3 : decide (d < 0) = false := by simpa using e3
  by_cases e4 : l < d
  · have f4 : decide (l < d) = true := by simpa using e4
    clear h
    go_enter Try.func8, Try.ntmps8
    go_wp2
    go_ret2
    exact ⟨rfl, rfl⟩
  have f4 : decide (l < d) = false := by simpa using e4
  have f5 : decide (4096 < l) = true := by simp; omega
  clear h
  go_enter Try.func8, Try.ntmps8
  go_wp2
  go_ret2
  exact ⟨rfl, rfl⟩
end Go.Proofs.Ytfmkldhghgbciaa
