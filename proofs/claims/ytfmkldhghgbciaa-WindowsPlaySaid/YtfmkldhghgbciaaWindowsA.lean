/-
  Contracts of windows: what is read of one; one that is none.
-/
import Derived.Test.YtfmkldhghgbciaaKitM
import Derived.Test.YtfmkldhghgbciaaProg
import Derived.Deep.QuietTactic
import Derived.BigQuiet
namespace Go.Proofs.Ytfmkldhghgbciaa
open Go.ChangeShapes Go.WideShapes Go.ChangeAt Go.RowKit
set_option linter.unusedVariables false
theorem hide {p : Prop} (h : p) : Hid p := h
theorem unhide {p : Prop} (h : Hid p) : p := h
/-- a window's cells -/
abbrev winO (c l d s m : Int) : Obj := .cells #[.int .i64 c, .int .i64 l, .int .i64 d, .int .i64 s, .int .i64 m] 45 (0, 0)
/-- told: a number; only the order was drawn -/
def NumQ (n : Int) (w : World) (e : Ending) (w' : World) : Prop := e = .returned (.int .i64 n) ∧ ∃ k, w' = w.drewN k
theorem ret_int {k : IntKind} {a b : Int} (h : a = b) : Ending.returned (.int k a) = .returned (.int k b) := by rw [h]
/-- one that New did not make -/
def IsNone (w : World) (p : Value) : Prop := p = .pointer none ∨ ∃ b, p = .pointer (some ⟨b, 0, none⟩) ∧ w.heap[b]? = some (winO 0 0 0 0 0)
section
variable {w : World} {b : Nat} {c l d s m : Int}
theorem none_at (h : w.heap[b]? = some (winO c l d s m)) (hc : 1 ≤ c) : Calls Try.prog 29 #[.pointer (some ⟨b, 0, none⟩)] w (fun e w' => e = .returned (.bool false) ∧ w = w') := by
  have c0 := cellAt h 0 _ rfl
  have d0 : (c == 0) = false := by simp; omega
  clear h
  go_enter Try.func29, Try.ntmps29
  go_wp2
  go_ret
  exact ⟨rfl, rfl⟩
theorem none_is {p : Value} (h : IsNone w p) : Calls Try.prog 29 #[p] w (fun e w' => e = .returned (.bool true) ∧ w = w') := by
  rcases h with rfl | ⟨b, rfl, h⟩
  · go_enter Try.func29, Try.ntmps29
    go_wp2
    go_ret
    exact ⟨rfl, rfl⟩
  · have c0 := cellAt h 0 _ rfl
    clear h
    go_enter Try.func29, Try.ntmps29
    go_wp2
    go_ret
    exact ⟨rfl, rfl⟩
/-! ### read -/
theorem last_at (h : w.heap[b]? = some (winO c l d s m)) (hc : 1 ≤ c) : Calls Try.prog 23 #[.pointer (some ⟨b, 0, none⟩)] w (fun e w' => e = .returned (.int .i64 l) ∧ w = w') := by
  have N := hide (none_at h hc)
  have c1 := cellAt h 1 _ rfl
  clear h
  go_enter Try.func23, Try.ntmps23
  go_wp2_with (go_at_call 29; refine (unhide N).mono ?_; rintro e w' ⟨rfl, rfl⟩)
  go_ret
  exact ⟨rfl, rfl⟩
theorem done_at (h : w.heap[b]? = some (winO c l d s m)) (hc : 1 ≤ c) : Calls Try.prog 24 #[.pointer (some ⟨b, 0, none⟩)] w (fun e w' => e = .returned (.int .i64 d) ∧ w = w') := by
  have N := hide (none_at h hc)
  have c1 := cellAt h 2 _ rfl
  clear h
  go_enter Try.func24, Try.ntmps24
  go_wp2_with (go_at_call 29; refine (unhide N).mono ?_; rintro e w' ⟨rfl, rfl⟩)
  go_ret
  exact ⟨rfl, rfl⟩
theorem sent_at (h : w.heap[b]? = some (winO c l d s m)) (hc : 1 ≤ c) : Calls Try.prog 25 #[.pointer (some ⟨b, 0, none⟩)] w (fun e w' => e = .returned (.int .i64 s) ∧ w = w') := by
  have N := hide (none_at h hc)
  have c1 := cellAt h 3 _ rfl
  clear h
  go_enter Try.func25, Try.ntmps25
  go_wp2_with (go_at_call 29; refine (unhide N).mono ?_; rintro e w' ⟨rfl, rfl⟩)
  go_ret
  exact ⟨rfl, rfl⟩
theorem limit_at (h : w.heap[b]? = some (winO c l d s m)) (hc : 1 ≤ c) : Calls Try.prog 26 #[.pointer (some ⟨b, 0, none⟩)] w (fun e w' => e = .returned (.int .i64 m) ∧ w = w') := by
  have N := hide (none_at h hc)
  have c1 := cellAt h 4 _ rfl
  clear h
  go_enter Try.func26, Try.ntmps26
  go_wp2_with (go_at_call 29; refine (unhide N).mono ?_; rintro e w' ⟨rfl, rfl⟩)
  go_ret
  exact ⟨rfl, rfl⟩
theorem offer_at (h : w.heap[b]? = some (winO c l d s m)) (hc : 1 ≤ c) (hc2 : c ≤ 16) (hd : 0 ≤ d) (hd2 : d ≤ 4096) : Calls Try.prog 27 #[.pointer (some ⟨b, 0, none⟩)] w (NumQ (d + c) w) := by
  have N := hide (none_at h hc)
  have c0 := cellAt h 0 _ rfl
  have c2 := cellAt h 2 _ rfl
  clear h
  go_enter Try.func27, Try.ntmps27
  go_wp2_with (go_at_call 29; refine (unhide N).mono ?_; rintro e w' ⟨rfl, rfl⟩)
  go_quiet (fail)
  go_wp2
  go_ret
  exact ⟨rfl, _, rfl⟩
theorem free_at (h : w.heap[b]? = some (winO c l d s m)) (hc : 1 ≤ c) (hc2 : c ≤ 16) (hd : 0 ≤ d) (hd2 : d ≤ 4096) (hl : 0 ≤ l) (hl2 : l ≤ 4096) : Calls Try.prog 28 #[.pointer (some ⟨b, 0, none⟩)] w (NumQ (max 0 (min (d + c) 4096 - l)) w) := by
  have O := hide (offer_at h hc hc2 hd hd2)
  have L := hide (fun k : Nat => last_at (w := w.drewN k) (b := b) (c := c) (l := l) (d := d) (s := s) (m := m) h hc)
  clear h
  go_enter Try.func28, Try.ntmps28
  go_wp2_with (first
    | (go_at_call 27; refine (unhide O).mono ?_; rintro e w' ⟨rfl, k, rfl⟩)
    | (go_at_call 23; refine (unhide L _).mono ?_; rintro e w' ⟨rfl, rfl⟩))
  all_goals
    go_ret
    refine ⟨ret_int (by omega), k, rfl⟩
end
end Go.Proofs.Ytfmkldhghgbciaa
