/-
  Slots: an outcome; the slot where it lies; what package sync does for one goroutine.
-/
import Derived.Test.YtebefoadcbodaaaKitL
import Derived.Test.YtebefoadcbodaaaKitT
import Derived.Test.YtebefoadcbodaaaKitV
import Derived.Test.YtebefoadcbodaaaProg
import Derived.Tactics
import Derived.Tactics2
import Derived.Defers
import Derived.Laws.Pointers
import Derived.Laws.LoneSync
import Derived.Deep.QuietTactic
import Derived.BigQuiet
import Derived.RegionTactic
import Derived.RegionCalls
import Derived.ChangeAlike
import Derived.Deep.DeepCutAuto
import Derived.IntWalk
import Derived.Maps.RangeWalk
import Derived.Deep.RegionWith
import Derived.Deep.CutRange
namespace Go.Proofs.Ytebefoadcbodaaa
open Go.ChangeShapes Go.WideShapes Go.ChangeAt Go.RowKit
set_option linter.unusedVariables false
theorem hide {p : Prop} (h : p) : Hid p := h
theorem unhide {p : Prop} (h : Hid p) : p := h
/-- one cell written, all else as it was -/
def Put (b k : Nat) (cs : Array Value) (T : TypeId) (v : Value) (w w' : World) : Prop := Chg (oneBlk b) w w' ∧ w'.heap[b]? = some (.cells (cs.setIfInBounds k v) T (0, 0)) ∧ w'.heap.size = w.heap.size
section
variable {w w' : World} {b k : Nat} {cs : Array Value} {T : TypeId} {x v : Value} {n : Int}
theorem put_cell (h : w.heap[b]? = some (.cells cs T (0, 0))) (v : Value) : Put b k cs T v w (w.setCell ⟨b, k, none⟩ v) := ⟨setCell_chg w b k v, setCell_heap v h, by simp [World.setCell]⟩
theorem put_drew (h : w.heap[b]? = some (.cells cs T (0, 0))) (v : Value) : Put b k cs T v w (w.drew.setCell ⟨b, k, none⟩ v) := by
  have h2 := put_cell (w := w.drew) (k := k) (by rw [heap_drew]; exact h) v
  exact ⟨(((Chg.refl noBlk w).drew).no (oneBlk b)).trans h2.1 fun _ _ e => e, h2.2.1, h2.2.2⟩
/-! ### sync/atomic.Bool -/
theorem bload (h : w.cell? ⟨b, k, none⟩ = some (.int .u32 n)) : Calls Try.prog 16 #[.pointer (some ⟨b, k, none⟩)] w (Told (.bool (n != 0)) w) := by
  have hl := run_call_load (P := Try.prog) Try.func20 (by kernel_rfl) (by kernel_rfl) (by kernel_rfl) .u32 (by kernel_rfl) h
  clear h
  go_enter Try.func16, Try.ntmps16
  go_wp2
  go_ret
  exact ⟨rfl, rfl⟩
theorem b32_true (w : World) : Calls Try.prog 19 #[.bool true] w (Told (.int .u32 1) w) := by
  go_enter Try.func19, Try.ntmps19
  go_wp2
  go_ret
  exact ⟨rfl, rfl⟩
theorem bstore (h : w.heap[b]? = some (.cells cs T (0, 0))) (hk : cs[k]? = some x) : Calls Try.prog 15 #[.pointer (some ⟨b, k, none⟩), .bool true] w (fun e w' => e = .returned (.tuple #[]) ∧ Put b k cs T (.int .u32 1) w w') := by
  have hc : w.drew.cell? ⟨b, k, none⟩ = some x := by rw [World.cell?_drew]; exact cellAt h k _ hk
  have hf : w.drew.frozen? ⟨b, k, none⟩ = false := freeAt (w := w.drew) h k
  have hst := run_call_store (P := Try.prog) Try.func18 (by kernel_rfl) (by kernel_rfl) (by kernel_rfl) (by kernel_rfl) (k := .u32) (y := 1) hc hf
  have D := hide (put_drew (k := k) h (.int .u32 1))
  clear h hk hc hf
  go_enter Try.func15, Try.ntmps15
  go_wp2
  go_region_calls
  all_goals (go_end0; exact ⟨rfl, unhide D⟩)
theorem bstore_d (u : FrameMode) (h : w.heap[b]? = some (.cells cs T (0, 0))) (hk : cs[k]? = some x) : CallsD Try.prog 15 #[.pointer (some ⟨b, k, none⟩), .bool true] u w (fun e u' w' => u' = u ∧ (e = .returned (.tuple #[]) ∧ Put b k cs T (.int .u32 1) w w')) := by
  have hc : w.drew.cell? ⟨b, k, none⟩ = some x := by rw [World.cell?_drew]; exact cellAt h k _ hk
  have hf : w.drew.frozen? ⟨b, k, none⟩ = false := freeAt (w := w.drew) h k
  have hst := run_call_store (P := Try.prog) Try.func18 (by kernel_rfl) (by kernel_rfl) (by kernel_rfl) (by kernel_rfl) (k := .u32) (y := 1) hc hf
  have D := hide (put_drew (k := k) h (.int .u32 1))
  clear h hk hc hf
  go_enter_d Try.func15, Try.ntmps15
  go_wp2
  go_region_calls
  all_goals (go_end0; exact ⟨rfl, unhide D⟩)
/-! ### sync.Mutex, alone -/
theorem disable (w : World) : (callFunc 25 #[]).run Try.prog w = .ok (.value (.tuple #[])) w := run_call_mark0 Try.func25 (by kernel_rfl) (by kernel_rfl) (by kernel_rfl) .disable (by kernel_rfl) w
theorem enable (w : World) : (callFunc 27 #[]).run Try.prog w = .ok (.value (.tuple #[])) w := run_call_mark0 Try.func27 (by kernel_rfl) (by kernel_rfl) (by kernel_rfl) .enable (by kernel_rfl) w
theorem acquire (a : Addr) (w : World) : (callFunc 28 #[.pointer (some a)]).run Try.prog w = .ok (.value (.tuple #[])) w := run_call_marked Try.func28 (by kernel_rfl) (by kernel_rfl) (by kernel_rfl) .acquire (by kernel_rfl) a w
theorem releaseMerge (a : Addr) (w : World) : (callFunc 30 #[.pointer (some a)]).run Try.prog w = .ok (.value (.tuple #[])) w := run_call_marked Try.func30 (by kernel_rfl) (by kernel_rfl) (by kernel_rfl) .releaseMerge (by kernel_rfl) a w
theorem lock_in (h : w.heap[b]? = some (.cells cs T (0, 0))) (hk : cs[k]? = some (.int .i32 0)) : Calls Try.prog 23 #[.pointer (some ⟨b, k, none⟩)] w (fun e w' => e = .returned (.tuple #[]) ∧ Put b k cs T (.int .i32 1) w w') := by
  have hc := cellAt h k _ hk
  have hz := freeAt h k
  have hd := disable
  have he := enable
  have ha := acquire
  have hcas := run_call_cas_hit (P := Try.prog) Try.func26 (by kernel_rfl) (by kernel_rfl) (by kernel_rfl) .i32 (by kernel_rfl) (y := 1) hc hz
  have hc' : (w.setCell ⟨b, k, none⟩ (.int .i32 1)).cell? ⟨b, k, none⟩ = some (.int .i32 1) := World.cell?_setCell_same w _ _ hc
  have hcv := run_convert_to_unsafe (P := Try.prog) (src := 60) (dst := 64) Try.underlying60 Try.underlying64 (by kernel_rfl) hc'
  have D := hide (put_cell (k := k) h (.int .i32 1))
  clear h hk hc hz hc'
  go_enter Try.func23, Try.ntmps23
  go_wp2
  refine bodyPost_ret (results_none rfl _ _ _) rfl ?_
  exact ⟨rfl, unhide D⟩
theorem lock_at (h : w.heap[b]? = some (.cells cs T (0, 0))) (hk : cs[k]? = some (.int .i32 0)) : Calls Try.prog 21 #[.pointer (some ⟨b, k, none⟩)] w (fun e w' => e = .returned (.tuple #[]) ∧ Put b k cs T (.int .i32 1) w w') := by
  have L := hide (lock_in h hk)
  clear h hk
  go_enter Try.func21, Try.ntmps21
  go_wp2_with (go_at_call 23; refine (unhide L).mono ?_; rintro e w' ⟨rfl, D⟩)
  go_end0
  exact ⟨rfl, D⟩
theorem unlock_in (h : w.heap[b]? = some (.cells cs T (0, 0))) (hk : cs[k]? = some (.int .i32 1)) : Calls Try.prog 24 #[.pointer (some ⟨b, k, none⟩)] w (fun e w' => e = .returned (.tuple #[]) ∧ Put b k cs T (.int .i32 0) w w') := by
  have hc := cellAt h k _ hk
  have hz := freeAt h k
  have hd := disable
  have he := enable
  have hr := releaseMerge
  have hadd := run_call_add (P := Try.prog) Try.func31 (by kernel_rfl) (by kernel_rfl) (by kernel_rfl) .i32 (by kernel_rfl) (y := -1) (s := 0) hc hz (by simp [go_sem]; rfl)
  have hcv := run_convert_to_unsafe (P := Try.prog) (src := 60) (dst := 64) Try.underlying60 Try.underlying64 (by kernel_rfl) hc
  have D := hide (put_cell (k := k) h (.int .i32 0))
  clear h hk hz
  go_enter Try.func24, Try.ntmps24
  go_wp2
  go_end0
  exact ⟨rfl, unhide D⟩
theorem unlock_d (u : FrameMode) (h : w.heap[b]? = some (.cells cs T (0, 0))) (hk : cs[k]? = some (.int .i32 1)) : CallsD Try.prog 22 #[.pointer (some ⟨b, k, none⟩)] u w (fun e u' w' => u' = u ∧ (e = .returned (.tuple #[]) ∧ Put b k cs T (.int .i32 0) w w')) := by
  have L := hide (unlock_in h hk)
  clear h hk
  go_enter_d Try.func22, Try.ntmps22
  go_wp2_with (go_at_call 24; refine (unhide L).mono ?_; rintro e w' ⟨rfl, D⟩)
  go_end0
  exact ⟨rfl, D⟩
end
end Go.Proofs.Ytebefoadcbodaaa
