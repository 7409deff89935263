/-
  Counts: counters as a plain list; where they lie; atomic integers, looked at, set, exchanged.
-/
import Derived.Test.YtpgmpfhhmnnejaaKitI
import Derived.Test.YtpgmpfhhmnnejaaKitT
import Derived.Test.YtpgmpfhhmnnejaaProg
import Derived.Laws.LoneSync
import Derived.Deep.QuietTactic
import Derived.BigQuiet
import Derived.RegionTactic
import Derived.ChangeAlike
import Derived.Deep.DeepCutAuto
import Derived.IntWalk
import Derived.Maps.RangeWalk
import Derived.Deep.RegionWith
import Derived.Deep.CutRange
namespace Go.Proofs.Ytpgmpfhhmnnejaa
open Go.ChangeShapes Go.WideShapes Go.ChangeAt Go.RowKit
set_option linter.unusedVariables false
theorem hide {p : Prop} (h : p) : Hid p := h
theorem unhide {p : Prop} (h : Hid p) : p := h
/-- what a counter is with that more -/
def up (x y : Int) : Int := if x + y ≤ 4611686018427387904 then x + y else 4611686018427387904
theorem up_bd {x y : Int} (h0 : 0 ≤ x) (h1 : 0 ≤ y) : 0 ≤ up x y ∧ up x y ≤ 4611686018427387904 := by unfold up; split <;> omega
/-- counters that may be -/
structure Fit (l : List Int) : Prop where
  pos : 0 < l.length
  few : l.length ≤ 64
  bd : ∀ x ∈ l, 0 ≤ x ∧ x ≤ 4611686018427387904
theorem Fit.at {l : List Int} (f : Fit l) {k : Nat} {x : Int} (h : l[k]? = some x) : 0 ≤ x ∧ x ≤ 4611686018427387904 := f.bd x (List.mem_of_getElem? h)
theorem Fit.set {l : List Int} (f : Fit l) (k : Nat) {x : Int} (h : 0 ≤ x ∧ x ≤ 4611686018427387904) : Fit (l.set k x) :=
  ⟨by simpa using f.pos, by simpa using f.few, fun y hy => by
    rcases List.mem_or_eq_of_mem_set hy with h1 | h1
    · exact f.bd y h1
    · rw [h1]; exact h⟩
theorem fit_zero {n : Nat} (h1 : 1 ≤ n) (h2 : n ≤ 64) : Fit (List.replicate n 0) := ⟨by simp; omega, by simp; omega, fun x hx => by rw [List.eq_of_mem_replicate hx]; omega⟩
def cellsOf (l : List Int) : Array Value := (l.map (Value.int .i64 ·)).toArray
theorem cellsOf_at {l : List Int} {k : Nat} {x : Int} (h : l[k]? = some x) : (cellsOf l)[k]? = some (.int .i64 x) := by simp [cellsOf, h]
theorem cellsOf_set (l : List Int) (k : Nat) (x : Int) : (cellsOf l).setIfInBounds k (.int .i64 x) = cellsOf (l.set k x) := by
  apply Array.toList_inj.1
  simp [cellsOf, List.map_set]
/-- at b stand counters, their integers in g: l -/
structure CAt (w : World) (b g : Nat) (l : List Int) : Prop where
  at_ : w.heap[b]? = some (.cells #[.slice (some ⟨g, 0, none⟩) l.length l.length] 44 (0, 0))
  in_ : w.heap[g]? = some (.cells (cellsOf l) 52 (0, 0))
  ne : b ≠ g
  fit : Fit l
section
variable {w w' : World} {b g : Nat} {l : List Int} {S : Nat → Prop} {k : Nat} {x y : Int}
theorem CAt.kept (h : CAt w b g l) (c : Chg S w w') (hb : ¬ S b) (hg : ¬ S g) : CAt w' b g l := ⟨c.at h.at_ hb, c.at h.in_ hg, h.ne, h.fit⟩
theorem CAt.no (h : CAt w b g l) (c : Chg noBlk w w') : CAt w' b g l := h.kept c id id
theorem CAt.drewN (h : CAt w b g l) (n : Nat) : CAt (w.drewN n) b g l := ⟨h.at_, h.in_, h.ne, h.fit⟩
theorem CAt.drew (h : CAt w b g l) : CAt w.drew b g l := ⟨h.at_, h.in_, h.ne, h.fit⟩
theorem CAt.ltb (h : CAt w b g l) : b < w.heap.size := lt_of_block h.at_
theorem CAt.ltg (h : CAt w b g l) : g < w.heap.size := lt_of_block h.in_
theorem CAt.head (h : CAt w b g l) : w.cell? ⟨b, 0, none⟩ = some (.slice (some ⟨g, 0, none⟩) l.length l.length) := cellAt h.at_ 0 _ rfl
theorem CAt.cell (h : CAt w b g l) (hk : l[k]? = some x) : w.cell? ⟨g, k, none⟩ = some (.int .i64 x) := cellAt h.in_ k _ (cellsOf_at hk)
theorem CAt.free (h : CAt w b g l) (k : Nat) : w.frozen? ⟨g, k, none⟩ = false := freeAt h.in_ k
theorem CAt.set (h : CAt w b g l) (k : Nat) (hx : 0 ≤ x ∧ x ≤ 4611686018427387904) : CAt (w.setCell ⟨g, k, none⟩ (.int .i64 x)) b g (l.set k x) ∧ Chg (oneBlk g) w (w.setCell ⟨g, k, none⟩ (.int .i64 x)) := by
  have c := setCell_chg w g k (.int .i64 x)
  refine ⟨⟨?_, ?_, h.ne, h.fit.set k hx⟩, c⟩
  · rw [List.length_set]
    exact c.at h.at_ (fun e => h.ne e)
  · rw [setCell_heap (.int .i64 x) h.in_, cellsOf_set]
/-! ### atomic integers -/
theorem aload (h : w.cell? ⟨g, k, none⟩ = some (.int .i64 x)) : Calls Try.prog 17 #[.pointer (some ⟨g, k, none⟩)] w (fun e w' => e = .returned (.int .i64 x) ∧ w = w') := by
  have hl := run_call_load (P := Try.prog) Try.func21 (by kernel_rfl) (by kernel_rfl) (by kernel_rfl) .i64 (by kernel_rfl) h
  clear h
  go_enter Try.func17, Try.ntmps17
  go_wp2
  go_ret
  exact ⟨rfl, rfl⟩
theorem astore {u : Value} (h : w.cell? ⟨g, k, none⟩ = some u) (hf : w.frozen? ⟨g, k, none⟩ = false) : Calls Try.prog 16 #[.pointer (some ⟨g, k, none⟩), .int .i64 x] w (fun e w' => e = .returned (.tuple #[]) ∧ w.setCell ⟨g, k, none⟩ (.int .i64 x) = w') := by
  have hl := run_call_store (P := Try.prog) Try.func20 (by kernel_rfl) (by kernel_rfl) (by kernel_rfl) (by kernel_rfl) (k := .i64) (y := x) h hf
  clear h hf
  go_enter Try.func16, Try.ntmps16
  go_wp2
  go_end0
  exact ⟨rfl, rfl⟩
theorem aswap (h : w.cell? ⟨g, k, none⟩ = some (.int .i64 x)) (hf : w.frozen? ⟨g, k, none⟩ = false) : Calls Try.prog 19 #[.pointer (some ⟨g, k, none⟩), .int .i64 x, .int .i64 y] w (fun e w' => e = .returned (.bool true) ∧ w.setCell ⟨g, k, none⟩ (.int .i64 y) = w') := by
  have hl := run_call_cas_hit (P := Try.prog) Try.func22 (by kernel_rfl) (by kernel_rfl) (by kernel_rfl) .i64 (by kernel_rfl) (y := y) h hf
  clear h hf
  go_enter Try.func19, Try.ntmps19
  go_wp2
  go_ret
  exact ⟨rfl, rfl⟩
end
end Go.Proofs.Ytpgmpfhhmnnejaa
