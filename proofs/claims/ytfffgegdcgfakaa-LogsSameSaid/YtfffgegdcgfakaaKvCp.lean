/-
  Keys with values: the contract of Copy.
-/
import Derived.Test.YtfffgegdcgfakaaKvF
import Derived.Test.YtfffgegdcgfakaaIter
import Derived.Maps.RangeWalk
namespace Go.Proofs.Ytfffgegdcgfakaa
open Go.ChangeShapes Go.WideShapes Go.ChangeAt Go.RowKit
set_option linter.unusedVariables false
attribute [local go_sem] bs_size bs_app bs_cut bs_tl bs_at
section
variable {w : World} {b m : Nat} {L : List KV}
theorem clone_map (h : MapAt w m L) : Calls Try.prog 40 #[.map (some m)] w (fun e w' => ∃ m2, e = .returned (.map (some m2)) ∧ m2 = w.heap.size ∧ Chg noBlk w w' ∧ MapAt w' m2 L) :=
  (AnyW.maps_Clone_owns Try.clone40 9 cellR m L.length (dat L) w h).mono fun e w' ⟨h1, h2, _, h4⟩ => ⟨_, h1, rfl, Chg.ofBelow h4, h2⟩
/-- told: another store that has L -/
def NewS (L : List KV) (w : World) (e : Ending) (w' : World) : Prop := ∃ b m, e = .returned (.pointer (some ⟨b, 0, none⟩)) ∧ w.heap.size ≤ b ∧ w.heap.size ≤ m ∧ Chg noBlk w w' ∧ StAt w' b m L
theorem copy_at (h : StAt w b m L) : Calls Try.prog 27 #[.pointer (some ⟨b, 0, none⟩)] w (NewS L w) := by
  have hin := hide (isnone_at h)
  have hcl := hide (clone_map h.m)
  have c0 := h.c0
  clear h
  go_enter Try.func27, Try.ntmps27
  go_wp2_with (first
    | (go_at_call 39; (with_reducible refine (unhide hin).mono ?_); rintro e w2 ⟨rfl, rfl⟩)
    | (go_at_call 40; (with_reducible refine (unhide hcl).mono ?_); rintro e w2 ⟨m2, rfl, e2, k2, h2⟩; have e3 : w.heap.size ≤ m2 := Nat.le_of_eq e2.symm; clear e2))
  go_ret
  exact ⟨w2.heap.size, m2, rfl, k2.size, e3, k2.alloc _, heap_alloc_new w2 _, h2.no ((Chg.refl _ _).alloc _)⟩
end
end Go.Proofs.Ytfffgegdcgfakaa
