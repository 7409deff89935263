/-
  Frames: what the contracts of the document's Get share.
-/
import Derived.Test.YtfplgmkbhpdmjaaFramesT
import Derived.Test.YtfplgmkbhpdmjaaChainsGD
import Derived.Deep.RegionLaw
namespace Go.Proofs.Ytfplgmkbhpdmjaa.Fm
open Go.ChangeShapes Go.WideShapes Go.ChangeAt Go.RowKit
set_option linter.unusedVariables false
attribute [local go_sem] bs_size bs_app bs_cut bs_tl bs_at
/-- a frame written: met whole -/
def stFr (x y : Value) : Sem Unit := Instr.storeAt 33 x y
theorem stFr_pre (x y : Value) : Instr.storeAt 33 x y = stFr x y := rfl
theorem run_stFr {w : World} {b : Nat} {g f : FT} {u v : Value} (h : FrAt w b g u) (hv : v.oneCell' = true) : (stFr (.pointer (some ⟨b, 0, none⟩)) (frV f v)).run Try.prog w = .ok () (w.setCells b 0 (f.cells v)) := by
  have := run_storeAt_mid (P := Try.prog) w b 0 33 (f.cells v).toArray (fun j hj => ⟨by rw [cellAt h (0 + j) ((g.cells u).toArray[0 + j]'(by rw [List.size_toArray, FT.len] at hj ⊢; omega)) (by simp)]; rfl, freeAt h _⟩) (by rw [info_fr]; rfl) (all_oneCell_toArray (FT.one f hv))
  unfold stFr
  simpa using this
theorem put_fr {w : World} {b : Nat} {g f : FT} {u v : Value} (h : FrAt w b g u) (hv : v.oneCell' = true) : FrAt (w.setCells b 0 (f.cells v)) b f v ∧ Chg (oneBlk b) w (w.setCells b 0 (f.cells v)) := by
  refine ⟨?_, setCells_chg w b _ 0⟩
  have := setCells_heap Try.prog h (o := 0) (vs := f.cells v) (by rw [List.size_toArray, FT.len, FT.len]; omega) (FT.one f hv)
  have e : laidIn (g.cells u).toArray 0 (f.cells v) = (f.cells v).toArray := by simp [laidIn, FT.cells]
  rw [e] at this
  exact this
theorem FrAt.drew {w : World} {b : Nat} {f : FT} {v : Value} (h : FrAt w b f v) : FrAt w.drew b f v := h
theorem built_kind (k : Int) : Try.prog.built 33 [(0, .int .i64 k)] = some ((fZero.set 0 k).cells v0).toArray := by kernel_rfl
theorem runint_any' {l r : List UInt8} {x : Int} {o : Bool} (hu : unintT l = (x, r, o)) (hl : l.length ≤ 1048576) (w : World) : Calls Try.prog 17 #[str l] w (ToldN (.tuple #[.int .i64 x, str r, .bool o]) w) := by
  have := runint_n l hl w
  rw [hu] at this
  exact this
def getN (l : List UInt8) : Int := if (getX l).isSome = true then 0 else 10
theorem rget_op (l : List UInt8) (hl : l.length ≤ 1048576) (w : World) : Calls Try.prog 20 #[str l] w (ToldN (.tuple #[.agg ((getX l).getD pZero).cells.toArray, .int .i64 (getN l)]) w) := Go.Proofs.Ytfplgmkbhpdmjaa.rget_any l hl w
theorem info_ent : (Try.prog.info? 28).map (·.size) = some 7 := by kernel_rfl
def entC (a b c : Int) (o : PT) : List Value := [.int .i64 a, .int .i64 b, .int .i64 c, .int .i64 o.k, str o.key, str o.val, .int .i64 o.ver]
theorem entC_one (a b c : Int) (o : PT) : ∀ u ∈ entC a b c o, u.oneCell' = true := by
  intro u hu; simp [entC] at hu; rcases hu with rfl | rfl | rfl | rfl | rfl | rfl | rfl <;> rfl
theorem built_ent (a b c : Int) (o : PT) : Try.prog.built 28 [(0, .int .i64 a), (1, .int .i64 b), (2, .int .i64 c), (3, .agg o.cells.toArray)] = some (entC a b c o).toArray := by kernel_rfl
theorem fr_ent {w : World} {p : Nat} {g : FT} {v : Value} {a b c : Int} {o : PT} (h : w.heap[p]? = some (.cells (laidIn (g.cells v).toArray 16 (entC a b c o)) 33 (0, 0))) : FrAt w p ((((g.set 16 a).set 17 b).set 18 c).withEop o) v := by
  unfold FrAt; rw [h]; simp [laidIn, FT.cells, FT.withEop, FT.set, entC]
theorem rcut_any' {l t r : List UInt8} {o : Bool} (hu : cutT l = (t, r, o)) (hl : l.length ≤ 1048576) (w : World) : Calls Try.prog 21 #[str l] w (ToldN (.tuple #[str t, str r, .bool o]) w) := by
  have := rcut_n l hl w
  rw [hu] at this
  exact this
end Go.Proofs.Ytfplgmkbhpdmjaa.Fm
