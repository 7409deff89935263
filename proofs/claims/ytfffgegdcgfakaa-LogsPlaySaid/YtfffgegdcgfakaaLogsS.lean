/-
  Logs: what an appending leaves, with the variable for its result made ahead of it, in its midst, or behind it.
-/
import Derived.Test.YtfffgegdcgfakaaLogsR
namespace Go.Proofs.Ytfffgegdcgfakaa
open Go.ChangeShapes Go.WideShapes Go.ChangeAt Go.RowKit
set_option linter.unusedVariables false

/-- a result written: met whole -/
def stRes (x y : Value) : Sem Unit := Instr.storeAt 38 x y
theorem stRes_pre (x y : Value) : Instr.storeAt 38 x y = stRes x y := rfl
theorem run_stRes {w : World} {b : Nat} {cur : Array Value} (x : RT) (h : w.heap[b]? = some (.cells cur 38 (0, 0))) (hc : cur.size = 4) : (stRes (.pointer (some ⟨b, 0, none⟩)) (.agg x.cells.toArray)).run Try.prog w = .ok () (w.setCells b 0 x.cells) := by
  have := run_storeAt_mid (P := Try.prog) w b 0 38 x.cells.toArray (fun j hj => ⟨by rw [cellAt h (0 + j) (cur[0 + j]'(by simp at hj; have : x.cells.length = 4 := rfl; omega)) (by simp)]; rfl, freeAt h _⟩) (by rw [info_res]; rfl) (all_oneCell_toArray (RT.one x))
  unfold stRes
  simpa using this
theorem put_res {w : World} {b : Nat} {cur : Array Value} (x : RT) (h : w.heap[b]? = some (.cells cur 38 (0, 0))) (hc : cur.size = 4) : ResAt (w.setCells b 0 x.cells) b x ∧ Chg (oneBlk b) w (w.setCells b 0 x.cells) := by
  refine ⟨?_, setCells_chg w b x.cells 0⟩
  have := setCells_heap Try.prog h (o := 0) (vs := x.cells) (by have : x.cells.length = 4 := rfl; omega) (RT.one x)
  have e : laidIn cur 0 x.cells = x.cells.toArray := by
    unfold laidIn
    have h7 : x.cells.length = 4 := rfl
    rw [List.take_zero, List.nil_append, List.drop_of_length_le (by simp; omega), List.append_nil]
  rw [e] at this
  exact this
section
variable {w6 w7 w8 wF : World} {T : Nat → Prop} {r : RT}
/-- behind it -/
theorem late_blk (w8 : World) : (w8.alloc (.cells #[.int .i64 0, .string ⟨#[]⟩, .int .i64 0, .int .i64 0] 38)).heap[w8.heap.size]? = some (.cells #[.int .i64 0, .string ⟨#[]⟩, .int .i64 0, .int .i64 0] 38 (0, 0)) := heap_alloc_new w8 _
/-- ahead of both -/
theorem early_blk (hT : ∀ k, T k → k < w6.heap.size) (k7 : Chg noBlk ((w6.alloc (.cells #[.int .i64 0, .string ⟨#[]⟩, .int .i64 0, .int .i64 0] 38)).drew) w7) (k8 : Chg T w7 w8) : w8.heap[w6.heap.size]? = some (.cells #[.int .i64 0, .string ⟨#[]⟩, .int .i64 0, .int .i64 0] 38 (0, 0)) :=
  k8.at (k7.at (heap_alloc_new w6 _) id) fun e => Nat.lt_irrefl _ (hT _ e)
/-- between the two -/
theorem mid_blk (hT : ∀ k, T k → k < w6.heap.size) (k7 : Chg noBlk w6.drew w7) (k8 : Chg T (w7.alloc (.cells #[.int .i64 0, .string ⟨#[]⟩, .int .i64 0, .int .i64 0] 38)) w8) : w8.heap[w7.heap.size]? = some (.cells #[.int .i64 0, .string ⟨#[]⟩, .int .i64 0, .int .i64 0] 38 (0, 0)) :=
  k8.at (heap_alloc_new w7 _) fun e => by have := hT _ e; have := k7.size; exact absurd (show w6.heap.size ≤ w7.heap.size from k7.size) (by omega)
/-- of the three ways: from the call's end on -/
theorem way_late (hT : ∀ k, T k → k < w6.heap.size) (k7 : Chg noBlk w6.drew w7) (k8 : Chg T w7 w8) (r : RT) : ResAt ((w8.alloc (.cells #[.int .i64 0, .string ⟨#[]⟩, .int .i64 0, .int .i64 0] 38)).setCells w8.heap.size 0 r.cells) w8.heap.size r ∧ Chg noBlk w8 ((w8.alloc (.cells #[.int .i64 0, .string ⟨#[]⟩, .int .i64 0, .int .i64 0] 38)).setCells w8.heap.size 0 r.cells) ∧
    Chg T w6 ((w8.alloc (.cells #[.int .i64 0, .string ⟨#[]⟩, .int .i64 0, .int .i64 0] 38)).setCells w8.heap.size 0 r.cells) ∧ w6.heap.size ≤ w8.heap.size := by
  obtain ⟨h1, h2⟩ := put_res r (late_blk w8) rfl
  have k : Chg noBlk w8 ((w8.alloc (.cells #[.int .i64 0, .string ⟨#[]⟩, .int .i64 0, .int .i64 0] 38)).setCells w8.heap.size 0 r.cells) := (((Chg.refl noBlk w8).alloc _)).past h2 (Nat.le_refl _)
  have k6 : Chg noBlk w6 w7 := ((Chg.refl noBlk w6).drew).andNo k7
  exact ⟨h1, k, ((k6.no T).trans k8 fun _ _ e => e).andNo k, Nat.le_trans k6.size k8.size⟩
theorem way_early (hT : ∀ k, T k → k < w6.heap.size) (k7 : Chg noBlk ((w6.alloc (.cells #[.int .i64 0, .string ⟨#[]⟩, .int .i64 0, .int .i64 0] 38)).drew) w7) (k8 : Chg T w7 w8) (r : RT) : ResAt (w8.setCells w6.heap.size 0 r.cells) w6.heap.size r ∧ Chg (oneBlk w6.heap.size) w8 (w8.setCells w6.heap.size 0 r.cells) ∧
    Chg T w6 (w8.setCells w6.heap.size 0 r.cells) ∧ w6.heap.size < w7.heap.size := by
  obtain ⟨h1, h2⟩ := put_res r (early_blk hT k7 k8) rfl
  have k6 : Chg noBlk w6 w7 := (((Chg.refl noBlk w6).alloc _).drew).andNo k7
  have z : w6.heap.size < w7.heap.size := Nat.lt_of_lt_of_le (by show w6.heap.size < (w6.heap.push _).size; simp) k7.size
  exact ⟨h1, h2, ((k6.no T).trans k8 fun _ _ e => e).trans h2 fun i hi e => by have e : i = w6.heap.size := e; omega, z⟩
theorem way_mid (hT : ∀ k, T k → k < w6.heap.size) (k7 : Chg noBlk w6.drew w7) (k8 : Chg T (w7.alloc (.cells #[.int .i64 0, .string ⟨#[]⟩, .int .i64 0, .int .i64 0] 38)) w8) (r : RT) : ResAt (w8.setCells w7.heap.size 0 r.cells) w7.heap.size r ∧ Chg (oneBlk w7.heap.size) w8 (w8.setCells w7.heap.size 0 r.cells) ∧
    Chg T w6 (w8.setCells w7.heap.size 0 r.cells) ∧ w6.heap.size ≤ w7.heap.size := by
  obtain ⟨h1, h2⟩ := put_res r (mid_blk hT k7 k8) rfl
  have k6 : Chg noBlk w6 (w7.alloc (.cells #[.int .i64 0, .string ⟨#[]⟩, .int .i64 0, .int .i64 0] 38)) := (((Chg.refl noBlk w6).drew).andNo k7).alloc _
  have z : w6.heap.size ≤ w7.heap.size := k7.size
  exact ⟨h1, h2, ((k6.no T).trans k8 fun _ _ e => e).trans h2 fun i hi e => by have e : i = w7.heap.size := e; omega, z⟩
/-- what is there behind an appending, and its result -/
def AfterL (w6 : World) (S : Nat → Prop) (pa : Value) (F : List ET) (r : RT) (p : Nat) (wF : World) : Prop :=
  ResAt wF p r ∧ w6.heap.size ≤ p ∧ Chg S w6 wF ∧ ∃ S', (∀ k, S' k → (S k ∨ w6.heap.size ≤ k) ∧ k < wF.heap.size) ∧ ¬ S' p ∧ IsLog wF S' pa F
def AfterR (w6 : World) (b : Nat) (v : Value) (F : List ET) (r : RT) (p : Nat) (wF : World) : Prop :=
  ResAt wF p r ∧ w6.heap.size ≤ p ∧ Chg (oneBlk b) w6 wF ∧ ∃ v', RefAt wF b v' F ∧ ∀ g, v'.ownBlock = some g → v.ownBlock = some g ∨ w6.heap.size ≤ g
variable {S S' : Nat → Prop} {pa : Value} {F : List ET} {b : Nat} {v v' : Value}
theorem afterL_late (hT : ∀ k, S k → k < w6.heap.size) (k7 : Chg noBlk w6.drew w7) (k8 : Chg S w7 w8) (g8 : Grew S w7 S' w8) (l8 : IsLog w8 S' pa F) (r : RT) : AfterL w6 S pa F r w8.heap.size ((w8.alloc (.cells #[.int .i64 0, .string ⟨#[]⟩, .int .i64 0, .int .i64 0] 38)).setCells w8.heap.size 0 r.cells) := by
  obtain ⟨h1, h2, h3, h4⟩ := way_late hT k7 k8 r
  have z : w6.heap.size ≤ w7.heap.size := k7.size
  refine ⟨h1, h4, h3, S', fun k hk => ?_, fun e => by have := (g8 _ e).2; omega, l8.no h2⟩
  have := h2.size
  rcases g8 k hk with ⟨h | h, h'⟩
  · exact ⟨.inl h, by omega⟩
  · exact ⟨.inr (by omega), by omega⟩
theorem afterL_early (hT : ∀ k, S k → k < w6.heap.size) (k7 : Chg noBlk ((w6.alloc (.cells #[.int .i64 0, .string ⟨#[]⟩, .int .i64 0, .int .i64 0] 38)).drew) w7) (k8 : Chg S w7 w8) (g8 : Grew S w7 S' w8) (l8 : IsLog w8 S' pa F) (r : RT) : AfterL w6 S pa F r w6.heap.size (w8.setCells w6.heap.size 0 r.cells) := by
  obtain ⟨h1, h2, h3, h4⟩ := way_early hT k7 k8 r
  have nS : ¬ S' w6.heap.size := fun e => by
    rcases (g8 _ e).1 with h | h
    · exact Nat.lt_irrefl _ (hT _ h)
    · omega
  refine ⟨h1, Nat.le_refl _, h3, S', fun k hk => ?_, nS, l8.kept h2 fun i hi e => nS (by have e : i = w6.heap.size := e; rwa [← e])⟩
  have := h2.size
  rcases g8 k hk with ⟨h | h, h'⟩
  · exact ⟨.inl h, by omega⟩
  · exact ⟨.inr (by omega), by omega⟩
theorem afterL_mid (hT : ∀ k, S k → k < w6.heap.size) (k7 : Chg noBlk w6.drew w7) (k8 : Chg S (w7.alloc (.cells #[.int .i64 0, .string ⟨#[]⟩, .int .i64 0, .int .i64 0] 38)) w8) (g8 : Grew S (w7.alloc (.cells #[.int .i64 0, .string ⟨#[]⟩, .int .i64 0, .int .i64 0] 38)) S' w8) (l8 : IsLog w8 S' pa F) (r : RT) : AfterL w6 S pa F r w7.heap.size (w8.setCells w7.heap.size 0 r.cells) := by
  obtain ⟨h1, h2, h3, h4⟩ := way_mid hT k7 k8 r
  have z : (w7.alloc (.cells #[.int .i64 0, .string ⟨#[]⟩, .int .i64 0, .int .i64 0] 38)).heap.size = w7.heap.size + 1 := by show (w7.heap.push _).size = _; simp
  have nS : ¬ S' w7.heap.size := fun e => by
    rcases (g8 _ e).1 with h | h
    · have := hT _ h; omega
    · omega
  refine ⟨h1, h4, h3, S', fun k hk => ?_, nS, l8.kept h2 fun i hi e => nS (by have e : i = w7.heap.size := e; rwa [← e])⟩
  have := h2.size
  rcases g8 k hk with ⟨h | h, h'⟩
  · exact ⟨.inl h, by omega⟩
  · exact ⟨.inr (by omega), by omega⟩
theorem RefAt.past {w8 wF : World} {p : Nat} (h : RefAt w8 b v F) (k : Chg (oneBlk p) w8 wF) (hr : ResAt wF p r) (hp : ∃ cur, w8.heap[p]? = some (.cells cur 38 (0, 0))) : RefAt wF b v F := by
  obtain ⟨cur, hp⟩ := hp
  exact h.kept k (fun e => ne_type h.p hp (by decide) e) fun g hg e => by
    obtain ⟨c2, hb⟩ := h.ent.block hg
    exact ne_type hb hp (by decide) e
theorem afterR_late (hT : b < w6.heap.size) (k7 : Chg noBlk w6.drew w7) (k8 : Chg (oneBlk b) w7 w8) (l8 : RefAt w8 b v' F) (hv : ∀ g, v'.ownBlock = some g → v.ownBlock = some g ∨ w7.heap.size ≤ g) (r : RT) : AfterR w6 b v F r w8.heap.size ((w8.alloc (.cells #[.int .i64 0, .string ⟨#[]⟩, .int .i64 0, .int .i64 0] 38)).setCells w8.heap.size 0 r.cells) := by
  obtain ⟨h1, h2, h3, h4⟩ := way_late (T := oneBlk b) (fun k e => by have e : k = b := e; omega) k7 k8 r
  have z : w6.heap.size ≤ w7.heap.size := k7.size
  exact ⟨h1, h4, h3, v', l8.no h2, fun g hg => (hv g hg).imp id fun h => by omega⟩
theorem afterR_early (hT : b < w6.heap.size) (k7 : Chg noBlk ((w6.alloc (.cells #[.int .i64 0, .string ⟨#[]⟩, .int .i64 0, .int .i64 0] 38)).drew) w7) (k8 : Chg (oneBlk b) w7 w8) (l8 : RefAt w8 b v' F) (hv : ∀ g, v'.ownBlock = some g → v.ownBlock = some g ∨ w7.heap.size ≤ g) (r : RT) : AfterR w6 b v F r w6.heap.size (w8.setCells w6.heap.size 0 r.cells) := by
  have hT' : ∀ k, oneBlk b k → k < w6.heap.size := fun k e => by have e : k = b := e; omega
  obtain ⟨h1, h2, h3, h4⟩ := way_early hT' k7 k8 r
  exact ⟨h1, Nat.le_refl _, h3, v', l8.past h2 h1 ⟨_, early_blk hT' k7 k8⟩, fun g hg => (hv g hg).imp id fun h => by omega⟩
theorem afterR_mid (hT : b < w6.heap.size) (k7 : Chg noBlk w6.drew w7) (k8 : Chg (oneBlk b) (w7.alloc (.cells #[.int .i64 0, .string ⟨#[]⟩, .int .i64 0, .int .i64 0] 38)) w8) (l8 : RefAt w8 b v' F) (hv : ∀ g, v'.ownBlock = some g → v.ownBlock = some g ∨ (w7.alloc (.cells #[.int .i64 0, .string ⟨#[]⟩, .int .i64 0, .int .i64 0] 38)).heap.size ≤ g) (r : RT) : AfterR w6 b v F r w7.heap.size (w8.setCells w7.heap.size 0 r.cells) := by
  have hT' : ∀ k, oneBlk b k → k < w6.heap.size := fun k e => by have e : k = b := e; omega
  obtain ⟨h1, h2, h3, h4⟩ := way_mid hT' k7 k8 r
  have z : (w7.alloc (.cells #[.int .i64 0, .string ⟨#[]⟩, .int .i64 0, .int .i64 0] 38)).heap.size = w7.heap.size + 1 := by show (w7.heap.push _).size = _; simp
  exact ⟨h1, h4, h3, v', l8.past h2 h1 ⟨_, mid_blk hT' k7 k8⟩, fun g hg => (hv g hg).imp id fun h => by omega⟩
end
end Go.Proofs.Ytfffgegdcgfakaa
