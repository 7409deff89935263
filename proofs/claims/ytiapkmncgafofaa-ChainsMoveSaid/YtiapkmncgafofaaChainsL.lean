/-
  Chains: a contract of slices.Delete.
-/
import Derived.Test.YtiapkmncgafofaaChainsK
namespace Go.Proofs.Ytiapkmncgafofaa
open Go.ChangeShapes Go.WideShapes Go.ChangeAt Go.RowKit
set_option linter.unusedVariables false
theorem flatC_parts {α : Type} {c : α → List Value} {m : Nat} (hm : ∀ x, (c x).length = m) (L : List α) {k : Nat} (hk : k ≤ L.length) : (flatC c L).take (k * m) = flatC c (L.take k) ∧ (flatC c L).drop (k * m) = flatC c (L.drop k) := by
  have e : flatC c L = flatC c (L.take k) ++ flatC c (L.drop k) := by rw [flatC_app, List.take_append_drop]
  have hl : (flatC c (L.take k)).length = k * m := by rw [flatC_length hm, List.length_take, Nat.min_eq_left hk]
  rw [e]
  exact ⟨by rw [← hl, List.take_left], by rw [← hl, List.drop_left]⟩
section
variable {w : World} {e : TypeId} {g cap n k : Nat} {L : List MT}
theorem own_prefix (h : w.ownsRow 0 e 2 (.slice (some ⟨g, 0, none⟩) n cap) n (flatC MT.cells L)) (hn : n = L.length) (hk : k ≤ n) : w.ownsRow 0 e 2 (.slice (some ⟨g, 0, none⟩) k cap) k (flatC MT.cells (L.take k)) := by
  refine ⟨by rw [flatC_length MT.len, List.length_take, Nat.min_eq_left (by omega)], ?_⟩
  rcases h.2 with ⟨h2, _⟩ | ⟨g', cap', cur, h2, hb, hg, r1, r2, r3, r4⟩
  · cases h2
  · injection h2 with a1 a2 a3
    injection a1 with a1
    injection a1 with a1
    subst a1
    subst a3
    refine .inr ⟨g, cap, cur, rfl, hb, hg, by omega, r2, r3, ?_⟩
    have := (flatC_parts MT.len L (k := k) (by omega)).1
    rw [← this, ← r4, List.take_take, Nat.min_eq_left (Nat.mul_le_mul_right _ hk)]
theorem own_behind (P : Program) {xs vs : List Value} (h : w.ownsRow 0 e 2 (.slice (some ⟨g, 0, none⟩) n cap) n xs) (hv : n * 2 + vs.length ≤ cap * 2) (h1 : ∀ u ∈ vs, u.oneCell' = true) : (w.setCells g (n * 2) vs).ownsRow 0 e 2 (.slice (some ⟨g, 0, none⟩) n cap) n xs := by
  refine ⟨h.1, ?_⟩
  rcases h.2 with ⟨h2, _⟩ | ⟨g', cap', cur, h2, hb, hg, r1, r2, r3, r4⟩
  · cases h2
  · injection h2 with a1 a2 a3
    injection a1 with a1
    injection a1 with a1
    subst a1
    subst a3
    have hs := setCells_heap P hg (o := n * 2) (vs := vs) (by omega) h1
    refine .inr ⟨g, cap, laidIn cur (n * 2) vs, rfl, hb, hs, r1, r2, ?_, ?_⟩
    · unfold laidIn
      simp
      omega
    · unfold laidIn
      rw [← r4, List.append_assoc, List.take_append_of_le_length (by simp; omega), List.take_take, Nat.min_self]
theorem own_there {xs : List Value} (h : w.ownsRow 0 e 2 (.slice (some ⟨g, 0, none⟩) n cap) n xs) {o m : Nat} (hm : o + m ≤ cap * 2) : w.there g o m := by
  rcases h.2 with ⟨h2, _⟩ | ⟨g', cap', cur, h2, hb, hg, r1, r2, r3, r4⟩
  · cases h2
  · injection h2 with a1 a2 a3
    injection a1 with a1
    injection a1 with a1
    subst a1
    subst a3
    intro j hj
    exact ⟨by rw [cellAt hg (o + j) (cur[o + j]'(by omega)) (by simp)]; rfl, freeAt hg _⟩
theorem own_from (h : w.ownsRow 0 e 2 (.slice (some ⟨g, 0, none⟩) n cap) n (flatC MT.cells L)) (hn : n = L.length) (hk : k ≤ n) : ∀ j u, (flatC MT.cells (L.drop k))[j]? = some u → w.cell? ⟨g, k * 2 + j, none⟩ = some u := by
  intro j u hu
  rw [← (flatC_parts MT.len L (k := k) (by omega)).2, List.getElem?_drop] at hu
  have := World.ownsRow.cells h (g := g) rfl (k * 2 + j) u hu
  rwa [Addr.add_mid, Nat.zero_add] at this
/-- told: the slice without one -/
def Cut1 (v : Value) (L : List MT) (w : World) (x : Ending) (w' : World) : Prop := ∃ v', x = .returned v' ∧ Chg (fun i => v.ownBlock = some i) w w' ∧ OwnL w' 37 MT.cells 2 v' L ∧ v'.ownBlock = v.ownBlock
theorem cut_list (L : List MT) (k : Nat) : flatC MT.cells (L.take k) ++ flatC MT.cells (L.drop (k + 1)) = flatC MT.cells (L.eraseIdx k) := by rw [flatC_app, List.eraseIdx_eq_take_drop_succ]
theorem cut_end {w2 : World} {m : Nat} (hn : k + 1 + m = L.length) (hc : k + 1 + m ≤ cap) (o2 : w2.ownsRow 0 37 2 (.slice (some ⟨g, 0, none⟩) (k + m) cap) (k + m) (flatC MT.cells (L.take k) ++ flatC MT.cells (L.drop (k + 1)))) (g2 : w.drew.grownBy w2 (some g)) :
    Cut1 (.slice (some ⟨g, 0, none⟩) (k + 1 + m) cap) (L.eraseIdx k) w (.returned (.slice (some ⟨g, 0, none⟩) (k + m) cap)) (w2.setCells g ((k + m) * 2) (List.replicate (k + 1 + m - (k + m)) mZero.cells).flatten) := by
  rw [show k + 1 + m - (k + m) = 1 by omega, show (List.replicate 1 mZero.cells).flatten = mZero.cells by simp]
  have k2 : Chg (oneBlk g) w w2 := by
    have := (Chg.grown w.drew g2).mono (T := oneBlk g) fun _ _ e => (Option.some.inj e)
    exact ((Chg.refl (oneBlk g) w).drew).trans this fun _ _ e => e
  have k3 : Chg (oneBlk g) w (w2.setCells g ((k + m) * 2) mZero.cells) := k2.trans (setCells_chg w2 g mZero.cells _) fun _ _ e => e
  refine ⟨_, rfl, k3.mono fun i _ e => ?_, ?_, rfl⟩
  · have e : i = g := e
    subst e
    rfl
  · rw [cut_list] at o2
    have hl : (L.eraseIdx k).length = k + m := by rw [List.length_eraseIdx_of_lt (by omega)]; omega
    exact ownL_of (own_behind Try.prog o2 (by have : mZero.cells.length = 2 := rfl; omega) (MT.one _)) hl.symm rfl
set_option maxRecDepth 100000 in
set_option maxHeartbeats 1000000 in
theorem delete_last (h : OwnL w 37 MT.cells 2 (.slice (some ⟨g, 0, none⟩) (k + 1) (k + 1)) L) (hn : k + 1 = L.length) (hf : L.length ≤ 100) :
    Calls Try.prog 42 #[.slice (some ⟨g, 0, none⟩) (k + 1) (k + 1), .int .i64 (k : Int), .int .i64 ((k : Int) + 1)] w (Cut1 (.slice (some ⟨g, 0, none⟩) (k + 1) (k + 1)) (L.eraseIdx k) w) := by
  have h0 : w.ownsRow 0 37 2 (.slice (some ⟨g, 0, none⟩) (k + 1) (k + 1)) (k + 1) (flatC MT.cells L) := by rw [hn] at h ⊢; exact h
  have HP := hide (own_prefix (k := k) h0 hn (by omega))
  have HL := hide hn
  have d1 : ((k : Int) == (k : Int) + 1) = false := beq_eq_false_iff_ne.2 (by omega)
  have i1 : (0 : Int) ≤ (k : Int) := by omega
  have i3 : k + 1 ≤ 100 := by omega
  have i5 : (k : Int) ≤ (k : Int) + 1 := by omega
  have i6 : k ≤ k + 1 := by omega
  have j0 : (0 : Int) ≤ (k : Int) + 1 := by omega
  obtain ⟨i0, hi0, hz0, hz1, hz2⟩ := info_parts infx_mem
  have HI := hide hi0
  have HZ := hide hz1
  clear h h0 hn hf hi0 hz0 hz1 hz2
  go_enter Try.func42, Try.ntmps42
  go_wp2
  go_still_tail 6, (by kernel_rfl)
  change wpList _ _ _ _ _ w.drew
  go_wp2_with (first
    | ((with_reducible show wpList _ _ _ (⟨some 26, _, _, _, _, _⟩ :: _) _ _); refine wpList_append_fits_any w.drew rfl (.tmp 22) (.tmp 25) 22 (by rfl) 0 37 i0 2 Try.underlying22 (unhide HI) (unhide HZ) g k (k + 1) (flatC MT.cells (L.take k)) (by rfl) (unhide HP) (some ⟨g, 0, none⟩) 0 0 [] (by rfl) rfl (fun h => by cases h) (fun ad had j u hu => by simp at hu) (fun u hu => by simp at hu) (by omega) ?_; intro w2 o2 g2)
    | ((with_reducible show wpList _ _ _ (⟨none, _, _, _, _, _⟩ :: _) _ _); refine wpL_clear rfl (.tmp 31) 22 rfl 37 mZero.cells Try.underlying22 zero_mem (by decide) (MT.one _) g (k * 2) 1 1 (by rfl) (by omega) (own_there o2 (by rw [show mZero.cells.length = 2 from rfl]; omega)) ?_))
  go_ret
  have hn := unhide HL
  have := cut_end (k := k) (cap := k + 1) (m := 0) (w := w) (L := L) (by omega) (by omega) (by rw [List.drop_of_length_le (l := L) (i := k + 1) (by omega)]; exact o2) g2
  rw [show k + 1 + 0 - (k + 0) = 1 by omega, show (List.replicate 1 mZero.cells).flatten = mZero.cells by simp] at this
  exact this
set_option maxRecDepth 100000 in
set_option maxHeartbeats 1000000 in
theorem delete_in {m : Nat} (h : OwnL w 37 MT.cells 2 (.slice (some ⟨g, 0, none⟩) (k + 1 + m) cap) L) (hn : k + 1 + m = L.length) (hc : L.length ≤ cap) (hf : L.length ≤ 100) (hm : cap ≤ 9223372036854775807) :
    Calls Try.prog 42 #[.slice (some ⟨g, 0, none⟩) (k + 1 + m) cap, .int .i64 (k : Int), .int .i64 ((k : Int) + 1)] w (Cut1 (.slice (some ⟨g, 0, none⟩) (k + 1 + m) cap) (L.eraseIdx k) w) := by
  by_cases hcc : cap = k + 1
  · obtain rfl : m = 0 := by omega
    subst hcc
    exact delete_last h (by omega) hf
  have h0 : w.ownsRow 0 37 2 (.slice (some ⟨g, 0, none⟩) (k + 1 + m) cap) (k + 1 + m) (flatC MT.cells L) := by rw [hn] at h ⊢; exact h
  have HP := hide (own_prefix (k := k) h0 hn (by omega))
  have HF := hide (own_from (k := k + 1) h0 hn (by omega))
  have HL := hide hn
  have d1 : ((k : Int) == (k : Int) + 1) = false := beq_eq_false_iff_ne.2 (by omega)
  have i1 : (0 : Int) ≤ (k : Int) := by omega
  have i2 : (k : Int) + 1 ≤ ((k + 1 + m : Nat) : Int) := by omega
  have i3 : k + 1 + m ≤ cap := by omega
  have i5 : (k : Int) ≤ (cap : Int) := by omega
  have i6 : k ≤ cap := by omega
  have i7 : k + 1 ≤ k + 1 + m := by omega
  have i8 : k + 1 ≤ cap := by omega
  have i4 : k + 1 + m ≤ 100 := by omega
  have j0 : (0 : Int) ≤ (k : Int) + 1 := by omega
  have i9 : (k : Int) + 1 ≤ (k : Int) + 1 + (m : Int) := by omega
  obtain ⟨i0, hi0, hz0, hz1, hz2⟩ := info_parts infx_mem
  have HI := hide hi0
  have HZ := hide hz1
  clear h h0 hn hc hf hi0 hz0 hz1 hz2
  go_enter Try.func42, Try.ntmps42
  go_wp2
  go_still_tail 6, (by kernel_rfl)
  change wpList _ _ _ _ _ w.drew
  go_wp2_with (first
    | ((with_reducible show wpList _ _ _ (⟨some 26, _, _, _, _, _⟩ :: _) _ _); refine wpList_append_fits_any w.drew rfl (.tmp 22) (.tmp 25) 22 (by rfl) 0 37 i0 2 Try.underlying22 (unhide HI) (unhide HZ) g k cap (flatC MT.cells (L.take k)) (by rfl) (unhide HP) (some ⟨g, (k + 1) * 2, none⟩) m (cap - (k + 1)) (flatC MT.cells (L.drop (k + 1))) (by rfl) (by have := unhide HL; rw [flatC_length MT.len, List.length_drop]; omega) (fun h => by cases h) (fun ad had j u hu => by cases had; rw [Addr.add_mid]; exact unhide HF j u hu) (flatC_one MT.one _) (by omega) ?_; intro w2 o2 g2)
    | ((with_reducible show wpList _ _ _ (⟨none, _, _, _, _, _⟩ :: _) _ _); refine wpL_clear rfl (.tmp 31) 22 rfl 37 mZero.cells Try.underlying22 zero_mem (by decide) (MT.one _) g ((k + m) * 2) (k + 1 + m - (k + m)) (cap - (k + m)) (by rfl) (by omega) (own_there o2 (by rw [show mZero.cells.length = 2 from rfl]; omega)) ?_))
  go_ret
  exact cut_end (unhide HL) i3 o2 g2
theorem delete_any {v : Value} (h : OwnL w 37 MT.cells 2 v L) (hk : k < L.length) (hf : L.length ≤ 100) : Calls Try.prog 42 #[v, .int .i64 (k : Int), .int .i64 ((k : Int) + 1)] w (Cut1 v (L.eraseIdx k) w) := by
  rcases h.2 with ⟨rfl, h2⟩ | ⟨g', cap', cur, rfl, hb, hg, r1, r2, r3, r4⟩
  · omega
  · obtain ⟨m, hm⟩ : ∃ m, k + 1 + m = L.length := ⟨L.length - (k + 1), by omega⟩
    have := delete_in (g := g') (cap := cap') (m := m) (k := k) (L := L) (w := w) (by rw [hm]; exact h) hm r1 hf (by unfold maxLen at r2; omega)
    rw [hm] at this
    exact this
end
#print axioms delete_any
end Go.Proofs.Ytiapkmncgafofaa
