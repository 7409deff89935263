/-
  Contracts of counters: listed, copied.
-/
import Derived.Test.YtpgmpfhhmnnejaaCountsB
namespace Go.Proofs.Ytpgmpfhhmnnejaa
open Go.ChangeShapes Go.WideShapes Go.ChangeAt Go.RowKit
set_option linter.unusedVariables false
theorem info_i64 : (Try.prog.info? 2).map (fun i => (i.zero, i.size, i.bytes)) = some (some (.int .i64 0), 1, 8) := by kernel_rfl
/-- the list l stands in the block q, in a slice of its own -/
def LAt (w : World) (q cap : Nat) (l : List Int) : Prop := w.ownsRow 0 2 1 (.slice (some ⟨q, 0, none⟩) l.length cap) l.length (l.map (.int .i64 ·)) ∧ 0 < l.length
section
variable {w w' : World} {b g q cap : Nat} {l : List Int} {S : Nat → Prop} {k n : Nat} {x y i : Int} {p : Value}
theorem LAt.block (h : LAt w q cap l) : ∃ cur, w.heap[q]? = some (.cells cur 2 (0, 0)) ∧ l.length ≤ cap ∧ cap ≤ maxLen ∧ cur.size = cap ∧ cur.toList.take l.length = l.map (.int .i64 ·) := by
  rcases h.1.2 with ⟨h2, _⟩ | ⟨g, cap', cur, e, hb, hg, hn, hm, hc, ht⟩
  · simp at h2
  · simp at e
    obtain ⟨rfl, rfl⟩ := e
    exact ⟨cur, hg, hn, hm, by omega, by simpa using ht⟩
theorem LAt.of {v : Value} (h : w.ownsRow 0 2 1 v l.length (l.map (.int .i64 ·))) (h0 : 0 < l.length) : ∃ q cap, v = .slice (some ⟨q, 0, none⟩) l.length cap ∧ LAt w q cap l := by
  rcases h.2 with ⟨_, h2⟩ | ⟨g, cap', cur, e, hb, hg, hn, hm, hc, ht⟩
  · omega
  · subst e
    exact ⟨g, cap', rfl, h, h0⟩
theorem LAt.kept (h : LAt w q cap l) (c : Chg S w w') (hq : ¬ S q) : LAt w' q cap l := ⟨owns_kept h.1 c fun g hg => by simp [Value.ownBlock] at hg; subst hg; exact hq, h.2⟩
theorem LAt.no (h : LAt w q cap l) (c : Chg noBlk w w') : LAt w' q cap l := h.kept c id
theorem LAt.lt (h : LAt w q cap l) : q < w.heap.size := by obtain ⟨cur, h1, _⟩ := h.block; exact lt_of_block h1
theorem LAt.cell (h : LAt w q cap l) (hk : l[k]? = some x) : w.cell? ⟨q, k, none⟩ = some (.int .i64 x) := by
  obtain ⟨cur, h1, _, _, h4, h5⟩ := h.block
  have hlt := (List.getElem?_eq_some_iff.1 hk).1
  refine cellAt h1 k _ ?_
  have : (cur.toList.take l.length)[k]? = some (Value.int .i64 x) := by rw [h5]; simp [hk]
  rw [List.getElem?_take, if_pos hlt] at this
  simpa using this
theorem LAt.free (h : LAt w q cap l) (k : Nat) : w.frozen? ⟨q, k, none⟩ = false := by
  obtain ⟨cur, h1, _⟩ := h.block
  exact freeAt h1 k
theorem LAt.reads (h : LAt w q cap l) : Reads w 1 (.slice (some ⟨q, 0, none⟩) l.length cap) l.length (l.map (.int .i64 ·)) := by
  obtain ⟨cur, h1, h2, h3, h4, h5⟩ := h.block
  refine ⟨by simp, fun u hu => ?_, .inr ⟨_, cap, rfl, h2, fun j u hu => ?_⟩⟩
  · obtain ⟨x, _, rfl⟩ := List.mem_map.1 hu; rfl
  · rw [Addr.add_mid, Nat.zero_add]
    obtain ⟨x, hx, rfl⟩ : ∃ x, l[j]? = some x ∧ u = .int .i64 x := by
      rw [List.getElem?_map] at hu
      cases hq : l[j]? with
      | none => simp [hq] at hu
      | some x => exact ⟨x, rfl, by simpa [hq] using hu.symm⟩
    exact h.cell hx
theorem LAt.set (h : LAt w q cap l) (hk : k < l.length) : LAt (w.setCell ⟨q, k, none⟩ (.int .i64 x)) q cap (l.set k x) ∧ Chg (oneBlk q) w (w.setCell ⟨q, k, none⟩ (.int .i64 x)) := by
  obtain ⟨cur, h1, h2, h3, h4, h5⟩ := h.block
  refine ⟨⟨⟨by simp, .inr ⟨q, cap, _, by rw [List.length_set], Nat.zero_le _, setCell_heap _ h1, by simpa using h2, h3, by simp [h4], ?_⟩⟩, by simpa using h.2⟩, setCell_chg _ _ _ _⟩
  simp only [Array.toList_setIfInBounds, List.length_set, Nat.mul_one]
  rw [List.take_set, h5, List.map_set]
/-- told: a new list -/
def MadeL (l : List Int) (w : World) (e : Ending) (w' : World) : Prop := ∃ q cap, e = .returned (.slice (some ⟨q, 0, none⟩) l.length cap) ∧ w.heap.size ≤ q ∧ Chg noBlk w w' ∧ LAt w' q cap l
/-- where the list stands -/
def ListAt (w0 : World) (b : Nat) (l : List Int) (v i : Value) (w : World) : Prop := ∃ k : Nat, k ≤ l.length ∧ i = .int .i64 (k : Int) ∧ Ints 2 w0 b w v (l.take k) ∧ Chg noBlk w0 w
set_option maxRecDepth 100000 in
set_option maxHeartbeats 400000 in
theorem list_at (h : CAt w b g l) : Calls Try.prog 14 #[.pointer (some ⟨b, 0, none⟩)] w (MadeL l w) := by
  have H := hide h
  have C := hide (fun w' (h : CAt w' b g l) => count_at h rfl)
  have F := hide h.fit
  have f64 := h.fit.few
  clear h
  go_enter Try.func14, Try.ntmps14
  go_wp2_with (first
    | (go_at_call 15; refine (unhide C _ (unhide H)).mono ?_; rintro e w' ⟨rfl, rfl⟩))
  go_loopw [3, 7] (fun v i wr => ListAt w b l v i wr) (fun v i wr => l.length - (intOf i).toNat)
  case atStart => exact ⟨0, by omega, rfl, Ints.nil _ _ _ _, Chg.refl _ _⟩
  case round =>
    obtain ⟨k, hk, rfl, hI, hc⟩ := hrel
    have HI := hide hI
    have HC := hide hc
    have HW := hide ((unhide H).no hc)
    clear hI hc
    by_cases hlt : k < l.length
    · have d1 : decide (k < l.length) = true := by simpa using hlt
      obtain ⟨x, hx⟩ : ∃ x, l[k]? = some x := ⟨_, List.getElem?_eq_getElem hlt⟩
      have i1 : (0 : Int) ≤ (k : Int) := by omega
      have i2 : (k : Int) < (l.length : Int) := by omega
      have c1 := (unhide HW).head
      have L := hide (aload ((unhide HW).cell hx))
      have HX := hide hx
      clear hx
      go_wp2_with (first
        | (go_at_call 17; refine (unhide L).mono ?_; rintro e w' ⟨rfl, rfl⟩)
        | (have tk := L; clear tk; have own6 := owns_kept (unhide HI).own ((Chg.refl noBlk wr).alloc (.cells #[.int .i64 x] 2)) (fun _ _ e => e); refine wpL_append rfl (.tmp 10) (.tmp 18) 28 (by rfl) 2 (.int .i64 0) 1 8 Try.underlying28 info_i64 rfl (by decide) u3 (l.take k).length ((l.take k).map (.int .i64 ·)) rfl own6 (.slice (some ⟨wr.heap.size, 0, none⟩) 1 1) 1 [.int .i64 x] rfl (reads_new wr _ rfl) (by simp; unfold maxLen; omega) (by simp; omega) ?_; intro v' w5 k5 o5 f5))
      have HI5 := hide (Ints.push ((unhide HI).kept ((Chg.refl noBlk wr).alloc (.cells #[.int .i64 x] 2)) (fun _ _ _ e => e)) o5 f5 (by have := (unhide HC).size; simp; omega) (by have := (unhide HW).ltb; simp; omega))
      have HC5 := hide (((unhide HC).andNo ((Chg.refl noBlk wr).alloc (.cells #[.int .i64 x] 2))).trans k5 fun i hi e => by have := ((unhide HI).new i e).1; omega)
      refine ⟨⟨k + 1, by omega, by go_num, ?_, unhide HC5⟩, by simp [intOf]; omega⟩
      rw [List.take_succ_eq_append_getElem hlt]
      have e : l[k] = x := by have := unhide HX; rw [List.getElem?_eq_getElem hlt] at this; simpa using this
      rw [e]
      exact unhide HI5
    · have d1 : decide (k < l.length) = false := by simpa using hlt
      obtain rfl : k = l.length := by omega
      go_wp2_with fail
      have hown := (unhide HI).own
      have hnew := (unhide HI).new
      rw [List.take_length] at hown
      obtain ⟨q, cap, rfl, hL⟩ := LAt.of hown (unhide F).pos
      go_ret
      exact ⟨q, cap, rfl, (hnew q rfl).1, unhide HC, hL⟩
theorem list_no (h : IsNone w p) : Calls Try.prog 14 #[p] w (Told (.slice none 0 0) w) := by
  have C := hide (count_no h)
  clear h
  go_enter Try.func14, Try.ntmps14
  go_wp2_with (first
    | (go_at_call 15; refine (unhide C).mono ?_; rintro e w' ⟨rfl, rfl⟩))
  go_loop [3, 7] (fun v i => v = .slice none 0 0 ∧ i = .int .i64 0) (fun _ _ => 0)
  case atStart => exact ⟨rfl, rfl⟩
  case round =>
    obtain ⟨rfl, rfl⟩ := hrel
    go_wp2
    go_ret
    exact ⟨rfl, rfl⟩
theorem copy_no (h : IsNone w p) : Calls Try.prog 9 #[p] w (Told (.pointer none) w) := by
  have C := hide (count_no h)
  have N := hide (new_not (i := 0) (by omega) w)
  clear h
  go_enter Try.func9, Try.ntmps9
  go_wp2_with (first
    | (go_at_call 15; refine (unhide C).mono ?_; rintro e w' ⟨rfl, rfl⟩)
    | (go_at_call 7; refine (unhide N).mono ?_; rintro e w' ⟨rfl, rfl⟩))
  go_ret
  exact ⟨rfl, rfl⟩
/-- copied so far -/
def copied (l : List Int) (k : Nat) : List Int := l.take k ++ List.replicate (l.length - k) 0
theorem copied_len {k : Nat} (hk : k ≤ l.length) : (copied l k).length = l.length := by simp [copied]; omega
theorem copied_next {k : Nat} {x : Int} (hx : l[k]? = some x) : (copied l k).set k x = copied l (k + 1) := by
  have hk := (List.getElem?_eq_some_iff.1 hx).1
  have e : l[k] = x := (List.getElem?_eq_some_iff.1 hx).2
  obtain ⟨m, hm⟩ : ∃ m, l.length - k = m + 1 := ⟨l.length - k - 1, by omega⟩
  have hm2 : l.length - (k + 1) = m := by omega
  unfold copied
  rw [List.set_append_right _ _ (by simp; omega), hm, hm2, List.take_succ_eq_append_getElem hk, e]
  simp [show k - min k l.length = 0 by omega, List.replicate_succ]
def CopyAt (w0 : World) (b2 g2 : Nat) (l : List Int) (i : Value) (w : World) : Prop := ∃ k : Nat, k ≤ l.length ∧ i = .int .i64 (k : Int) ∧ CAt w b2 g2 (copied l k) ∧ Chg noBlk w0 w
set_option maxRecDepth 100000 in
set_option maxHeartbeats 1000000 in
theorem copy_at (h : CAt w b g l) : Calls Try.prog 9 #[.pointer (some ⟨b, 0, none⟩)] w (MadeC id l w) := by
  have H := hide h
  have C := hide (fun w' (h : CAt w' b g l) => count_at h rfl)
  have N := hide (new_c (n := l.length) h.fit.pos h.fit.few w)
  have F := hide h.fit
  have f64 := h.fit.few
  clear h
  go_enter Try.func9, Try.ntmps9
  go_wp2_with (first
    | (go_at_call 15; refine (unhide C _ (unhide H)).mono ?_; rintro e w' ⟨rfl, rfl⟩)
    | (go_at_call 7; refine (unhide N).mono ?_; rintro e w2 ⟨b2, g2, rfl, hb2, hg2, k2, h2⟩; have H2 := hide h2; have K2 := hide k2; have HX := hide ((unhide H).no k2); clear h2 k2)
    | (go_at_call 15; refine (unhide C _ (unhide HX)).mono ?_; rintro e w' ⟨rfl, rfl⟩; clear HX))
  have HC0 := hide (show CopyAt w b2 g2 l (.int .i64 0) w2 from ⟨0, by omega, rfl, by simpa [copied] using unhide H2, unhide K2⟩)
  clear H2 K2 N
  go_loopw [16] (fun i wr => CopyAt w b2 g2 l i wr) (fun i wr => l.length - (intOf i).toNat)
  case atStart => exact unhide HC0
  case round =>
    clear HC0
    obtain ⟨k, hk, rfl, hI, hc⟩ := hrel
    have HW := hide ((unhide H).no hc)
    have HI := hide hI
    have HC := hide hc
    clear hI hc
    by_cases hlt : k < l.length
    · have d1 : decide (k < l.length) = true := by simpa using hlt
      obtain ⟨x, hx⟩ : ∃ x, l[k]? = some x := ⟨_, List.getElem?_eq_getElem hlt⟩
      have hl2 := copied_len hk
      have i1 : (0 : Int) ≤ (k : Int) := by omega
      have i2 : (k : Int) < (l.length : Int) := by omega
      have c1 := (unhide HW).head
      have c2 := (unhide HI).head
      rw [hl2] at c2
      have L := hide (fun w' (h : CAt w' b g l) => aload (h.cell hx))
      obtain ⟨y, hy⟩ : ∃ y, (copied l k)[k]? = some y := ⟨_, List.getElem?_eq_getElem (by omega)⟩
      have ST := hide (fun w' (h : CAt w' b2 g2 (copied l k)) => astore (x := x) (h.cell hy) (h.free k))
      have HX := hide hx
      clear hx hl2 hy
      go_wp2_with fail
      go_region_with (first
        | (go_at_call 17; refine (unhide L _ (by exact (unhide HW).drew)).mono ?_; rintro e w' ⟨rfl, rfl⟩)
        | (go_at_call 16; refine (unhide ST _ (by exact (unhide HI).drew)).mono ?_; rintro e w' ⟨rfl, rfl⟩))
      all_goals
        go_wp2_with fail
        go_roundw
        case rel =>
          obtain ⟨s1, s2⟩ := (unhide HI).drew.set k ((unhide F).at (unhide HX))
          rw [copied_next (unhide HX)] at s1
          exact ⟨k + 1, by omega, by go_num, s1, (unhide HC).drew.trans s2 fun i hi e => by have e : i = g2 := e; omega⟩
        case measure => simp [intOf]; omega
    · have d1 : decide (k < l.length) = false := by simpa using hlt
      obtain rfl : k = l.length := by omega
      go_wp2_with fail
      go_ret
      refine ⟨b2, g2, rfl, hb2, hg2, unhide HC, ?_⟩
      have := unhide HI
      simpa [copied] using this
end
end Go.Proofs.Ytpgmpfhhmnnejaa
