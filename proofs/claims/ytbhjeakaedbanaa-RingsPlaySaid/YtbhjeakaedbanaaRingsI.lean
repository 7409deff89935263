/-
  Rings: a frame that comes as an argument; what is done with a ring.
-/
import Derived.Test.YtbhjeakaedbanaaRingsG
import Derived.Test.YtbhjeakaedbanaaKitO
namespace Go.Proofs.Ytbhjeakaedbanaa
open Go.ChangeShapes Go.WideShapes Go.ChangeAt Go.RowKit
set_option linter.unusedVariables false
/-- a frame's cells are of their kinds -/
structure Typed (c : List Value) : Prop where
  len : c.length = 29
  ints : ∀ i ∈ [0, 1, 2, 3, 4, 5, 6, 7, 10, 11, 13, 14, 15, 16, 17, 18, 19, 22, 23, 25, 26, 27, 28], ∃ x, c[i]? = some (.int .i64 x)
  strs : ∀ i ∈ [8, 9, 12, 20, 21], ∃ s : ByteArray, c[i]? = some (.string s) ∧ s.size ≤ maxLen
  mem : ∃ ad n cap, c[24]? = some (.slice ad n cap)
theorem Typed.one {c : List Value} (h : Typed c) : ∀ v ∈ c, v.oneCell' = true := by
  intro v hv
  obtain ⟨i, hi⟩ := List.mem_iff_getElem?.1 hv
  have hl : i < 29 := by have := (List.getElem?_eq_some_iff.1 hi).1; rw [h.len] at this; exact this
  have hI := h.ints i
  have hS := h.strs i
  obtain ⟨ad, n, cap, hm⟩ := h.mem
  have hcase : i ∈ [0, 1, 2, 3, 4, 5, 6, 7, 10, 11, 13, 14, 15, 16, 17, 18, 19, 22, 23, 25, 26, 27, 28] ∨ i ∈ [8, 9, 12, 20, 21] ∨ i = 24 := by
    simp only [List.mem_cons, List.not_mem_nil, or_false]; omega
  rcases hcase with h1 | h1 | h1
  · obtain ⟨x, e⟩ := hI h1; rw [e] at hi; cases hi; rfl
  · obtain ⟨x, e, _⟩ := hS h1; rw [e] at hi; cases hi; rfl
  · subst h1; rw [hm] at hi; cases hi; rfl
/-- the frame that the cells c are, its members being xs -/
def frOf (c : List Value) (n : Nat) (xs : List Value) : Fr := ⟨c.set 24 (.slice none 0 0), n, xs⟩
theorem frOf_ok {c : List Value} {n : Nat} {xs : List Value} (h : Typed c) (hn : n ≤ 1000) : (frOf c n xs).Ok :=
  ⟨by simp [frOf, h.len], all_set h.one rfl 24, hn⟩
theorem cint : Try.prog.cellsOf 3 = 1 := by kernel_rfl
theorem cstr : Try.prog.cellsOf 9 = 1 := by kernel_rfl
section
variable {H : Type} {enc : TypeId × Value → H} {w : World} {base : Nat} {spare : Nat → Bool} {held : Bool} {fuel : Nat} {c : List Value} {x : DataW H × List MemPlace}
theorem sub_get {c sub : List Value} {k m : Nat} (h : ∀ j, j < m → sub[j]? = c[k + j]?) (j : Nat) (hj : j < m) {v : Value} (hv : sub[j]? = some v) : c[k + j]? = some v := by rw [← h j hj]; exact hv
theorem trod_op (h : DataW.trod enc Try.prog w base spare held fuel 33 c = some x) : (∃ a, c[0]? = some (.int .i64 a)) ∧ (∃ s : ByteArray, c[1]? = some (.string s) ∧ s.size ≤ maxLen) ∧ (∃ s : ByteArray, c[2]? = some (.string s) ∧ s.size ≤ maxLen) ∧ (∃ a, c[3]? = some (.int .i64 a)) := by
  have hu := Try.underlying33
  obtain ⟨a0, h0, _⟩ := int_at hu h 0 0 3 rfl (k := .i64) Try.underlying3 cint
  obtain ⟨a1, h1, m1⟩ := string_at hu h 1 1 9 rfl Try.underlying9 cstr
  obtain ⟨a2, h2, m2⟩ := string_at hu h 2 2 9 rfl Try.underlying9 cstr
  obtain ⟨a3, h3, _⟩ := int_at hu h 3 3 3 rfl (k := .i64) Try.underlying3 cint
  exact ⟨⟨a0, h0⟩, ⟨a1, h1, m1⟩, ⟨a2, h2, m2⟩, ⟨a3, h3⟩⟩
theorem trod_fr (h : DataW.trod enc Try.prog w base spare held fuel 42 c = some x) :
    Typed c ∧ ∃ n xs, FrR w c (frOf c n xs) ∧ (∃ ad cap, c[24]? = some (.slice ad n cap)) ∧ (∀ u ∈ xs, ∃ k, u = .int .i64 k) := by
  have hu := Try.underlying42
  have hlen : c.length = 29 := (struct_len hu h).trans (by kernel_rfl)
  obtain ⟨x0, i0, _⟩ := int_at hu h 0 0 3 rfl (k := .i64) Try.underlying3 cint
  obtain ⟨x1, i1, _⟩ := int_at hu h 1 1 3 rfl (k := .i64) Try.underlying3 cint
  obtain ⟨x2, i2, _⟩ := int_at hu h 2 2 3 rfl (k := .i64) Try.underlying3 cint
  obtain ⟨x3, i3, _⟩ := int_at hu h 3 3 3 rfl (k := .i64) Try.underlying3 cint
  obtain ⟨x4, i4, _⟩ := int_at hu h 4 4 3 rfl (k := .i64) Try.underlying3 cint
  obtain ⟨x5, i5, _⟩ := int_at hu h 5 5 3 rfl (k := .i64) Try.underlying3 cint
  obtain ⟨x6, i6, _⟩ := int_at hu h 6 6 3 rfl (k := .i64) Try.underlying3 cint
  obtain ⟨x15, i15, _⟩ := int_at hu h 9 15 3 rfl (k := .i64) Try.underlying3 cint
  obtain ⟨x26, i26, _⟩ := int_at hu h 12 26 3 rfl (k := .i64) Try.underlying3 cint
  obtain ⟨x27, i27, _⟩ := int_at hu h 13 27 3 rfl (k := .i64) Try.underlying3 cint
  obtain ⟨x28, i28, _⟩ := int_at hu h 14 28 3 rfl (k := .i64) Try.underlying3 cint
  have c4 : Try.prog.cellsOf 33 = 4 := by kernel_rfl
  have cr4 : Try.prog.cellsOf 35 = 4 := by kernel_rfl
  have c7 : Try.prog.cellsOf 37 = 7 := by kernel_rfl
  have c3 : Try.prog.cellsOf 40 = 3 := by kernel_rfl
  -- the operation
  obtain ⟨so, no, yo, ho, jo⟩ := field_sub hu h 7 7 33 4 rfl c4
  obtain ⟨⟨x7, i7⟩, ⟨s8, i8, m8⟩, ⟨s9, i9, m9⟩, ⟨x10, i10⟩⟩ := trod_op ho
  have f7 := sub_get jo 0 (by omega) i7
  have f8 := sub_get jo 1 (by omega) i8
  have f9 := sub_get jo 2 (by omega) i9
  have f10 := sub_get jo 3 (by omega) i10
  -- the result
  obtain ⟨sr, nr, yr, hr, jr⟩ := field_sub hu h 8 11 35 4 rfl cr4
  have ur := Try.underlying35
  obtain ⟨x11, i11, _⟩ := int_at ur hr 0 0 3 rfl (k := .i64) Try.underlying3 cint
  obtain ⟨s12, i12, m12⟩ := string_at ur hr 1 1 9 rfl Try.underlying9 cstr
  obtain ⟨x13, i13, _⟩ := int_at ur hr 2 2 3 rfl (k := .i64) Try.underlying3 cint
  obtain ⟨x14, i14, _⟩ := int_at ur hr 3 3 3 rfl (k := .i64) Try.underlying3 cint
  have f11 := sub_get jr 0 (by omega) i11
  have f12 := sub_get jr 1 (by omega) i12
  have f13 := sub_get jr 2 (by omega) i13
  have f14 := sub_get jr 3 (by omega) i14
  -- the entry
  obtain ⟨se, ne, ye, he, je⟩ := field_sub hu h 10 16 37 7 rfl c7
  have ue := Try.underlying37
  obtain ⟨x16, i16, _⟩ := int_at ue he 0 0 3 rfl (k := .i64) Try.underlying3 cint
  obtain ⟨x17, i17, _⟩ := int_at ue he 1 1 3 rfl (k := .i64) Try.underlying3 cint
  obtain ⟨x18, i18, _⟩ := int_at ue he 2 2 3 rfl (k := .i64) Try.underlying3 cint
  have f16 := sub_get je 0 (by omega) i16
  have f17 := sub_get je 1 (by omega) i17
  have f18 := sub_get je 2 (by omega) i18
  obtain ⟨sp, np, yp, hp, jp⟩ := field_sub ue he 3 3 33 4 rfl c4
  obtain ⟨⟨x19, i19⟩, ⟨s20, i20, m20⟩, ⟨s21, i21, m21⟩, ⟨x22, i22⟩⟩ := trod_op hp
  have f19 := sub_get je 3 (by omega) (sub_get jp 0 (by omega) i19)
  have f20 := sub_get je 4 (by omega) (sub_get jp 1 (by omega) i20)
  have f21 := sub_get je 5 (by omega) (sub_get jp 2 (by omega) i21)
  have f22 := sub_get je 6 (by omega) (sub_get jp 3 (by omega) i22)
  -- the chain
  obtain ⟨sc, nc, yc, hc, jc⟩ := field_sub hu h 11 23 40 3 rfl c3
  have uc := Try.underlying40
  obtain ⟨x23, i23, _⟩ := int_at uc hc 0 0 3 rfl (k := .i64) Try.underlying3 cint
  obtain ⟨x25, i25, _⟩ := int_at uc hc 2 2 3 rfl (k := .i64) Try.underlying3 cint
  have f23 := sub_get jc 0 (by omega) i23
  have f25 := sub_get jc 2 (by omega) i25
  have cm : Try.prog.cellsOf 38 = 1 := by kernel_rfl
  obtain ⟨sm, nm, ym, hm, jm⟩ := field_sub uc hc 1 1 38 1 rfl cm
  have ints : ∀ i ∈ [0, 1, 2, 3, 4, 5, 6, 7, 10, 11, 13, 14, 15, 16, 17, 18, 19, 22, 23, 25, 26, 27, 28], ∃ x, c[i]? = some (.int .i64 x) := by
    intro i hi
    simp only [List.mem_cons, List.not_mem_nil, or_false] at hi
    rcases hi with rfl | rfl | rfl | rfl | rfl | rfl | rfl | rfl | rfl | rfl | rfl | rfl | rfl | rfl | rfl | rfl | rfl | rfl | rfl | rfl | rfl | rfl | rfl
    · exact ⟨_, i0⟩
    · exact ⟨_, i1⟩
    · exact ⟨_, i2⟩
    · exact ⟨_, i3⟩
    · exact ⟨_, i4⟩
    · exact ⟨_, i5⟩
    · exact ⟨_, i6⟩
    · exact ⟨_, f7⟩
    · exact ⟨_, f10⟩
    · exact ⟨_, f11⟩
    · exact ⟨_, f13⟩
    · exact ⟨_, f14⟩
    · exact ⟨_, i15⟩
    · exact ⟨_, f16⟩
    · exact ⟨_, f17⟩
    · exact ⟨_, f18⟩
    · exact ⟨_, f19⟩
    · exact ⟨_, f22⟩
    · exact ⟨_, f23⟩
    · exact ⟨_, f25⟩
    · exact ⟨_, i26⟩
    · exact ⟨_, i27⟩
    · exact ⟨_, i28⟩
  have strs : ∀ i ∈ [8, 9, 12, 20, 21], ∃ s : ByteArray, c[i]? = some (.string s) ∧ s.size ≤ maxLen := by
    intro i hi
    simp only [List.mem_cons, List.not_mem_nil, or_false] at hi
    rcases hi with rfl | rfl | rfl | rfl | rfl
    · exact ⟨_, f8, m8⟩
    · exact ⟨_, f9, m9⟩
    · exact ⟨_, f12, m12⟩
    · exact ⟨_, f20, m20⟩
    · exact ⟨_, f21, m21⟩
  rcases slice_rows (m := 2) (by kernel_rfl) Try.underlying38 hm with h0 | ⟨ad, len, cap, rows, h0, hl, hmx, hrl, hrows⟩
  · have e := jm 0 (by omega)
    rw [h0] at e
    have f24 := sub_get jc 1 (by omega) e.symm
    refine ⟨⟨hlen, ints, strs, _, _, _, f24⟩, 0, [], ⟨.slice none 0 0, ?_, rfl, Reads.nil _ _⟩, ⟨_, _, f24⟩, by simp⟩
    simp only [frOf, List.set_set]
    exact (by rw [← (List.getElem?_eq_some_iff.1 f24).2]; simp : c = c.set 24 (.slice none 0 0))
  · have e := jm 0 (by omega)
    rw [h0] at e
    have f24 := sub_get jc 1 (by omega) e.symm
    have htyped : ∀ r ∈ rows, ∀ v ∈ r, ∃ k, v = .int .i64 k := by
      intro r hr v hv
      obtain ⟨i, hi⟩ := List.mem_iff_getElem?.1 hr
      obtain ⟨h2, ⟨n, y, ht⟩, _⟩ := hrows i r hi
      have um := Try.underlying54
      obtain ⟨y0, j0, _⟩ := int_at um ht 0 0 3 rfl (k := .i64) Try.underlying3 cint
      obtain ⟨y1, j1, _⟩ := int_at um ht 1 1 3 rfl (k := .i64) Try.underlying3 cint
      obtain ⟨j, hj⟩ := List.mem_iff_getElem?.1 hv
      have hj2 : j < 2 := by have := (List.getElem?_eq_some_iff.1 hj).1; omega
      rcases (show j = 0 ∨ j = 1 by omega) with rfl | rfl
      · rw [j0] at hj; cases hj; exact ⟨_, rfl⟩
      · rw [j1] at hj; cases hj; exact ⟨_, rfl⟩
    have hR := rows_reads (w := w) (m := 2) (ad := ad) (cap := cap) rows (fun r hr => by obtain ⟨i, hi⟩ := List.mem_iff_getElem?.1 hr; exact (hrows i r hi).1)
      (fun r hr v hv => by obtain ⟨k, rfl⟩ := htyped r hr v hv; rfl) (by omega) (by omega) (fun i r hi => (hrows i r hi).2.2)
    rw [hrl] at hR
    refine ⟨⟨hlen, ints, strs, _, _, _, f24⟩, len, rows.flatten, ⟨.slice (some ad) len cap, ?_, rfl, hR⟩, ⟨_, _, f24⟩, fun u hu => ?_⟩
    · simp only [frOf, List.set_set]
      exact (by rw [← (List.getElem?_eq_some_iff.1 f24).2]; simp : c = c.set 24 (.slice (some ad) len cap))
    · obtain ⟨r, hr, hu⟩ := List.mem_flatten.1 hu
      exact htyped r hr u hu
end
end Go.Proofs.Ytbhjeakaedbanaa
