/-
  Operations: an operation's cells; what is wrong with it, what it counts for, its bytes, as plain functions.
-/
import Derived.Test.YtfplgmkbhpdmjaaKitA
import Derived.Test.YtfplgmkbhpdmjaaKitX
import Derived.Test.YtfplgmkbhpdmjaaCodecX
namespace Go.Proofs.Ytfplgmkbhpdmjaa
open Go.ChangeShapes Go.WideShapes Go.ChangeAt Go.RowKit
set_option linter.unusedVariables false
/-- an operation -/
structure PT where
  k : Int
  key : List UInt8
  val : List UInt8
  ver : Int
def PT.cells (o : PT) : List Value := [.int .i64 o.k, str o.key, str o.val, .int .i64 o.ver]
/-- none: zero -/
def pZero : PT := ⟨0, [], [], 0⟩
theorem PT.one (o : PT) : ∀ u ∈ o.cells, u.oneCell' = true := by intro u hu; simp [PT.cells] at hu; rcases hu with rfl | rfl | rfl | rfl <;> rfl
/-- an operation at b -/
def OpAt (w : World) (b : Nat) (o : PT) : Prop := w.heap[b]? = some (.cells o.cells.toArray 24 (0, 0))
theorem info_op : (Try.prog.info? 24).map (·.size) = some 4 := by kernel_rfl
section
variable {w w' : World} {b : Nat} {o : PT}
theorem OpAt.no (h : OpAt w b o) (k : Chg noBlk w w') : OpAt w' b o := k.at h id
theorem OpAt.lt (h : OpAt w b o) : b < w.heap.size := lt_of_block h
theorem OpAt.c0 (h : OpAt w b o) : w.cell? ⟨b, 0, none⟩ = some (.int .i64 o.k) := cellAt h 0 _ rfl
theorem OpAt.c1 (h : OpAt w b o) : w.cell? ⟨b, 1, none⟩ = some (str o.key) := cellAt h 1 _ rfl
theorem OpAt.c2 (h : OpAt w b o) : w.cell? ⟨b, 2, none⟩ = some (str o.val) := cellAt h 2 _ rfl
theorem OpAt.c3 (h : OpAt w b o) : w.cell? ⟨b, 3, none⟩ = some (.int .i64 o.ver) := cellAt h 3 _ rfl
end
/-- has such an operation a value? -/
def hv (k : Int) : Bool := k == 2 || k == 4
/-- has it a version? -/
def hn (k : Int) : Bool := k == 4
theorem hv_yes {k : Int} : hv k = true ↔ k = 2 ∨ k = 4 := by unfold hv; simp
theorem hv_no {k : Int} : hv k = false ↔ k ≠ 2 ∧ k ≠ 4 := by unfold hv; simp
theorem hn_yes {k : Int} : hn k = true ↔ k = 4 := by unfold hn; simp
theorem hn_no {k : Int} : hn k = false ↔ k ≠ 4 := by unfold hn; simp
/-- what may not be -/
def PT.bad (o : PT) : Prop := o.k < 1 ∨ 4 < o.k ∨ o.key = [] ∨ o.ver < 0 ∨ 4096 < o.ver ∨ (o.ver ≠ 0 ∧ o.k ≠ 4) ∨ (o.val ≠ [] ∧ o.k ≠ 2 ∧ o.k ≠ 4)
/-- what is too long -/
def PT.long (o : PT) : Prop := 16 < o.key.length ∨ 64 < o.val.length
/-- what may be -/
structure PT.fit (o : PT) : Prop where
  k1 : 1 ≤ o.k
  k4 : o.k ≤ 4
  key : o.key ≠ []
  v0 : 0 ≤ o.ver
  v1 : o.ver ≤ 4096
  ver : o.k ≠ 4 → o.ver = 0
  val : o.k ≠ 2 → o.k ≠ 4 → o.val = []
  l1 : o.key.length ≤ 16
  l2 : o.val.length ≤ 64
/-- what is wrong with it -/
def chk (o : PT) : Int := if (decide (o.k < 1) || decide (4 < o.k) || o.key.isEmpty || decide (o.ver < 0) || decide (4096 < o.ver) || (o.ver != 0 && !hn o.k) || (!o.val.isEmpty && !hv o.k)) = true then 2 else if (decide (16 < o.key.length) || decide (64 < o.val.length)) = true then 3 else 0
theorem bad_iff {o : PT} : o.bad ↔ (decide (o.k < 1) || decide (4 < o.k) || o.key.isEmpty || decide (o.ver < 0) || decide (4096 < o.ver) || (o.ver != 0 && !hn o.k) || (!o.val.isEmpty && !hv o.k)) = true := by
  unfold PT.bad hn hv
  simp [or_assoc]
theorem long_iff {o : PT} : o.long ↔ (decide (16 < o.key.length) || decide (64 < o.val.length)) = true := by unfold PT.long; simp
theorem chk_eq (o : PT) : chk o = if (decide (o.k < 1) || decide (4 < o.k) || o.key.isEmpty || decide (o.ver < 0) || decide (4096 < o.ver) || (o.ver != 0 && !hn o.k) || (!o.val.isEmpty && !hv o.k)) = true then 2 else if (decide (16 < o.key.length) || decide (64 < o.val.length)) = true then 3 else 0 := rfl
theorem chk_bad {o : PT} (h : o.bad) : chk o = 2 := by rw [chk_eq, if_pos (bad_iff.1 h)]
theorem chk_long {o : PT} (h : ¬ o.bad) (h2 : o.long) : chk o = 3 := by rw [chk_eq, if_neg (fun e => h (bad_iff.2 e)), if_pos (long_iff.1 h2)]
theorem chk_ok {o : PT} (h : ¬ o.bad) (h2 : ¬ o.long) : chk o = 0 := by rw [chk_eq, if_neg (fun e => h (bad_iff.2 e)), if_neg (fun e => h2 (long_iff.2 e))]
theorem chk_fit {o : PT} : chk o = 0 ↔ o.fit := by
  constructor
  · intro h
    by_cases hb : o.bad
    · rw [chk_bad hb] at h; omega
    by_cases hl : o.long
    · rw [chk_long hb hl] at h; omega
    unfold PT.bad at hb
    unfold PT.long at hl
    exact ⟨by omega, by omega, fun h => hb (.inr (.inr (.inl h))), by omega, by omega, fun h => by omega, fun h1 h2 => Classical.byContradiction fun h3 => hb (.inr (.inr (.inr (.inr (.inr (.inr ⟨h3, h1, h2⟩)))))), by omega, by omega⟩
  · rintro ⟨h1, h2, h3, h4, h5, h6, h7, h8, h9⟩
    refine chk_ok ?_ ?_
    · rintro (h | h | h | h | h | ⟨h, h'⟩ | ⟨h, h', h''⟩)
      · omega
      · omega
      · exact h3 h
      · omega
      · omega
      · exact h (h6 h')
      · exact h (h7 h' h'')
    · rintro (h | h) <;> omega
theorem chk_len (o : PT) : chk o = if o.k < 1 ∨ 4 < o.k ∨ o.key.length = 0 ∨ o.ver < 0 ∨ 4096 < o.ver ∨ (o.ver ≠ 0 ∧ o.k ≠ 4) ∨ (o.val.length ≠ 0 ∧ o.k ≠ 2 ∧ o.k ≠ 4) then 2 else if 16 < o.key.length ∨ 64 < o.val.length then 3 else 0 := by
  have e1 : o.bad ↔ (o.k < 1 ∨ 4 < o.k ∨ o.key.length = 0 ∨ o.ver < 0 ∨ 4096 < o.ver ∨ (o.ver ≠ 0 ∧ o.k ≠ 4) ∨ (o.val.length ≠ 0 ∧ o.k ≠ 2 ∧ o.k ≠ 4)) := by
    unfold PT.bad
    simp only [ne_eq, List.length_eq_zero_iff]
  by_cases h1 : o.bad
  · rw [chk_bad h1, if_pos (e1.1 h1)]
  rw [if_neg (fun h => h1 (e1.2 h))]
  by_cases h2 : o.long
  · rw [chk_long h1 h2]
    unfold PT.long at h2
    rw [if_pos h2]
  · rw [chk_ok h1 h2]
    unfold PT.long at h2
    rw [if_neg h2]
theorem chk_cases (o : PT) : chk o = 0 ∨ chk o = 2 ∨ chk o = 3 := by
  by_cases hb : o.bad
  · rw [chk_bad hb]; omega
  by_cases hl : o.long
  · rw [chk_long hb hl]; omega
  · rw [chk_ok hb hl]; omega
/-- what it counts for -/
def cost (o : PT) : Int := if chk o = 0 then 16 + (o.key.length : Int) + o.val.length else 0
theorem cost_ok {o : PT} (h : chk o = 0) : cost o = 16 + (o.key.length : Int) + o.val.length := if_pos h
theorem cost_no {o : PT} (h : ¬ chk o = 0) : cost o = 0 := if_neg h
/-- does it read? -/
def readsB (o : PT) : Bool := o.k == 1 && chk o == 0
/-- its bytes, whatever it is -/
def rawL (o : PT) : List UInt8 := intL o.k ++ textL o.key ++ (if o.k = 2 ∨ o.k = 4 then textL o.val else []) ++ (if o.k = 4 then intL o.ver else [])
/-- its bytes -/
def putL (o : PT) : List UInt8 := if chk o = 0 then rawL o else []
theorem putL_ok {o : PT} (h : chk o = 0) : putL o = rawL o := if_pos h
theorem putL_no {o : PT} (h : ¬ chk o = 0) : putL o = [] := if_neg h
theorem raw2 {o : PT} (h : o.k = 2) : rawL o = intL o.k ++ (textL o.key ++ textL o.val) := by unfold rawL; rw [if_pos (.inl h), if_neg (by omega)]; simp
theorem raw4 {o : PT} (h : o.k = 4) : rawL o = intL o.k ++ (textL o.key ++ (textL o.val ++ intL o.ver)) := by unfold rawL; rw [if_pos (.inr h), if_pos h]; simp
theorem raw1 {o : PT} (h : o.k ≠ 2) (h' : o.k ≠ 4) : rawL o = intL o.k ++ textL o.key := by unfold rawL; rw [if_neg (by omega), if_neg h']; simp
theorem textL_len (l : List UInt8) (h : l.length ≤ 1048576) : (textL l).length ≤ l.length + 9 := by
  unfold textL; have := (numL_len l.length (by omega)).1; simp; omega
theorem intL_len (n : Int) : (intL n).length ≤ 9 := by
  unfold intL
  split
  · simp
  · exact (numL_len _ (by omega)).1
theorem raw_len {o : PT} (h : o.fit) : (rawL o).length ≤ 116 := by
  have h1 := textL_len o.key (by have := h.l1; omega)
  have h2 := textL_len o.val (by have := h.l2; omega)
  have h3 := intL_len o.k
  have h4 := intL_len o.ver
  have h5 := h.l1
  have h6 := h.l2
  unfold rawL
  simp only [List.length_append]
  split <;> split <;> simp <;> omega
end Go.Proofs.Ytfplgmkbhpdmjaa
