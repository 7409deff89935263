/-
  Contracts of a number from -1 on, and of a text, that stand ahead of bytes, and of the document's answers beside them; the chapter's examples.
-/
import Derived.Test.YtiapkmncgafofaaCodecC
namespace Go.Proofs.Ytiapkmncgafofaa
open Go.ChangeShapes Go.WideShapes Go.ChangeAt Go.RowKit
set_option linter.unusedVariables false
attribute [local go_sem] bs_size bs_app bs_cut bs_tl bs_at

/-- what is told of bytes as a number from -1 on -/
def unintT (l : List UInt8) : Int × List UInt8 × Bool := match readL l with
  | some (n, r) => if (n : Int) > 1099511627777 then (0, [], false) else ((n : Int) - 1, r, true)
  | none => (0, [], false)
def UnintTold (l : List UInt8) (w : World) (e : Ending) (w' : World) : Prop := e = three (unintT l).1 .i64 (unintT l).2.1 (unintT l).2.2 ∧ Below w.heap.size w w'
theorem unintT_none {l : List UInt8} (h : readL l = none) : unintT l = (0, [], false) := by unfold unintT; rw [h]
theorem unintT_big {l : List UInt8} {n : Nat} {r : List UInt8} (h : readL l = some (n, r)) (hn : (n : Int) > 1099511627777) : unintT l = (0, [], false) := by unfold unintT; rw [h]; exact if_pos hn
theorem unintT_some {l : List UInt8} {n : Nat} {r : List UInt8} (h : readL l = some (n, r)) (hn : ¬ (n : Int) > 1099511627777) : unintT l = ((n : Int) - 1, r, true) := by unfold unintT; rw [h]; exact if_neg hn
theorem read_none {P : Program} {f : FuncId} {l : List UInt8} {w : World} (h : readL l = none) (c : Calls P f #[str l] w (ReadTold l w)) :
    Calls P f #[str l] w fun e w' => e = three 0 .u64 [] false ∧ Below w.heap.size w w' := c.mono fun e w' hh => by rw [ReadTold, readT_none h] at hh; exact hh
theorem read_some {P : Program} {f : FuncId} {l r : List UInt8} {n : Nat} {w : World} (h : readL l = some (n, r)) (c : Calls P f #[str l] w (ReadTold l w)) :
    Calls P f #[str l] w fun e w' => e = three n .u64 r true ∧ Below w.heap.size w w' := c.mono fun e w' hh => by rw [ReadTold, readT_some h] at hh; exact hh
set_option maxRecDepth 100000 in
theorem unint_any (l : List UInt8) (hl : l.length ≤ 1048576) (w : World) : Calls Try.prog 45 #[str l] w (UnintTold l w) := by
  cases hr : readL l with
  | none =>
    have HR := Lib.hid hr
    clear hr
    go_enter Try.func45, Try.ntmps45
    go_wp2_with (go_at_call 53; refine (read_none HR.out (read_any l hl _)).mono ?_; rintro e w' ⟨rfl, hb⟩)
    refine bodyPost_ret (results_tmp3 rfl _ _ _) rfl ?_
    rw [UnintTold, unintT_none HR.out]
    exact ⟨rfl, hb⟩
  | some x =>
    obtain ⟨n, r⟩ := x
    have HR := Lib.hid hr
    clear hr
    by_cases hn : (n : Int) > 1099511627777
    · go_enter Try.func45, Try.ntmps45
      go_wp2_with (go_at_call 53; refine (read_some HR.out (read_any l hl _)).mono ?_; rintro e w' ⟨rfl, hb⟩)
      refine bodyPost_ret (results_tmp3 rfl _ _ _) rfl ?_
      rw [UnintTold, unintT_big HR.out (by omega)]
      exact ⟨rfl, hb⟩
    · have hn' : (n : Int) ≤ 1099511627777 := by omega
      go_enter Try.func45, Try.ntmps45
      go_wp2_with (go_at_call 53; refine (read_some HR.out (read_any l hl _)).mono ?_; rintro e w' ⟨rfl, hb⟩)
      refine bodyPost_ret (results_tmp3 rfl _ _ _) rfl ?_
      rw [UnintTold, unintT_some HR.out (by omega)]
      exact ⟨rfl, hb⟩
set_option maxRecDepth 100000 in
theorem runint_any (l : List UInt8) (hl : l.length ≤ 1048576) (w : World) : Calls Try.prog 54 #[str l] w (UnintTold l w) := by
  cases hr : readL l with
  | none =>
    have HR := Lib.hid hr
    clear hr
    go_enter Try.func54, Try.ntmps54
    go_wp2_with (go_at_call 57; refine (read_none HR.out (rread_any l hl _)).mono ?_; rintro e w' ⟨rfl, hb⟩)
    refine bodyPost_ret (results_tmp3 rfl _ _ _) rfl ?_
    rw [UnintTold, unintT_none HR.out]
    exact ⟨rfl, hb⟩
  | some x =>
    obtain ⟨n, r⟩ := x
    have HR := Lib.hid hr
    clear hr
    by_cases hn : (n : Int) > 1099511627777
    · go_enter Try.func54, Try.ntmps54
      go_wp2_with (go_at_call 57; refine (read_some HR.out (rread_any l hl _)).mono ?_; rintro e w' ⟨rfl, hb⟩)
      refine bodyPost_ret (results_tmp3 rfl _ _ _) rfl ?_
      rw [UnintTold, unintT_big HR.out (by omega)]
      exact ⟨rfl, hb⟩
    · have hn' : (n : Int) ≤ 1099511627777 := by omega
      go_enter Try.func54, Try.ntmps54
      go_wp2_with (go_at_call 57; refine (read_some HR.out (rread_any l hl _)).mono ?_; rintro e w' ⟨rfl, hb⟩)
      refine bodyPost_ret (results_tmp3 rfl _ _ _) rfl ?_
      rw [UnintTold, unintT_some HR.out (by omega)]
      exact ⟨rfl, hb⟩
/-- what is told of bytes as a text -/
def cutT (l : List UInt8) : List UInt8 × List UInt8 × Bool := match readL l with
  | some (n, r) => if r.length < n then ([], [], false) else (r.take n, r.drop n, true)
  | none => ([], [], false)
abbrev texts (a r : List UInt8) (b : Bool) : Ending := .returned (.tuple #[str a, str r, .bool b])
def CutTold (l : List UInt8) (w : World) (e : Ending) (w' : World) : Prop := e = texts (cutT l).1 (cutT l).2.1 (cutT l).2.2 ∧ Below w.heap.size w w'
theorem cutT_none {l : List UInt8} (h : readL l = none) : cutT l = ([], [], false) := by unfold cutT; rw [h]
theorem cutT_big {l : List UInt8} {n : Nat} {r : List UInt8} (h : readL l = some (n, r)) (hn : r.length < n) : cutT l = ([], [], false) := by unfold cutT; rw [h]; exact if_pos hn
theorem cutT_some {l : List UInt8} {n : Nat} {r : List UInt8} (h : readL l = some (n, r)) (hn : ¬ r.length < n) : cutT l = (r.take n, r.drop n, true) := by unfold cutT; rw [h]; exact if_neg hn
theorem read_rest {l : List UInt8} {n : Nat} {r : List UInt8} (h : readL l = some (n, r)) : r.length ≤ l.length := by
  have := (put_read l n r h).1; rw [← this]; simp
end Go.Proofs.Ytiapkmncgafofaa
