/-
  Windows: acts; whatever is done, Done, Sent and Next stay within.
-/
import Derived.Test.YtfmkldhghgbciaaWindowsD
import Derived.Test.YtfmkldhghgbciaaKitL
import Derived.Deep.DeepCutAuto
import Derived.OpenShut
namespace Go.Proofs.Ytfmkldhghgbciaa
open Go.ChangeShapes Go.WideShapes Go.ChangeAt Go.RowKit
set_option linter.unusedVariables false
/-- an act: its kind, its number -/
structure AT where
  k : Int
  i : Int
def AT.cells (a : AT) : List Value := [.int .u8 a.k, .int .i64 a.i]
structure AT.Ok (a : AT) : Prop where
  k0 : 0 ≤ a.k ∧ a.k ≤ 255
  i0 : -9223372036854775808 ≤ a.i ∧ a.i ≤ 9223372036854775807
theorem trod_act {H : Type} {enc : TypeId × Value → H} {w : World} {base : Nat} {spare : Nat → Bool} {held : Bool} {fuel : Nat} {cs : List Value} {x : DataW H × List MemPlace}
    (h : DataW.trod enc Try.prog w base spare held fuel 33 cs = some x) : ∃ a : AT, cs = a.cells ∧ a.Ok := by
  have hu := Try.underlying33
  have hlen : cs.length = 2 := (struct_len hu h).trans (by kernel_rfl)
  obtain ⟨k, hk, wk⟩ := int_at hu h 0 0 5 rfl (k := .u8) Try.underlying5 (by kernel_rfl)
  obtain ⟨i, hi, wi⟩ := int_at hu h 1 1 3 rfl (k := .i64) Try.underlying3 (by kernel_rfl)
  refine ⟨⟨k, i⟩, ?_, bounds_u8 wk, bounds_i64 wi⟩
  match cs, hlen with
  | [a, b], _ => simp at hk hi; rw [hk, hi]; rfl
abbrev ActsIn (w : World) (ad : Option Addr) (l : List AT) : Prop := RowsIn AT.cells AT.Ok 2 w ad l
theorem size_act : (Try.prog.info? 33).map (·.size) = some 2 := by kernel_rfl
theorem zero_act : (Try.prog.info? 33).bind (·.zero) = some (.agg #[.int .u8 0, .int .i64 0]) := by kernel_rfl
theorem AT.one (a : AT) : a.cells.toArray.all (·.oneCell') = true := all_oneCell_toArray (by simp [AT.cells, Value.oneCell'])
end Go.Proofs.Ytfmkldhghgbciaa
