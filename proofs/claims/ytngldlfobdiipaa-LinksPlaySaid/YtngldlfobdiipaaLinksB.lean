/-
  Links: pairs as a map's keys; slices of texts as what stands under them.
-/
import Derived.Test.YtngldlfobdiipaaRows
import Derived.Test.YtngldlfobdiipaaLinksA
import Derived.Test.YtngldlfobdiipaaKitF
import Derived.Test.YtngldlfobdiipaaKitT
import Derived.DeepKeys4
import Derived.Maps.OwnSet
import Derived.Maps.Ext
import Derived.Maps.RangeWalk
import Derived.WideKeyEntry
namespace Go.Proofs.Ytngldlfobdiipaa.Lk
open Go.ChangeShapes Go.WideShapes Go.ChangeAt Go.RowKit
set_option linter.unusedVariables false
theorem laidOut : laidOutB Try.prog = true := by kernel_rfl
theorem law : WideMaps.KeyLaw Try.prog 61 := deep_law_laid laidOut (m := 2) (by omega) (of_decide_eq_true (by kernel_rfl)) (by kernel_rfl) (by rw [Try.underlying61])
theorem keyed : Maps.Keyed Try.prog 61 := Maps.Keyed.of_law law
/-- a pair, as a value -/
def pr (a b : Int) : Value := .agg #[.int .i64 a, .int .i64 b]
/-- is it an int's? -/
def wfI (a : Int) : Prop := (Lit.int .i64 a).wf = true
theorem wfI_of {a : Int} (h : -9223372036854775808 ≤ a ∧ a ≤ 9223372036854775807) : wfI a := WalkArith.wf_i64 h
/-- a pair, as a key reads -/
def kl (a b : Int) : Lit := .string (keyBytes [.int .i64 a, .int .i64 b])
theorem lits_int (d : Nat) {a : Int} (h : wfI a) : Try.prog.keyLits (d + 1) 3 [.int .i64 a] = some [.int .i64 a] := by
  unfold wfI at h
  simp [Program.keyLits, Try.underlying3, h]
theorem lits_inv {d : Nat} {c : Value} {l : List Lit} (h : Try.prog.keyLits (d + 1) 3 [c] = some l) : ∃ a, c = .int .i64 a ∧ wfI a ∧ l = [.int .i64 a] := by
  unfold Program.keyLits at h
  rw [Try.underlying3] at h
  cases c <;> simp at h
  obtain ⟨⟨rfl, hw⟩, rfl⟩ := h
  exact ⟨_, rfl, hw, rfl⟩
theorem cells_pair : Try.prog.cellsOf 61 = 2 := by kernel_rfl
theorem cells_int : Try.prog.cellsOf 3 = 1 := by kernel_rfl
theorem types_size : Try.prog.types.size = (Try.prog.types.size - 2) + 2 := by kernel_rfl
theorem lits_pair (d : Nat) {a b : Int} (ha : wfI a) (hb : wfI b) : Try.prog.keyLits (d + 2) 61 [.int .i64 a, .int .i64 b] = some [.int .i64 a, .int .i64 b] := by
  unfold Program.keyLits
  rw [Try.underlying61]
  simp [cells_pair, cells_int, lits_int d ha, lits_int d hb]
theorem lits_pair_inv {d : Nat} {x y : Value} {l : List Lit} (h : Try.prog.keyLits (d + 2) 61 [x, y] = some l) : ∃ a b, x = .int .i64 a ∧ y = .int .i64 b ∧ wfI a ∧ wfI b ∧ l = [.int .i64 a, .int .i64 b] := by
  unfold Program.keyLits at h
  rw [Try.underlying61] at h
  simp [cells_pair, cells_int] at h
  cases h1 : Try.prog.keyLits (d + 1) 3 [x] with
  | none => rw [h1] at h; cases h
  | some l1 =>
    cases h2 : Try.prog.keyLits (d + 1) 3 [y] with
    | none => rw [h1, h2] at h; cases h
    | some l2 =>
      rw [h1, h2] at h
      obtain ⟨a, rfl, wa, rfl⟩ := lits_inv h1
      obtain ⟨b, rfl, wb, rfl⟩ := lits_inv h2
      exact ⟨a, b, rfl, rfl, wa, wb, by simpa using h.symm⟩
theorem key_type : Try.prog.keyType 61 = true := by kernel_rfl
theorem key_of {a b : Int} (ha : wfI a) (hb : wfI b) : keyOf Try.prog 61 (pr a b) = some (kl a b) := by
  unfold keyOf
  rw [Try.underlying61]
  have hf : (pr a b).formed Try.prog 61 = true := by simp [pr, Value.formed, Try.underlying61, cells_pair]
  have hl := lits_pair (Try.prog.types.size - 2 + 1) ha hb
  rw [show Try.prog.types.size - 2 + 1 + 2 = Try.prog.types.size + 1 from by have := types_size; omega] at hl
  simp only [key_type, hf, Bool.and_self, if_true]
  show (Try.prog.keyLits (Try.prog.types.size + 1) 61 [.int .i64 a, .int .i64 b]).map _ = _
  rw [hl]
  rfl
theorem key_inv {v : Value} {l : Lit} (h : keyOf Try.prog 61 v = some l) : ∃ a b, v = pr a b ∧ wfI a ∧ wfI b ∧ l = kl a b := by
  have h0 := h
  unfold keyOf at h0
  rw [Try.underlying61] at h0
  simp only [key_type, Bool.true_and] at h0
  split at h0
  · rename_i hf
    obtain ⟨xs, L, rfl, hk, _⟩ := keyOf_top (k := 61) (by rw [Try.underlying61]) h
    have hs : xs.size = 2 := by simpa [Value.formed, Try.underlying61, cells_pair] using hf
    obtain ⟨xs⟩ := xs
    match xs, hs with
    | [x, y], _ =>
      rw [show Try.prog.types.size + 1 = Try.prog.types.size - 2 + 1 + 2 from by have := types_size; omega] at hk
      obtain ⟨a, b, rfl, rfl, wa, wb, _⟩ := lits_pair_inv hk
      exact ⟨a, b, rfl, wa, wb, (Option.some.inj (h.symm.trans (key_of wa wb)))⟩
  · cases h0
theorem kl_inj {a b c d : Int} (ha : wfI a) (hb : wfI b) (hc : wfI c) (hd : wfI d) (h : kl a b = kl c d) : a = c ∧ b = d := by
  have := keyed.inj (key_of ha hb) (h ▸ key_of hc hd)
  unfold pr at this
  simpa using this
theorem kl_key {a b : Int} (ha : wfI a) (hb : wfI b) : WideAt.IsKeyLit (kl a b) := keyed.key (key_of ha hb)
/-- a slice of texts, as what stands under a key reads: itself -/
def hdR (v : Value) : Option (DataW Value × List MemPlace) := match v with
  | .slice _ _ _ => some (.held v, [])
  | _ => none
theorem hdR_mk (p : Option Addr) (n c : Nat) : hdR (.slice p n c) = some (.held (.slice p n c), []) := rfl
theorem hdR_inv {v : Value} {z : DataW Value × List MemPlace} (h : hdR v = some z) : ∃ p n c, v = .slice p n c ∧ z = (.held v, []) := by
  unfold hdR at h
  split at h
  · exact ⟨_, _, _, rfl, (Option.some.inj h).symm⟩
  · cases h
theorem zero_sl (w : World) : (zeroValue 46).run Try.prog w = .ok (.slice none 0 0) w := by kernel_rfl
/-- no texts -/
def nilS : Value := .slice none 0 0
end Go.Proofs.Ytngldlfobdiipaa.Lk
