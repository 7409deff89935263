/-
  Links: the object; isNone, isAddress, New, slices.Clone, Count, List, find.
-/
import Derived.Test.YtngldlfobdiipaaLinksC
import Derived.Test.YtngldlfobdiipaaKitV
import Derived.Test.YtngldlfobdiipaaShelf
import Derived.Deep.QuietTactic
import Derived.BigQuiet
import Derived.StillTailTactics
namespace Go.Proofs.Ytngldlfobdiipaa.Lk
open Go.ChangeShapes Go.WideShapes Go.ChangeAt Go.RowKit
set_option linter.unusedVariables false
attribute [local go_sem] bs_size bs_app bs_cut bs_tl bs_at
theorem info_mail : (Try.prog.info? 33).map (·.size) = some 3 := by kernel_rfl
theorem zero_mail : (Try.prog.info? 33).bind (·.zero) = some (.agg mZero.cells.toArray) := by kernel_rfl
theorem infx_str : (Try.prog.info? 9).map (fun i => (i.zero, i.size, i.bytes)) = some (some (str []), 1, 16) := by kernel_rfl
/-! ### the object -/
/-- links at b, their map at m -/
structure LkAt (w : World) (b m : Nat) (cap : Nat) (L : List ML) (F : Hd) : Prop where
  p : w.heap[b]? = some (.cells #[.int .i64 (cap : Int), .map (some m)] 51 (0, 0))
  m : MapAt w m L F
  fit : Fit cap L
  low : 1 ≤ cap
  high : cap ≤ 64
section
variable {w w' : World} {b m cap : Nat} {L : List ML} {F : Hd} {S : Nat → Prop}
theorem LkAt.lt (h : LkAt w b m cap L F) : b < w.heap.size := lt_of_block h.p
theorem LkAt.ne (h : LkAt w b m cap L F) : b ≠ m := fun e => by
  obtain ⟨es, clock, h1⟩ := h.m.block
  have := h.p
  rw [e, h1] at this
  cases this
theorem LkAt.neF (h : LkAt w b m cap L F) {x y : Int} {g : Nat} (hg : (F x y).ownBlock = some g) : g ≠ b := by
  obtain ⟨cur, hb⟩ := (h.m.rows.row x y).block hg
  exact ne_type hb h.p (by decide)
theorem LkAt.c0 (h : LkAt w b m cap L F) : w.cell? ⟨b, 0, none⟩ = some (.int .i64 (cap : Int)) := cellAt h.p 0 _ rfl
theorem LkAt.c1 (h : LkAt w b m cap L F) : w.cell? ⟨b, 1, none⟩ = some (.map (some m)) := cellAt h.p 1 _ rfl
theorem LkAt.kept (h : LkAt w b m cap L F) (k : Chg S w w') (hb : ¬ S b) (hm : ¬ S m) (hS : ∀ a b g, (F a b).ownBlock = some g → ¬ S g) : LkAt w' b m cap L F := ⟨k.at h.p hb, h.m.kept k hm hS, h.fit, h.low, h.high⟩
theorem LkAt.no (h : LkAt w b m cap L F) (k : Chg noBlk w w') : LkAt w' b m cap L F := h.kept k id id fun _ _ _ _ => id
theorem run_map_is {P : Program} (w : World) (t k e : TypeId) (p : Option Nat) (h : P.underlying t = some (.map k e)) : (binOp .eql t (.map p) (.map none)).run P w = .ok (.bool p.isNone) w := by
  have e : ∀ d, (Op.equalIn (d + 1) t (.map p) (.map none)).run P w = .ok p.isNone w := fun d => by
    cases p <;> simp [Op.equalIn, run_underlying h]
  have e := e 9999
  simp only [binOp]
  simp [show Op.equal t (.map p) (.map none) = Op.equalIn (9999 + 1) t (.map p) (.map none) from rfl, e]
theorem run_map_some (w : World) (m : Nat) : (binOp .eql 49 (.map (some m)) (.map none)).run Try.prog w = .ok (.bool false) w := run_map_is w _ _ _ (some m) Try.underlying49
theorem run_map_none (w : World) : (binOp .eql 49 (.map none) (.map none)).run Try.prog w = .ok (.bool true) w := run_map_is w _ _ _ none Try.underlying49
theorem isnone_at (h : LkAt w b m cap L F) : Calls Try.prog 26 #[.pointer (some ⟨b, 0, none⟩)] w (Told (.bool false) w) := by
  have c1 := h.c1
  have hq := fun w => run_map_some w m
  clear h
  go_enter Try.func26, Try.ntmps26
  go_wp2
  go_ret
  exact ⟨rfl, rfl⟩
/-- links that are none -/
def NoneAt (w : World) (p : Value) : Prop := p = .pointer none ∨ ∃ b, p = .pointer (some ⟨b, 0, none⟩) ∧ w.heap[b]? = some (.cells #[.int .i64 0, .map none] 51 (0, 0))
theorem NoneAt.no {p : Value} (h : NoneAt w p) (k : Chg noBlk w w') : NoneAt w' p := by
  rcases h with h | ⟨b, h, hb⟩
  · exact .inl h
  · exact .inr ⟨b, h, k.at hb id⟩
theorem isnone_yes {p : Value} (h : NoneAt w p) : Calls Try.prog 26 #[p] w (Told (.bool true) w) := by
  rcases h with rfl | ⟨b, rfl, hb⟩
  · go_enter Try.func26, Try.ntmps26
    go_wp2
    go_ret
    exact ⟨rfl, rfl⟩
  · have c1 : w.cell? ⟨b, 1, none⟩ = some (.map none) := cellAt hb 1 _ rfl
    have hq := fun w => run_map_none w
    clear hb
    go_enter Try.func26, Try.ntmps26
    go_wp2
    go_ret
    exact ⟨rfl, rfl⟩
end
/-! ### addresses -/
theorem isA_ways (n : Int) : (isA n = false ∧ n < 0) ∨ (isA n = true ∧ 0 ≤ n ∧ n ≤ 5) ∨ (isA n = false ∧ 6 ≤ n ∧ n ≤ 15) ∨ (isA n = true ∧ n = 16) ∨ (isA n = false ∧ 17 ≤ n ∧ n ≤ 31) ∨ (isA n = true ∧ 32 ≤ n ∧ n ≤ 37) ∨ (isA n = false ∧ 38 ≤ n) := by
  cases h : isA n
  · have := isA_no h
    simp
    omega
  · have := isA_yes.1 h
    simp
    omega
theorem bool_end {a b : Bool} {w : World} (h : a = b) : Told (.bool b) w (.returned (.bool a)) w := ⟨by rw [h], rfl⟩
theorem address_any (n : Int) (w : World) : Calls Try.prog 28 #[.int .i64 n] w (Told (.bool (isA n)) w) := by
  rcases isA_ways n with ⟨e, h⟩ | ⟨e, h, h'⟩ | ⟨e, h, h'⟩ | ⟨e, h⟩ | ⟨e, h, h'⟩ | ⟨e, h, h'⟩ | ⟨e, h⟩
  all_goals
    rw [e]
    clear e
  case' inr.inr.inr.inl => subst h
  case' inl => have d1 : (n == 16) = false := beq_eq_false_iff_ne.2 (by omega)
  case' inr.inl => have d1 : (n == 16) = false := beq_eq_false_iff_ne.2 (by omega)
  case' inr.inr.inl => have d1 : (n == 16) = false := beq_eq_false_iff_ne.2 (by omega)
  case' inr.inr.inr.inr.inl => have d1 : (n == 16) = false := beq_eq_false_iff_ne.2 (by omega)
  case' inr.inr.inr.inr.inr.inl => have d1 : (n == 16) = false := beq_eq_false_iff_ne.2 (by omega)
  case' inr.inr.inr.inr.inr.inr => have d1 : (n == 16) = false := beq_eq_false_iff_ne.2 (by omega)
  all_goals
    go_enter Try.func28, Try.ntmps28
    go_wp2
    go_ret
    first
      | exact ⟨rfl, rfl⟩
      | exact bool_end (by simp; omega)
theorem raddress_any (n : Int) (w : World) : Calls Try.prog 30 #[.int .i64 n] w (Told (.bool (isA n)) w) := by
  rcases isA_ways n with ⟨e, h⟩ | ⟨e, h, h'⟩ | ⟨e, h, h'⟩ | ⟨e, h⟩ | ⟨e, h, h'⟩ | ⟨e, h, h'⟩ | ⟨e, h⟩
  all_goals
    rw [e]
    clear e
  case' inr.inr.inr.inl => subst h
  case' inl => have d1 : (n == 16) = false := beq_eq_false_iff_ne.2 (by omega)
  case' inr.inl => have d1 : (n == 16) = false := beq_eq_false_iff_ne.2 (by omega)
  case' inr.inr.inl => have d1 : (n == 16) = false := beq_eq_false_iff_ne.2 (by omega)
  case' inr.inr.inr.inr.inl => have d1 : (n == 16) = false := beq_eq_false_iff_ne.2 (by omega)
  case' inr.inr.inr.inr.inr.inl => have d1 : (n == 16) = false := beq_eq_false_iff_ne.2 (by omega)
  case' inr.inr.inr.inr.inr.inr => have d1 : (n == 16) = false := beq_eq_false_iff_ne.2 (by omega)
  all_goals
    go_enter Try.func30, Try.ntmps30
    go_wp2
    go_ret
    first
      | exact ⟨rfl, rfl⟩
      | exact bool_end (by simp; omega)
/-! ### New -/
/-- told: new links without mail -/
def NewLk (cap : Nat) (w : World) (e : Ending) (w' : World) : Prop := ∃ b m, e = .returned (.tuple #[.pointer (some ⟨b, 0, none⟩), .int .i64 0]) ∧ w.heap.size ≤ b ∧ w.heap.size ≤ m ∧ Chg noBlk w w' ∧ LkAt w' b m cap [] (fun _ _ => nilS)
theorem new_yes (cap : Nat) (w : World) (h1 : 1 ≤ cap) (h2 : cap ≤ 64) : Calls Try.prog 8 #[.int .i64 (cap : Int)] w (NewLk cap w) := by
  have hmm := @run_makeMap Try.prog
  have d1 : decide ((cap : Int) < 1) = false := by simp; omega
  have d2 : decide ((64 : Int) < (cap : Int)) = false := by simp; omega
  have H1 := hide h1
  have H2 := hide h2
  clear h1 h2
  go_enter Try.func8, Try.ntmps8
  go_wp2
  go_ret2
  refine ⟨w.heap.size + 1, w.heap.size, rfl, by omega, Nat.le_refl _, ((Chg.refl _ _).alloc _).alloc _, ?_, (map_made w).no ((Chg.refl _ _).alloc _), fit_nil cap, unhide H1, unhide H2⟩
  have := heap_alloc_new (w.alloc (.map #[] 0)) (.cells #[.int .i64 (cap : Int), .map (some w.heap.size)] 51)
  simpa using this
theorem new_no (n : Int) (w : World) (h : n < 1 ∨ 64 < n) : Calls Try.prog 8 #[.int .i64 n] w (Told (.tuple #[.pointer none, .int .i64 2]) w) := by
  rcases h with h | h
  · go_enter Try.func8, Try.ntmps8
    go_wp2
    go_ret2
    exact ⟨rfl, rfl⟩
  · have h1 : ¬ n < 1 := by omega
    go_enter Try.func8, Try.ntmps8
    go_wp2
    go_ret2
    exact ⟨rfl, rfl⟩
end Go.Proofs.Ytngldlfobdiipaa.Lk
