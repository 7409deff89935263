/-
  Counters: acts as arguments; one contract for all that may be added; the document's likewise.
-/
import Derived.Test.YtpgmpfhhmnnejaaCountsE
import Derived.OpenShut
import Derived.Deep.CutBlock
import Derived.Deep.RegionHeld3
import Derived.Laws.BitsLemmas
namespace Go.Proofs.Ytpgmpfhhmnnejaa
open Go.ChangeShapes Go.WideShapes Go.ChangeAt Go.RowKit
set_option linter.unusedVariables false
/-- an act: which counter, by what -/
structure AT where
  i : Int
  y : Int
def AT.cells (a : AT) : List Value := [.int .i64 a.i, .int .i64 a.y]
structure AT.Ok (a : AT) : Prop where
  i0 : -9223372036854775808 ≤ a.i ∧ a.i ≤ 9223372036854775807
  y0 : -9223372036854775808 ≤ a.y ∧ a.y ≤ 9223372036854775807
theorem trod_act {H : Type} {enc : TypeId × Value → H} {w : World} {base : Nat} {spare : Nat → Bool} {held : Bool} {fuel : Nat} {cs : List Value} {x : DataW H × List MemPlace}
    (h : DataW.trod enc Try.prog w base spare held fuel 35 cs = some x) : ∃ a : AT, cs = a.cells ∧ a.Ok := by
  have hu := Try.underlying35
  have hlen : cs.length = 2 := (struct_len hu h).trans (by kernel_rfl)
  obtain ⟨k, hk, wk⟩ := int_at hu h 0 0 3 rfl (k := .i64) Try.underlying3 (by kernel_rfl)
  obtain ⟨i, hi, wi⟩ := int_at hu h 1 1 2 rfl (k := .i64) Try.underlying2 (by kernel_rfl)
  refine ⟨⟨k, i⟩, ?_, bounds_i64 wk, bounds_i64 wi⟩
  match cs, hlen with
  | [a, b], _ => simp at hk hi; rw [hk, hi]; rfl
abbrev ActsIn (w : World) (ad : Option Addr) (l : List AT) : Prop := RowsIn AT.cells AT.Ok 2 w ad l
theorem size_act : (Try.prog.info? 35).map (·.size) = some 2 := by kernel_rfl
theorem zero_act : (Try.prog.info? 35).bind (·.zero) = some (.agg #[.int .i64 0, .int .i64 0]) := by kernel_rfl
theorem AT.one (a : AT) : a.cells.toArray.all (·.oneCell') = true := all_oneCell_toArray (by simp [AT.cells, Value.oneCell'])
/-- what counters are behind an act, what is told, the error -/
def addL (l : List Int) (a : AT) : List Int := if a.y < 0 then l else match l[a.i.toNat]? with
  | some x => if a.i < 0 then l else l.set a.i.toNat (up x a.y)
  | none => l
def addX (l : List Int) (a : AT) : Int := if a.y < 0 then 0 else match l[a.i.toNat]? with
  | some x => if a.i < 0 then 0 else up x a.y
  | none => 0
def addE (l : List Int) (a : AT) : Int := if a.y < 0 then 2 else match l[a.i.toNat]? with
  | some x => if a.i < 0 then 4 else 0
  | none => 4
/-- the three ways of an act -/
theorem add_ways (l : List Int) (a : AT) : (a.y < 0 ∧ addL l a = l ∧ addX l a = 0 ∧ addE l a = 2) ∨
    (0 ≤ a.y ∧ (a.i < 0 ∨ (l.length : Int) ≤ a.i) ∧ addL l a = l ∧ addX l a = 0 ∧ addE l a = 4) ∨
    (0 ≤ a.y ∧ ∃ (k : Nat) (x : Int), a.i = (k : Int) ∧ l[k]? = some x ∧ addL l a = l.set k (up x a.y) ∧ addX l a = up x a.y ∧ addE l a = 0) := by
  unfold addL addX addE
  by_cases hy : a.y < 0
  · exact .inl ⟨hy, by simp [hy], by simp [hy], by simp [hy]⟩
  · have hy0 : 0 ≤ a.y := by omega
    cases hq : l[a.i.toNat]? with
    | none =>
      have := List.getElem?_eq_none_iff.1 hq
      exact .inr (.inl ⟨hy0, by omega, by simp, by simp [hy], by simp [hy]⟩)
    | some x =>
      by_cases hi : a.i < 0
      · exact .inr (.inl ⟨hy0, .inl hi, by simp [hi], by simp [hi], by simp [hy, hi]⟩)
      · exact .inr (.inr ⟨hy0, a.i.toNat, x, by omega, hq, by simp [hy, hi], by simp [hy, hi], by simp [hy, hi]⟩)
theorem addL_len (l : List Int) (a : AT) : (addL l a).length = l.length := by
  rcases add_ways l a with ⟨_, h, _⟩ | ⟨_, _, h, _⟩ | ⟨_, k, x, _, _, h, _⟩ <;> rw [h]
  exact List.length_set ..
section
variable {w w' : World} {b g q cap : Nat} {l : List Int} {a : AT}
theorem add_any (h : CAt w b g l) (o : a.Ok) : Calls Try.prog 10 #[.pointer (some ⟨b, 0, none⟩), .int .i64 a.i, .int .i64 a.y] w (DidC b g (.tuple #[.int .i64 (addX l a), .int .i64 (addE l a)]) (addL l a) w) := by
  rcases add_ways l a with ⟨hy, h1, h2, h3⟩ | ⟨hy, hi, h1, h2, h3⟩ | ⟨hy, k, x, hi, hk, h1, h2, h3⟩
  · rw [h1, h2, h3]
    exact (add_arg h hy).mono fun e w' ⟨he, hw⟩ => by subst hw; exact ⟨he, Chg.refl _ _, h⟩
  · rw [h1, h2, h3]
    exact (add_not h hy hi).mono fun e w' ⟨he, hw⟩ => by subst hw; exact ⟨he, Chg.refl _ _, h⟩
  · rw [h1, h2, h3, hi]
    exact add_at h hy o.y0.2 hk
theorem radd_any (h : LAt w q cap l) (f : Fit l) (o : a.Ok) : Calls Try.prog 11 #[.slice (some ⟨q, 0, none⟩) l.length cap, .int .i64 a.i, .int .i64 a.y] w
    (fun e w' => ∃ q2 cap2, e = .returned (.tuple #[.slice (some ⟨q2, 0, none⟩) (addL l a).length cap2, .int .i64 (addX l a), .int .i64 (addE l a)]) ∧ (q2 = q ∨ w.heap.size ≤ q2) ∧ Chg noBlk w w' ∧ LAt w' q2 cap2 (addL l a)) := by
  rcases add_ways l a with ⟨hy, h1, h2, h3⟩ | ⟨hy, hi, h1, h2, h3⟩ | ⟨hy, k, x, hi, hk, h1, h2, h3⟩
  · rw [h1, h2, h3]
    exact (radd_arg _ hy).mono fun e w' ⟨he, hw⟩ => by subst hw; exact ⟨q, cap, he, .inl rfl, Chg.refl _ _, h⟩
  · rw [h1, h2, h3]
    exact (radd_not _ _ _ hy hi).mono fun e w' ⟨he, hw⟩ => by subst hw; exact ⟨q, cap, he, .inl rfl, Chg.refl _ _, h⟩
  · rw [h1, h2, h3, hi]
    exact (radd_at h f hy o.y0.2 hk).mono fun e w' ⟨q2, cap2, he, hq, hc, hl⟩ => ⟨q2, cap2, he, .inr hq, hc, hl⟩
end
/-- the counters and the document's, alike, and apart -/
structure Both (w0 w : World) (b g q cap : Nat) (l : List Int) : Prop where
  p : CAt w b g l
  r : LAt w q cap l
  nb : w0.heap.size ≤ b
  ng : w0.heap.size ≤ g
  nq : w0.heap.size ≤ q
  nqg : q ≠ g
  kept : Chg noBlk w0 w
section
variable {w0 w5 w6 w7 w8 w9 : World} {b g q cap b2 g2 q2 cap2 : Nat} {l m : List Int}
theorem Both.no (h : Both w0 w5 b g q cap l) (k : Chg noBlk w5 w6) : Both w0 w6 b g q cap l := ⟨h.p.no k, h.r.no k, h.nb, h.ng, h.nq, h.nqg, h.kept.andNo k⟩
/-- a copy made, both added to, the copy added to -/
theorem Both.next (h : Both w0 w5 b g q cap l) (k6 : Chg noBlk w5 w6) (hg2 : w5.heap.size ≤ g2) (l6 : g2 < w6.heap.size) (k7 : Chg (oneBlk g) w6 w7) (h7 : CAt w7 b g m) (k8 : Chg noBlk w7 w8) (h8 : LAt w8 q2 cap2 m) (hq : q2 = q ∨ w7.heap.size ≤ q2) (k9 : Chg (oneBlk g2) w8 w9) : Both w0 w9 b g q2 cap2 m := by
  have a1 := h.nb
  have a2 := h.ng
  have a3 := h.nq
  have a4 := h.p.ltb
  have a5 := h.p.ltg
  have a6 := h.r.lt
  have a7 := k6.size
  have a8 := k7.size
  have a9 := h.kept.size
  have b1 := h.nqg
  refine ⟨(h7.no k8).kept k9 (fun e => by have e : b = g2 := e; omega) (fun e => by have e : g = g2 := e; omega), h8.kept k9 (fun e => by have e : q2 = g2 := e; rcases hq with hq | hq <;> omega), a1, a2, by rcases hq with hq | hq <;> omega, by rcases hq with hq | hq <;> omega, ?_⟩
  exact (((h.kept.andNo k6).trans k7 fun i hi e => by have e : i = g := e; omega).andNo k8).trans k9 fun i hi e => by have e : i = g2 := e; omega
end
end Go.Proofs.Ytpgmpfhhmnnejaa
