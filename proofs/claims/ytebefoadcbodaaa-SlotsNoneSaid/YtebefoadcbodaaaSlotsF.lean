/-
  Slots: outcomes as arguments; the document's first one.
-/
import Derived.Test.YtebefoadcbodaaaSlotsE
import Derived.OpenShut
import Derived.Laws.BitsLemmas
namespace Go.Proofs.Ytebefoadcbodaaa
open Go.ChangeShapes Go.WideShapes Go.ChangeAt Go.RowKit
set_option linter.unusedVariables false
structure OT.Ok (o : OT) : Prop where
  kb : -9223372036854775808 ≤ o.k ∧ o.k ≤ 9223372036854775807
  vb : o.v.size ≤ 9223372036854775807
theorem trod_out {H : Type} {enc : TypeId × Value → H} {w : World} {base : Nat} {spare : Nat → Bool} {held : Bool} {fuel : Nat} {cs : List Value} {x : DataW H × List MemPlace}
    (h : DataW.trod enc Try.prog w base spare held fuel 29 cs = some x) : ∃ o : OT, cs = o.cells ∧ o.Ok := by
  have hu := Try.underlying29
  have hu2 := Try.underlying27
  have hlen : cs.length = 6 := (struct_len hu h).trans (by kernel_rfl)
  obtain ⟨k, hk, wk⟩ := int_at hu h 0 0 3 rfl (k := .i64) Try.underlying3 (by kernel_rfl)
  obtain ⟨r, hr, wr⟩ := int_at hu h 1 1 3 rfl (k := .i64) Try.underlying3 (by kernel_rfl)
  obtain ⟨sub, m, y, hy, hj⟩ := field_sub hu h 2 2 27 4 rfl (by kernel_rfl)
  obtain ⟨c, hc, wc⟩ := int_at hu2 hy 0 0 3 rfl (k := .i64) Try.underlying3 (by kernel_rfl)
  obtain ⟨v, hv, wv⟩ := string_at hu2 hy 1 1 9 rfl Try.underlying9 (by kernel_rfl)
  obtain ⟨n, hn, wn⟩ := int_at hu2 hy 2 2 3 rfl (k := .i64) Try.underlying3 (by kernel_rfl)
  obtain ⟨t, ht, wt⟩ := int_at hu2 hy 3 3 3 rfl (k := .i64) Try.underlying3 (by kernel_rfl)
  rw [hj 0 (by omega)] at hc
  rw [hj 1 (by omega)] at hv
  rw [hj 2 (by omega)] at hn
  rw [hj 3 (by omega)] at ht
  refine ⟨⟨k, r, c, v, n, t⟩, ?_, bounds_i64 wk, by unfold maxLen at wv; exact wv⟩
  match cs, hlen with
  | [a, b, c, d, e, f], _ =>
    simp at hk hr hc hv hn ht
    rw [hk, hr, hc, hv, hn, ht]
    rfl
abbrev OutsIn (w : World) (ad : Option Addr) (l : List OT) : Prop := RowsIn OT.cells OT.Ok 6 w ad l
/-- the first that may be -/
def firstX (l : List OT) : Option OT := l.find? OT.may
theorem may_yes {o : OT} : o.may = true ↔ 1 ≤ o.k ∧ o.k ≤ 3 := by unfold OT.may; simp; omega
theorem may_no {o : OT} : o.may = false ↔ o.k < 1 ∨ 3 < o.k := by
  have := may_yes (o := o)
  cases h : o.may <;> simp [h] at this ⊢ <;> omega
theorem first_next {l : List OT} {k : Nat} {o : OT} (h : l[k]? = some o) : firstX (l.take (k + 1)) = setX (firstX (l.take k)) o := by
  have hk := (List.getElem?_eq_some_iff.1 h).1
  rw [List.take_succ_eq_append_getElem hk]
  have e : l[k] = o := by rw [List.getElem?_eq_getElem hk] at h; simpa using h
  rw [e]
  unfold firstX setX
  rw [List.find?_append]
  cases List.find? OT.may (l.take k) with
  | none => cases hm : o.may <;> simp [hm]
  | some q => simp
theorem first_hit {l : List OT} {k : Nat} {o : OT} (hn : firstX (l.take k) = none) (h : l[k]? = some o) (hm : o.may = true) : firstX l = some o := by
  have hk := (List.getElem?_eq_some_iff.1 h).1
  have e : l[k] = o := by rw [List.getElem?_eq_getElem hk] at h; simpa using h
  have hl : l = l.take k ++ l.drop k := (List.take_append_drop k l).symm
  rw [hl]
  unfold firstX at hn ⊢
  rw [List.find?_append, hn, List.drop_eq_getElem_cons hk, e]
  simp [hm]
/-- where the document's loop stands -/
def FirstAt (l : List OT) (i : Value) : Prop := ∃ k : Nat, i = .int .i64 (k : Int) ∧ k ≤ l.length ∧ firstX (l.take k) = none
set_option maxRecDepth 100000 in
set_option maxHeartbeats 800000 in
theorem first_at (ad : Option Addr) (l : List OT) (cap : Nat) (w : World) (hl : l.length ≤ 60) (h : OutsIn w ad l) : Calls Try.prog 8 #[.slice ad l.length cap] w (ToldN (.tuple #[.agg ((firstX l).getD oZero).cells.toArray, .bool (firstX l).isSome]) w) := by
  have HA := hide h
  clear h
  go_enter Try.func8, Try.ntmps8
  go_wp2_with (first
    | (refine wpL_alloc rfl 29 rfl oZero.cells.toArray zero_outcome ?_; intro b2 w2 e2 k2 g2 z2))
  go_loop [4] (fun i => FirstAt l i) (fun i => l.length - (intOf i).toNat)
  case atStart => exact ⟨0, rfl, by omega, rfl⟩
  case round =>
    obtain ⟨k, rfl, hk, hn⟩ := hrel
    have HN := hide hn
    clear hn
    by_cases hlt : k < l.length
    · have d1 : decide (k < l.length) = true := by simpa using hlt
      obtain ⟨o, ho⟩ : ∃ o, l[k]? = some o := ⟨_, List.getElem?_eq_getElem hlt⟩
      obtain ⟨hok, bb, off, rfl, hrng⟩ := unhide HA k o ho
      have i1 : (0 : Int) ≤ (k : Int) := by omega
      have i2 : (k : Int) < (l.length : Int) := by omega
      have HR := hide (range_kept hrng k2)
      have c0 : w2.cell? ⟨bb, off + k * 6, none⟩ = some (.int .i64 o.k) := unhide HR 0 _ rfl
      have HO := hide ho
      clear ho hrng hok
      by_cases hm : o.may = true
      · obtain ⟨m1, m2⟩ := may_yes.1 hm
        have HM := hide hm
        clear hm
        go_wp2_with (first
          | (refine wpList_load_mid rfl 29 (.tmp 27) rfl bb (off + k * 6) rfl o.cells _ (unhide HR) Try.underlying29 rfl info_outcome ?_)
          | (refine wpL_store rfl 29 (.tmp 2) (.tmp 28) rfl b2 o.cells.toArray rfl rfl _ _ g2 info_outcome rfl (all_oneCell_toArray o.one) ?_; intro w3 k3 g3 z3))
        refine bodyPost_ret (results_row_tmp rfl _ _ b2 _ o.cells.toArray _ _ rfl g3 Try.underlying29 rfl info_outcome) rfl ?_
        rw [first_hit (unhide HN) (unhide HO) (unhide HM)]
        exact ⟨rfl, k2.past k3 (by omega)⟩
      · have hm' : o.may = false := by simpa using hm
        rcases may_no.1 hm' with m1 | m1
        · clear hm
          have HM := hide hm'
          clear hm'
          go_wp2_with fail
          exact ⟨⟨k + 1, rfl, by omega, by rw [first_next (unhide HO), unhide HN]; simp [setX, unhide HM]⟩, by simp [intOf]; omega⟩
        · have m2 : 1 ≤ o.k := by omega
          have HM := hide hm'
          clear hm' hm
          go_wp2_with fail
          exact ⟨⟨k + 1, rfl, by omega, by rw [first_next (unhide HO), unhide HN]; simp [setX, unhide HM]⟩, by simp [intOf]; omega⟩
    · have d1 : decide (k < l.length) = false := by simpa using hlt
      go_wp2_with (first
        | (refine wpL_build rfl 29 #[] rfl oZero.cells.toArray built_outcome ?_)
        | (refine wpL_store rfl 29 (.tmp 2) (.tmp 29) rfl b2 oZero.cells.toArray rfl rfl _ _ g2 info_outcome rfl (all_oneCell_toArray oZero.one) ?_; intro w3 k3 g3 z3))
      refine bodyPost_ret (results_row_tmp rfl _ _ b2 _ oZero.cells.toArray _ _ rfl g3 Try.underlying29 rfl info_outcome) rfl ?_
      have hf := unhide HN
      rw [List.take_of_length_le (by omega)] at hf
      rw [hf]
      exact ⟨rfl, k2.past k3 (by omega)⟩
end Go.Proofs.Ytebefoadcbodaaa
