/-
  Keys with values: acts as arguments; are they more than is gone through?
-/
import Derived.Test.YtbccebdhdppegaaKvJ
import Derived.Test.YtbccebdhdppegaaKitL
import Derived.Test.YtbccebdhdppegaaKitV
import Derived.OpenShut
import Derived.Laws.BitsLemmas
namespace Go.Proofs.Ytbccebdhdppegaa
open Go.ChangeShapes Go.WideShapes Go.ChangeAt Go.RowKit
set_option linter.unusedVariables false
attribute [local go_sem] bs_size bs_app bs_cut bs_tl bs_at
structure PT.Ok (o : PT) : Prop where
  kb : -9223372036854775808 ≤ o.k ∧ o.k ≤ 9223372036854775807
  vb : -9223372036854775808 ≤ o.ver ∧ o.ver ≤ 9223372036854775807
  kl : o.key.length ≤ 9223372036854775807
  vl : o.val.length ≤ 9223372036854775807
theorem trod_op {H : Type} {enc : TypeId × Value → H} {w : World} {base : Nat} {spare : Nat → Bool} {held : Bool} {fuel : Nat} {cs : List Value} {x : DataW H × List MemPlace}
    (h : DataW.trod enc Try.prog w base spare held fuel 29 cs = some x) : ∃ o : PT, cs = o.cells ∧ o.Ok := by
  have hu := Try.underlying29
  have hlen : cs.length = 4 := (struct_len hu h).trans (by kernel_rfl)
  obtain ⟨k, hk, wk⟩ := int_at hu h 0 0 3 rfl (k := .i64) Try.underlying3 (by kernel_rfl)
  obtain ⟨s, hs, ws⟩ := string_at hu h 1 1 9 rfl Try.underlying9 (by kernel_rfl)
  obtain ⟨v, hv, wv⟩ := string_at hu h 2 2 9 rfl Try.underlying9 (by kernel_rfl)
  obtain ⟨n, hn, wn⟩ := int_at hu h 3 3 3 rfl (k := .i64) Try.underlying3 (by kernel_rfl)
  refine ⟨⟨k, s.data.toList, v.data.toList, n⟩, ?_, bounds_i64 wk, bounds_i64 wn, ?_, ?_⟩
  · match cs, hlen with
    | [a, b, c, d], _ =>
      simp at hk hs hv hn
      rw [hk, hs, hv, hn]
      show _ = [Value.int .i64 k, .string (bs s.data.toList), .string (bs v.data.toList), .int .i64 n]
      rw [← bs_list, ← bs_list]
  · unfold maxLen at ws
    show s.data.toList.length ≤ _
    rw [Array.length_toList]; exact ws
  · unfold maxLen at wv
    show v.data.toList.length ≤ _
    rw [Array.length_toList]; exact wv
/-- an act: its kind, its number, its operation -/
structure AT where
  k : Int
  i : Int
  op : PT
def AT.cells (a : AT) : List Value := [.int .u8 a.k, .int .i64 a.i, .int .i64 a.op.k, str a.op.key, str a.op.val, .int .i64 a.op.ver]
structure AT.Ok (a : AT) : Prop where
  k0 : 0 ≤ a.k ∧ a.k ≤ 255
  i0 : -9223372036854775808 ≤ a.i ∧ a.i ≤ 9223372036854775807
  o0 : a.op.Ok
theorem trod_act {H : Type} {enc : TypeId × Value → H} {w : World} {base : Nat} {spare : Nat → Bool} {held : Bool} {fuel : Nat} {cs : List Value} {x : DataW H × List MemPlace}
    (h : DataW.trod enc Try.prog w base spare held fuel 31 cs = some x) : ∃ a : AT, cs = a.cells ∧ a.Ok := by
  have hu := Try.underlying31
  have hlen : cs.length = 6 := (struct_len hu h).trans (by kernel_rfl)
  obtain ⟨k, hk, wk⟩ := int_at hu h 0 0 5 rfl (k := .u8) Try.underlying5 (by kernel_rfl)
  obtain ⟨i, hi, wi⟩ := int_at hu h 1 1 3 rfl (k := .i64) Try.underlying3 (by kernel_rfl)
  obtain ⟨sub, m, y, hy, hj⟩ := field_sub hu h 2 2 29 4 rfl (by kernel_rfl)
  obtain ⟨o, rfl, ho⟩ := trod_op hy
  have j0 := hj 0 (by omega)
  have j1 := hj 1 (by omega)
  have j2 := hj 2 (by omega)
  have j3 := hj 3 (by omega)
  refine ⟨⟨k, i, o⟩, ?_, bounds_u8 wk, bounds_i64 wi, ho⟩
  match cs, hlen with
  | [a, b, c, d, e, f], _ =>
    simp [PT.cells] at hk hi j0 j1 j2 j3
    rw [hk, hi, ← j0, ← j1, ← j2, ← j3]
    rfl
abbrev ActsIn (w : World) (ad : Option Addr) (l : List AT) : Prop := RowsIn AT.cells AT.Ok 6 w ad l
theorem size_act : (Try.prog.info? 31).map (·.size) = some 6 := by kernel_rfl
theorem zero_act : (Try.prog.info? 31).bind (·.zero) = some (.agg #[.int .u8 0, .int .i64 0, .int .i64 0, .string ⟨#[]⟩, .string ⟨#[]⟩, .int .i64 0]) := by kernel_rfl
theorem AT.one (a : AT) : ∀ u ∈ a.cells, u.oneCell' = true := by intro u hu; simp [AT.cells] at hu; rcases hu with rfl | rfl | rfl | rfl | rfl | rfl <;> rfl
theorem act_op {w : World} {b o : Nat} {a : AT} (h : w.rangeAt b o a.cells) : w.rangeAt b (o + 2) a.op.cells := fun j v hj => by
  have hl : j < 4 := (List.getElem?_eq_some_iff.1 hj).1
  have e : a.cells[2 + j]? = some v := by
    rw [← hj]
    rcases j with _ | _ | _ | _ | j
    · rfl
    · rfl
    · rfl
    · rfl
    · omega
  have := h (2 + j) v e
  rwa [← Nat.add_assoc] at this
/-- is it more than is gone through? -/
def greatB (o : PT) : Bool := decide (300 < o.key.length) || decide (300 < o.val.length)
theorem great_yes {o : PT} : greatB o = true ↔ 300 < o.key.length ∨ 300 < o.val.length := by unfold greatB; simp
theorem great_no {o : PT} : greatB o = false ↔ o.key.length ≤ 300 ∧ o.val.length ≤ 300 := by unfold greatB; simp
set_option maxRecDepth 100000 in
theorem great_op (o : PT) (w : World) : Calls Try.prog 19 #[.agg o.cells.toArray] w (ToldN (.bool (greatB o)) w) := by
  have hw : (∃ b, greatB o = b ∧ ((b = true ∧ decide ((300 : Int) < (o.key.length : Int)) = true) ∨ (b = true ∧ decide ((300 : Int) < (o.key.length : Int)) = false ∧ decide ((300 : Int) < (o.val.length : Int)) = true) ∨ (b = false ∧ decide ((300 : Int) < (o.key.length : Int)) = false ∧ decide ((300 : Int) < (o.val.length : Int)) = false))) := by
    refine ⟨_, rfl, ?_⟩
    by_cases h1 : 300 < o.key.length
    · exact .inl ⟨great_yes.2 (.inl h1), decide_eq_true (by omega)⟩
    by_cases h2 : 300 < o.val.length
    · exact .inr (.inl ⟨great_yes.2 (.inr h2), by simp; omega, decide_eq_true (by omega)⟩)
    · exact .inr (.inr ⟨great_no.2 ⟨by omega, by omega⟩, by simp; omega, by simp; omega⟩)
  obtain ⟨b, hb, hw⟩ := hw
  rw [hb]
  clear hb
  rcases hw with ⟨rfl, d1⟩ | ⟨rfl, d1, d2⟩ | ⟨rfl, d1, d2⟩
  all_goals
    have tk : True := True.intro
    go_enter Try.func19, Try.ntmps19
    go_wp2_with ((with_reducible show wpList _ _ _ (_ :: _) _ _); clear tk; refine wpL_box rfl 29 (.tmp 0) rfl o.cells.toArray rfl ?_; intro b w1 e1 k1 g1 z1; have G1 : OpAt w1 b o := g1; have c1 := G1.c1; have c2 := G1.c2; clear g1 z1 e1 G1)
    go_ret
    exact ⟨rfl, k1⟩
/-- are these more than is gone through? -/
def greatL (l : List AT) (n : Nat) : Bool := l.any (fun a => greatB a.op) || decide (n < l.length)
theorem greatL_hit {l : List AT} {k : Nat} {a : AT} (n : Nat) (h : l[k]? = some a) (hg : greatB a.op = true) : greatL l n = true := by
  unfold greatL
  rw [List.any_eq_true.2 ⟨a, List.mem_of_getElem? h, hg⟩]; rfl
theorem greatL_end {l : List AT} (n : Nat) (h : ∀ (i : Nat) (a : AT), i < l.length → l[i]? = some a → greatB a.op = false) : greatL l n = decide (n < l.length) := by
  unfold greatL
  have : l.any (fun a => greatB a.op) = false := List.any_eq_false.2 fun a ha => by
    obtain ⟨i, hi, e⟩ := List.getElem_of_mem ha
    simp [h i a hi (by rw [List.getElem?_eq_getElem hi, e])]
  rw [this]; rfl
theorem greatL_no {l : List AT} {n : Nat} (h : greatL l n = false) : l.length ≤ n ∧ ∀ (i : Nat) (a : AT), l[i]? = some a → greatB a.op = false := by
  unfold greatL at h
  rw [Bool.or_eq_false_iff] at h
  refine ⟨by simpa using h.2, fun i a ha => ?_⟩
  have := List.any_eq_false.1 h.1 a (List.mem_of_getElem? ha)
  simpa using this
theorem info_op5 : (Try.prog.info? 29).map (·.size) = some 4 := by kernel_rfl
set_option maxRecDepth 100000 in
set_option maxHeartbeats 1000000 in
theorem great_any (ad : Option Addr) (l : List AT) (cap n : Nat) (w : World) (hn : n ≤ 1000) (h : ActsIn w ad l) (hm : l.length ≤ 9223372036854775807) :
    Calls Try.prog 6 #[.slice ad l.length cap, .int .i64 (n : Int)] w (ToldN (.bool (greatL l n)) w) := by
  have HA := hide h
  have HM := hide hm
  clear h hm
  go_enter Try.func6, Try.ntmps6
  go_wp2
  go_loopw [5] (fun i wr => ∃ k : Nat, k ≤ l.length ∧ i = .int .i64 (k : Int) ∧ (∀ j a, j < k → l[j]? = some a → greatB a.op = false) ∧ Chg noBlk w wr) (fun i wr => l.length - (intOf i).toNat)
  case atStart => exact ⟨0, by omega, rfl, fun j a hj => by omega, Chg.refl _ _⟩
  case round =>
    obtain ⟨k, hk, rfl, hg, kw⟩ := hrel
    have KW := hide kw
    have HG := hide hg
    clear kw hg
    by_cases hlt : k < l.length
    · have d1 : decide (k < l.length) = true := by simpa using hlt
      obtain ⟨a, ha⟩ : ∃ a, l[k]? = some a := ⟨_, List.getElem?_eq_getElem hlt⟩
      obtain ⟨hok, bb, off, rfl, hrng⟩ := unhide HA k a ha
      have i1 : (0 : Int) ≤ (k : Int) := by omega
      have i2 : (k : Int) < (l.length : Int) := by omega
      have i3 : (k : Int) < 9223372036854775807 := by have := unhide HM; omega
      have hr1 := hide (act_op (range_kept hrng (unhide KW)))
      have HAA := hide ha
      obtain ⟨g, hgb⟩ : ∃ g, greatB a.op = g := ⟨_, rfl⟩
      have HC := hide (fun w => great_op a.op w)
      rw [hgb] at HC
      have HGB := hide hgb
      clear ha hok hrng hgb
      cases g
      · go_wp2_with (first
          | (go_at_call 19; refine (unhide HC _).mono ?_; rintro e w2 ⟨rfl, k2⟩; have K2 := hide k2; clear k2)
          | ((with_reducible show wpList _ _ _ (_ :: _) _ _); refine wpList_load_mid rfl 29 (.tmp 15) rfl bb (off + k * 6 + 2) rfl a.op.cells _ (unhide hr1) Try.underlying29 rfl (by rw [info_op5]; rfl) ?_))
        go_roundw
        case rel =>
          refine ⟨k + 1, by omega, by go_num, fun j b hj hb => ?_, (unhide KW).andNo (unhide K2)⟩
          by_cases e : j = k
          · subst e
            have := unhide HAA
            rw [this] at hb
            obtain rfl : a = b := Option.some.inj hb
            exact unhide HGB
          · exact unhide HG j b (by omega) hb
        case measure => simp [intOf]; omega
      · have HE := hide (greatL_hit n (unhide HAA) (unhide HGB))
        go_wp2_with (first
          | (go_at_call 19; refine (unhide HC _).mono ?_; rintro e w2 ⟨rfl, k2⟩; have K2 := hide k2; clear k2)
          | ((with_reducible show wpList _ _ _ (_ :: _) _ _); refine wpList_load_mid rfl 29 (.tmp 15) rfl bb (off + k * 6 + 2) rfl a.op.cells _ (unhide hr1) Try.underlying29 rfl (by rw [info_op5]; rfl) ?_))
        go_ret
        exact ⟨by rw [unhide HE]; rfl, (unhide KW).andNo (unhide K2)⟩
    · obtain rfl : k = l.length := by omega
      have HE := hide (greatL_end n (unhide HG))
      go_wp2
      go_ret
      refine ⟨?_, unhide KW⟩
      rw [unhide HE]
      rfl
end Go.Proofs.Ytbccebdhdppegaa
