/-
  Operations: the chapter's examples; is an operation more than is gone through; operations as arguments.
-/
import Derived.Test.YtmknjeomkfoidaaOpsG
import Derived.OpenShut
import Derived.Laws.BitsLemmas
namespace Go.Proofs.Ytmknjeomkfoidaa
open Go.ChangeShapes Go.WideShapes Go.ChangeAt Go.RowKit
set_option linter.unusedVariables false
attribute [local go_sem] bs_size bs_app bs_cut bs_tl bs_at
structure PT.Ok (o : PT) : Prop where
  kb : -9223372036854775808 ≤ o.k ∧ o.k ≤ 9223372036854775807
  vb : -9223372036854775808 ≤ o.ver ∧ o.ver ≤ 9223372036854775807
  kl : o.key.length ≤ 9223372036854775807
  vl : o.val.length ≤ 9223372036854775807
theorem trod_op {H : Type} {enc : TypeId × Value → H} {w : World} {base : Nat} {spare : Nat → Bool} {held : Bool} {fuel : Nat} {cs : List Value} {x : DataW H × List MemPlace}
    (h : DataW.trod enc Try.prog w base spare held fuel 23 cs = some x) : ∃ o : PT, cs = o.cells ∧ o.Ok := by
  have hu := Try.underlying23
  have hlen : cs.length = 4 := (struct_len hu h).trans (by kernel_rfl)
  obtain ⟨k, hk, wk⟩ := int_at hu h 0 0 3 rfl (k := .i64) Try.underlying3 (by kernel_rfl)
  obtain ⟨s, hs, ws⟩ := string_at hu h 1 1 9 rfl Try.underlying9 (by kernel_rfl)
  obtain ⟨v, hv, wv⟩ := string_at hu h 2 2 9 rfl Try.underlying9 (by kernel_rfl)
  obtain ⟨n, hn, wn⟩ := int_at hu h 3 3 3 rfl (k := .i64) Try.underlying3 (by kernel_rfl)
  refine ⟨⟨k, s.data.toList, v.data.toList, n⟩, ?_, bounds_i64 wk, bounds_i64 wn, ?_, ?_⟩
  · match cs, hlen with
    | [a, b, c, d], _ =>
      simp at hk hs hv hn
      rw [hk, hs, hv, hn]
      show _ = [Value.int .i64 k, .string (bs s.data.toList), .string (bs v.data.toList), .int .i64 n]
      rw [← bs_list, ← bs_list]
  · unfold maxLen at ws
    show s.data.toList.length ≤ _
    rw [Array.length_toList]; exact ws
  · unfold maxLen at wv
    show v.data.toList.length ≤ _
    rw [Array.length_toList]; exact wv
/-- is it more than is gone through? -/
def greatB (o : PT) : Bool := decide (300 < o.key.length) || decide (300 < o.val.length)
theorem great_yes {o : PT} : greatB o = true ↔ 300 < o.key.length ∨ 300 < o.val.length := by unfold greatB; simp
theorem great_no {o : PT} : greatB o = false ↔ o.key.length ≤ 300 ∧ o.val.length ≤ 300 := by unfold greatB; simp
set_option maxRecDepth 100000 in
theorem great_any (o : PT) (w : World) : Calls Try.prog 7 #[.agg o.cells.toArray] w (ToldN (.bool (greatB o)) w) := by
  have hw : (∃ b, greatB o = b ∧ ((b = true ∧ decide ((300 : Int) < (o.key.length : Int)) = true) ∨ (b = true ∧ decide ((300 : Int) < (o.key.length : Int)) = false ∧ decide ((300 : Int) < (o.val.length : Int)) = true) ∨ (b = false ∧ decide ((300 : Int) < (o.key.length : Int)) = false ∧ decide ((300 : Int) < (o.val.length : Int)) = false))) := by
    refine ⟨_, rfl, ?_⟩
    by_cases h1 : 300 < o.key.length
    · exact .inl ⟨great_yes.2 (.inl h1), decide_eq_true (by omega)⟩
    by_cases h2 : 300 < o.val.length
    · exact .inr (.inl ⟨great_yes.2 (.inr h2), by simp; omega, decide_eq_true (by omega)⟩)
    · exact .inr (.inr ⟨great_no.2 ⟨by omega, by omega⟩, by simp; omega, by simp; omega⟩)
  obtain ⟨b, hb, hw⟩ := hw
  rw [hb]
  clear hb
  rcases hw with ⟨rfl, d1⟩ | ⟨rfl, d1, d2⟩ | ⟨rfl, d1, d2⟩
  all_goals
    have tk : True := True.intro
    go_enter Try.func7, Try.ntmps7
    go_wp2_with ((with_reducible show wpList _ _ _ (_ :: _) _ _); clear tk; refine wpL_box rfl 23 (.tmp 0) rfl o.cells.toArray rfl ?_; intro b w1 e1 k1 g1 z1; have G1 : OpAt w1 b o := g1; have c1 := G1.c1; have c2 := G1.c2; clear g1 z1 e1 G1)
    go_ret
    exact ⟨rfl, k1⟩
/-- the examples -/
def exA : PT := ⟨2, [107], [118], 0⟩
def exB : PT := ⟨1, [107], [118], 0⟩
def exC : PT := ⟨1, [48, 49, 50, 51, 52, 53, 54, 55, 56, 57, 48, 49, 50, 51, 52, 53, 54], [], 0⟩
theorem chk_a : chk exA = 0 := by rw [chk_len]; decide
theorem chk_b : chk exB = 2 := by rw [chk_len]; decide
theorem chk_c : chk exC = 3 := by rw [chk_len]; decide
theorem raw_a : rawL exA = [3, 1, 107, 1, 118] := by
  rw [raw2 (o := exA) rfl]
  show intL 2 ++ (textL [107] ++ textL [118]) = _
  rw [intL_in 2 (by omega) (by omega)]
  simp [textL, numL]
theorem put_a : putT exA = .tuple #[str [3, 1, 107, 1, 118], .int .i64 0] := by rw [putT_ok chk_a, raw_a]
theorem cost_a : cost exA = 18 := by rw [cost_ok chk_a]; decide
theorem built_a : Try.prog.built 23 [(0, .int .i64 2), (1, str [107]), (2, str [118])] = some exA.cells.toArray := by kernel_rfl
theorem built_b : Try.prog.built 23 [(0, .int .i64 1), (1, str [107]), (2, str [118])] = some exB.cells.toArray := by kernel_rfl
theorem built_c : Try.prog.built 23 [(0, .int .i64 1), (1, str [48, 49, 50, 51, 52, 53, 54, 55, 56, 57, 48, 49, 50, 51, 52, 53, 54])] = some exC.cells.toArray := by kernel_rfl
set_option maxRecDepth 100000 in
set_option maxHeartbeats 1000000 in
theorem told_any (w : World) : Calls Try.prog 8 #[] w (ToldN (.bool true) w) := by
  have P := fun w => put_any exA w
  rw [put_a] at P
  have C := fun w => cost_any exA w
  rw [cost_a] at C
  have CB := fun w => check_any exB w
  rw [chk_b] at CB
  have CC := fun w => check_any exC w
  rw [chk_c] at CC
  have HP := hide P
  have HC := hide C
  have HB := hide CB
  have HX := hide CC
  clear P C CB CC
  have t1 : True := True.intro
  have t4 : True := True.intro
  have t5 : True := True.intro
  have t8 : True := True.intro
  go_enter Try.func8, Try.ntmps8
  go_wp2_with (first
    | (go_at_call 9; refine (unhide HP _).mono ?_; rintro e w4 ⟨rfl, k4⟩)
    | (go_at_call 13; refine (unhide HC _).mono ?_; rintro e w9 ⟨rfl, k9⟩; clear a0 a1 a2 a3; have b0 := (B8.no k9).c0; have b1 := (B8.no k9).c1; have b2 := (B8.no k9).c2; have b3 := (B8.no k9).c3)
    | (clear t8; go_at_call 11; refine (unhide HB _).mono ?_; rintro e w10 ⟨rfl, k10⟩; clear b0 b1 b2 b3; have c0 := (C8.no (k9.andNo k10)).c0; have c1 := (C8.no (k9.andNo k10)).c1; have c2 := (C8.no (k9.andNo k10)).c2; have c3 := (C8.no (k9.andNo k10)).c3)
    | (go_at_call 11; refine (unhide HX _).mono ?_; rintro e w11 ⟨rfl, k11⟩)
    | ((with_reducible show wpList _ _ _ (_ :: _) _ _); first
      | (clear t1; refine wpL_alloc rfl 23 rfl pZero.cells.toArray zero_op ?_; intro p1 w2 e2 k2 g2 z2; have e0 : w.heap.size ≤ p1 := Nat.le_of_eq e2; have G2 : OpAt w2 p1 pZero := g2; clear e2 g2)
      | (refine wpL_store rfl 23 (.tmp 1) (.tmp 6) rfl p1 exA.cells.toArray rfl rfl _ _ G2 info_op rfl (all_oneCell_toArray (PT.one _)) ?_; intro w3 k3 g3 z3; have A3 : OpAt w3 p1 exA := g3; have K3 := k2.past k3 e0; clear g3 z3)
      | (refine wpL_load rfl 23 (.tmp 1) rfl p1 rfl _ _ _ A3 _ Try.underlying23 rfl info_op ?_)
      | (clear t4; refine wpL_alloc rfl 23 rfl pZero.cells.toArray zero_op ?_; intro p4 w5 e5 k5 g5 z5; have e4 : w4.heap.size ≤ p4 := Nat.le_of_eq e5; have G5 : OpAt w5 p4 pZero := g5; clear e5 g5)
      | (refine wpL_store rfl 23 (.tmp 4) (.tmp 12) rfl p4 exB.cells.toArray rfl rfl _ _ G5 info_op rfl (all_oneCell_toArray (PT.one _)) ?_; intro w6 k6 g6 z6; have B6 : OpAt w6 p4 exB := g6; have K6 := k5.past k6 e4; clear g6 z6)
      | (clear t5; refine wpL_alloc rfl 23 rfl pZero.cells.toArray zero_op ?_; intro p5 w7 e7 k7 g7 z7; have e6 : w6.heap.size ≤ p5 := Nat.le_of_eq e7; have G7 : OpAt w7 p5 pZero := g7; clear e7 g7)
      | (refine wpL_store rfl 23 (.tmp 5) (.tmp 13) rfl p5 exC.cells.toArray rfl rfl _ _ G7 info_op rfl (all_oneCell_toArray (PT.one _)) ?_; intro w8 k8 g8 z8; have C8 : OpAt w8 p5 exC := g8; have K8 := k7.past k8 e6; clear g8 z8; have B8 := B6.no K8; have A8 := A3.no ((k4.andNo K6).andNo K8); have a0 := A8.c0; have a1 := A8.c1; have a2 := A8.c2; have a3 := A8.c3)))
  go_ret
  exact ⟨rfl, (((((K3.andNo k4).andNo K6).andNo K8).andNo k9).andNo k10).andNo k11⟩
end Go.Proofs.Ytmknjeomkfoidaa
