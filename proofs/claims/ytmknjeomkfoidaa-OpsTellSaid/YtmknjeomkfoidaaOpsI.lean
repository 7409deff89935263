/-
  Operations: the walks of the two laws that begin with bytes.
-/
import Derived.Test.YtmknjeomkfoidaaOpsH
namespace Go.Proofs.Ytmknjeomkfoidaa
open Go.ChangeShapes Go.WideShapes Go.ChangeAt Go.RowKit
set_option linter.unusedVariables false
attribute [local go_sem] bs_size bs_app bs_cut bs_tl bs_at
theorem eq_self (o : PT) (w : World) : (Op.equalIn 10000 23 (.agg o.cells.toArray) (.agg o.cells.toArray)).run Try.prog w = .ok true w := by
  rw [run_equalIn_struct w 9999 _ _ _ Try.underlying23 (by kernel_rfl)]
  simp [go_sem, PT.cells, Op.eqFields]
theorem eq_zero (w : World) : (Op.equalIn 10000 23 (.agg #[.int .i64 0, .string ⟨#[]⟩, .string ⟨#[]⟩, .int .i64 0]) (.agg #[.int .i64 0, .string ⟨#[]⟩, .string ⟨#[]⟩, .int .i64 0])).run Try.prog w = .ok true w := eq_self pZero w
attribute [local go_sem ↓] eq_self eq_zero
theorem get_two (l : List UInt8) : ∃ o n, getT l = .tuple #[.agg (PT.cells o).toArray, .int .i64 n] := ⟨_, _, rfl⟩
set_option maxRecDepth 100000 in
set_option maxHeartbeats 1000000 in
theorem opsget_any (l : List UInt8) (w : World) (hm : l.length ≤ 9223372036854775807) : Calls Try.prog 4 #[str l] w (ToldN (.bool true) w) := by
  by_cases h : l.length > 300
  · go_enter Try.func4, Try.ntmps4
    go_wp2_with (go_at_call 8; refine (told_any _).mono ?_; rintro e w1 ⟨rfl, k1⟩)
    go_ret
    exact ⟨rfl, k1⟩
  have G := fun w => get_any l (by omega) w
  have R := fun w => rget_any l (by omega) w
  obtain ⟨o, n, hT⟩ := get_two l
  rw [hT] at G R
  have HG := hide G
  have HR := hide R
  have i1 : (l.length : Int) ≤ 300 := by omega
  clear G R hT h hm
  have t1 : True := True.intro
  have t2 : True := True.intro
  go_enter Try.func4, Try.ntmps4
  go_wp2_with (first
    | (go_at_call 16; refine (unhide HG _).mono ?_; rintro e w1 ⟨rfl, k1⟩)
    | (go_at_call 17; refine (unhide HR _).mono ?_; rintro e w4 ⟨rfl, k4⟩)
    | (go_at_call 8; refine (told_any _).mono ?_; rintro e w7 ⟨rfl, k7⟩)
    | ((with_reducible show wpList _ _ _ (_ :: _) _ _); first
      | (clear t1; refine wpL_alloc rfl 23 rfl pZero.cells.toArray zero_op ?_; intro p w2 e2 k2 g2 z2; have e0 : w1.heap.size ≤ p := Nat.le_of_eq e2; have G2 : OpAt w2 p pZero := g2; clear e2 g2)
      | (refine wpL_store rfl 23 (.tmp 3) (.tmp 14) rfl p o.cells.toArray rfl rfl _ _ G2 info_op rfl (all_oneCell_toArray (PT.one _)) ?_; intro w3 k3 g3 z3; have G3 : OpAt w3 p o := g3; have K3 := k2.past k3 e0; clear g3 z3)
      | (clear t2; refine wpL_alloc rfl 23 rfl pZero.cells.toArray zero_op ?_; intro p5 w5 e5 k5 g5 z5; have e4 : w4.heap.size ≤ p5 := Nat.le_of_eq e5; have G5 : OpAt w5 p5 pZero := g5; clear e5 g5)
      | (refine wpL_store rfl 23 (.tmp 5) (.tmp 19) rfl p5 o.cells.toArray rfl rfl _ _ G5 info_op rfl (all_oneCell_toArray (PT.one _)) ?_; intro w6 k6 g6 z6; have G6 : OpAt w6 p5 o := g6; have K6 := k5.past k6 e4; clear g6 z6)
      | (refine wpL_load rfl 23 (.tmp 3) rfl p rfl _ _ _ (G3.no (k4.andNo K6)) _ Try.underlying23 rfl info_op ?_)
      | (refine wpL_load rfl 23 (.tmp 5) rfl p5 rfl _ _ _ G6 _ Try.underlying23 rfl info_op ?_)))
  go_ret
  exact ⟨rfl, (((k1.andNo K3).andNo k4).andNo K6).andNo k7⟩
set_option maxRecDepth 100000 in
set_option maxHeartbeats 1000000 in
theorem opsform_any (l : List UInt8) (w : World) (hm : l.length ≤ 9223372036854775807) : Calls Try.prog 6 #[str l] w (ToldN (.bool true) w) := by
  by_cases h : l.length > 300
  · go_enter Try.func6, Try.ntmps6
    go_wp2_with (go_at_call 8; refine (told_any _).mono ?_; rintro e w1 ⟨rfl, k1⟩)
    go_ret
    exact ⟨rfl, k1⟩
  have G := fun w => get_any l (by omega) w
  have i1 : (l.length : Int) ≤ 300 := by omega
  clear h hm
  cases hx : getX l with
  | none =>
    rw [getT_none hx] at G
    have HG := hide G
    clear G hx
    have t1 : True := True.intro
    go_enter Try.func6, Try.ntmps6
    go_wp2_with (first
      | (go_at_call 16; refine (unhide HG _).mono ?_; rintro e w1 ⟨rfl, k1⟩)
      | (go_at_call 8; refine (told_any _).mono ?_; rintro e w7 ⟨rfl, k7⟩)
      | ((with_reducible show wpList _ _ _ (_ :: _) _ _); first
        | (clear t1; refine wpL_alloc rfl 23 rfl pZero.cells.toArray zero_op ?_; intro p w2 e2 k2 g2 z2; have e0 : w1.heap.size ≤ p := Nat.le_of_eq e2; have G2 : OpAt w2 p pZero := g2; clear e2 g2)
        | (refine wpL_store rfl 23 (.tmp 3) (.tmp 14) rfl p pZero.cells.toArray rfl rfl _ _ G2 info_op rfl (all_oneCell_toArray (PT.one _)) ?_; intro w3 k3 g3 z3; have G3 : OpAt w3 p pZero := g3; have K3 := k2.past k3 e0; clear g3 z3; have c0 : w3.cell? ⟨p, 0, none⟩ = some (.int .i64 0) := G3.c0; have c1 : w3.cell? ⟨p, 1, none⟩ = some (.string ⟨#[]⟩) := G3.c1; have c2 : w3.cell? ⟨p, 2, none⟩ = some (.string ⟨#[]⟩) := G3.c2; have c3 : w3.cell? ⟨p, 3, none⟩ = some (.int .i64 0) := G3.c3)))
    go_ret
    exact ⟨rfl, (k1.andNo K3).andNo k7⟩
  | some o =>
    obtain ⟨b1, b2, b3⟩ := get_back hx
    rw [getT_some hx] at G
    have P := fun w => put_any o w
    rw [putT_ok b2, b3] at P
    have HG := hide G
    have HP := hide P
    clear G P hx b1 b2 b3
    have t1 : True := True.intro
    go_enter Try.func6, Try.ntmps6
    go_wp2_with (first
      | (go_at_call 16; refine (unhide HG _).mono ?_; rintro e w1 ⟨rfl, k1⟩)
      | (go_at_call 9; refine (unhide HP _).mono ?_; rintro e w4 ⟨rfl, k4⟩)
      | (go_at_call 8; refine (told_any _).mono ?_; rintro e w7 ⟨rfl, k7⟩)
      | ((with_reducible show wpList _ _ _ (_ :: _) _ _); first
        | (clear t1; refine wpL_alloc rfl 23 rfl pZero.cells.toArray zero_op ?_; intro p w2 e2 k2 g2 z2; have e0 : w1.heap.size ≤ p := Nat.le_of_eq e2; have G2 : OpAt w2 p pZero := g2; clear e2 g2)
        | (refine wpL_store rfl 23 (.tmp 3) (.tmp 14) rfl p o.cells.toArray rfl rfl _ _ G2 info_op rfl (all_oneCell_toArray (PT.one _)) ?_; intro w3 k3 g3 z3; have G3 : OpAt w3 p o := g3; have K3 := k2.past k3 e0; clear g3 z3)
        | (refine wpL_load rfl 23 (.tmp 3) rfl p rfl _ _ _ G3 _ Try.underlying23 rfl info_op ?_)))
    go_ret
    exact ⟨rfl, ((k1.andNo K3).andNo k4).andNo k7⟩
end Go.Proofs.Ytmknjeomkfoidaa
