/-
  Operations: the contract of the document's operation of any bytes.
-/
import Derived.Test.YtfplgmkbhpdmjaaOpsF
namespace Go.Proofs.Ytfplgmkbhpdmjaa
open Go.ChangeShapes Go.WideShapes Go.ChangeAt Go.RowKit
set_option linter.unusedVariables false
attribute [local go_sem] bs_size bs_app bs_cut bs_tl bs_at
theorem runint_n (l : List UInt8) (h : l.length ≤ 1048576) (w : World) : Calls Try.prog 17 #[str l] w (ToldN (.tuple #[.int .i64 (unintT l).1, str (unintT l).2.1, .bool (unintT l).2.2]) w) :=
  (runint_any l h w).mono fun _ _ ⟨a, b⟩ => ⟨a, Chg.ofBelow b⟩
theorem rcut_n (l : List UInt8) (h : l.length ≤ 1048576) (w : World) : Calls Try.prog 21 #[str l] w (ToldN (.tuple #[str (cutT l).1, str (cutT l).2.1, .bool (cutT l).2.2]) w) :=
  (rcut_any l h w).mono fun _ _ ⟨a, b⟩ => ⟨a, Chg.ofBelow b⟩
theorem built_two (k : Int) (key : List UInt8) : Try.prog.built 24 [(0, .int .i64 k), (1, str key)] = some (PT.cells ⟨k, key, [], 0⟩).toArray := by kernel_rfl
theorem put_ways (l : List UInt8) : (∃ q n, putT (cand l) = .tuple #[str q, .int .i64 n] ∧ ((n == 0) = false ∧ (n != 0) = true ∧ ¬ n = 0) ∧ getX l = none) ∨ (∃ q, putT (cand l) = .tuple #[str q, .int .i64 0] ∧ ((q == l) = false ∧ (q != l) = true ∧ ¬ q = l) ∧ getX l = none) ∨ (putT (cand l) = .tuple #[str l, .int .i64 0] ∧ getX l = some (cand l)) := by
  unfold getX
  by_cases h : chk (cand l) = 0
  · by_cases h2 : rawL (cand l) = l
    · exact .inr (.inr ⟨by rw [putT_ok h, h2], if_pos ⟨h, h2⟩⟩)
    · exact .inr (.inl ⟨_, putT_ok h, ⟨by simpa using h2, by simpa using h2, h2⟩, if_neg fun e => h2 e.2⟩)
  · exact .inl ⟨_, _, putT_no h, ⟨by simpa using h, by simpa using h, h⟩, if_neg fun e => h e.1⟩
set_option maxRecDepth 100000 in
set_option maxHeartbeats 4000000 in
theorem rget_any (l : List UInt8) (hl : l.length ≤ 1048576) (w : World) : Calls Try.prog 20 #[str l] w (ToldN (getT l) w) := by
  obtain ⟨k, a, x1, key, b, x2, val, c, x3, ver, d, x4, e1, e2, e3, e4⟩ : ∃ k a x1 key b x2 val c x3 ver d x4, unintT l = (k, a, x1) ∧ cutT a = (key, b, x2) ∧ cutT b = (val, c, x3) ∧ unintT c = (ver, d, x4) := ⟨_, _, _, _, _, _, _, _, _, _, _, _, rfl, rfl, rfl, rfl⟩
  have hc : cand l = ⟨k, key, if hv k = true then val else [], if hn k = true then ver else 0⟩ := by unfold cand; rw [e1]; simp only [e2, e3, e4]
  have m1 := unint_len l
  rw [e1] at m1
  have m2 := cut_len a
  rw [e2] at m2
  have m3 := cut_len b
  rw [e3] at m3
  have U1 := runint_n l hl
  have C1 := rcut_n a (by dsimp only at *; omega)
  have C2 := rcut_n b (by dsimp only at *; omega)
  have U2 := runint_n c (by dsimp only at *; omega)
  rw [e1] at U1
  rw [e2] at C1
  rw [e3] at C2
  rw [e4] at U2
  clear m1 m2 m3 e1 e2 e3 e4 hl
  have HU1 := hide U1
  have HC1 := hide C1
  have HC2 := hide C2
  have HU2 := hide U2
  clear U1 C1 C2 U2
  have P := fun w => rput_any (cand l) w
  have hp := put_ways l
  have hw : ((k == 2) = true ∧ (k == 4) = false ∧ cand l = ⟨k, key, val, 0⟩) ∨ ((k == 2) = false ∧ (k == 4) = true ∧ cand l = ⟨k, key, val, ver⟩) ∨ ((k == 2) = false ∧ (k == 4) = false ∧ cand l = ⟨k, key, [], 0⟩) := by
    by_cases e2 : k = 2
    · exact .inl ⟨by simpa using e2, by simp; omega, by rw [hc, if_pos (hv_yes.2 (.inl e2)), if_neg (by rw [hn_no.2 (by omega)]; simp)]⟩
    by_cases e4 : k = 4
    · exact .inr (.inl ⟨by simp; omega, by simpa using e4, by rw [hc, if_pos (hv_yes.2 (.inr e4)), if_pos (hn_yes.2 e4)]⟩)
    · exact .inr (.inr ⟨by simpa using e2, by simpa using e4, by rw [hc, if_neg (by rw [hv_no.2 ⟨e2, e4⟩]; simp), if_neg (by rw [hn_no.2 e4]; simp)]⟩)
  clear hc
  rcases hw with ⟨d2, d4, hc⟩ | ⟨d2, d4, hc⟩ | ⟨d2, d4, hc⟩
  all_goals
    rw [hc] at P hp
    clear hc
    rcases hp with ⟨q, n, hq, ⟨hd, hd2, hd3⟩, hg⟩ | ⟨q, hq, ⟨hd, hd2, hd3⟩, hg⟩ | ⟨hq, hg⟩
    all_goals
      rw [hq] at P
      have HP := hide P
      have HE : Hid (getT l = .tuple #[.agg ((getX l).getD pZero).cells.toArray, .int .i64 (if (getX l).isSome = true then 0 else 10)]) := hide rfl
      rw [hg] at HE
      clear hq P hg
      have ta : True := True.intro
      have tb : True := True.intro
      go_enter Try.func20, Try.ntmps20
      go_wp2_with (first
        | (go_at_call 17; (with_reducible refine (unhide HU1 _).mono ?_); rintro e w2 ⟨rfl, k2⟩)
        | (go_at_call 17; (with_reducible refine (unhide HU2 _).mono ?_); rintro e w5 ⟨rfl, k5⟩)
        | (go_at_call 21; (with_reducible refine (unhide HC1 _).mono ?_); rintro e w3 ⟨rfl, k3⟩)
        | (go_at_call 21; (with_reducible refine (unhide HC2 _).mono ?_); rintro e w4 ⟨rfl, k4⟩)
        | (go_at_call 37; refine (unhide HP _).mono ?_; rintro e w9 ⟨rfl, k9⟩; have G9 := GG.no k9; have K9 := KK.andNo k9)
        | ((with_reducible show wpList _ _ _ (_ :: _) _ _); first
          | (clear ta; refine wpL_alloc rfl 24 rfl pZero.cells.toArray zero_op ?_; intro p w1 e1 k1 g1 z1; have e0 : w.heap.size ≤ p := Nat.le_of_eq e1; have G1 : OpAt w1 p pZero := g1; clear e1 z1 g1)
          | (refine wpL_build rfl 24 _ rfl _ (built_two k key) ?_)
          | (clear tb; refine wpL_alloc rfl 24 rfl pZero.cells.toArray zero_op ?_; intro p6 w6 e6 k6 g6 z6; have K6 := (((((k1.andNo k2).andNo k3).andNo k4).andNo k5).andNo k6); have n6 : p ≠ p6 := (by have h := ((((G1.no k2).no k3).no k4).no k5).lt; omega); have e7 : w.heap.size ≤ p6 := (by have h := (((((k1.andNo k2).andNo k3).andNo k4).andNo k5)).size; omega); have G6 : OpAt w6 p6 pZero := g6; have Z6 := (((((G1.no k2).no k3).no k4).no k5).no k6); clear e6 z6 g6)
          | (refine wpL_store rfl 24 (.tmp 16) (.tmp 45) rfl p6 (PT.cells ⟨k, key, [], 0⟩).toArray rfl rfl _ _ G6 info_op rfl (all_oneCell_toArray (PT.one _)) ?_; intro w7 k7 g7 z7; have GG : OpAt w7 p6 ⟨k, key, [], 0⟩ := g7; have KK := K6.past k7 e7; have Z7 : OpAt w7 p pZero := k7.at Z6 n6; clear g7 z7)
          | (refine wpL_set rfl 9 (.tmp 53) (.tmp 52) rfl p6 2 (str val) rfl rfl rfl info_string _ _ GG (by show 2 < 4; omega) ?_; intro w8 k8 g8 z8; have KL := KK.past k8 e7; have Z8 : OpAt w8 p pZero := k8.at Z7 n6; clear GG KK Z7; have GG : OpAt w8 p6 ⟨k, key, val, 0⟩ := g8; have KK := KL; have Z7 := Z8; clear g8 z8)
          | (refine wpL_set rfl 3 (.tmp 57) (.tmp 56) rfl p6 3 (.int .i64 ver) rfl rfl rfl info_int _ _ GG (by show 3 < 4; omega) ?_; intro w8 k8 g8 z8; have KL := KK.past k8 e7; have Z8 : OpAt w8 p pZero := k8.at Z7 n6; clear GG KK Z7; have GG : OpAt w8 p6 ⟨k, key, val, ver⟩ := g8; have KK := KL; have Z7 := Z8; clear g8 z8)
          | (refine wpL_load rfl 24 (.tmp 16) rfl p6 rfl _ _ _ G9 _ Try.underlying24 rfl info_op ?_)
          | (refine wpL_load rfl 24 (.tmp 16) rfl p6 rfl _ _ _ GG _ Try.underlying24 rfl info_op ?_)
          | (refine wpL_build rfl 24 #[] rfl pZero.cells.toArray built_zero ?_)
          | (refine wpL_store rfl 24 (.tmp 2) (.tmp 70) rfl p pZero.cells.toArray rfl rfl _ _ (Z7.no k9) info_op rfl (all_oneCell_toArray (PT.one _)) ?_; intro w10 k10 g10 z10)
          | (refine wpL_store rfl 24 (.tmp 2) (.tmp 71) rfl p _ rfl rfl _ _ (Z7.no k9) info_op rfl (all_oneCell_toArray (PT.one _)) ?_; intro w10 k10 g10 z10)))
      all_goals refine bodyPost_ret (results_row_tmp rfl _ _ p _ _ _ _ rfl g10 Try.underlying24 rfl info_op) rfl ?_
      all_goals exact ⟨by rw [unhide HE]; rfl, K9.past k10 e0⟩
end Go.Proofs.Ytfplgmkbhpdmjaa
