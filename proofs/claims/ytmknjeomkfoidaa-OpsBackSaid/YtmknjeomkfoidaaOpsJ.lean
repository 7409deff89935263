/-
  Operations: the walk of the law that what is put is got.
-/
import Derived.Test.YtmknjeomkfoidaaOpsI
namespace Go.Proofs.Ytmknjeomkfoidaa
open Go.ChangeShapes Go.WideShapes Go.ChangeAt Go.RowKit
set_option linter.unusedVariables false
attribute [local go_sem] bs_size bs_app bs_cut bs_tl bs_at
attribute [local go_sem ↓] eq_self eq_zero
set_option maxRecDepth 100000 in
set_option maxHeartbeats 1000000 in
theorem opsback_great (o : PT) (c : Int) (w : World) (h : greatB o = true) : Calls Try.prog 5 #[.agg o.cells.toArray, .int .u8 c] w (ToldN (.bool true) w) := by
  have G := fun w => great_any o w
  rw [h] at G
  have HG := hide G
  clear G h
  have t1 : True := True.intro
  go_enter Try.func5, Try.ntmps5
  go_wp2_with (first
    | (go_at_call 7; refine (unhide HG _).mono ?_; rintro e w2 ⟨rfl, k2⟩)
    | (go_at_call 8; refine (told_any _).mono ?_; rintro e w3 ⟨rfl, k3⟩)
    | ((with_reducible show wpList _ _ _ (_ :: _) _ _); first
      | (clear t1; refine wpL_box rfl 23 (.tmp 0) rfl o.cells.toArray rfl ?_; intro b w1 e1 k1 g1 z1; have G1 : OpAt w1 b o := g1; clear g1 z1 e1)
      | (refine wpL_load rfl 23 (.tmp 2) rfl b rfl o.cells.toArray _ _ G1 _ Try.underlying23 rfl info_op ?_)))
  go_ret
  exact ⟨rfl, (k1.andNo k2).andNo k3⟩
set_option maxRecDepth 100000 in
set_option maxHeartbeats 1000000 in
theorem opsback_no (o : PT) (c : Int) (w : World) (h : greatB o = false) (hc : chk o ≠ 0) : Calls Try.prog 5 #[.agg o.cells.toArray, .int .u8 c] w (ToldN (.bool true) w) := by
  have G := fun w => great_any o w
  rw [h] at G
  have P := fun w => put_any o w
  rw [putT_no hc] at P
  have R := fun w => reads_any o w
  rw [show readsB o = false from by unfold readsB; simp [hc]] at R
  have Q := fun w => cost_any o w
  rw [cost_no hc] at Q
  have C := fun w => check_any o w
  obtain ⟨n, hn⟩ : ∃ n, chk o = n := ⟨_, rfl⟩
  rw [hn] at P C hc
  have d1 : (n == 0) = false := by simpa using hc
  have d2 : (n != 0) = true := by simpa using hc
  have HG := hide G
  have HP := hide P
  have HR := hide R
  have HQ := hide Q
  have HC := hide C
  clear G P R Q C h hn hc
  have t1 : True := True.intro
  go_enter Try.func5, Try.ntmps5
  go_wp2_with (first
    | (go_at_call 7; refine (unhide HG _).mono ?_; rintro e w2 ⟨rfl, k2⟩; have G2 := G1.no k2; clear G1)
    | (go_at_call 9; refine (unhide HP _).mono ?_; rintro e w3 ⟨rfl, k3⟩; have G3 := G2.no k3; clear G2)
    | (go_at_call 11; refine (unhide HC _).mono ?_; rintro e w4 ⟨rfl, k4⟩; have G4 := G3.no k4; clear G3; have c0 := G4.c0; have c1 := G4.c1; have c2 := G4.c2; have c3 := G4.c3)
    | (go_at_call 13; refine (unhide HQ _).mono ?_; rintro e w5 ⟨rfl, k5⟩; have G5 := G4.no k5; clear c0 c1 c2 c3 G4; have c0 := G5.c0; have c1 := G5.c1; have c2 := G5.c2; have c3 := G5.c3)
    | (go_at_call 15; refine (unhide HR _).mono ?_; rintro e w6 ⟨rfl, k6⟩)
    | (go_at_call 8; refine (told_any _).mono ?_; rintro e w7 ⟨rfl, k7⟩)
    | ((with_reducible show wpList _ _ _ (_ :: _) _ _); first
      | (clear t1; refine wpL_box rfl 23 (.tmp 0) rfl o.cells.toArray rfl ?_; intro b w1 e1 k1 g1 z1; have G1 : OpAt w1 b o := g1; clear g1 z1 e1)
      | (refine wpL_load rfl 23 (.tmp 2) rfl b rfl o.cells.toArray _ _ G1 _ Try.underlying23 rfl info_op ?_)
      | (refine wpL_load rfl 23 (.tmp 2) rfl b rfl o.cells.toArray _ _ G2 _ Try.underlying23 rfl info_op ?_)
      | (refine wpL_load rfl 23 (.tmp 2) rfl b rfl o.cells.toArray _ _ G3 _ Try.underlying23 rfl info_op ?_)))
  go_ret
  exact ⟨rfl, (((((k1.andNo k2).andNo k3).andNo k4).andNo k5).andNo k6).andNo k7⟩
theorem rem_nat (m L : Nat) : ((m : Int) % (L : Int)) = ((m % L : Nat) : Int) := by omega
set_option maxRecDepth 100000 in
set_option maxHeartbeats 2000000 in
theorem opsback_yes (o : PT) (m : Nat) (hm : m < 256) (w : World) (h : greatB o = false) (hc : chk o = 0) : Calls Try.prog 5 #[.agg o.cells.toArray, .int .u8 (m : Int)] w (ToldN (.bool true) w) := by
  have G := fun w => great_any o w
  rw [h] at G
  have P := fun w => put_any o w
  rw [putT_ok hc] at P
  have f := chk_fit.1 hc
  have Q := fun w => cost_any o w
  have hq : 17 ≤ cost o ∧ cost o ≤ 96 := by
    rw [cost_ok hc]
    have := List.length_pos_iff.2 f.key
    have := f.l1
    have := f.l2
    omega
  have C := fun w => check_any o w
  rw [hc] at C
  have l1 := raw_len f
  obtain ⟨L, hL⟩ : ∃ L, rawL o = L := ⟨_, rfl⟩
  have hp : 0 < L.length := by
    rw [← hL]
    unfold rawL
    have := numL_len o.key.length (by have := f.l1; omega)
    simp [textL]; omega
  have A1 := fun w => get_any (rawL o) (by omega) w
  have A2 := fun w => get_any ((rawL o).take (m % (rawL o).length)) (by rw [List.length_take]; omega) w
  have A3 := fun w => get_any (rawL o ++ [0]) (by simp; omega) w
  rw [getT_some (get_put hc)] at A1
  rw [getT_none (get_less hc _ (Nat.mod_lt _ (by rw [hL]; exact hp)))] at A2
  rw [getT_none (get_more hc [0] (by simp))] at A3
  rw [hL] at P l1 A1 A2 A3
  obtain ⟨q, hq'⟩ : ∃ q, cost o = q := ⟨_, rfl⟩
  rw [hq'] at Q hq
  obtain ⟨q1, q2⟩ := hq
  obtain ⟨z, hz⟩ : ∃ z, m % L.length = z := ⟨_, rfl⟩
  have z1 : z ≤ L.length := by rw [← hz]; exact Nat.le_of_lt (Nat.mod_lt _ hp)
  rw [hz] at A2
  have r1 := rem_nat m L.length
  rw [hz] at r1
  have HG := hide G
  have HP := hide P
  have HQ := hide Q
  have HC := hide C
  have H1 := hide A1
  have H2 := hide A2
  have H3 := hide A3
  have y1 : ((L.length : Int) == 0) = false := by simp; intro e; rw [e] at hp; simp at hp
  have y2 : ¬ L = [] := by intro e; rw [e] at hp; simp at hp
  have y3 : (0 : Int) < (L.length : Int) := by omega
  have i1 : (0 : Int) ≤ (z : Int) := by omega
  have i2 : (z : Int) ≤ (L.length : Int) := by omega
  have i3 : (L.length : Int) ≤ 116 := by omega
  clear G P Q C A1 A2 A3 h hc f hL hz hq'
  have t1 : True := True.intro
  have t2 : True := True.intro
  have t3 : True := True.intro
  have t4 : True := True.intro
  have t5 : True := True.intro
  have t6 : True := True.intro
  go_enter Try.func5, Try.ntmps5
  go_wp2_with (first
    | (go_at_call 7; refine (unhide HG _).mono ?_; rintro e w2 ⟨rfl, k2⟩; have G2 := G1.no k2; clear G1)
    | (go_at_call 9; refine (unhide HP _).mono ?_; rintro e w3 ⟨rfl, k3⟩; have G3 := G2.no k3; clear G2; have c0 := G3.c0; have c1 := G3.c1; have c2 := G3.c2; have c3 := G3.c3)
    | (go_at_call 11; refine (unhide HC _).mono ?_; rintro e w4 ⟨rfl, k4⟩; have G4 := G3.no k4; clear G3 c0 c1 c2 c3; have c0 := G4.c0; have c1 := G4.c1; have c2 := G4.c2; have c3 := G4.c3)
    | (clear t2; go_at_call 13; refine (unhide HQ _).mono ?_; rintro e w5 ⟨rfl, k5⟩; have G5 := G4.no k5; clear c0 c1 c2 c3 G4; have c0 := G5.c0; have c1 := G5.c1; have c2 := G5.c2; have c3 := G5.c3)
    | (go_at_call 13; refine (unhide HQ _).mono ?_; rintro e w6 ⟨rfl, k6⟩; have G6 := G5.no k6; clear c0 c1 c2 c3 G5)
    | (clear t3; go_at_call 16; refine (unhide H1 _).mono ?_; rintro e w7 ⟨rfl, k7⟩)
    | (clear t4; go_at_call 16; refine (unhide H2 _).mono ?_; rintro e w10 ⟨rfl, k10⟩)
    | (go_at_call 16; refine (unhide H3 _).mono ?_; rintro e w13 ⟨rfl, k13⟩)
    | (go_at_call 8; refine (told_any _).mono ?_; rintro e w16 ⟨rfl, k16⟩)
    | ((with_reducible show wpList _ _ _ (_ :: _) _ _); first
      | (clear t1; refine wpL_box rfl 23 (.tmp 0) rfl o.cells.toArray rfl ?_; intro b w1 e1 k1 g1 z1; have G1 : OpAt w1 b o := g1; clear g1 z1 e1)
      | (refine wpL_load rfl 23 (.tmp 2) rfl b rfl o.cells.toArray _ _ G1 _ Try.underlying23 rfl info_op ?_)
      | (refine wpL_load rfl 23 (.tmp 2) rfl b rfl o.cells.toArray _ _ G2 _ Try.underlying23 rfl info_op ?_)
      | (clear t5; refine wpL_alloc rfl 23 rfl pZero.cells.toArray zero_op ?_; intro p7 w8 e8 k8 g8 z8; have e0 : w7.heap.size ≤ p7 := Nat.le_of_eq e8; have G8 : OpAt w8 p7 pZero := g8; clear e8 g8)
      | (refine wpL_store rfl 23 (.tmp 7) (.tmp 65) rfl p7 o.cells.toArray rfl rfl _ _ G8 info_op rfl (all_oneCell_toArray (PT.one _)) ?_; intro w9 k9 g9 z9; have G9 : OpAt w9 p7 o := g9; have K9 := k8.past k9 e0; clear g9 z9 G8)
      | (clear t6; refine wpL_alloc rfl 23 rfl pZero.cells.toArray zero_op ?_; intro p9 w11 e11 k11 g11 z11; have e4 : w10.heap.size ≤ p9 := Nat.le_of_eq e11; have G11 : OpAt w11 p9 pZero := g11; clear e11 g11)
      | (refine wpL_store rfl 23 (.tmp 9) (.tmp 76) rfl p9 pZero.cells.toArray rfl rfl _ _ G11 info_op rfl (all_oneCell_toArray (PT.one _)) ?_; intro w12 k12 g12 z12; have G12 : OpAt w12 p9 pZero := g12; have K12 := k11.past k12 e4; clear g12 z12 G11)
      | (refine wpL_alloc rfl 23 rfl pZero.cells.toArray zero_op ?_; intro p11 w14 e14 k14 g14 z14; have e5 : w13.heap.size ≤ p11 := Nat.le_of_eq e14; have G14 : OpAt w14 p11 pZero := g14; clear e14 g14)
      | (refine wpL_store rfl 23 (.tmp 11) (.tmp 82) rfl p11 pZero.cells.toArray rfl rfl _ _ G14 info_op rfl (all_oneCell_toArray (PT.one _)) ?_; intro w15 k15 g15 z15; have G15 : OpAt w15 p11 pZero := g15; have K15 := k14.past k15 e5; clear g15 z15 G14; have X9 := G9.no ((k10.andNo K12).andNo (k13.andNo K15)); have X6 := G6.no ((k7.andNo K9).andNo ((k10.andNo K12).andNo (k13.andNo K15))); have X12 := G12.no (k13.andNo K15); have c0 : w15.cell? ⟨p9, 0, none⟩ = some (.int .i64 0) := X12.c0; have c1 : w15.cell? ⟨p9, 1, none⟩ = some (.string ⟨#[]⟩) := X12.c1; have c2 : w15.cell? ⟨p9, 2, none⟩ = some (.string ⟨#[]⟩) := X12.c2; have c3 : w15.cell? ⟨p9, 3, none⟩ = some (.int .i64 0) := X12.c3; have a0 : w15.cell? ⟨p11, 0, none⟩ = some (.int .i64 0) := G15.c0; have a1 : w15.cell? ⟨p11, 1, none⟩ = some (.string ⟨#[]⟩) := G15.c1; have a2 : w15.cell? ⟨p11, 2, none⟩ = some (.string ⟨#[]⟩) := G15.c2; have a3 : w15.cell? ⟨p11, 3, none⟩ = some (.int .i64 0) := G15.c3)
      | (refine wpL_load rfl 23 (.tmp 7) rfl p7 rfl _ _ _ X9 _ Try.underlying23 rfl info_op ?_)
      | (refine wpL_load rfl 23 (.tmp 2) rfl b rfl _ _ _ X6 _ Try.underlying23 rfl info_op ?_)))
  go_ret
  exact ⟨rfl, (((((((((((k1.andNo k2).andNo k3).andNo k4).andNo k5).andNo k6).andNo k7).andNo K9).andNo k10).andNo K12).andNo k13).andNo K15).andNo k16⟩
theorem opsback_any (o : PT) (m : Nat) (hm : m < 256) (w : World) : Calls Try.prog 5 #[.agg o.cells.toArray, .int .u8 (m : Int)] w (ToldN (.bool true) w) := by
  by_cases h : greatB o = true
  · exact opsback_great o m w h
  have h' : greatB o = false := by simpa using h
  by_cases hc : chk o = 0
  · exact opsback_yes o m hm w h' hc
  · exact opsback_no o m w h' hc
end Go.Proofs.Ytmknjeomkfoidaa
