/-
  Keys with values: the contract of Apply.
-/
import Derived.Test.YtfffgegdcgfakaaKvE
namespace Go.Proofs.Ytfffgegdcgfakaa
open Go.ChangeShapes Go.WideShapes Go.ChangeAt Go.RowKit
set_option linter.unusedVariables false
attribute [local go_sem] bs_size bs_app bs_cut bs_tl bs_at
theorem info_op4 : (Try.prog.info? 32).map (·.size) = some 4 := by kernel_rfl
section
variable {w w' w4 w5 w6 : World} {b m p : Nat} {L M : List KV}
theorem DidS.ofNo {r : RT} {e : Ending} (h : StAt w b m L) (k : ToldN (.agg r.cells.toArray) w e w') : DidS b m r L w e w' := ⟨k.1, k.2.no _, h.no k.2⟩
theorem did_end {r : RT} (h : StAt w b m L) (K4 : Chg noBlk w w4) (k5 : Chg (oneBlk m) w4 w5) (s5 : StAt w5 b m M) (k6 : Chg (oneBlk p) w5 w6) (hp : w.heap.size ≤ p) : DidS b m r M w (.returned (.agg r.cells.toArray)) w6 := by
  have hb := h.lt
  have hm := h.m.lt
  exact ⟨rfl, ((K4.no (oneBlk m)).trans k5 fun _ _ e => e).trans k6 fun j hj e => by have e : j = p := e; omega, s5.kept k6 (fun e => by have e : b = p := e; omega) (fun e => by have e : m = p := e; omega)⟩
set_option maxRecDepth 100000 in
set_option maxHeartbeats 1000000 in
theorem apply_lo (h : StAt w b m L) (i : Int) (o : PT) (hi : i < 1) : Calls Try.prog 32 #[.pointer (some ⟨b, 0, none⟩), .int .i64 i, .agg o.cells.toArray] w (ToldN (.agg rZero.cells.toArray) w) := by
  have hin := hide (fun w' (c : Chg noBlk w w') => isnone_at (h.no c))
  clear h
  have ta : True := True.intro
  go_enter Try.func32, Try.ntmps32
  go_wp2_with (first
    | (go_at_call 39; (with_reducible refine (unhide hin _ K2).mono ?_); rintro e w3 ⟨rfl, rfl⟩)
    | ((with_reducible show wpList _ _ _ (_ :: _) _ _); first
      | (clear ta; refine wpL_box rfl 32 (.tmp 2) rfl o.cells.toArray rfl ?_; intro q w1 e1 k1 g1 z1; have G1 : OpAt w1 q o := g1; clear g1 z1 e1)
      | (refine wpL_alloc rfl 38 rfl _ zero_res ?_; intro p w2 e2 k2 g2 z2; have e0 : w.heap.size ≤ p := Nat.le_trans k1.size (Nat.le_of_eq e2); have G2 := G1.no k2; have c0 := G2.c0; have c1 := G2.c1; have c2 := G2.c2; have c3 := G2.c3; have K2 := k1.andNo k2; clear e2 z2)
      | (refine wpL_store rfl 38 (.tmp 6) (.tmp 22) rfl p rZero.cells.toArray rfl rfl _ _ g2 info_res rfl (all_oneCell_toArray (RT.one _)) ?_; intro w6 k6 g7 z7)))
  refine bodyPost_ret (ret_res rfl _ _ p _ _ _ rfl g7) rfl ?_
  exact ⟨rfl, K2.past k6 e0⟩
set_option maxRecDepth 100000 in
set_option maxHeartbeats 1000000 in
theorem apply_hi (h : StAt w b m L) (i : Int) (o : PT) (hi : 4096 < i) : Calls Try.prog 32 #[.pointer (some ⟨b, 0, none⟩), .int .i64 i, .agg o.cells.toArray] w (ToldN (.agg rZero.cells.toArray) w) := by
  have hin := hide (fun w' (c : Chg noBlk w w') => isnone_at (h.no c))
  clear h
  have i1 : ¬ i < 1 := by omega
  have ta : True := True.intro
  go_enter Try.func32, Try.ntmps32
  go_wp2_with (first
    | (go_at_call 39; (with_reducible refine (unhide hin _ K2).mono ?_); rintro e w3 ⟨rfl, rfl⟩)
    | ((with_reducible show wpList _ _ _ (_ :: _) _ _); first
      | (clear ta; refine wpL_box rfl 32 (.tmp 2) rfl o.cells.toArray rfl ?_; intro q w1 e1 k1 g1 z1; have G1 : OpAt w1 q o := g1; clear g1 z1 e1)
      | (refine wpL_alloc rfl 38 rfl _ zero_res ?_; intro p w2 e2 k2 g2 z2; have e0 : w.heap.size ≤ p := Nat.le_trans k1.size (Nat.le_of_eq e2); have G2 := G1.no k2; have c0 := G2.c0; have c1 := G2.c1; have c2 := G2.c2; have c3 := G2.c3; have K2 := k1.andNo k2; clear e2 z2)
      | (refine wpL_store rfl 38 (.tmp 6) (.tmp 22) rfl p rZero.cells.toArray rfl rfl _ _ g2 info_res rfl (all_oneCell_toArray (RT.one _)) ?_; intro w6 k6 g7 z7)))
  refine bodyPost_ret (ret_res rfl _ _ p _ _ _ rfl g7) rfl ?_
  exact ⟨rfl, K2.past k6 e0⟩
set_option maxRecDepth 100000 in
set_option maxHeartbeats 1000000 in
theorem apply_bad (h : StAt w b m L) (i : Int) (o : PT) (i1 : 1 ≤ i) (i2 : i ≤ 4096) (hc : chk o ≠ 0) : Calls Try.prog 32 #[.pointer (some ⟨b, 0, none⟩), .int .i64 i, .agg o.cells.toArray] w (ToldN (.agg rZero.cells.toArray) w) := by
  have hin := hide (fun w' (c : Chg noBlk w w') => isnone_at (h.no c))
  have C := fun w => check_any o w
  obtain ⟨n, hn⟩ : ∃ n, chk o = n := ⟨_, rfl⟩
  rw [hn] at C hc
  have d1 : (n != 0) = true := by simpa using hc
  have HC := hide C
  clear h C hn hc
  have ta : True := True.intro
  go_enter Try.func32, Try.ntmps32
  go_wp2_with (first
    | (go_at_call 39; (with_reducible refine (unhide hin _ K2).mono ?_); rintro e w3 ⟨rfl, rfl⟩)
    | (go_at_call 42; refine (unhide HC _).mono ?_; rintro e w4 ⟨rfl, k4⟩; have G4 := G2.no k4; have K4 := K2.andNo k4; have g4 := k4.at g2 id; clear c0 c1 c2 c3)
    | ((with_reducible show wpList _ _ _ (_ :: _) _ _); first
      | (clear ta; refine wpL_box rfl 32 (.tmp 2) rfl o.cells.toArray rfl ?_; intro q w1 e1 k1 g1 z1; have G1 : OpAt w1 q o := g1; clear g1 z1 e1)
      | (refine wpL_alloc rfl 38 rfl _ zero_res ?_; intro p w2 e2 k2 g2 z2; have e0 : w.heap.size ≤ p := Nat.le_trans k1.size (Nat.le_of_eq e2); have G2 := G1.no k2; have c0 := G2.c0; have c1 := G2.c1; have c2 := G2.c2; have c3 := G2.c3; have K2 := k1.andNo k2; clear e2 z2)
      | (refine wpL_store rfl 38 (.tmp 6) (.tmp 22) rfl p rZero.cells.toArray rfl rfl _ _ g4 info_res rfl (all_oneCell_toArray (RT.one _)) ?_; intro w6 k6 g7 z7)))
  refine bodyPost_ret (ret_res rfl _ _ p _ _ _ rfl g7) rfl ?_
  exact ⟨rfl, K4.past k6 e0⟩
set_option maxRecDepth 100000 in
set_option maxHeartbeats 1000000 in
theorem apply_put (h : StAt w b m L) (i : Int) (o : PT) (i1 : 1 ≤ i) (i2 : i ≤ 4096) (hc : chk o = 0) (hk : o.k = 2) (hn : L.length < maxLen) : Calls Try.prog 32 #[.pointer (some ⟨b, 0, none⟩), .int .i64 i, .agg o.cells.toArray] w (DidS b m ⟨1, [], i, i⟩ (put L ⟨o.key, o.val, i⟩) w) := by
  have hin := hide (fun w' (c : Chg noBlk w w') => isnone_at (h.no c))
  have C := fun w => check_any o w
  have l1 := (chk_fit.1 hc).l1
  have l2 := (chk_fit.1 hc).l2
  rw [hc] at C
  have HC := hide C
  have HK := hide hk
  have HP := hide (fun w' (c : Chg noBlk w w') => put_at (h.no c) o i l1 l2 hn)
  have HS := hide h
  have hm := h.m.lt
  clear h C hc hk l1 l2 hn
  have ta : True := True.intro
  go_enter Try.func32, Try.ntmps32
  go_wp2_with (first
    | (go_at_call 39; (with_reducible refine (unhide hin _ K2).mono ?_); rintro e w3 ⟨rfl, rfl⟩)
    | (go_at_call 42; refine (unhide HC _).mono ?_; rintro e w4 ⟨rfl, k4⟩; have G4 := G2.no k4; have K4 := K2.andNo k4; have g4 := k4.at g2 id; clear c0 c1 c2 c3; have c0 := G4.c0; rw [unhide HK] at c0; have c1 := G4.c1; have P4 := hide (unhide HP _ K4))
    | (go_at_call 44; (with_reducible refine (unhide P4).mono ?_); rintro e w5 ⟨rfl, k5, s5⟩; have g5 := k5.at g4 (fun e => by have e : p = m := e; omega))
    | ((with_reducible show wpList _ _ _ (_ :: _) _ _); first
      | (clear ta; refine wpL_box rfl 32 (.tmp 2) rfl o.cells.toArray rfl ?_; intro q w1 e1 k1 g1 z1; have G1 : OpAt w1 q o := g1; clear g1 z1 e1)
      | (refine wpL_alloc rfl 38 rfl _ zero_res ?_; intro p w2 e2 k2 g2 z2; have e0 : w.heap.size ≤ p := Nat.le_trans k1.size (Nat.le_of_eq e2); have G2 := G1.no k2; have c0 := G2.c0; have c1 := G2.c1; have c2 := G2.c2; have c3 := G2.c3; have K2 := k1.andNo k2; clear e2 z2)
      | (refine wpL_load rfl 32 (.tmp 5) rfl q rfl o.cells.toArray _ _ G4 _ Try.underlying32 rfl info_op4 ?_)
      | (refine wpL_store rfl 38 (.tmp 6) (.tmp 30) rfl p (RT.cells ⟨1, [], i, i⟩).toArray rfl rfl _ _ g5 info_res rfl (all_oneCell_toArray (RT.one _)) ?_; intro w6 k6 g7 z7)))
  refine bodyPost_ret (ret_res rfl _ _ p _ _ _ rfl g7) rfl ?_
  exact did_end (unhide HS) K4 k5 s5 k6 e0
set_option maxRecDepth 100000 in
set_option maxHeartbeats 1000000 in
theorem apply_dno (h : StAt w b m L) (i : Int) (o : PT) (i1 : 1 ≤ i) (i2 : i ≤ 4096) (hc : chk o = 0) (hk : o.k = 3) (hf : fnd L o.key = none) : Calls Try.prog 32 #[.pointer (some ⟨b, 0, none⟩), .int .i64 i, .agg o.cells.toArray] w (ToldN (.agg (RT.cells ⟨2, [], 0, i⟩).toArray) w) := by
  have hin := hide (fun w' (c : Chg noBlk w w') => isnone_at (h.no c))
  have C := fun w => check_any o w
  have l1 := (chk_fit.1 hc).l1
  have l2 := (chk_fit.1 hc).l2
  rw [hc] at C
  have HC := hide C
  have HK := hide hk
  have HP := hide (fun w' (c : Chg noBlk w w') => take_no (h.no c) (k := o.key) (by unfold maxLen; omega) i hf)
  have HS := hide h
  have hm := h.m.lt
  clear h C hc hk l1 l2 hf
  have ta : True := True.intro
  go_enter Try.func32, Try.ntmps32
  go_wp2_with (first
    | (go_at_call 39; (with_reducible refine (unhide hin _ K2).mono ?_); rintro e w3 ⟨rfl, rfl⟩)
    | (go_at_call 42; refine (unhide HC _).mono ?_; rintro e w4 ⟨rfl, k4⟩; have G4 := G2.no k4; have K4 := K2.andNo k4; have g4 := k4.at g2 id; clear c0 c1 c2 c3; have c0 := G4.c0; rw [unhide HK] at c0; have c1 := G4.c1; have P4 := hide (unhide HP _ K4))
    | (go_at_call 45; (with_reducible refine (unhide P4).mono ?_); rintro e w5 ⟨rfl, k5⟩; have g5 := k5.at g4 id)
    | ((with_reducible show wpList _ _ _ (_ :: _) _ _); first
      | (clear ta; refine wpL_box rfl 32 (.tmp 2) rfl o.cells.toArray rfl ?_; intro q w1 e1 k1 g1 z1; have G1 : OpAt w1 q o := g1; clear g1 z1 e1)
      | (refine wpL_alloc rfl 38 rfl _ zero_res ?_; intro p w2 e2 k2 g2 z2; have e0 : w.heap.size ≤ p := Nat.le_trans k1.size (Nat.le_of_eq e2); have G2 := G1.no k2; have c0 := G2.c0; have c1 := G2.c1; have c2 := G2.c2; have c3 := G2.c3; have K2 := k1.andNo k2; clear e2 z2)
      | (refine wpL_load rfl 32 (.tmp 5) rfl q rfl o.cells.toArray _ _ G4 _ Try.underlying32 rfl info_op4 ?_)
      | (refine wpL_store rfl 38 (.tmp 6) (.tmp 37) rfl p (RT.cells ⟨2, [], 0, i⟩).toArray rfl rfl _ _ g5 info_res rfl (all_oneCell_toArray (RT.one _)) ?_; intro w6 k6 g7 z7)))
  refine bodyPost_ret (ret_res rfl _ _ p _ _ _ rfl g7) rfl ?_
  exact ⟨rfl, (K4.andNo k5).past k6 e0⟩
set_option maxRecDepth 100000 in
set_option maxHeartbeats 1000000 in
theorem apply_dyes (h : StAt w b m L) (i : Int) (o : PT) (i1 : 1 ≤ i) (i2 : i ≤ 4096) (hc : chk o = 0) (hk : o.k = 3) {c : KV} (hf : fnd L o.key = some c) : Calls Try.prog 32 #[.pointer (some ⟨b, 0, none⟩), .int .i64 i, .agg o.cells.toArray] w (DidS b m ⟨1, [], 0, i⟩ (del L o.key) w) := by
  have hin := hide (fun w' (c : Chg noBlk w w') => isnone_at (h.no c))
  have C := fun w => check_any o w
  have l1 := (chk_fit.1 hc).l1
  have l2 := (chk_fit.1 hc).l2
  rw [hc] at C
  have HC := hide C
  have HK := hide hk
  have HP := hide (fun w' (c : Chg noBlk w w') => take_yes (h.no c) (k := o.key) (by unfold maxLen; omega) i hf)
  have HS := hide h
  have hm := h.m.lt
  clear h C hc hk l1 l2 hf
  have ta : True := True.intro
  go_enter Try.func32, Try.ntmps32
  go_wp2_with (first
    | (go_at_call 39; (with_reducible refine (unhide hin _ K2).mono ?_); rintro e w3 ⟨rfl, rfl⟩)
    | (go_at_call 42; refine (unhide HC _).mono ?_; rintro e w4 ⟨rfl, k4⟩; have G4 := G2.no k4; have K4 := K2.andNo k4; have g4 := k4.at g2 id; clear c0 c1 c2 c3; have c0 := G4.c0; rw [unhide HK] at c0; have c1 := G4.c1; have P4 := hide (unhide HP _ K4))
    | (go_at_call 45; (with_reducible refine (unhide P4).mono ?_); rintro e w5 ⟨rfl, k5, s5⟩; have g5 := k5.at g4 (fun e => by have e : p = m := e; omega))
    | ((with_reducible show wpList _ _ _ (_ :: _) _ _); first
      | (clear ta; refine wpL_box rfl 32 (.tmp 2) rfl o.cells.toArray rfl ?_; intro q w1 e1 k1 g1 z1; have G1 : OpAt w1 q o := g1; clear g1 z1 e1)
      | (refine wpL_alloc rfl 38 rfl _ zero_res ?_; intro p w2 e2 k2 g2 z2; have e0 : w.heap.size ≤ p := Nat.le_trans k1.size (Nat.le_of_eq e2); have G2 := G1.no k2; have c0 := G2.c0; have c1 := G2.c1; have c2 := G2.c2; have c3 := G2.c3; have K2 := k1.andNo k2; clear e2 z2)
      | (refine wpL_load rfl 32 (.tmp 5) rfl q rfl o.cells.toArray _ _ G4 _ Try.underlying32 rfl info_op4 ?_)
      | (refine wpL_store rfl 38 (.tmp 6) (.tmp 37) rfl p (RT.cells ⟨1, [], 0, i⟩).toArray rfl rfl _ _ g5 info_res rfl (all_oneCell_toArray (RT.one _)) ?_; intro w6 k6 g7 z7)))
  refine bodyPost_ret (ret_res rfl _ _ p _ _ _ rfl g7) rfl ?_
  exact did_end (unhide HS) K4 k5 s5 k6 e0
set_option maxRecDepth 100000 in
set_option maxHeartbeats 1000000 in
theorem apply_sno (h : StAt w b m L) (i : Int) (o : PT) (i1 : 1 ≤ i) (i2 : i ≤ 4096) (hc : chk o = 0) (hk : o.k = 4) (hf : (look L o.key 0).ver ≠ o.ver) : Calls Try.prog 32 #[.pointer (some ⟨b, 0, none⟩), .int .i64 i, .agg o.cells.toArray] w (ToldN (.agg (RT.cells ⟨3, (look L o.key 0).val, (look L o.key 0).ver, i⟩).toArray) w) := by
  have hin := hide (fun w' (c : Chg noBlk w w') => isnone_at (h.no c))
  have C := fun w => check_any o w
  have l1 := (chk_fit.1 hc).l1
  have l2 := (chk_fit.1 hc).l2
  rw [hc] at C
  have HC := hide C
  have HK := hide hk
  have HP := hide (fun w' (c : Chg noBlk w w') => swap_no (h.no c) o i l1 hf)
  have HS := hide h
  have hm := h.m.lt
  clear h C hc hk l1 l2 hf
  have ta : True := True.intro
  go_enter Try.func32, Try.ntmps32
  go_wp2_with (first
    | (go_at_call 39; (with_reducible refine (unhide hin _ K2).mono ?_); rintro e w3 ⟨rfl, rfl⟩)
    | (go_at_call 42; refine (unhide HC _).mono ?_; rintro e w4 ⟨rfl, k4⟩; have G4 := G2.no k4; have K4 := K2.andNo k4; have g4 := k4.at g2 id; clear c0 c1 c2 c3; have c0 := G4.c0; rw [unhide HK] at c0; have c1 := G4.c1; have P4 := hide (unhide HP _ K4))
    | (go_at_call 46; (with_reducible refine (unhide P4).mono ?_); rintro e w5 ⟨rfl, k5⟩; have g5 := k5.at g4 id)
    | ((with_reducible show wpList _ _ _ (_ :: _) _ _); first
      | (clear ta; refine wpL_box rfl 32 (.tmp 2) rfl o.cells.toArray rfl ?_; intro q w1 e1 k1 g1 z1; have G1 : OpAt w1 q o := g1; clear g1 z1 e1)
      | (refine wpL_alloc rfl 38 rfl _ zero_res ?_; intro p w2 e2 k2 g2 z2; have e0 : w.heap.size ≤ p := Nat.le_trans k1.size (Nat.le_of_eq e2); have G2 := G1.no k2; have c0 := G2.c0; have c1 := G2.c1; have c2 := G2.c2; have c3 := G2.c3; have K2 := k1.andNo k2; clear e2 z2)
      | (refine wpL_load rfl 32 (.tmp 5) rfl q rfl o.cells.toArray _ _ G4 _ Try.underlying32 rfl info_op4 ?_)
      | (refine wpL_store rfl 38 (.tmp 6) (.tmp 43) rfl p (RT.cells ⟨3, (look L o.key 0).val, (look L o.key 0).ver, i⟩).toArray rfl rfl _ _ g5 info_res rfl (all_oneCell_toArray (RT.one _)) ?_; intro w6 k6 g7 z7)))
  refine bodyPost_ret (ret_res rfl _ _ p _ _ _ rfl g7) rfl ?_
  exact ⟨rfl, (K4.andNo k5).past k6 e0⟩
set_option maxRecDepth 100000 in
set_option maxHeartbeats 1000000 in
theorem apply_syes (h : StAt w b m L) (i : Int) (o : PT) (i1 : 1 ≤ i) (i2 : i ≤ 4096) (hc : chk o = 0) (hk : o.k = 4) (hn : L.length < maxLen) (hf : (look L o.key 0).ver = o.ver) : Calls Try.prog 32 #[.pointer (some ⟨b, 0, none⟩), .int .i64 i, .agg o.cells.toArray] w (DidS b m ⟨1, [], i, i⟩ (put L ⟨o.key, o.val, i⟩) w) := by
  have hin := hide (fun w' (c : Chg noBlk w w') => isnone_at (h.no c))
  have C := fun w => check_any o w
  have l1 := (chk_fit.1 hc).l1
  have l2 := (chk_fit.1 hc).l2
  rw [hc] at C
  have HC := hide C
  have HK := hide hk
  have HP := hide (fun w' (c : Chg noBlk w w') => swap_yes (h.no c) o i l1 l2 hn hf)
  have HS := hide h
  have hm := h.m.lt
  clear h C hc hk l1 l2 hn hf
  have ta : True := True.intro
  go_enter Try.func32, Try.ntmps32
  go_wp2_with (first
    | (go_at_call 39; (with_reducible refine (unhide hin _ K2).mono ?_); rintro e w3 ⟨rfl, rfl⟩)
    | (go_at_call 42; refine (unhide HC _).mono ?_; rintro e w4 ⟨rfl, k4⟩; have G4 := G2.no k4; have K4 := K2.andNo k4; have g4 := k4.at g2 id; clear c0 c1 c2 c3; have c0 := G4.c0; rw [unhide HK] at c0; have c1 := G4.c1; have P4 := hide (unhide HP _ K4))
    | (go_at_call 46; (with_reducible refine (unhide P4).mono ?_); rintro e w5 ⟨rfl, k5, s5⟩; have g5 := k5.at g4 (fun e => by have e : p = m := e; omega))
    | ((with_reducible show wpList _ _ _ (_ :: _) _ _); first
      | (clear ta; refine wpL_box rfl 32 (.tmp 2) rfl o.cells.toArray rfl ?_; intro q w1 e1 k1 g1 z1; have G1 : OpAt w1 q o := g1; clear g1 z1 e1)
      | (refine wpL_alloc rfl 38 rfl _ zero_res ?_; intro p w2 e2 k2 g2 z2; have e0 : w.heap.size ≤ p := Nat.le_trans k1.size (Nat.le_of_eq e2); have G2 := G1.no k2; have c0 := G2.c0; have c1 := G2.c1; have c2 := G2.c2; have c3 := G2.c3; have K2 := k1.andNo k2; clear e2 z2)
      | (refine wpL_load rfl 32 (.tmp 5) rfl q rfl o.cells.toArray _ _ G4 _ Try.underlying32 rfl info_op4 ?_)
      | (refine wpL_store rfl 38 (.tmp 6) (.tmp 43) rfl p (RT.cells ⟨1, [], i, i⟩).toArray rfl rfl _ _ g5 info_res rfl (all_oneCell_toArray (RT.one _)) ?_; intro w6 k6 g7 z7)))
  refine bodyPost_ret (ret_res rfl _ _ p _ _ _ rfl g7) rfl ?_
  exact did_end (unhide HS) K4 k5 s5 k6 e0
set_option maxRecDepth 100000 in
set_option maxHeartbeats 1000000 in
theorem apply_get (h : StAt w b m L) (i : Int) (o : PT) (i1 : 1 ≤ i) (i2 : i ≤ 4096) (hc : chk o = 0) (hk : o.k = 1)  : Calls Try.prog 32 #[.pointer (some ⟨b, 0, none⟩), .int .i64 i, .agg o.cells.toArray] w (ToldN (.agg (RT.cells (look L o.key i)).toArray) w) := by
  have hin := hide (fun w' (c : Chg noBlk w w') => isnone_at (h.no c))
  have C := fun w => check_any o w
  have l1 := (chk_fit.1 hc).l1
  have l2 := (chk_fit.1 hc).l2
  rw [hc] at C
  have HC := hide C
  have HK := hide hk
  have HP := hide (fun w' (c : Chg noBlk w w') => look_at (h.no c) (k := o.key) (by unfold maxLen; omega) i)
  have HS := hide h
  have hm := h.m.lt
  clear h C hc hk l1 l2 
  have ta : True := True.intro
  go_enter Try.func32, Try.ntmps32
  go_wp2_with (first
    | (go_at_call 39; (with_reducible refine (unhide hin _ K2).mono ?_); rintro e w3 ⟨rfl, rfl⟩)
    | (go_at_call 42; refine (unhide HC _).mono ?_; rintro e w4 ⟨rfl, k4⟩; have G4 := G2.no k4; have K4 := K2.andNo k4; have g4 := k4.at g2 id; clear c0 c1 c2 c3; have c0 := G4.c0; rw [unhide HK] at c0; have c1 := G4.c1; have P4 := hide (unhide HP _ K4))
    | (go_at_call 28; (with_reducible refine (unhide P4).mono ?_); rintro e w5 ⟨rfl, k5⟩; have g5 := k5.at g4 id)
    | ((with_reducible show wpList _ _ _ (_ :: _) _ _); first
      | (clear ta; refine wpL_box rfl 32 (.tmp 2) rfl o.cells.toArray rfl ?_; intro q w1 e1 k1 g1 z1; have G1 : OpAt w1 q o := g1; clear g1 z1 e1)
      | (refine wpL_alloc rfl 38 rfl _ zero_res ?_; intro p w2 e2 k2 g2 z2; have e0 : w.heap.size ≤ p := Nat.le_trans k1.size (Nat.le_of_eq e2); have G2 := G1.no k2; have c0 := G2.c0; have c1 := G2.c1; have c2 := G2.c2; have c3 := G2.c3; have K2 := k1.andNo k2; clear e2 z2)
      | (refine wpL_load rfl 32 (.tmp 5) rfl q rfl o.cells.toArray _ _ G4 _ Try.underlying32 rfl info_op4 ?_)
      | (refine wpL_store rfl 38 (.tmp 6) (.tmp 48) rfl p (RT.cells (look L o.key i)).toArray rfl rfl _ _ g5 info_res rfl (all_oneCell_toArray (RT.one _)) ?_; intro w6 k6 g7 z7)))
  refine bodyPost_ret (ret_res rfl _ _ p _ _ _ rfl g7) rfl ?_
  exact ⟨rfl, (K4.andNo k5).past k6 e0⟩
theorem apply_at (h : StAt w b m L) (i : Int) (o : PT) (hn : L.length < maxLen) : Calls Try.prog 32 #[.pointer (some ⟨b, 0, none⟩), .int .i64 i, .agg o.cells.toArray] w (DidS b m (appR L i o) (appL L i o) w) := by
  rcases app_ways L i o with ⟨hm, e1, e2⟩ | ⟨hm, hk, e1, e2⟩ | ⟨hm, hk, hf, e1, e2⟩ | ⟨hm, hk, ⟨c, hf⟩, e1, e2⟩ | ⟨hm, hk, hf, e1, e2⟩ | ⟨hm, hk, hf, e1, e2⟩ | ⟨hm, hk, e1, e2⟩ <;> rw [e1, e2]
  · by_cases i1 : i < 1
    · exact (apply_lo h i o i1).mono fun e w' k => DidS.ofNo h k
    by_cases i2 : 4096 < i
    · exact (apply_hi h i o i2).mono fun e w' k => DidS.ofNo h k
    · exact (apply_bad h i o (by omega) (by omega) (fun hc => may_no.1 hm ⟨by omega, by omega, hc⟩)).mono fun e w' k => DidS.ofNo h k
  all_goals obtain ⟨i1, i2, hc⟩ := may_yes.1 hm
  · exact apply_put h i o i1 i2 hc hk hn
  · exact (apply_dno h i o i1 i2 hc hk hf).mono fun e w' k => DidS.ofNo h k
  · exact apply_dyes h i o i1 i2 hc hk hf
  · exact (apply_sno h i o i1 i2 hc hk hf).mono fun e w' k => DidS.ofNo h k
  · exact apply_syes h i o i1 i2 hc hk hn hf
  · exact (apply_get h i o i1 i2 hc hk).mono fun e w' k => DidS.ofNo h k
end
end Go.Proofs.Ytfffgegdcgfakaa
