/-
  Keys with values: the chapter's store, walked.
-/
import Derived.Test.YtbccebdhdppegaaKvI
namespace Go.Proofs.Ytbccebdhdppegaa
open Go.ChangeShapes Go.WideShapes Go.ChangeAt Go.RowKit
set_option linter.unusedVariables false
attribute [local go_sem] bs_size bs_app bs_cut bs_tl bs_at
theorem eq_res (c n a : Int) (s : ByteArray) (w : World) : (Op.equalIn 10000 33 (.agg #[.int .i64 c, .string s, .int .i64 n, .int .i64 a]) (.agg #[.int .i64 c, .string s, .int .i64 n, .int .i64 a])).run Try.prog w = .ok true w := by
  rw [run_equalIn_struct w 9999 _ _ _ Try.underlying33 (by kernel_rfl)]
  simp [go_sem, Op.eqFields]
attribute [local go_sem ↓] eq_res
/-- a result at p -/
def ResAt (w : World) (p : Nat) (r : RT) : Prop := w.heap[p]? = some (.cells r.cells.toArray 33 (0, 0))
section
variable {w w' w2 w5 : World} {p m b : Nat} {r : RT} {L M : List KV}
theorem ResAt.no (h : ResAt w p r) (k : Chg noBlk w w') : ResAt w' p r := k.at h id
theorem ResAt.lt (h : ResAt w p r) : p < w.heap.size := lt_of_block h
theorem ResAt.but (h : ResAt w p r) (k : Chg (oneBlk m) w w') (hp : p ≠ m) : ResAt w' p r := k.at h hp
theorem ResAt.c0 (h : ResAt w p r) : w.cell? ⟨p, 0, none⟩ = some (.int .i64 r.code) := cellAt h 0 _ rfl
theorem ResAt.c1 (h : ResAt w p r) : w.cell? ⟨p, 1, none⟩ = some (str r.val) := cellAt h 1 _ rfl
theorem ResAt.c2 (h : ResAt w p r) : w.cell? ⟨p, 2, none⟩ = some (.int .i64 r.ver) := cellAt h 2 _ rfl
theorem ResAt.c3 (h : ResAt w p r) : w.cell? ⟨p, 3, none⟩ = some (.int .i64 r.at_) := cellAt h 3 _ rfl
end
theorem apply_is {w : World} {b m : Nat} {L M : List KV} {i : Int} {o : PT} {r : RT} (h : StAt w b m L) (hn : L.length < maxLen) (e : appL L i o = M ∧ appR L i o = r) : Calls Try.prog 12 #[.pointer (some ⟨b, 0, none⟩), .int .i64 i, .agg o.cells.toArray] w (DidS b m r M w) := by
  have := apply_at h i o hn
  rw [e.1, e.2] at this
  exact this
set_option maxRecDepth 100000 in
set_option maxHeartbeats 4000000 in
theorem stored_any (w : World) : Calls Try.prog 7 #[] w (ToldN (.bool true) w) := by
  have HN := hide (new_any w)
  have H1 := hide (fun w b m (h : StAt w b m []) => apply_is h (by unfold maxLen; decide) a1)
  have t1 : True := True.intro
  have u1 : True := True.intro
  have H2 := hide (fun w b m (h : StAt w b m s1) => apply_is h (by unfold maxLen; decide) a2)
  have t2 : True := True.intro
  have u2 : True := True.intro
  have H3 := hide (fun w b m (h : StAt w b m s1) => apply_is h (by unfold maxLen; decide) a3)
  have t3 : True := True.intro
  have u3 : True := True.intro
  have H4 := hide (fun w b m (h : StAt w b m s2) => (look_at h (k := [107]) (by unfold maxLen; simp) 7).mono fun e w2 k => DidS.ofNo h k)
  have t4 : True := True.intro
  have u4 : True := True.intro
  have H5 := hide (fun w b m (h : StAt w b m s2) => apply_is h (by unfold maxLen; decide) a5)
  have t5 : True := True.intro
  have u5 : True := True.intro
  have H6 := hide (fun w b m (h : StAt w b m []) => apply_is h (by unfold maxLen; decide) a6)
  have t6 : True := True.intro
  have u6 : True := True.intro
  go_enter Try.func7, Try.ntmps7
  go_wp2_with (first
    | (go_at_call 8; (with_reducible refine (unhide HN).mono ?_); rintro e v0 ⟨b, m, rfl, eb, em, K0, S0⟩)
    | (clear t1; go_at_call 12; refine (unhide H1 _ _ _ S0).mono ?_; rintro e w1 ⟨rfl, k1, S1⟩; have K1 := K0.past k1 em; have hm1 := S1.m.lt)
    | (clear t2; go_at_call 12; refine (unhide H2 _ _ _ S1b).mono ?_; rintro e w2 ⟨rfl, k2, S2⟩; have K2 := K1b.past k2 em; have hm2 := S2.m.lt; have R1_2 := R1_1b.but k2 (fun e => by have e : p1 = m := e; have := n1; omega))
    | (clear t3; go_at_call 12; refine (unhide H3 _ _ _ S2b).mono ?_; rintro e w3 ⟨rfl, k3, S3⟩; have K3 := K2b.past k3 em; have hm3 := S3.m.lt; have R1_3 := R1_2b.but k3 (fun e => by have e : p1 = m := e; have := n1; omega); have R2_3 := R2_2b.but k3 (fun e => by have e : p2 = m := e; have := n2; omega))
    | (clear t4; go_at_call 10; refine (unhide H4 _ _ _ S3b).mono ?_; rintro e w4 ⟨rfl, k4, S4⟩; have K4 := K3b.past k4 em; have hm4 := S4.m.lt; have R1_4 := R1_3b.but k4 (fun e => by have e : p1 = m := e; have := n1; omega); have R2_4 := R2_3b.but k4 (fun e => by have e : p2 = m := e; have := n2; omega); have R3_4 := R3_3b.but k4 (fun e => by have e : p3 = m := e; have := n3; omega))
    | (clear t5; go_at_call 12; refine (unhide H5 _ _ _ S4b).mono ?_; rintro e w5 ⟨rfl, k5, S5⟩; have K5 := K4b.past k5 em; have hm5 := S5.m.lt; have R1_5 := R1_4b.but k5 (fun e => by have e : p1 = m := e; have := n1; omega); have R2_5 := R2_4b.but k5 (fun e => by have e : p2 = m := e; have := n2; omega); have R3_5 := R3_4b.but k5 (fun e => by have e : p3 = m := e; have := n3; omega); have R4_5 := R4_4b.but k5 (fun e => by have e : p4 = m := e; have := n4; omega))
    | (clear t6; go_at_call 12; refine (unhide H6 _ _ _ S5b).mono ?_; rintro e w6 ⟨rfl, k6, S6⟩; have K6 := K5b.past k6 em; have hm6 := S6.m.lt; have R1_6 := R1_5b.but k6 (fun e => by have e : p1 = m := e; have := n1; omega); have R2_6 := R2_5b.but k6 (fun e => by have e : p2 = m := e; have := n2; omega); have R3_6 := R3_5b.but k6 (fun e => by have e : p3 = m := e; have := n3; omega); have R4_6 := R4_5b.but k6 (fun e => by have e : p4 = m := e; have := n4; omega); have R5_6 := R5_5b.but k6 (fun e => by have e : p5 = m := e; have := n5; omega))
    | ((with_reducible show wpList _ _ _ (_ :: _) _ _); first
      | (clear u1; refine wpL_alloc rfl 33 rfl _ zero_res ?_; intro p1 w1a e1a k1a g1a z1a; have e1b : w1.heap.size ≤ p1 := Nat.le_of_eq e1a; clear e1a z1a)
      | (refine wpL_store rfl 33 (.tmp 2) (.tmp 11) rfl p1 (RT.cells ⟨1, [], 1, 1⟩).toArray rfl rfl _ _ g1a info_res rfl (all_oneCell_toArray (RT.one _)) ?_; intro w1b k1b R1_1b z1b; have R1_1b : ResAt w1b p1 ⟨1, [], 1, 1⟩ := R1_1b; have k1c := k1a.past k1b e1b; have n1 : m < p1 := Nat.lt_of_lt_of_le hm1 e1b; have K1b := K1.andNo k1c; have S1b := S1.no k1c; clear g1a k1a k1b z1b)
      | (clear u2; refine wpL_alloc rfl 33 rfl _ zero_res ?_; intro p2 w2a e2a k2a g2a z2a; have e2b : w2.heap.size ≤ p2 := Nat.le_of_eq e2a; clear e2a z2a)
      | (refine wpL_store rfl 33 (.tmp 3) (.tmp 14) rfl p2 (RT.cells ⟨3, [118], 1, 2⟩).toArray rfl rfl _ _ g2a info_res rfl (all_oneCell_toArray (RT.one _)) ?_; intro w2b k2b R2_2b z2b; have R2_2b : ResAt w2b p2 ⟨3, [118], 1, 2⟩ := R2_2b; have k2c := k2a.past k2b e2b; have n2 : m < p2 := Nat.lt_of_lt_of_le hm2 e2b; have K2b := K2.andNo k2c; have S2b := S2.no k2c; clear g2a k2a k2b z2b; have R1_2b := R1_2.no k2c; clear R1_2)
      | (clear u3; refine wpL_alloc rfl 33 rfl _ zero_res ?_; intro p3 w3a e3a k3a g3a z3a; have e3b : w3.heap.size ≤ p3 := Nat.le_of_eq e3a; clear e3a z3a)
      | (refine wpL_store rfl 33 (.tmp 4) (.tmp 17) rfl p3 (RT.cells ⟨1, [], 2, 2⟩).toArray rfl rfl _ _ g3a info_res rfl (all_oneCell_toArray (RT.one _)) ?_; intro w3b k3b R3_3b z3b; have R3_3b : ResAt w3b p3 ⟨1, [], 2, 2⟩ := R3_3b; have k3c := k3a.past k3b e3b; have n3 : m < p3 := Nat.lt_of_lt_of_le hm3 e3b; have K3b := K3.andNo k3c; have S3b := S3.no k3c; clear g3a k3a k3b z3b; have R1_3b := R1_3.no k3c; clear R1_3; have R2_3b := R2_3.no k3c; clear R2_3)
      | (clear u4; refine wpL_alloc rfl 33 rfl _ zero_res ?_; intro p4 w4a e4a k4a g4a z4a; have e4b : w4.heap.size ≤ p4 := Nat.le_of_eq e4a; clear e4a z4a)
      | (refine wpL_store rfl 33 (.tmp 5) (.tmp 19) rfl p4 (RT.cells ⟨1, [119], 2, 7⟩).toArray rfl rfl _ _ g4a info_res rfl (all_oneCell_toArray (RT.one _)) ?_; intro w4b k4b R4_4b z4b; have R4_4b : ResAt w4b p4 ⟨1, [119], 2, 7⟩ := R4_4b; have k4c := k4a.past k4b e4b; have n4 : m < p4 := Nat.lt_of_lt_of_le hm4 e4b; have K4b := K4.andNo k4c; have S4b := S4.no k4c; clear g4a k4a k4b z4b; have R1_4b := R1_4.no k4c; clear R1_4; have R2_4b := R2_4.no k4c; clear R2_4; have R3_4b := R3_4.no k4c; clear R3_4)
      | (clear u5; refine wpL_alloc rfl 33 rfl _ zero_res ?_; intro p5 w5a e5a k5a g5a z5a; have e5b : w5.heap.size ≤ p5 := Nat.le_of_eq e5a; clear e5a z5a)
      | (refine wpL_store rfl 33 (.tmp 6) (.tmp 22) rfl p5 (RT.cells ⟨1, [], 0, 3⟩).toArray rfl rfl _ _ g5a info_res rfl (all_oneCell_toArray (RT.one _)) ?_; intro w5b k5b R5_5b z5b; have R5_5b : ResAt w5b p5 ⟨1, [], 0, 3⟩ := R5_5b; have k5c := k5a.past k5b e5b; have n5 : m < p5 := Nat.lt_of_lt_of_le hm5 e5b; have K5b := K5.andNo k5c; have S5b := S5.no k5c; clear g5a k5a k5b z5b; have R1_5b := R1_5.no k5c; clear R1_5; have R2_5b := R2_5.no k5c; clear R2_5; have R3_5b := R3_5.no k5c; clear R3_5; have R4_5b := R4_5.no k5c; clear R4_5)
      | (clear u6; refine wpL_alloc rfl 33 rfl _ zero_res ?_; intro p6 w6a e6a k6a g6a z6a; have e6b : w6.heap.size ≤ p6 := Nat.le_of_eq e6a; clear e6a z6a)
      | (refine wpL_store rfl 33 (.tmp 7) (.tmp 25) rfl p6 (RT.cells ⟨2, [], 0, 4⟩).toArray rfl rfl _ _ g6a info_res rfl (all_oneCell_toArray (RT.one _)) ?_; intro w6b k6b R6_6b z6b; have R6_6b : ResAt w6b p6 ⟨2, [], 0, 4⟩ := R6_6b; have k6c := k6a.past k6b e6b; have n6 : m < p6 := Nat.lt_of_lt_of_le hm6 e6b; have K6b := K6.andNo k6c; have S6b := S6.no k6c; clear g6a k6a k6b z6b; have R1_6b := R1_6.no k6c; clear R1_6; have R2_6b := R2_6.no k6c; clear R2_6; have R3_6b := R3_6.no k6c; clear R3_6; have R4_6b := R4_6.no k6c; clear R4_6; have R5_6b := R5_6.no k6c; clear R5_6; have c20 : _ = some (Value.int .i64 3) := R2_6b.c0; have c21 : _ = some (Value.string ⟨#[118]⟩) := R2_6b.c1; have c22 : _ = some (Value.int .i64 1) := R2_6b.c2; have c23 : _ = some (Value.int .i64 2) := R2_6b.c3; have c30 : _ = some (Value.int .i64 1) := R3_6b.c0; have c31 : _ = some (Value.string ⟨#[]⟩) := R3_6b.c1; have c32 : _ = some (Value.int .i64 2) := R3_6b.c2; have c33 : _ = some (Value.int .i64 2) := R3_6b.c3; have c40 : _ = some (Value.int .i64 1) := R4_6b.c0; have c41 : _ = some (Value.string ⟨#[119]⟩) := R4_6b.c1; have c42 : _ = some (Value.int .i64 2) := R4_6b.c2; have c43 : _ = some (Value.int .i64 7) := R4_6b.c3; have c50 : _ = some (Value.int .i64 1) := R5_6b.c0; have c51 : _ = some (Value.string ⟨#[]⟩) := R5_6b.c1; have c52 : _ = some (Value.int .i64 0) := R5_6b.c2; have c53 : _ = some (Value.int .i64 3) := R5_6b.c3; have c60 : _ = some (Value.int .i64 2) := R6_6b.c0; have c61 : _ = some (Value.string ⟨#[]⟩) := R6_6b.c1; have c62 : _ = some (Value.int .i64 0) := R6_6b.c2; have c63 : _ = some (Value.int .i64 4) := R6_6b.c3)
      | (refine wpL_build rfl 29 _ rfl x1.cells.toArray b1 ?_)
      | (refine wpL_build rfl 29 _ rfl x2.cells.toArray b2 ?_)
      | (refine wpL_build rfl 29 _ rfl x3.cells.toArray b3 ?_)
      | (refine wpL_build rfl 29 _ rfl x4.cells.toArray b4 ?_)
      | (refine wpL_build rfl 29 _ rfl x4.cells.toArray b4 ?_)
      | (refine wpL_load rfl 33 (.tmp 2) rfl p1 rfl #[.int .i64 1, .string ⟨#[]⟩, .int .i64 1, .int .i64 1] _ _ R1_6b _ Try.underlying33 rfl info_res ?_)))
  go_ret
  exact ⟨rfl, K6b⟩
end Go.Proofs.Ytbccebdhdppegaa
