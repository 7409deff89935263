/-
  Keys with values: the document's Apply.
-/
import Derived.Test.YtfffgegdcgfakaaKvS0
namespace Go.Proofs.Ytfffgegdcgfakaa
open Go.ChangeShapes Go.WideShapes Go.ChangeAt Go.RowKit
set_option linter.unusedVariables false
attribute [local go_sem] bs_size bs_app bs_cut bs_tl bs_at
theorem results_tmp_cell {fn : Func} {p u : Tmp} {ty : TypeId} (h : fn.results = #[.tmp u, .cell p ty]) (tmps : Array Value) (P : Program) (w : World) :
    (results fn tmps).run P w = ((asAddr (tmps.getD p undef)).run P w).andThen fun a w₁ => ((loadVar ty a).run P w₁).andThen fun x w₂ => .ok (.tuple #[tmps.getD u undef, x]) w₂ := by
  simp only [results, h]
  simp [Sem.run_bind, Result.andThen]
/-- a slot, and a result's block -/
theorem ret_two {fn : Func} {p u : Tmp} (h : fn.results = #[.tmp u, .cell p 38]) (tmps : Array Value) (w : World) (g : Nat) (r : RT) (t : TypeId) (fr : Nat × Nat) (hp : tmps.getD p undef = .pointer (some ⟨g, 0, none⟩)) (hg : w.heap[g]? = some (.cells r.cells.toArray t fr)) :
    (results fn tmps).run Try.prog w = .ok (.tuple #[tmps.getD u undef, .agg r.cells.toArray]) w := by
  rw [results_tmp_cell h, hp]
  simp only [asAddr, Sem.run_pure, Result.andThen_ok, run_loadVar_row w g t 38 r.cells.toArray fr _ hg Try.underlying38 rfl info_res]
/-- told: the cells, and what became of it -/
def ToldA (L : List KV) (r : RT) (w : World) (e : Ending) (w' : World) : Prop := ∃ ad cap, e = .returned (.tuple #[.slice ad L.length cap, .agg r.cells.toArray]) ∧ SlC w' ad cap L ∧ Chg noBlk w w'
theorem told_own {w w' : World} {M : List KV} {r : RT} {v : Value} (o : w'.ownsRow 0 87 3 v M.length (flat M)) (k : Chg noBlk w w') : ToldA M r w (.returned (.tuple #[v, .agg r.cells.toArray])) w' := by
  obtain ⟨ad, cap, rfl, hs⟩ := SlC.own o
  exact ⟨ad, cap, rfl, hs, k⟩
theorem own_but {w w' : World} {p n : Nat} {v : Value} {xs : List Value} {cs : Array Value} {fr : Nat × Nat} (h : w.ownsRow 0 87 3 v n xs) (k : Chg (oneBlk p) w w') (g : w.heap[p]? = some (.cells cs 38 fr)) : w'.ownsRow 0 87 3 v n xs := by
  refine ⟨h.1, ?_⟩
  rcases h.2 with h2 | ⟨b, cap, cur, h3, h4, h5, h6⟩
  · exact .inl h2
  · refine .inr ⟨b, cap, cur, h3, h4, k.at h5 fun e => ?_, h6⟩
    have e : b = p := e
    subst e
    rw [h5] at g
    simp at g
theorem look_any (L : List KV) (k : List UInt8) (a b : Int) : (look L k a).val = (look L k b).val ∧ (look L k a).ver = (look L k b).ver := by
  cases hf : fnd L k with
  | none => rw [look_none hf, look_none hf]; exact ⟨rfl, rfl⟩
  | some c => rw [look_some hf, look_some hf]; exact ⟨rfl, rfl⟩
section
variable {w : World} {ad : Option Addr} {cap : Nat} {L : List KV}
set_option maxRecDepth 100000 in
set_option maxHeartbeats 1000000 in
theorem rapply_lo (h : SlC w ad cap L) (i : Int) (o : PT) (hi : i < 1) : Calls Try.prog 41 #[.slice ad L.length cap, .int .i64 i, .agg o.cells.toArray] w (ToldA L rZero w) := by
  have HS := hide h
  clear h
  have ta : True := True.intro
  have tb : True := True.intro
  go_enter Try.func41, Try.ntmps41
  go_wp2_with (first
    | ((with_reducible show wpList _ _ _ (_ :: _) _ _); first
      | (clear ta; refine wpL_box rfl 32 (.tmp 2) rfl o.cells.toArray rfl ?_; intro q w1 e1 k1 g1 z1; have G1 : OpAt w1 q o := g1; clear g1 z1 e1)
      | (clear tb; refine wpL_alloc rfl 38 rfl _ zero_res ?_; intro p w2 e2 k2 g2 z2; have e0 : w.heap.size ≤ p := Nat.le_trans k1.size (Nat.le_of_eq e2); have G2 := G1.no k2; have c0 := G2.c0; have c1 := G2.c1; have c2 := G2.c2; have c3 := G2.c3; have K2 := k1.andNo k2; clear e2 z2)
      | (refine wpL_store rfl 38 (.tmp 7) (.tmp 21) rfl p rZero.cells.toArray rfl rfl _ _ g2 info_res rfl (all_oneCell_toArray (RT.one _)) ?_; intro w6 k6 g7 z7)))
  refine bodyPost_ret (ret_two rfl _ _ p _ _ _ rfl g7) rfl ?_
  have KE := K2.past k6 e0
  exact ⟨ad, cap, rfl, (unhide HS).no KE, KE⟩
set_option maxRecDepth 100000 in
set_option maxHeartbeats 1000000 in
theorem rapply_hi (h : SlC w ad cap L) (i : Int) (o : PT) (hi : 4096 < i) : Calls Try.prog 41 #[.slice ad L.length cap, .int .i64 i, .agg o.cells.toArray] w (ToldA L rZero w) := by
  have HS := hide h
  clear h
  have i1 : ¬ i < 1 := by omega
  have ta : True := True.intro
  have tb : True := True.intro
  go_enter Try.func41, Try.ntmps41
  go_wp2_with (first
    | ((with_reducible show wpList _ _ _ (_ :: _) _ _); first
      | (clear ta; refine wpL_box rfl 32 (.tmp 2) rfl o.cells.toArray rfl ?_; intro q w1 e1 k1 g1 z1; have G1 : OpAt w1 q o := g1; clear g1 z1 e1)
      | (clear tb; refine wpL_alloc rfl 38 rfl _ zero_res ?_; intro p w2 e2 k2 g2 z2; have e0 : w.heap.size ≤ p := Nat.le_trans k1.size (Nat.le_of_eq e2); have G2 := G1.no k2; have c0 := G2.c0; have c1 := G2.c1; have c2 := G2.c2; have c3 := G2.c3; have K2 := k1.andNo k2; clear e2 z2)
      | (refine wpL_store rfl 38 (.tmp 7) (.tmp 21) rfl p rZero.cells.toArray rfl rfl _ _ g2 info_res rfl (all_oneCell_toArray (RT.one _)) ?_; intro w6 k6 g7 z7)))
  refine bodyPost_ret (ret_two rfl _ _ p _ _ _ rfl g7) rfl ?_
  have KE := K2.past k6 e0
  exact ⟨ad, cap, rfl, (unhide HS).no KE, KE⟩
set_option maxRecDepth 100000 in
set_option maxHeartbeats 1000000 in
theorem rapply_bad (h : SlC w ad cap L) (i : Int) (o : PT) (i1 : 1 ≤ i) (i2 : i ≤ 4096) (hc : chk o ≠ 0) : Calls Try.prog 41 #[.slice ad L.length cap, .int .i64 i, .agg o.cells.toArray] w (ToldA L rZero w) := by
  have HS := hide h
  clear h
  have C := fun w => rcheck_any o w
  obtain ⟨n, hn⟩ : ∃ n, chk o = n := ⟨_, rfl⟩
  rw [hn] at C hc
  have d1 : (n != 0) = true := by simpa using hc
  have HC := hide C
  clear C hn hc
  have ta : True := True.intro
  have tb : True := True.intro
  go_enter Try.func41, Try.ntmps41
  go_wp2_with (first
    | (go_at_call 34; refine (unhide HC _).mono ?_; rintro e w4 ⟨rfl, k4⟩; have G4 := G2.no k4; have K4 := K2.andNo k4; have g4 := k4.at g2 id; clear c0 c1 c2 c3)
    | ((with_reducible show wpList _ _ _ (_ :: _) _ _); first
      | (clear ta; refine wpL_box rfl 32 (.tmp 2) rfl o.cells.toArray rfl ?_; intro q w1 e1 k1 g1 z1; have G1 : OpAt w1 q o := g1; clear g1 z1 e1)
      | (clear tb; refine wpL_alloc rfl 38 rfl _ zero_res ?_; intro p w2 e2 k2 g2 z2; have e0 : w.heap.size ≤ p := Nat.le_trans k1.size (Nat.le_of_eq e2); have G2 := G1.no k2; have c0 := G2.c0; have c1 := G2.c1; have c2 := G2.c2; have c3 := G2.c3; have K2 := k1.andNo k2; clear e2 z2)
      | (refine wpL_store rfl 38 (.tmp 7) (.tmp 21) rfl p rZero.cells.toArray rfl rfl _ _ g4 info_res rfl (all_oneCell_toArray (RT.one _)) ?_; intro w6 k6 g7 z7)))
  refine bodyPost_ret (ret_two rfl _ _ p _ _ _ rfl g7) rfl ?_
  have KE := K4.past k6 e0
  exact ⟨ad, cap, rfl, (unhide HS).no KE, KE⟩
set_option maxRecDepth 100000 in
set_option maxHeartbeats 2000000 in
theorem rapply_get (h : SlC w ad cap L) (hl : L.length ≤ 500) (i : Int) (o : PT) (i1 : 1 ≤ i) (i2 : i ≤ 4096) (hc : chk o = 0) (hk : o.k = 1)  : Calls Try.prog 41 #[.slice ad L.length cap, .int .i64 i, .agg o.cells.toArray] w (ToldA L (look L o.key i) w) := by
  have C := fun w => rcheck_any o w
  rw [hc] at C
  have HC := hide C
  have HK := hide hk
  have HS := hide h
  have HL := hide (fun w' (c : Chg noBlk w w') => rlook_at (h.no c) (by omega) o.key i)
  obtain ⟨r, hr⟩ : ∃ r, look L o.key i = r := ⟨_, rfl⟩
  rw [hr] at HL
  obtain ⟨x1, x2, x3, x4⟩ := r
  have HR := hide hr
  clear h C hc hk hr 
  have ta : True := True.intro
  have tb : True := True.intro
  have tc : True := True.intro
  go_enter Try.func41, Try.ntmps41
  go_wp2_with (first
    | (go_at_call 34; refine (unhide HC _).mono ?_; rintro e w4 ⟨rfl, k4⟩; have G4 := G2.no k4; have K4 := K2.andNo k4; have g4 := k4.at g2 id; clear c0 c1 c2 c3; have c0 := G4.c0; rw [unhide HK] at c0; have c1 := G4.c1; have c2 := G4.c2; have c3 := G4.c3; have P4 := hide (unhide HL _ K4))
    | (go_at_call 30; (with_reducible refine (unhide P4).mono ?_); rintro e w5 ⟨rfl, k5⟩)
    | ((with_reducible show wpList _ _ _ (_ :: _) _ _); first
      | (clear ta; refine wpL_box rfl 32 (.tmp 2) rfl o.cells.toArray rfl ?_; intro q w1 e1 k1 g1 z1; have G1 : OpAt w1 q o := g1; clear g1 z1 e1)
      | (clear tb; refine wpL_alloc rfl 38 rfl _ zero_res ?_; intro p w2 e2 k2 g2 z2; have e0 : w.heap.size ≤ p := Nat.le_trans k1.size (Nat.le_of_eq e2); have G2 := G1.no k2; have c0 := G2.c0; have c1 := G2.c1; have c2 := G2.c2; have c3 := G2.c3; have K2 := k1.andNo k2; clear e2 z2)
      | (clear tc; refine wpL_alloc rfl 38 rfl _ zero_res ?_; intro p8 w6 e6 k6 g6 z6; have e6b : w5.heap.size ≤ p8 := Nat.le_of_eq e6; clear e6 z6)
      | (refine wpL_store rfl 38 (.tmp 8) (.tmp 26) rfl p8 (RT.cells ⟨x1, x2, x3, x4⟩).toArray rfl rfl _ _ g6 info_res rfl (all_oneCell_toArray (RT.one _)) ?_; intro w7 k7 R7 z7; have R7 : ResAt w7 p8 ⟨x1, x2, x3, x4⟩ := R7; have k7b := k5.andNo (k6.past k7 e6b); have K7 := K4.andNo k7b; have G7 := G4.no k7b; have g7 := k7b.at g4 id; clear c0 c1 c2 c3; have c0 := G7.c0; rw [unhide HK] at c0; have c1 := G7.c1; have c2 := G7.c2; have c3 := G7.c3; have r0 := R7.c0; have r1 := R7.c1; have r2 := R7.c2; have r3 := R7.c3; clear k5 k6 k7 k7b g6 z7 R7)
      | fail))
  go_still_tail 3, (by kernel_rfl)
  change wpList _ _ _ _ _ w7.drew
  have g8 : w7.drew.heap[p]? = _ := g7
  have K8 := K7.drew
  generalize w7.drew = w8 at g8 K8 ⊢
  go_wp2_with ((with_reducible show wpList _ _ _ (_ :: _) _ _); refine wpL_store rfl 38 (.tmp 7) (.tmp 32) rfl p (RT.cells ⟨x1, x2, x3, x4⟩).toArray rfl rfl _ _ g8 info_res rfl (all_oneCell_toArray (RT.one _)) ?_; intro w9 k9 g9 z9)
  refine bodyPost_ret (ret_two rfl _ _ p _ _ _ rfl g9) rfl ?_
  have KE := K8.past k9 e0
  exact ⟨ad, cap, by rw [unhide HR]; rfl, (unhide HS).no KE, KE⟩
set_option maxRecDepth 100000 in
set_option maxHeartbeats 2000000 in
theorem rapply_dno (h : SlC w ad cap L) (hl : L.length ≤ 500) (i : Int) (o : PT) (i1 : 1 ≤ i) (i2 : i ≤ 4096) (hc : chk o = 0) (hk : o.k = 3) (hf : fnd L o.key = none) : Calls Try.prog 41 #[.slice ad L.length cap, .int .i64 i, .agg o.cells.toArray] w (ToldA L ⟨2, [], 0, i⟩ w) := by
  have C := fun w => rcheck_any o w
  rw [hc] at C
  have HC := hide C
  have HK := hide hk
  have HS := hide h
  have HL := hide (fun w' (c : Chg noBlk w w') => rlook_at (h.no c) (by omega) o.key i)
  rw [look_none hf] at HL
  clear h C hc hk  hf
  have ta : True := True.intro
  have tb : True := True.intro
  have tc : True := True.intro
  go_enter Try.func41, Try.ntmps41
  go_wp2_with (first
    | (go_at_call 34; refine (unhide HC _).mono ?_; rintro e w4 ⟨rfl, k4⟩; have G4 := G2.no k4; have K4 := K2.andNo k4; have g4 := k4.at g2 id; clear c0 c1 c2 c3; have c0 := G4.c0; rw [unhide HK] at c0; have c1 := G4.c1; have c2 := G4.c2; have c3 := G4.c3; have P4 := hide (unhide HL _ K4))
    | (go_at_call 30; (with_reducible refine (unhide P4).mono ?_); rintro e w5 ⟨rfl, k5⟩)
    | ((with_reducible show wpList _ _ _ (_ :: _) _ _); first
      | (clear ta; refine wpL_box rfl 32 (.tmp 2) rfl o.cells.toArray rfl ?_; intro q w1 e1 k1 g1 z1; have G1 : OpAt w1 q o := g1; clear g1 z1 e1)
      | (clear tb; refine wpL_alloc rfl 38 rfl _ zero_res ?_; intro p w2 e2 k2 g2 z2; have e0 : w.heap.size ≤ p := Nat.le_trans k1.size (Nat.le_of_eq e2); have G2 := G1.no k2; have c0 := G2.c0; have c1 := G2.c1; have c2 := G2.c2; have c3 := G2.c3; have K2 := k1.andNo k2; clear e2 z2)
      | (clear tc; refine wpL_alloc rfl 38 rfl _ zero_res ?_; intro p8 w6 e6 k6 g6 z6; have e6b : w5.heap.size ≤ p8 := Nat.le_of_eq e6; clear e6 z6)
      | (refine wpL_store rfl 38 (.tmp 8) (.tmp 26) rfl p8 (RT.cells ⟨2, [], 0, i⟩).toArray rfl rfl _ _ g6 info_res rfl (all_oneCell_toArray (RT.one _)) ?_; intro w7 k7 R7 z7; have R7 : ResAt w7 p8 ⟨2, [], 0, i⟩ := R7; have k7b := k5.andNo (k6.past k7 e6b); have K7 := K4.andNo k7b; have G7 := G4.no k7b; have g7 := k7b.at g4 id; clear c0 c1 c2 c3; have c0 := G7.c0; rw [unhide HK] at c0; have c1 := G7.c1; have c2 := G7.c2; have c3 := G7.c3; have r0 := R7.c0; have r1 := R7.c1; have r2 := R7.c2; have r3 := R7.c3; clear k5 k6 k7 k7b g6 z7 R7)
      | fail))
  go_still_tail 3, (by kernel_rfl)
  change wpList _ _ _ _ _ w7.drew
  have g8 : w7.drew.heap[p]? = _ := g7
  have K8 := K7.drew
  generalize w7.drew = w8 at g8 K8 ⊢
  go_wp2_with ((with_reducible show wpList _ _ _ (_ :: _) _ _); refine wpL_store rfl 38 (.tmp 7) (.tmp 39) rfl p (RT.cells ⟨2, [], 0, i⟩).toArray rfl rfl _ _ g8 info_res rfl (all_oneCell_toArray (RT.one _)) ?_; intro w9 k9 g9 z9)
  refine bodyPost_ret (ret_two rfl _ _ p _ _ _ rfl g9) rfl ?_
  have KE := K8.past k9 e0
  exact ⟨ad, cap, rfl, (unhide HS).no KE, KE⟩
set_option maxRecDepth 100000 in
set_option maxHeartbeats 2000000 in
theorem rapply_dyes (h : SlC w ad cap L) (hl : L.length ≤ 500) (i : Int) (o : PT) (i1 : 1 ≤ i) (i2 : i ≤ 4096) (hc : chk o = 0) (hk : o.k = 3) {c : KV} (hf : fnd L o.key = some c) : Calls Try.prog 41 #[.slice ad L.length cap, .int .i64 i, .agg o.cells.toArray] w (ToldA (del L o.key) ⟨1, [], 0, i⟩ w) := by
  have C := fun w => rcheck_any o w
  rw [hc] at C
  have HC := hide C
  have HK := hide hk
  have HS := hide h
  have HL := hide (fun w' (c : Chg noBlk w w') => rlook_at (h.no c) (by omega) o.key i)
  rw [look_some hf] at HL
  have HW := hide (fun w' (k : Chg noBlk w w') => rwithout_own (h.no k) (by omega) o.key)
  clear h C hc hk  hf
  have ta : True := True.intro
  have tb : True := True.intro
  have tc : True := True.intro
  go_enter Try.func41, Try.ntmps41
  go_wp2_with (first
    | (go_at_call 34; refine (unhide HC _).mono ?_; rintro e w4 ⟨rfl, k4⟩; have G4 := G2.no k4; have K4 := K2.andNo k4; have g4 := k4.at g2 id; clear c0 c1 c2 c3; have c0 := G4.c0; rw [unhide HK] at c0; have c1 := G4.c1; have c2 := G4.c2; have c3 := G4.c3; have P4 := hide (unhide HL _ K4))
    | (go_at_call 30; (with_reducible refine (unhide P4).mono ?_); rintro e w5 ⟨rfl, k5⟩)
    | (go_at_call 49; refine (unhide HW _ K7).mono ?_; rintro e w8 ⟨v, rfl, o8, k8⟩; have g8 := k8.at g7 id; have K8 := K7.andNo k8)
    | ((with_reducible show wpList _ _ _ (_ :: _) _ _); first
      | (clear ta; refine wpL_box rfl 32 (.tmp 2) rfl o.cells.toArray rfl ?_; intro q w1 e1 k1 g1 z1; have G1 : OpAt w1 q o := g1; clear g1 z1 e1)
      | (clear tb; refine wpL_alloc rfl 38 rfl _ zero_res ?_; intro p w2 e2 k2 g2 z2; have e0 : w.heap.size ≤ p := Nat.le_trans k1.size (Nat.le_of_eq e2); have G2 := G1.no k2; have c0 := G2.c0; have c1 := G2.c1; have c2 := G2.c2; have c3 := G2.c3; have K2 := k1.andNo k2; clear e2 z2)
      | (clear tc; refine wpL_alloc rfl 38 rfl _ zero_res ?_; intro p8 w6 e6 k6 g6 z6; have e6b : w5.heap.size ≤ p8 := Nat.le_of_eq e6; clear e6 z6)
      | (refine wpL_store rfl 38 (.tmp 8) (.tmp 26) rfl p8 (RT.cells ⟨1, c.val, c.ver, i⟩).toArray rfl rfl _ _ g6 info_res rfl (all_oneCell_toArray (RT.one _)) ?_; intro w7 k7 R7 z7; have R7 : ResAt w7 p8 ⟨1, c.val, c.ver, i⟩ := R7; have k7b := k5.andNo (k6.past k7 e6b); have K7 := K4.andNo k7b; have G7 := G4.no k7b; have g7 := k7b.at g4 id; clear c0 c1 c2 c3; have c0 := G7.c0; rw [unhide HK] at c0; have c1 := G7.c1; have c2 := G7.c2; have c3 := G7.c3; have r0 := R7.c0; have r1 := R7.c1; have r2 := R7.c2; have r3 := R7.c3; clear k5 k6 k7 k7b g6 z7 R7)
      | (refine wpL_store rfl 38 (.tmp 7) (.tmp 45) rfl p (RT.cells ⟨1, [], 0, i⟩).toArray rfl rfl _ _ g8 info_res rfl (all_oneCell_toArray (RT.one _)) ?_; intro w9 k9 g9 z9)))
  refine bodyPost_ret (ret_two rfl _ _ p _ _ _ rfl g9) rfl ?_
  exact told_own (own_but o8 k9 g8) (K8.past k9 e0)
set_option maxRecDepth 100000 in
set_option maxHeartbeats 2000000 in
theorem rapply_put (h : SlC w ad cap L) (hl : L.length ≤ 500) (i : Int) (o : PT) (i1 : 1 ≤ i) (i2 : i ≤ 4096) (hc : chk o = 0) (hk : o.k = 2)  : Calls Try.prog 41 #[.slice ad L.length cap, .int .i64 i, .agg o.cells.toArray] w (ToldA (put L ⟨o.key, o.val, i⟩) ⟨1, [], i, i⟩ w) := by
  have C := fun w => rcheck_any o w
  rw [hc] at C
  have HC := hide C
  have HK := hide hk
  have HS := hide h
  have HL := hide (fun w' (c : Chg noBlk w w') => rlook_at (h.no c) (by omega) o.key i)
  obtain ⟨r, hr⟩ : ∃ r, look L o.key i = r := ⟨_, rfl⟩
  rw [hr] at HL
  obtain ⟨x1, x2, x3, x4⟩ := r
  have HR := hide hr
  have HW := hide (fun w' (k : Chg noBlk w w') => rwith_at (h.no k) (by omega) ⟨o.key, o.val, i⟩)
  clear h C hc hk hr 
  have ta : True := True.intro
  have tb : True := True.intro
  have tc : True := True.intro
  go_enter Try.func41, Try.ntmps41
  go_wp2_with (first
    | (go_at_call 34; refine (unhide HC _).mono ?_; rintro e w4 ⟨rfl, k4⟩; have G4 := G2.no k4; have K4 := K2.andNo k4; have g4 := k4.at g2 id; clear c0 c1 c2 c3; have c0 := G4.c0; rw [unhide HK] at c0; have c1 := G4.c1; have c2 := G4.c2; have c3 := G4.c3; have P4 := hide (unhide HL _ K4))
    | (go_at_call 30; (with_reducible refine (unhide P4).mono ?_); rintro e w5 ⟨rfl, k5⟩)
    | (go_at_call 50; refine (unhide HW _ K7).mono ?_; rintro e w8 ⟨v, rfl, o8, k8⟩; have g8 := k8.at g7 id; have K8 := K7.andNo k8)
    | ((with_reducible show wpList _ _ _ (_ :: _) _ _); first
      | (clear ta; refine wpL_box rfl 32 (.tmp 2) rfl o.cells.toArray rfl ?_; intro q w1 e1 k1 g1 z1; have G1 : OpAt w1 q o := g1; clear g1 z1 e1)
      | (clear tb; refine wpL_alloc rfl 38 rfl _ zero_res ?_; intro p w2 e2 k2 g2 z2; have e0 : w.heap.size ≤ p := Nat.le_trans k1.size (Nat.le_of_eq e2); have G2 := G1.no k2; have c0 := G2.c0; have c1 := G2.c1; have c2 := G2.c2; have c3 := G2.c3; have K2 := k1.andNo k2; clear e2 z2)
      | (clear tc; refine wpL_alloc rfl 38 rfl _ zero_res ?_; intro p8 w6 e6 k6 g6 z6; have e6b : w5.heap.size ≤ p8 := Nat.le_of_eq e6; clear e6 z6)
      | (refine wpL_store rfl 38 (.tmp 8) (.tmp 26) rfl p8 (RT.cells ⟨x1, x2, x3, x4⟩).toArray rfl rfl _ _ g6 info_res rfl (all_oneCell_toArray (RT.one _)) ?_; intro w7 k7 R7 z7; have R7 : ResAt w7 p8 ⟨x1, x2, x3, x4⟩ := R7; have k7b := k5.andNo (k6.past k7 e6b); have K7 := K4.andNo k7b; have G7 := G4.no k7b; have g7 := k7b.at g4 id; clear c0 c1 c2 c3; have c0 := G7.c0; rw [unhide HK] at c0; have c1 := G7.c1; have c2 := G7.c2; have c3 := G7.c3; have r0 := R7.c0; have r1 := R7.c1; have r2 := R7.c2; have r3 := R7.c3; clear k5 k6 k7 k7b g6 z7 R7)
      | (refine wpL_store rfl 38 (.tmp 7) (.tmp 70) rfl p (RT.cells ⟨1, [], i, i⟩).toArray rfl rfl _ _ g8 info_res rfl (all_oneCell_toArray (RT.one _)) ?_; intro w9 k9 g9 z9)))
  refine bodyPost_ret (ret_two rfl _ _ p _ _ _ rfl g9) rfl ?_
  exact told_own (own_but o8 k9 g8) (K8.past k9 e0)
set_option maxRecDepth 100000 in
set_option maxHeartbeats 2000000 in
theorem rapply_syes (h : SlC w ad cap L) (hl : L.length ≤ 500) (i : Int) (o : PT) (i1 : 1 ≤ i) (i2 : i ≤ 4096) (hc : chk o = 0) (hk : o.k = 4) (hf : (look L o.key 0).ver = o.ver) : Calls Try.prog 41 #[.slice ad L.length cap, .int .i64 i, .agg o.cells.toArray] w (ToldA (put L ⟨o.key, o.val, i⟩) ⟨1, [], i, i⟩ w) := by
  have C := fun w => rcheck_any o w
  rw [hc] at C
  have HC := hide C
  have HK := hide hk
  have HS := hide h
  have HL := hide (fun w' (c : Chg noBlk w w') => rlook_at (h.no c) (by omega) o.key i)
  obtain ⟨r, hr⟩ : ∃ r, look L o.key i = r := ⟨_, rfl⟩
  rw [hr] at HL
  obtain ⟨x1, x2, x3, x4⟩ := r
  have HR := hide hr
  have hs := (look_any L o.key i 0).2
  rw [hr, hf] at hs
  replace hs : x3 = o.ver := hs
  have d1 : (x3 != o.ver) = false := by simp [hs]
  have HW := hide (fun w' (k : Chg noBlk w w') => rwith_at (h.no k) (by omega) ⟨o.key, o.val, i⟩)
  clear h C hc hk hr hf hs
  have ta : True := True.intro
  have tb : True := True.intro
  have tc : True := True.intro
  go_enter Try.func41, Try.ntmps41
  go_wp2_with (first
    | (go_at_call 34; refine (unhide HC _).mono ?_; rintro e w4 ⟨rfl, k4⟩; have G4 := G2.no k4; have K4 := K2.andNo k4; have g4 := k4.at g2 id; clear c0 c1 c2 c3; have c0 := G4.c0; rw [unhide HK] at c0; have c1 := G4.c1; have c2 := G4.c2; have c3 := G4.c3; have P4 := hide (unhide HL _ K4))
    | (go_at_call 30; (with_reducible refine (unhide P4).mono ?_); rintro e w5 ⟨rfl, k5⟩)
    | (go_at_call 50; refine (unhide HW _ K7).mono ?_; rintro e w8 ⟨v, rfl, o8, k8⟩; have g8 := k8.at g7 id; have K8 := K7.andNo k8)
    | ((with_reducible show wpList _ _ _ (_ :: _) _ _); first
      | (clear ta; refine wpL_box rfl 32 (.tmp 2) rfl o.cells.toArray rfl ?_; intro q w1 e1 k1 g1 z1; have G1 : OpAt w1 q o := g1; clear g1 z1 e1)
      | (clear tb; refine wpL_alloc rfl 38 rfl _ zero_res ?_; intro p w2 e2 k2 g2 z2; have e0 : w.heap.size ≤ p := Nat.le_trans k1.size (Nat.le_of_eq e2); have G2 := G1.no k2; have c0 := G2.c0; have c1 := G2.c1; have c2 := G2.c2; have c3 := G2.c3; have K2 := k1.andNo k2; clear e2 z2)
      | (clear tc; refine wpL_alloc rfl 38 rfl _ zero_res ?_; intro p8 w6 e6 k6 g6 z6; have e6b : w5.heap.size ≤ p8 := Nat.le_of_eq e6; clear e6 z6)
      | (refine wpL_store rfl 38 (.tmp 8) (.tmp 26) rfl p8 (RT.cells ⟨x1, x2, x3, x4⟩).toArray rfl rfl _ _ g6 info_res rfl (all_oneCell_toArray (RT.one _)) ?_; intro w7 k7 R7 z7; have R7 : ResAt w7 p8 ⟨x1, x2, x3, x4⟩ := R7; have k7b := k5.andNo (k6.past k7 e6b); have K7 := K4.andNo k7b; have G7 := G4.no k7b; have g7 := k7b.at g4 id; clear c0 c1 c2 c3; have c0 := G7.c0; rw [unhide HK] at c0; have c1 := G7.c1; have c2 := G7.c2; have c3 := G7.c3; have r0 := R7.c0; have r1 := R7.c1; have r2 := R7.c2; have r3 := R7.c3; clear k5 k6 k7 k7b g6 z7 R7)
      | (refine wpL_store rfl 38 (.tmp 7) (.tmp 70) rfl p (RT.cells ⟨1, [], i, i⟩).toArray rfl rfl _ _ g8 info_res rfl (all_oneCell_toArray (RT.one _)) ?_; intro w9 k9 g9 z9)))
  refine bodyPost_ret (ret_two rfl _ _ p _ _ _ rfl g9) rfl ?_
  exact told_own (own_but o8 k9 g8) (K8.past k9 e0)
set_option maxRecDepth 100000 in
set_option maxHeartbeats 2000000 in
theorem rapply_sno (h : SlC w ad cap L) (hl : L.length ≤ 500) (i : Int) (o : PT) (i1 : 1 ≤ i) (i2 : i ≤ 4096) (hc : chk o = 0) (hk : o.k = 4) (hf : (look L o.key 0).ver ≠ o.ver) : Calls Try.prog 41 #[.slice ad L.length cap, .int .i64 i, .agg o.cells.toArray] w (ToldA L ⟨3, (look L o.key 0).val, (look L o.key 0).ver, i⟩ w) := by
  have C := fun w => rcheck_any o w
  rw [hc] at C
  have HC := hide C
  have HK := hide hk
  have HS := hide h
  have HL := hide (fun w' (c : Chg noBlk w w') => rlook_at (h.no c) (by omega) o.key i)
  obtain ⟨r, hr⟩ : ∃ r, look L o.key i = r := ⟨_, rfl⟩
  rw [hr] at HL
  obtain ⟨x1, x2, x3, x4⟩ := r
  have HR := hide hr
  have hv := (look_any L o.key i 0).1
  have hs := (look_any L o.key i 0).2
  rw [hr] at hv hs
  replace hv : x2 = (look L o.key 0).val := hv
  replace hs : x3 = (look L o.key 0).ver := hs
  have d1 : (x3 != o.ver) = true := by rw [hs]; simpa using hf
  have HV := hide hv
  have HZ := hide hs
  clear h C hc hk hr hf hv hs
  have ta : True := True.intro
  have tb : True := True.intro
  have tc : True := True.intro
  go_enter Try.func41, Try.ntmps41
  go_wp2_with (first
    | (go_at_call 34; refine (unhide HC _).mono ?_; rintro e w4 ⟨rfl, k4⟩; have G4 := G2.no k4; have K4 := K2.andNo k4; have g4 := k4.at g2 id; clear c0 c1 c2 c3; have c0 := G4.c0; rw [unhide HK] at c0; have c1 := G4.c1; have c2 := G4.c2; have c3 := G4.c3; have P4 := hide (unhide HL _ K4))
    | (go_at_call 30; (with_reducible refine (unhide P4).mono ?_); rintro e w5 ⟨rfl, k5⟩)
    | ((with_reducible show wpList _ _ _ (_ :: _) _ _); first
      | (clear ta; refine wpL_box rfl 32 (.tmp 2) rfl o.cells.toArray rfl ?_; intro q w1 e1 k1 g1 z1; have G1 : OpAt w1 q o := g1; clear g1 z1 e1)
      | (clear tb; refine wpL_alloc rfl 38 rfl _ zero_res ?_; intro p w2 e2 k2 g2 z2; have e0 : w.heap.size ≤ p := Nat.le_trans k1.size (Nat.le_of_eq e2); have G2 := G1.no k2; have c0 := G2.c0; have c1 := G2.c1; have c2 := G2.c2; have c3 := G2.c3; have K2 := k1.andNo k2; clear e2 z2)
      | (clear tc; refine wpL_alloc rfl 38 rfl _ zero_res ?_; intro p8 w6 e6 k6 g6 z6; have e6b : w5.heap.size ≤ p8 := Nat.le_of_eq e6; clear e6 z6)
      | (refine wpL_store rfl 38 (.tmp 8) (.tmp 26) rfl p8 (RT.cells ⟨x1, x2, x3, x4⟩).toArray rfl rfl _ _ g6 info_res rfl (all_oneCell_toArray (RT.one _)) ?_; intro w7 k7 R7 z7; have R7 : ResAt w7 p8 ⟨x1, x2, x3, x4⟩ := R7; have k7b := k5.andNo (k6.past k7 e6b); have K7 := K4.andNo k7b; have G7 := G4.no k7b; have g7 := k7b.at g4 id; clear c0 c1 c2 c3; have c0 := G7.c0; rw [unhide HK] at c0; have c1 := G7.c1; have c2 := G7.c2; have c3 := G7.c3; have r0 := R7.c0; have r1 := R7.c1; have r2 := R7.c2; have r3 := R7.c3; clear k5 k6 k7 k7b g6 z7 R7)
      | fail))
  go_still_tail 8, (by kernel_rfl)
  change wpList _ _ _ _ _ w7.drew
  have g8 : w7.drew.heap[p]? = _ := g7
  have K8 := K7.drew
  generalize w7.drew = w8 at g8 K8 ⊢
  go_wp2_with ((with_reducible show wpList _ _ _ (_ :: _) _ _); refine wpL_store rfl 38 (.tmp 7) (.tmp 59) rfl p (RT.cells ⟨3, x2, x3, i⟩).toArray rfl rfl _ _ g8 info_res rfl (all_oneCell_toArray (RT.one _)) ?_; intro w9 k9 g9 z9)
  refine bodyPost_ret (ret_two rfl _ _ p _ _ _ rfl g9) rfl ?_
  have KE := K8.past k9 e0
  exact ⟨ad, cap, by rw [← unhide HV, ← unhide HZ]; rfl, (unhide HS).no KE, KE⟩
theorem rapply_at (h : SlC w ad cap L) (hl : L.length ≤ 500) (i : Int) (o : PT) : Calls Try.prog 41 #[.slice ad L.length cap, .int .i64 i, .agg o.cells.toArray] w (ToldA (appL L i o) (appR L i o) w) := by
  rcases app_ways L i o with ⟨hm, e1, e2⟩ | ⟨hm, hk, e1, e2⟩ | ⟨hm, hk, hf, e1, e2⟩ | ⟨hm, hk, ⟨c, hf⟩, e1, e2⟩ | ⟨hm, hk, hf, e1, e2⟩ | ⟨hm, hk, hf, e1, e2⟩ | ⟨hm, hk, e1, e2⟩ <;> rw [e1, e2]
  · by_cases i1 : i < 1
    · exact rapply_lo h i o i1
    by_cases i2 : 4096 < i
    · exact rapply_hi h i o i2
    · exact rapply_bad h i o (by omega) (by omega) (fun hc => may_no.1 hm ⟨by omega, by omega, hc⟩)
  all_goals obtain ⟨i1, i2, hc⟩ := may_yes.1 hm
  · exact rapply_put h hl i o i1 i2 hc hk
  · exact rapply_dno h hl i o i1 i2 hc hk hf
  · exact rapply_dyes h hl i o i1 i2 hc hk hf
  · exact rapply_sno h hl i o i1 i2 hc hk hf
  · exact rapply_syes h hl i o i1 i2 hc hk hf
  · exact rapply_get h hl i o i1 i2 hc hk
end
end Go.Proofs.Ytfffgegdcgfakaa
