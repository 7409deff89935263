/-
  Keys with values: contracts of put, takeOut, swap.
-/
import Derived.Test.YtfffgegdcgfakaaKvD
namespace Go.Proofs.Ytfffgegdcgfakaa
open Go.ChangeShapes Go.WideShapes Go.ChangeAt Go.RowKit
set_option linter.unusedVariables false
attribute [local go_sem] bs_size bs_app bs_cut bs_tl bs_at
/-- a key taken out -/
theorem wpL_del {ops : Array Oper} {rest : List Oper} {o : Oper} {a : Act} {w : World} {Q : Exit → Act → World → Prop} (hgd : o.guard = none) (x y : Operand) (ho : o.op = .call { callee := .builtin .delete, args := #[x, y], argTypes := #[77, 9] })
    {m : Nat} {L : List KV} {k : List UInt8} (hx : a.eval x = .map (some m)) (hy : a.eval y = str k) (hm : MapAt w m L) (hk : k.length ≤ maxLen)
    (h : ∀ w', MapAt w' m (del L k) → Chg (oneBlk m) w w' → wpList Try.prog ops Q rest (a.put o.dst (.tuple #[])) w') : wpList Try.prog ops Q (o :: rest) a w :=
  wpList_plain hgd fun K hK => by
    obtain ⟨w', hrun, h1, h2, _⟩ := hm.drop hk o.type
    unfold Oper.wp execOp
    simp only [ho, resolve, invoke, builtin, Sem.run_bind, Sem.run_pure, Result.andThen_ok, List.map_toArray, List.map_cons, List.map_nil, hx, hy, hrun]
    exact hK _ _ (h w' h1 h2)
/-- told: r; and the store has this -/
def DidS (b m : Nat) (r : RT) (L : List KV) (w : World) (e : Ending) (w' : World) : Prop := e = .returned (.agg r.cells.toArray) ∧ Chg (oneBlk m) w w' ∧ StAt w' b m L
/-- the store, an operation, a variable for the result: where they lie -/
theorem OpAt.but {w w' : World} {q m : Nat} {o : PT} (h : OpAt w q o) (k : Chg (oneBlk m) w w') (hq : q ≠ m) : OpAt w' q o := k.at h hq
theorem put_keep {w2 w' : World} {b q m : Nat} {o : PT} {v : Value} (c0 : w2.cell? ⟨b, 0, none⟩ = some v) (g : OpAt w2 q o) (hb : b ≠ m) (hq : q ≠ m) (k : Chg (oneBlk m) w2 w') :
    Chg (oneBlk m) w2 w' ∧ w'.cell? ⟨b, 0, none⟩ = some v ∧ w'.cell? ⟨q, 1, none⟩ = some (str o.key) ∧ w'.cell? ⟨q, 2, none⟩ = some (str o.val) := ⟨k, k.cell c0 hb, (g.but k hq).c1, (g.but k hq).c2⟩
theorem swap_keep {w2 w' : World} {b q : Nat} {o : PT} {u : Value} {A : World → Prop} (c0 : w2.cell? ⟨b, 0, none⟩ = some u) (g : OpAt w2 q o) (hA : ∀ w', Chg noBlk w2 w' → A w') (k : Chg noBlk w2 w') :
    Chg noBlk w2 w' ∧ w'.cell? ⟨b, 0, none⟩ = some u ∧ w'.cell? ⟨q, 1, none⟩ = some (str o.key) ∧ A w' := ⟨k, k.cell c0 id, (g.no k).c1, hA _ k⟩
section
variable {w : World} {b m : Nat} {L : List KV}
set_option maxRecDepth 100000 in
set_option maxHeartbeats 1000000 in
theorem put_at (h : StAt w b m L) (o : PT) (i : Int) (hk : o.key.length ≤ 16) (hv : o.val.length ≤ 64) (hn : L.length < maxLen) :
    Calls Try.prog 44 #[.pointer (some ⟨b, 0, none⟩), .int .i64 i, .agg o.cells.toArray] w (DidS b m ⟨1, [], i, i⟩ (put L ⟨o.key, o.val, i⟩) w) := by
  have HU := hide (fun w' (k : Chg noBlk w w') => (h.no k).m.upd ⟨o.key, o.val, i⟩ (by unfold maxLen; show o.key.length ≤ _; omega) hn)
  have HK := hide (clone_n o.key (by omega))
  have HV := hide (clone_n o.val (by omega))
  have HC := hide h.c0
  have HS := hide h
  have hm := h.m.lt
  have hbm := h.ne
  clear h hk hv hn
  have ta : True := True.intro
  go_enter Try.func44, Try.ntmps44
  go_wp2_with ((with_reducible show wpList _ _ _ (_ :: _) _ _); first
    | (clear ta; refine wpL_box rfl 32 (.tmp 2) rfl o.cells.toArray rfl ?_; intro q w1 e1 k1 g1 z1; have G1 : OpAt w1 q o := g1; have eq0 : w.heap.size ≤ q := Nat.le_of_eq e1; clear g1 z1 e1)
    | (refine wpL_alloc rfl 38 rfl _ zero_res ?_; intro p w2 e2 k2 g2 z2; have e0 : w1.heap.size ≤ p := Nat.le_of_eq e2; have G2 := G1.no k2; clear e2 z2))
  have K2 := hide (k1.andNo k2)
  have hqm : q ≠ m := by omega
  have KE := hide (fun w' k => put_keep (w' := w') ((unhide K2).cell (unhide HC) id) G2 hbm hqm k)
  have B0 := Chg.refl (oneBlk m) w2
  go_region_held3 (fun w' => Chg (oneBlk m) w2 w' ∧ w'.cell? ⟨b, 0, none⟩ = some (.map (some m)) ∧ w'.cell? ⟨q, 1, none⟩ = some (str o.key) ∧ w'.cell? ⟨q, 2, none⟩ = some (str o.val))
    ((refine unhide KE _ ?_; go_split_ands; first | assumption | exact Chg.drew (by assumption) | exact Chg.drewN (by assumption) _ | exact Chg.andNo (by assumption) (by assumption) | exact Chg.trans (by assumption) (by assumption) fun _ _ e => e))
    (first
      | (go_at_call 33; (with_reducible refine (unhide HK _).mono ?_); rintro e w5 ⟨rfl, k5⟩; try (have KU := (((unhide K2).drew).andNo k6).andNo k5; obtain ⟨wu, hu, mu, ku, zu⟩ := unhide HU _ KU))
      | (go_at_call 33; (with_reducible refine (unhide HV _).mono ?_); rintro e w6 ⟨rfl, k6⟩; try (have KU := (((unhide K2).drew).andNo k5).andNo k6; obtain ⟨wu, hu, mu, ku, zu⟩ := unhide HU _ KU)))
  all_goals
    rename_i hH
    obtain ⟨K3, c0, c1, c2⟩ := hH
    clear c0 c1 c2 hu
    have hpm : ¬ oneBlk m p := fun e => by have e : p = m := e; have := k1.size; omega
    have g3 := K3.at g2 hpm
    go_wp2_with ((with_reducible show wpList _ _ _ (_ :: _) _ _); refine wpL_store rfl 38 (.tmp 6) (.tmp 21) rfl p (RT.cells ⟨1, [], i, i⟩).toArray rfl rfl _ _ g3 info_res rfl (all_oneCell_toArray (RT.one _)) ?_; intro w7 k7 g7 z7)
    refine bodyPost_ret (ret_res rfl _ _ p _ _ _ rfl g7) rfl ?_
    have hp0 : w.heap.size ≤ p := by have := k1.size; omega
    have K4 : Chg (oneBlk m) w w7 := (((unhide K2).no (oneBlk m)).trans K3 fun _ _ e => e).trans k7 fun j hj e => by have e : j = p := e; omega
    refine ⟨rfl, K4, K4.at (unhide HS).p hbm, mu.kept k7 fun e => hpm (Eq.symm e)⟩
theorem take_no (h : StAt w b m L) {k : List UInt8} (hk : k.length ≤ maxLen) (i : Int) (hf : fnd L k = none) :
    Calls Try.prog 45 #[.pointer (some ⟨b, 0, none⟩), .int .i64 i, str k] w (ToldN (.agg (RT.cells ⟨2, [], 0, i⟩).toArray) w) := by
  have hlk := hide (fun w' (c : Chg noBlk w w') => (h.no c).m.look_ok hk)
  have hc0 := hide (fun w' (c : Chg noBlk w w') => (h.no c).c0)
  rw [hf, look_none hf] at hlk
  clear h hf
  have ta : True := True.intro
  go_enter Try.func45, Try.ntmps45
  go_wp2_with ((with_reducible show wpList _ _ _ (_ :: _) _ _); first
    | (clear ta; refine wpL_alloc rfl 38 rfl _ zero_res ?_; intro p w1 e1 k1 g1 z1; have e0 : w.heap.size ≤ p := Nat.le_of_eq e1; clear e1 z1; have c0 := unhide hc0 _ k1; have l0 := unhide hlk _ k1)
    | (refine wpL_alloc rfl 82 rfl _ zero_cel ?_; intro q w3 e3 k3 g3 z3; have e4 : w1.heap.size ≤ q := Nat.le_of_eq e3; have g4 := k3.at g1 id; clear e3 z3)
    | (refine wpL_store rfl 82 (.tmp 7) (.tmp 16) rfl q #[str [], .int .i64 0] rfl rfl _ _ g3 info_cel rfl (cel_one _ _) ?_; intro w4 k4 g5 z5; have k5 := k3.past k4 e4; have g6 := k5.at g1 id)
    | (refine wpL_store rfl 38 (.tmp 6) (.tmp 21) rfl p (RT.cells ⟨2, [], 0, i⟩).toArray rfl rfl _ _ g6 info_res rfl (all_oneCell_toArray (RT.one _)) ?_; intro w6 k6 g7 z7))
  refine bodyPost_ret (ret_res rfl _ _ p _ _ _ rfl g7) rfl ?_
  exact ⟨rfl, (k1.andNo k5).past k6 e0⟩
theorem take_yes (h : StAt w b m L) {k : List UInt8} (hk : k.length ≤ maxLen) (i : Int) {c : KV} (hf : fnd L k = some c) :
    Calls Try.prog 45 #[.pointer (some ⟨b, 0, none⟩), .int .i64 i, str k] w (DidS b m ⟨1, [], 0, i⟩ (del L k) w) := by
  have hlk := hide (fun w' (c : Chg noBlk w w') => (h.no c).m.look_ok hk)
  have hc0 := hide (fun w' (c : Chg noBlk w w') => (h.no c).c0)
  rw [hf, look_some hf] at hlk
  have HS := hide h
  have hm := h.m.lt
  have hbm := h.ne
  clear h hf
  have ta : True := True.intro
  go_enter Try.func45, Try.ntmps45
  go_wp2_with ((with_reducible show wpList _ _ _ (_ :: _) _ _); first
    | (clear ta; refine wpL_alloc rfl 38 rfl _ zero_res ?_; intro p w1 e1 k1 g1 z1; have e0 : w.heap.size ≤ p := Nat.le_of_eq e1; clear e1 z1; have c0 := unhide hc0 _ k1; have l0 := unhide hlk _ k1)
    | (refine wpL_alloc rfl 82 rfl _ zero_cel ?_; intro q w3 e3 k3 g3 z3; have e4 : w1.heap.size ≤ q := Nat.le_of_eq e3; have g4 := k3.at g1 id; clear e3 z3)
    | (refine wpL_store rfl 82 (.tmp 7) (.tmp 16) rfl q #[str c.val, .int .i64 c.ver] rfl rfl _ _ g3 info_cel rfl (cel_one _ _) ?_; intro w4 k4 g5 z5; have k5 := k3.past k4 e4; have K5 := hide (k1.andNo k5); have g6 := k5.at g1 id; have c1 := unhide hc0 _ (unhide K5); clear c0 l0)
    | (refine wpL_del rfl (.tmp 25) (.tmp 26) rfl rfl rfl ((unhide HS).m.no (unhide K5)) hk ?_; intro w5 m5 k6; have g7 := k6.at g6 (fun e => by have e : p = m := e; omega))
    | (refine wpL_store rfl 38 (.tmp 6) (.tmp 28) rfl p (RT.cells ⟨1, [], 0, i⟩).toArray rfl rfl _ _ g7 info_res rfl (all_oneCell_toArray (RT.one _)) ?_; intro w6 k7 g8 z8))
  refine bodyPost_ret (ret_res rfl _ _ p _ _ _ rfl g8) rfl ?_
  have K4 : Chg (oneBlk m) w w6 := (((unhide K5).no (oneBlk m)).trans k6 fun _ _ e => e).trans k7 fun j hj e => by have e : j = p := e; omega
  exact ⟨rfl, K4, K4.at (unhide HS).p hbm, m5.kept k7 fun e => by have e : m = p := e; omega⟩
set_option maxHeartbeats 1000000 in
theorem swap_no (h : StAt w b m L) (o : PT) (i : Int) (hk : o.key.length ≤ 16) (hf : (look L o.key 0).ver ≠ o.ver) :
    Calls Try.prog 46 #[.pointer (some ⟨b, 0, none⟩), .int .i64 i, .agg o.cells.toArray] w (ToldN (.agg (RT.cells ⟨3, (look L o.key 0).val, (look L o.key 0).ver, i⟩).toArray) w) := by
  obtain ⟨v, hv⟩ : ∃ v, (look L o.key 0).val = v := ⟨_, rfl⟩
  obtain ⟨n, hn⟩ : ∃ n, (look L o.key 0).ver = n := ⟨_, rfl⟩
  have hlk := hide (fun w' (c : Chg noBlk w w') => (h.no c).m.look1 (k := o.key) (by unfold maxLen; omega))
  have hc0 := hide (fun w' (c : Chg noBlk w w') => (h.no c).c0)
  rw [hv, hn] at hlk ⊢
  rw [hn] at hf
  have d1 : (n != o.ver) = true := by simpa using hf
  clear h hv hn hf
  have ta : True := True.intro
  go_enter Try.func46, Try.ntmps46
  go_wp2_with ((with_reducible show wpList _ _ _ (_ :: _) _ _); first
    | (clear ta; refine wpL_box rfl 32 (.tmp 2) rfl o.cells.toArray rfl ?_; intro q w1 e1 k1 g1 z1; have G1 : OpAt w1 q o := g1; clear g1 z1 e1)
    | (refine wpL_alloc rfl 38 rfl _ zero_res ?_; intro p w2 e2 k2 g2 z2; have e0 : w1.heap.size ≤ p := Nat.le_of_eq e2; have G2 := G1.no k2; clear e2 z2))
  have K2 := hide (k1.andNo k2)
  have KE := hide (fun w' k => swap_keep (w' := w') ((unhide K2).cell (unhide hc0 _ (Chg.refl _ _)) id) G2 (fun w' c => unhide hlk w' ((unhide K2).andNo c)) k)
  have B0 := Chg.refl noBlk w2
  have hz2 := hide (Nat.le_refl w2.heap.size)
  go_region_held3 (fun w' => Chg noBlk w2 w' ∧ w'.cell? ⟨b, 0, none⟩ = some (.map (some m)) ∧ w'.cell? ⟨q, 1, none⟩ = some (str o.key) ∧ (Instr.lookup 77 (.map (some m)) (str o.key) false).run Try.prog w' = .ok (.agg #[str v, .int .i64 n]) w')
    ((refine unhide KE _ ?_; go_split_ands; first | assumption | exact Chg.drew (by assumption) | exact Chg.drewN (by assumption) _ | exact Chg.andNo (by assumption) (by assumption) | exact Chg.alloc (by assumption) _ | exact (Chg.alloc (Chg.refl _ _) _).drew))
    (fail)
  all_goals
    have k3 := ((Chg.refl noBlk w2).alloc (.cells #[str v, .int .i64 n] 82)).drew
    have g3 : (w2.alloc (.cells #[str v, .int .i64 n] 82)).drew.heap[w2.heap.size]? = some (.cells #[str v, .int .i64 n] 82 (0, 0)) := heap_alloc_new w2 _
    clear KE B0 hz2 hc0 hlk
    rename_i hH
    clear hH
    generalize (w2.alloc (.cells #[str v, .int .i64 n] 82)).drew = w3 at k3 g3 ⊢
    generalize w2.heap.size = r at g3 ⊢
    have c1 := cellAt g3 0 _ rfl
    have c2 := cellAt g3 1 _ rfl
    have G3 := G2.no k3
    have c3 := G3.c3
    have g4 := k3.at g2 id
    go_wp2_with ((with_reducible show wpList _ _ _ (_ :: _) _ _); refine wpL_store rfl 38 (.tmp 6) (.tmp 25) rfl p (RT.cells ⟨3, v, n, i⟩).toArray rfl rfl _ _ g4 info_res rfl (all_oneCell_toArray (RT.one _)) ?_; intro w6 k6 g7 z7)
    refine bodyPost_ret (ret_res rfl _ _ p _ _ _ rfl g7) rfl ?_
    exact ⟨rfl, ((unhide K2).andNo k3).past k6 (by have := k1.size; omega)⟩
set_option maxHeartbeats 1000000 in
theorem swap_yes (h : StAt w b m L) (o : PT) (i : Int) (hk : o.key.length ≤ 16) (hl : o.val.length ≤ 64) (hn : L.length < maxLen) (hf : (look L o.key 0).ver = o.ver) :
    Calls Try.prog 46 #[.pointer (some ⟨b, 0, none⟩), .int .i64 i, .agg o.cells.toArray] w (DidS b m ⟨1, [], i, i⟩ (put L ⟨o.key, o.val, i⟩) w) := by
  obtain ⟨v, hv⟩ : ∃ v, (look L o.key 0).val = v := ⟨_, rfl⟩
  obtain ⟨n, hn'⟩ : ∃ n, o.ver = n := ⟨_, rfl⟩
  have hlk := hide (fun w' (c : Chg noBlk w w') => (h.no c).m.look1 (k := o.key) (by unfold maxLen; omega))
  have hc0 := hide (fun w' (c : Chg noBlk w w') => (h.no c).c0)
  have hpt := hide (fun w' (c : Chg noBlk w w') => put_at (h.no c) o i hk hl hn)
  rw [hv, hf, hn'] at hlk
  have HN := hide hn'
  have HS := hide h
  have hm := h.m.lt
  have hbm := h.ne
  clear h hv hn' hf hn hk hl
  have ta : True := True.intro
  go_enter Try.func46, Try.ntmps46
  go_wp2_with ((with_reducible show wpList _ _ _ (_ :: _) _ _); first
    | (clear ta; refine wpL_box rfl 32 (.tmp 2) rfl o.cells.toArray rfl ?_; intro q w1 e1 k1 g1 z1; have G1 : OpAt w1 q o := g1; clear g1 z1 e1)
    | (refine wpL_alloc rfl 38 rfl _ zero_res ?_; intro p w2 e2 k2 g2 z2; have e0 : w1.heap.size ≤ p := Nat.le_of_eq e2; have G2 := G1.no k2; clear e2 z2))
  have K2 := hide (k1.andNo k2)
  have KE := hide (fun w' k => swap_keep (w' := w') ((unhide K2).cell (unhide hc0 _ (Chg.refl _ _)) id) G2 (fun w' c => unhide hlk w' ((unhide K2).andNo c)) k)
  have B0 := Chg.refl noBlk w2
  have hz2 := hide (Nat.le_refl w2.heap.size)
  go_region_held3 (fun w' => Chg noBlk w2 w' ∧ w'.cell? ⟨b, 0, none⟩ = some (.map (some m)) ∧ w'.cell? ⟨q, 1, none⟩ = some (str o.key) ∧ (Instr.lookup 77 (.map (some m)) (str o.key) false).run Try.prog w' = .ok (.agg #[str v, .int .i64 n]) w')
    ((refine unhide KE _ ?_; go_split_ands; first | assumption | exact Chg.drew (by assumption) | exact Chg.drewN (by assumption) _ | exact Chg.andNo (by assumption) (by assumption) | exact Chg.alloc (by assumption) _ | exact (Chg.alloc (Chg.refl _ _) _).drew))
    (fail)
  all_goals
    have k3 := ((Chg.refl noBlk w2).alloc (.cells #[str v, .int .i64 n] 82)).drew
    have g3 : (w2.alloc (.cells #[str v, .int .i64 n] 82)).drew.heap[w2.heap.size]? = some (.cells #[str v, .int .i64 n] 82 (0, 0)) := heap_alloc_new w2 _
    clear KE B0 hz2 hc0 hlk
    rename_i hH
    clear hH
    generalize (w2.alloc (.cells #[str v, .int .i64 n] 82)).drew = w3 at k3 g3 ⊢
    generalize w2.heap.size = r at g3 ⊢
    have c1 := cellAt g3 0 _ rfl
    have c2 := cellAt g3 1 _ rfl
    have G3 := G2.no k3
    have c3 := G3.c3
    have g4 := k3.at g2 id
    rw [unhide HN] at c3
    have K3 := hide ((unhide K2).andNo k3)
    have P3 := hide (unhide hpt _ (unhide K3))
    go_wp2_with (first
      | (go_at_call 44; (with_reducible refine (unhide P3).mono ?_); rintro e w4 ⟨rfl, k4, s4⟩; have g5 := k4.at g4 (fun e => by have e : p = m := e; have := k1.size; omega))
      | ((with_reducible show wpList _ _ _ (_ :: _) _ _); first
        | (refine wpL_load rfl 32 (.tmp 5) rfl q rfl o.cells.toArray _ _ G3 _ Try.underlying32 rfl (by kernel_rfl) ?_)
        | (refine wpL_store rfl 38 (.tmp 6) (.tmp 29) rfl p (RT.cells ⟨1, [], i, i⟩).toArray rfl rfl _ _ g5 info_res rfl (all_oneCell_toArray (RT.one _)) ?_; intro w6 k6 g7 z7)))
    refine bodyPost_ret (ret_res rfl _ _ p _ _ _ rfl g7) rfl ?_
    have hp0 : w.heap.size ≤ p := by have := k1.size; omega
    have hpb : ¬ oneBlk p b := fun e => by have e : b = p := e; have := (unhide HS).lt; omega
    have hpm : ¬ oneBlk p m := fun e => by have e : m = p := e; omega
    exact ⟨rfl, (((unhide K3).no (oneBlk m)).trans k4 fun _ _ e => e).trans k6 fun j hj e => by have e : j = p := e; omega, s4.kept k6 hpb hpm⟩
end
end Go.Proofs.Ytfffgegdcgfakaa
