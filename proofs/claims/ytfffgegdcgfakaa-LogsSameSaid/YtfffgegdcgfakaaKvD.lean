/-
  Keys with values: contracts of New, Look, Size, put, takeOut, swap.
-/
import Derived.Test.YtfffgegdcgfakaaKvC
namespace Go.Proofs.Ytfffgegdcgfakaa
open Go.ChangeShapes Go.WideShapes Go.ChangeAt Go.RowKit
set_option linter.unusedVariables false
attribute [local go_sem] bs_size bs_app bs_cut bs_tl bs_at
theorem Chg.past {a b c : World} {p : Nat} (h : Chg noBlk a b) (k : Chg (oneBlk p) b c) (hp : a.heap.size ≤ p) : Chg noBlk a c :=
  h.trans k fun i hi e => by have e : i = p := e; omega
theorem zero_res : (Try.prog.info? 38).bind (·.zero) = some (.agg rZero.cells.toArray) := by kernel_rfl
theorem info_res : (Try.prog.info? 38).map (·.size) = some 4 := by kernel_rfl
theorem zero_cel : (Try.prog.info? 82).bind (·.zero) = some (.agg #[str [], .int .i64 0]) := by kernel_rfl
theorem info_cel : (Try.prog.info? 82).map (·.size) = some 2 := by kernel_rfl
theorem built_rz : Try.prog.built 38 ([] : List (Nat × Value)) = some rZero.cells.toArray := by kernel_rfl
theorem built_r1 (v : List UInt8) (n a : Int) : Try.prog.built 38 [(0, .int .i64 1), (1, str v), (2, .int .i64 n), (3, .int .i64 a)] = some (RT.cells ⟨1, v, n, a⟩).toArray := by kernel_rfl
theorem built_r2 (a : Int) : Try.prog.built 38 [(0, .int .i64 2), (3, .int .i64 a)] = some (RT.cells ⟨2, [], 0, a⟩).toArray := by kernel_rfl
theorem built_r3 (v : List UInt8) (n a : Int) : Try.prog.built 38 [(0, .int .i64 3), (1, str v), (2, .int .i64 n), (3, .int .i64 a)] = some (RT.cells ⟨3, v, n, a⟩).toArray := by kernel_rfl
theorem built_rp (n a : Int) : Try.prog.built 38 [(0, .int .i64 1), (2, .int .i64 n), (3, .int .i64 a)] = some (RT.cells ⟨1, [], n, a⟩).toArray := by kernel_rfl
theorem built_rd (a : Int) : Try.prog.built 38 [(0, .int .i64 1), (3, .int .i64 a)] = some (RT.cells ⟨1, [], 0, a⟩).toArray := by kernel_rfl
theorem cel_one (v : List UInt8) (n : Int) : (#[str v, .int .i64 n] : Array Value).all (·.oneCell') = true := all_oneCell_toArray (by simp [Value.oneCell'])
theorem results_one {fn : Func} {p : Tmp} {ty : TypeId} (h : fn.results = #[.cell p ty]) (tmps : Array Value) (P : Program) (w : World) :
    (results fn tmps).run P w = ((asAddr (tmps.getD p undef)).run P w).andThen fun a w₁ => (loadVar ty a).run P w₁ := by
  simp only [results, h]
  simp [Sem.run_bind, Result.andThen]
/-- a result's block -/
theorem ret_res {fn : Func} {p : Tmp} (h : fn.results = #[.cell p 38]) (tmps : Array Value) (w : World) (g : Nat) (r : RT) (t : TypeId) (fr : Nat × Nat) (hp : tmps.getD p undef = .pointer (some ⟨g, 0, none⟩)) (hg : w.heap[g]? = some (.cells r.cells.toArray t fr)) :
    (results fn tmps).run Try.prog w = .ok (.agg r.cells.toArray) w := by
  rw [results_one h, hp]
  simp only [asAddr, Sem.run_pure, Result.andThen_ok, run_loadVar_row w g t 38 r.cells.toArray fr _ hg Try.underlying38 rfl info_res]
set_option maxRecDepth 100000 in
theorem new_any (w : World) : Calls Try.prog 23 #[] w (fun e w' => ∃ b m, e = .returned (.pointer (some ⟨b, 0, none⟩)) ∧ w.heap.size ≤ b ∧ w.heap.size ≤ m ∧ Chg noBlk w w' ∧ StAt w' b m []) := by
  have hmm := @run_makeMap Try.prog
  have hm := hide (map_made w)
  go_enter Try.func23, Try.ntmps23
  go_wp2
  go_ret
  have e1 : Chg noBlk w (w.alloc (.map #[] 0)) := (Chg.refl _ _).alloc _
  refine ⟨w.heap.size + 1, w.heap.size, rfl, by omega, by omega, e1.alloc _, ?_, ?_⟩
  · have := heap_alloc_new (w.alloc (.map #[] 0)) (.cells #[.map (some w.heap.size)] 79)
    simpa using this
  · exact (unhide hm).no ((Chg.refl _ _).alloc _)
section
variable {w : World} {b m : Nat} {L : List KV}
set_option maxRecDepth 100000 in
theorem look_at (h : StAt w b m L) {k : List UInt8} (hk : k.length ≤ maxLen) (a : Int) : Calls Try.prog 28 #[.pointer (some ⟨b, 0, none⟩), str k, .int .i64 a] w (ToldN (.agg (look L k a).cells.toArray) w) := by
  have hlk := hide (fun w' (c : Chg noBlk w w') => (h.no c).m.look_ok hk)
  have hin := hide (fun w' (c : Chg noBlk w w') => isnone_at (h.no c))
  have hc0 := hide (fun w' (c : Chg noBlk w w') => (h.no c).c0)
  have hbb := h.lt
  cases hf : fnd L k with
  | none =>
    have hr := hide (look_none hf a)
    rw [hf, look_none hf] at hlk
    clear h hf
    have ta : True := True.intro
    go_enter Try.func28, Try.ntmps28
    go_wp2_with (first
      | (go_at_call 39; (with_reducible refine (unhide hin _ k1).mono ?_); rintro e w2 ⟨rfl, rfl⟩; have c0 := unhide hc0 _ k1; have l0 := unhide hlk _ k1)
      | ((with_reducible show wpList _ _ _ (_ :: _) _ _); first
        | (clear ta; refine wpL_alloc rfl 38 rfl _ zero_res ?_; intro p w1 e1 k1 g1 z1; have e0 : w.heap.size ≤ p := Nat.le_of_eq e1; clear e1 z1)
        | (refine wpL_alloc rfl 82 rfl _ zero_cel ?_; intro q w3 e3 k3 g3 z3; have e4 : w1.heap.size ≤ q := Nat.le_of_eq e3; have g4 := k3.at g1 id; clear e3 z3)
        | (refine wpL_store rfl 82 (.tmp 7) (.tmp 19) rfl q #[str [], .int .i64 0] rfl rfl _ _ g3 info_cel rfl (cel_one _ _) ?_; intro w4 k4 g5 z5; have k5 := k3.past k4 e4; have g6 := k5.at g1 id)
        | (refine wpL_store rfl 38 (.tmp 6) (.tmp 24) rfl p (RT.cells ⟨2, [], 0, a⟩).toArray rfl rfl _ _ g6 info_res rfl (all_oneCell_toArray (RT.one _)) ?_; intro w6 k6 g7 z7)))
    refine bodyPost_ret (ret_res rfl _ _ p _ _ _ rfl g7) rfl ?_
    exact ⟨by rw [unhide hr], (k1.andNo k5).past k6 e0⟩
  | some c =>
    have hr := hide (look_some hf a)
    rw [hf, look_some hf] at hlk
    clear h hf
    have ta : True := True.intro
    go_enter Try.func28, Try.ntmps28
    go_wp2_with (first
      | (go_at_call 39; (with_reducible refine (unhide hin _ k1).mono ?_); rintro e w2 ⟨rfl, rfl⟩; have c0 := unhide hc0 _ k1; have l0 := unhide hlk _ k1)
      | ((with_reducible show wpList _ _ _ (_ :: _) _ _); first
        | (clear ta; refine wpL_alloc rfl 38 rfl _ zero_res ?_; intro p w1 e1 k1 g1 z1; have e0 : w.heap.size ≤ p := Nat.le_of_eq e1; clear e1 z1)
        | (refine wpL_alloc rfl 82 rfl _ zero_cel ?_; intro q w3 e3 k3 g3 z3; have e4 : w1.heap.size ≤ q := Nat.le_of_eq e3; have g4 := k3.at g1 id; clear e3 z3)
        | (refine wpL_store rfl 82 (.tmp 7) (.tmp 19) rfl q #[str c.val, .int .i64 c.ver] rfl rfl _ _ g3 info_cel rfl (cel_one _ _) ?_; intro w4 k4 g5 z5; have k5 := k3.past k4 e4; have g6 := k5.at g1 id; have c5 := cellAt g5 0 _ rfl; have c6 := cellAt g5 1 _ rfl)
        | (refine wpL_store rfl 38 (.tmp 6) (.tmp 30) rfl p (RT.cells ⟨1, c.val, c.ver, a⟩).toArray rfl rfl _ _ g6 info_res rfl (all_oneCell_toArray (RT.one _)) ?_; intro w6 k6 g7 z7)))
    refine bodyPost_ret (ret_res rfl _ _ p _ _ _ rfl g7) rfl ?_
    exact ⟨by rw [unhide hr], (k1.andNo k5).past k6 e0⟩
end
end Go.Proofs.Ytfffgegdcgfakaa
