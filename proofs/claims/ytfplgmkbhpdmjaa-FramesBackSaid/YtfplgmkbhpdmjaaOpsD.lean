/-
  Operations: what stands ahead of bytes as an operation, as a plain function; the contract of the function that reads one.
-/
import Derived.Test.YtfplgmkbhpdmjaaOpsC
namespace Go.Proofs.Ytfplgmkbhpdmjaa
open Go.ChangeShapes Go.WideShapes Go.ChangeAt Go.RowKit
set_option linter.unusedVariables false
attribute [local go_sem] bs_size bs_app bs_cut bs_tl bs_at
theorem unint_ways (l : List UInt8) : unintT l = (0, [], false) ∨ ∃ k r, unintT l = (k, r, true) ∧ intL k ++ r = l ∧ -1 ≤ k ∧ k ≤ 1099511627776 := by
  cases h : readL l with
  | none => exact .inl (unintT_none h)
  | some x =>
    obtain ⟨n, r⟩ := x
    by_cases hn : (n : Int) > 1099511627777
    · exact .inl (unintT_big h hn)
    · refine .inr ⟨_, _, unintT_some h hn, ?_, by omega, by omega⟩
      rw [intL_in _ (by omega) (by omega), show ((n : Int) - 1 + 1).toNat = n by omega]
      exact (put_read l n r h).1
theorem cut_ways (l : List UInt8) : cutT l = ([], [], false) ∨ ∃ t r, cutT l = (t, r, true) ∧ textL t ++ r = l := by
  cases h : readL l with
  | none => exact .inl (cutT_none h)
  | some x =>
    obtain ⟨n, r⟩ := x
    by_cases hn : r.length < n
    · exact .inl (cutT_big h hn)
    · refine .inr ⟨_, _, cutT_some h hn, ?_⟩
      unfold textL
      rw [List.length_take, Nat.min_eq_left (by omega), List.append_assoc, List.take_append_drop]
      exact (put_read l n r h).1
theorem unint_put (k : Int) (X : List UInt8) (h0 : -1 ≤ k) (h1 : k ≤ 1099511627776) : unintT (intL k ++ X) = (k, X, true) := by
  have e := read_put (k + 1).toNat X (by omega)
  rw [intL_in _ h0 h1, unintT_some e (by omega)]
  congr 1; omega
theorem cut_put (l X : List UInt8) (h : l.length ≤ 1048576) : cutT (textL l ++ X) = (l, X, true) := by
  have e : readL (textL l ++ X) = some (l.length, l ++ X) := by unfold textL; rw [List.append_assoc]; exact read_put _ _ (by omega)
  rw [cutT_some e (by simp)]; simp
theorem unint_len (l : List UInt8) : (unintT l).2.1.length ≤ l.length := by
  rcases unint_ways l with h | ⟨k, r, h, e, _⟩
  · rw [h]; simp
  · rw [h, ← e]; simp
theorem cut_len (l : List UInt8) : (cutT l).2.1.length ≤ l.length := by
  rcases cut_ways l with h | ⟨k, r, h, e⟩
  · rw [h]; simp
  · rw [h, ← e]; simp
/-- what stands ahead as an operation, and what is behind it -/
def rdL (l : List UInt8) : Option (PT × List UInt8) :=
  if (unintT l).2.2 = false then none
  else if (cutT (unintT l).2.1).2.2 = false then none
  else if hv (unintT l).1 = false then some (⟨(unintT l).1, (cutT (unintT l).2.1).1, [], 0⟩, (cutT (unintT l).2.1).2.1)
  else if (cutT (cutT (unintT l).2.1).2.1).2.2 = false then none
  else if hn (unintT l).1 = false then some (⟨(unintT l).1, (cutT (unintT l).2.1).1, (cutT (cutT (unintT l).2.1).2.1).1, 0⟩, (cutT (cutT (unintT l).2.1).2.1).2.1)
  else if (unintT (cutT (cutT (unintT l).2.1).2.1).2.1).2.2 = false then none
  else some (⟨(unintT l).1, (cutT (unintT l).2.1).1, (cutT (cutT (unintT l).2.1).2.1).1, (unintT (cutT (cutT (unintT l).2.1).2.1).2.1).1⟩, (unintT (cutT (cutT (unintT l).2.1).2.1).2.1).2.1)
/-- what is told of it -/
def RdTold (l : List UInt8) (w : World) (e : Ending) (w' : World) : Prop := ∃ o r ok, e = .returned (.tuple #[.agg (PT.cells o).toArray, str r, .bool ok]) ∧ Chg noBlk w w' ∧ rdL l = if ok = true then some (o, r) else none
theorem rd_some {P : Program} {f : FuncId} {l : List UInt8} {w : World} {o : PT} {r : List UInt8} (h : rdL l = some (o, r)) (c : Calls P f #[str l] w (RdTold l w)) :
    Calls P f #[str l] w (ToldN (.tuple #[.agg o.cells.toArray, str r, .bool true]) w) := c.mono fun e w' ⟨p, s, ok, he, hc, hr⟩ => by
  rw [h] at hr
  cases ok with
  | false => simp at hr
  | true => simp at hr; obtain ⟨rfl, rfl⟩ := hr; exact ⟨he, hc⟩
/-- nothing is told -/
def RdNone (w : World) (e : Ending) (w' : World) : Prop := ∃ o r, e = .returned (.tuple #[.agg (PT.cells o).toArray, str r, .bool false]) ∧ Chg noBlk w w'
theorem rd_none {P : Program} {f : FuncId} {l : List UInt8} {w : World} (h : rdL l = none) (c : Calls P f #[str l] w (RdTold l w)) : Calls P f #[str l] w (RdNone w) := c.mono fun e w' ⟨p, s, ok, he, hc, hr⟩ => by
  rw [h] at hr
  cases ok with
  | false => exact ⟨p, s, he, hc⟩
  | true => simp at hr
theorem zero_op : (Try.prog.info? 24).bind (·.zero) = some (.agg pZero.cells.toArray) := by kernel_rfl
theorem info_int : (Try.prog.info? 3).map (·.size) = some 1 := by kernel_rfl
theorem info_string : (Try.prog.info? 9).map (·.size) = some 1 := by kernel_rfl
theorem unint_n (l : List UInt8) (h : l.length ≤ 1048576) (w : World) : Calls Try.prog 30 #[str l] w (ToldN (.tuple #[.int .i64 (unintT l).1, str (unintT l).2.1, .bool (unintT l).2.2]) w) :=
  (unint_any l h w).mono fun _ _ ⟨a, b⟩ => ⟨a, Chg.ofBelow b⟩
theorem cut_n (l : List UInt8) (h : l.length ≤ 1048576) (w : World) : Calls Try.prog 55 #[str l] w (ToldN (.tuple #[str (cutT l).1, str (cutT l).2.1, .bool (cutT l).2.2]) w) :=
  (cut_any l h w).mono fun _ _ ⟨a, b⟩ => ⟨a, Chg.ofBelow b⟩
theorem results_cell_tmp2 {fn : Func} {p u v : Tmp} {ty : TypeId} (h : fn.results = #[.cell p ty, .tmp u, .tmp v]) (tmps : Array Value) (P : Program) (w : World) :
    (results fn tmps).run P w = ((asAddr (tmps.getD p undef)).run P w).andThen fun a w₁ => ((loadVar ty a).run P w₁).andThen fun x w₂ => .ok (.tuple #[x, tmps.getD u undef, tmps.getD v undef]) w₂ := by
  simp only [results, h]
  simp [Sem.run_bind, Result.andThen]
/-- three results: a variable whole, and two slots -/
theorem results_row_tmp2 {P : Program} {fn : Func} {p u v : Tmp} {ty : TypeId} (h : fn.results = #[.cell p ty, .tmp u, .tmp v]) (tmps : Array Value) (w : World) (g : Nat) (t : TypeId) (cs : Array Value) (fr : Nat × Nat) (d : TypeDesc)
    (hp : tmps.getD p undef = .pointer (some ⟨g, 0, none⟩)) (hg : w.heap[g]? = some (.cells cs t fr))
    (hu : P.underlying ty = some d) (hd : (match d with | .struct _ | .array _ _ => true | _ => false) = true) (hi : (P.info? ty).map (·.size) = some cs.size) :
    (results fn tmps).run P w = .ok (.tuple #[.agg cs, tmps.getD u undef, tmps.getD v undef]) w := by
  rw [results_cell_tmp2 h, hp]
  simp only [asAddr, Sem.run_pure, Result.andThen_ok, run_loadVar_row w g t ty cs fr d hg hu hd hi]
theorem rd_ways (l : List UInt8) : ∃ k a x1 key b x2 val c x3 ver d x4 vb nb, unintT l = (k, a, x1) ∧ cutT a = (key, b, x2) ∧ cutT b = (val, c, x3) ∧ unintT c = (ver, d, x4) ∧ hv k = vb ∧ hn k = nb ∧
    ((x1 = false ∧ rdL l = none) ∨ (x1 = true ∧ x2 = false ∧ rdL l = none) ∨ (x1 = true ∧ x2 = true ∧ vb = false ∧ nb = false ∧ rdL l = some (⟨k, key, [], 0⟩, b)) ∨ (x1 = true ∧ x2 = true ∧ vb = true ∧ x3 = false ∧ rdL l = none) ∨
      (x1 = true ∧ x2 = true ∧ vb = true ∧ x3 = true ∧ nb = false ∧ rdL l = some (⟨k, key, val, 0⟩, c)) ∨ (x1 = true ∧ x2 = true ∧ vb = true ∧ x3 = true ∧ nb = true ∧ x4 = false ∧ rdL l = none) ∨ (x1 = true ∧ x2 = true ∧ vb = true ∧ x3 = true ∧ nb = true ∧ x4 = true ∧ rdL l = some (⟨k, key, val, ver⟩, d))) := by
  refine ⟨_, _, _, _, _, _, _, _, _, _, _, _, _, _, rfl, rfl, rfl, rfl, rfl, rfl, ?_⟩
  unfold rdL
  by_cases h1 : (unintT l).2.2 = false
  · exact .inl ⟨h1, if_pos h1⟩
  rw [if_neg h1]
  have h1' : (unintT l).2.2 = true := by simpa using h1
  by_cases h2 : (cutT (unintT l).2.1).2.2 = false
  · exact .inr (.inl ⟨h1', h2, if_pos h2⟩)
  rw [if_neg h2]
  have h2' : (cutT (unintT l).2.1).2.2 = true := by simpa using h2
  by_cases h3 : hv (unintT l).1 = false
  · exact .inr (.inr (.inl ⟨h1', h2', h3, hn_no.2 (hv_no.1 h3).2, if_pos h3⟩))
  rw [if_neg h3]
  have h3' : hv (unintT l).1 = true := by simpa using h3
  by_cases h4 : (cutT (cutT (unintT l).2.1).2.1).2.2 = false
  · exact .inr (.inr (.inr (.inl ⟨h1', h2', h3', h4, if_pos h4⟩)))
  rw [if_neg h4]
  have h4' : (cutT (cutT (unintT l).2.1).2.1).2.2 = true := by simpa using h4
  by_cases h5 : hn (unintT l).1 = false
  · exact .inr (.inr (.inr (.inr (.inl ⟨h1', h2', h3', h4', h5, if_pos h5⟩))))
  rw [if_neg h5]
  have h5' : hn (unintT l).1 = true := by simpa using h5
  by_cases h6 : (unintT (cutT (cutT (unintT l).2.1).2.1).2.1).2.2 = false
  · exact .inr (.inr (.inr (.inr (.inr (.inl ⟨h1', h2', h3', h4', h5', h6, if_pos h6⟩)))))
  rw [if_neg h6]
  have h6' : (unintT (cutT (cutT (unintT l).2.1).2.1).2.1).2.2 = true := by simpa using h6
  exact .inr (.inr (.inr (.inr (.inr (.inr ⟨h1', h2', h3', h4', h5', h6', rfl⟩)))))
set_option maxRecDepth 100000 in
set_option maxHeartbeats 4000000 in
theorem read_op (l : List UInt8) (hl : l.length ≤ 1048576) (w : World) : Calls Try.prog 51 #[str l] w (RdTold l w) := by
  obtain ⟨k, a, x1, key, b, x2, val, c, x3, ver, d, x4, vb, nb, e1, e2, e3, e4, e5, e6, hw⟩ := rd_ways l
  have m1 := unint_len l
  rw [e1] at m1
  have m2 := cut_len a
  rw [e2] at m2
  have m3 := cut_len b
  rw [e3] at m3
  have U1 := unint_n l hl
  have C1 := cut_n a (by dsimp only at *; omega)
  have C2 := cut_n b (by dsimp only at *; omega)
  have U2 := unint_n c (by dsimp only at *; omega)
  have V := fun w => hasvalue_any k w
  have N := fun w => hasversion_any k w
  rw [e1] at U1
  rw [e2] at C1
  rw [e3] at C2
  rw [e4] at U2
  rw [e5] at V
  rw [e6] at N
  clear m1 m2 m3 e1 e2 e3 e4 e5 e6 hl
  rcases hw with ⟨rfl, hw⟩ | ⟨rfl, rfl, hw⟩ | ⟨rfl, rfl, rfl, rfl, hw⟩ | ⟨rfl, rfl, rfl, rfl, hw⟩ | ⟨rfl, rfl, rfl, rfl, rfl, hw⟩ | ⟨rfl, rfl, rfl, rfl, rfl, rfl, hw⟩ | ⟨rfl, rfl, rfl, rfl, rfl, rfl, hw⟩
  all_goals
    have HU1 := hide U1
    have HC1 := hide C1
    have HC2 := hide C2
    have HU2 := hide U2
    have HV := hide V
    have HN := hide N
    have HW := hide hw
    clear U1 C1 C2 U2 V N hw
    have ta : True := True.intro
    go_enter Try.func51, Try.ntmps51
    go_wp2_with (first
      | ((with_reducible show wpList _ _ _ (_ :: _) _ _); clear ta; refine wpL_alloc rfl 24 rfl pZero.cells.toArray zero_op ?_; intro p w1 e1 k1 g1 z1; have e0 : w.heap.size ≤ p := Nat.le_of_eq e1; clear e1)
      | (go_at_call 30; (with_reducible refine (unhide HU1 _).mono ?_); rintro e w2 ⟨rfl, k2⟩)
      | (go_at_call 30; (with_reducible refine (unhide HU2 _).mono ?_); rintro e w8 ⟨rfl, k8⟩)
      | (go_at_call 55; (with_reducible refine (unhide HC1 _).mono ?_); rintro e w4 ⟨rfl, k4⟩)
      | (go_at_call 55; (with_reducible refine (unhide HC2 _).mono ?_); rintro e w6 ⟨rfl, k6⟩)
      | (go_at_call 63; (with_reducible refine (unhide HV _).mono ?_); rintro e w5 ⟨rfl, rfl⟩)
      | (go_at_call 64; (with_reducible refine (unhide HN _).mono ?_); rintro e w5 ⟨rfl, rfl⟩)
      | ((with_reducible show wpList _ _ _ (_ :: _) _ _); refine wpL_set rfl 3 (.tmp 11) (.tmp 8) rfl p 0 (.int .i64 k) rfl rfl rfl info_int _ _ (k2.at g1 id) (by decide) ?_; intro w3 k3 g3 z3; have GG : OpAt w3 p ⟨k, [], [], 0⟩ := g3; have KK := (k1.andNo k2).past k3 e0; clear g3 z3; have c0 : w3.cell? ⟨p, 0, none⟩ = some (.int .i64 k) := GG.c0)
      | ((with_reducible show wpList _ _ _ (_ :: _) _ _); refine wpL_set rfl 9 (.tmp 19) (.tmp 16) rfl p 1 (str key) rfl rfl rfl info_string _ _ (GG.no k4) (by show 1 < 4; omega) ?_; intro w5 k5 g5 z5; have KL := (KK.andNo k4).past k5 e0; clear GG KK; have GG : OpAt w5 p ⟨k, key, [], 0⟩ := g5; have KK := KL; clear g5 z5; have c0 : w5.cell? ⟨p, 0, none⟩ = some (.int .i64 k) := GG.c0)
      | ((with_reducible show wpList _ _ _ (_ :: _) _ _); refine wpL_set rfl 9 (.tmp 32) (.tmp 29) rfl p 2 (str val) rfl rfl rfl info_string _ _ (GG.no k6) (by show 2 < 4; omega) ?_; intro w7 k7 g7 z7; have KL := (KK.andNo k6).past k7 e0; clear GG KK; have GG : OpAt w7 p ⟨k, key, val, 0⟩ := g7; have KK := KL; clear g7 z7; have c0 : w7.cell? ⟨p, 0, none⟩ = some (.int .i64 k) := GG.c0)
      | ((with_reducible show wpList _ _ _ (_ :: _) _ _); refine wpL_set rfl 3 (.tmp 45) (.tmp 42) rfl p 3 (.int .i64 ver) rfl rfl rfl info_int _ _ (GG.no k8) (by show 3 < 4; omega) ?_; intro w9 k9 g9 z9; have KL := (KK.andNo k8).past k9 e0; clear GG KK; have GG : OpAt w9 p ⟨k, key, val, ver⟩ := g9; have KK := KL; clear g9 z9)
      | ((with_reducible show wpList _ _ _ (_ :: _) _ _); refine wpL_load rfl 24 (.tmp 2) rfl p rfl _ _ _ GG _ Try.underlying24 rfl info_op ?_)
      | ((with_reducible show wpList _ _ _ (_ :: _) _ _); refine wpL_store rfl 24 (.tmp 2) (.tmp 46) rfl p _ rfl rfl _ _ GG info_op rfl (all_oneCell_toArray (PT.one _)) ?_; intro w10 k10 g10 z10; have KM := KK.past k10 e0))
    refine bodyPost_ret (results_row_tmp2 rfl _ _ p _ _ _ _ rfl g10 Try.underlying24 rfl info_op) rfl ?_
    exact ⟨_, _, _, rfl, KM, by rw [unhide HW]; rfl⟩
end Go.Proofs.Ytfplgmkbhpdmjaa
