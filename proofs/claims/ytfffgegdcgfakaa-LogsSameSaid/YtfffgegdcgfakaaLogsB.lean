/-
  Logs: a log where it lies; contracts of what reads it.
-/
import Derived.Test.YtfffgegdcgfakaaLogsA
import Derived.Test.YtfffgegdcgfakaaKvCp
import Derived.Test.YtfffgegdcgfakaaKitF
import Derived.Test.YtfffgegdcgfakaaKitV
import Derived.StillTailTactics
namespace Go.Proofs.Ytfffgegdcgfakaa
open Go.ChangeShapes Go.WideShapes Go.ChangeAt Go.RowKit
set_option linter.unusedVariables false
attribute [local go_sem] bs_size bs_app bs_cut bs_tl bs_at
theorem zero_ent : (Try.prog.info? 34).bind (·.zero) = some (.agg eZero.cells.toArray) := by kernel_rfl
theorem info_ent : (Try.prog.info? 34).map (·.size) = some 7 := by kernel_rfl
theorem infx_ent : (Try.prog.info? 34).map (fun i => (i.zero, i.size, i.bytes)) = some (some (.agg eZero.cells.toArray), 7, 72) := by kernel_rfl
theorem infx_res : (Try.prog.info? 38).map (fun i => (i.zero, i.size, i.bytes)) = some (some (.agg rZero.cells.toArray), 4, 40) := by kernel_rfl
theorem built_ez : Try.prog.built 34 ([] : List (Nat × Value)) = some eZero.cells.toArray := by kernel_rfl
theorem ET.len (e : ET) : e.cells.length = 7 := rfl
theorem RT.len (r : RT) : r.cells.length = 4 := rfl
/-- what lies where a log is -/
def logC (ve vr : Value) (sb : Nat) (E : List ET) : List Value := [ve, vr, .pointer (some ⟨sb, 0, none⟩), .int .i64 (lastN E 0 E.length : Int), .int .i64 (lastN E 1 E.length : Int), .int .i64 (lastN E 2 E.length : Int), .int .i64 (lastN E 3 E.length : Int), .int .i64 (lastN E 4 E.length : Int), .int .i64 (lastN E 5 E.length : Int)]
/-- a log at b, with its store, its slices -/
structure LogAt (w : World) (b sb sm : Nat) (ve vr : Value) (E : List ET) : Prop where
  p : w.heap[b]? = some (.cells (logC ve vr sb E).toArray 59 (0, 0))
  ent : OwnL w 34 ET.cells 7 ve E
  res : OwnL w 38 RT.cells 4 vr (ress E E.length)
  st : StAt w sb sm (cellsN E E.length)
  fit : Fit E
section
variable {w w' : World} {b sb sm : Nat} {ve vr : Value} {E : List ET} {S : Nat → Prop}
theorem LogAt.lt (h : LogAt w b sb sm ve vr E) : b < w.heap.size := lt_of_block h.p
theorem LogAt.kept (h : LogAt w b sb sm ve vr E) (k : Chg S w w') (h1 : ¬ S b) (h2 : ¬ S sb) (h3 : ¬ S sm) (h4 : ∀ g, ve.ownBlock = some g → ¬ S g) (h5 : ∀ g, vr.ownBlock = some g → ¬ S g) : LogAt w' b sb sm ve vr E :=
  ⟨k.at h.p h1, h.ent.kept k h4, h.res.kept k h5, h.st.kept k h2 h3, h.fit⟩
theorem LogAt.no (h : LogAt w b sb sm ve vr E) (k : Chg noBlk w w') : LogAt w' b sb sm ve vr E := h.kept k id id id (fun _ _ => id) (fun _ _ => id)
theorem LogAt.c0 (h : LogAt w b sb sm ve vr E) : w.cell? ⟨b, 0, none⟩ = some ve := cellAt h.p 0 _ rfl
theorem LogAt.c1 (h : LogAt w b sb sm ve vr E) : w.cell? ⟨b, 1, none⟩ = some vr := cellAt h.p 1 _ rfl
theorem LogAt.c2 (h : LogAt w b sb sm ve vr E) : w.cell? ⟨b, 2, none⟩ = some (.pointer (some ⟨sb, 0, none⟩)) := cellAt h.p 2 _ rfl
theorem LogAt.cl (h : LogAt w b sb sm ve vr E) (c : Nat) (hc : c < 6) : w.cell? ⟨b, 3 + c, none⟩ = some (.int .i64 (lastN E (c : Int) E.length : Int)) := by
  refine cellAt h.p _ _ ?_
  rcases c with _ | _ | _ | _ | _ | _ | c
  · rfl
  · rfl
  · rfl
  · rfl
  · rfl
  · rfl
  · omega
theorem lnone_at (h : LogAt w b sb sm ve vr E) : Calls Try.prog 24 #[.pointer (some ⟨b, 0, none⟩)] w (Told (.bool false) w) := by
  have c2 := h.c2
  clear h
  go_enter Try.func24, Try.ntmps24
  go_wp2
  go_ret
  exact ⟨rfl, rfl⟩
theorem llen_at (h : LogAt w b sb sm ve vr E) : Calls Try.prog 13 #[.pointer (some ⟨b, 0, none⟩)] w (Told (.int .i64 (E.length : Int)) w) := by
  have hin := hide (lnone_at h)
  obtain ⟨ad, cap, rfl, _, _, _⟩ := h.ent.form ET.len
  have c0 := h.c0
  clear h
  go_enter Try.func13, Try.ntmps13
  go_wp2_with (go_at_call 24; (with_reducible refine (unhide hin).mono ?_); rintro e w2 ⟨rfl, rfl⟩)
  go_ret
  exact ⟨rfl, rfl⟩
/-- is there an entry of that index? -/
def hasB (E : List ET) (i : Int) : Bool := decide (1 ≤ i) && decide (i ≤ (E.length : Int))
theorem hasB_yes {i : Int} : hasB E i = true ↔ 1 ≤ i ∧ i ≤ (E.length : Int) := by unfold hasB; simp
theorem hasB_no {i : Int} : hasB E i = false ↔ i < 1 ∨ (E.length : Int) < i := by unfold hasB; simp; omega
theorem has_at (h : LogAt w b sb sm ve vr E) (i : Int) : Calls Try.prog 37 #[.pointer (some ⟨b, 0, none⟩), .int .i64 i] w (Told (.bool (hasB E i)) w) := by
  have hl := hide (llen_at h)
  obtain ⟨n, hn⟩ : ∃ n, E.length = n := ⟨_, rfl⟩
  unfold hasB
  rw [hn] at hl ⊢
  clear h hn
  by_cases h1 : 1 ≤ i
  · have d1 : decide (1 ≤ i) = true := decide_eq_true h1
    rw [d1]
    go_enter Try.func37, Try.ntmps37
    go_wp2_with (go_at_call 13; (with_reducible refine (unhide hl).mono ?_); rintro e w2 ⟨rfl, rfl⟩)
    go_ret
    exact ⟨rfl, rfl⟩
  · have d1 : decide (1 ≤ i) = false := decide_eq_false h1
    rw [d1]
    go_enter Try.func37, Try.ntmps37
    go_wp2_with (go_at_call 13; (with_reducible refine (unhide hl).mono ?_); rintro e w2 ⟨rfl, rfl⟩)
    go_ret
    exact ⟨rfl, rfl⟩
/-- is it a client's number? -/
def cliB (c : Int) : Bool := decide (0 ≤ c) && decide (c < 6)
theorem cliB_yes {c : Int} : cliB c = true ↔ 0 ≤ c ∧ c ≤ 5 := by unfold cliB; simp; omega
theorem cliB_no {c : Int} : cliB c = false ↔ c < 0 ∨ 5 < c := by unfold cliB; simp; omega
theorem maybe_any (c : Int) (w : World) : Calls Try.prog 38 #[.int .i64 c] w (Told (.bool (cliB c)) w) := by
  unfold cliB
  by_cases h1 : 0 ≤ c
  · have d1 : decide (0 ≤ c) = true := decide_eq_true h1
    rw [d1]
    go_enter Try.func38, Try.ntmps38
    go_wp2
    go_ret
    exact ⟨rfl, rfl⟩
  · have d1 : decide (0 ≤ c) = false := decide_eq_false h1
    rw [d1]
    go_enter Try.func38, Try.ntmps38
    go_wp2
    go_ret
    exact ⟨rfl, rfl⟩
set_option maxRecDepth 100000 in
theorem at_yes (h : LogAt w b sb sm ve vr E) {k : Nat} {x : ET} (hx : E[k]? = some x) : Calls Try.prog 18 #[.pointer (some ⟨b, 0, none⟩), .int .i64 ((k : Int) + 1)] w (ToldN (.tuple #[.agg x.cells.toArray, .bool true]) w) := by
  have hk := (List.getElem?_eq_some_iff.1 hx).1
  have hf := h.fit.few
  have hh := hide (fun w' (c : Chg noBlk w w') => has_at (h.no c) ((k : Int) + 1))
  rw [hasB_yes.2 (by omega)] at hh
  obtain ⟨ad, cap, rfl, _, _, hr⟩ := h.ent.form ET.len
  have hc0 := hide (fun w' (c : Chg noBlk w w') => (h.no c).c0)
  obtain ⟨_, g, off, rfl, hw⟩ := hr k x hx
  have HR := hide (fun w' (c : Chg noBlk w w') => range_kept hw c)
  have i1 : (0 : Int) ≤ (k : Int) := by omega
  have i2 : (k : Int) < (E.length : Int) := by omega
  clear h hr hw hx
  have ta : True := True.intro
  go_enter Try.func18, Try.ntmps18
  go_wp2_with (first
    | (go_at_call 37; (with_reducible refine (unhide hh _ k1).mono ?_); rintro e w2 ⟨rfl, rfl⟩; have c0 := unhide hc0 _ k1; have R1 := hide (unhide HR _ k1))
    | ((with_reducible show wpList _ _ _ (_ :: _) _ _); first
      | (clear ta; refine wpL_alloc rfl 34 rfl _ zero_ent ?_; intro p w1 e1 k1 g1 z1; have e0 : w.heap.size ≤ p := Nat.le_of_eq e1; clear e1 z1)
      | (refine wpList_load_mid rfl 34 (.tmp 17) rfl g (off + k * 7) rfl x.cells _ (unhide R1) Try.underlying34 rfl (by rw [info_ent]; rfl) ?_)
      | (refine wpL_store rfl 34 (.tmp 4) (.tmp 18) rfl p x.cells.toArray rfl rfl _ _ g1 info_ent rfl (all_oneCell_toArray (ET.one _)) ?_; intro w4 k4 g5 z5)))
  refine bodyPost_ret (results_row_tmp rfl _ _ p _ _ _ _ rfl g5 Try.underlying34 rfl info_ent) rfl ?_
  exact ⟨rfl, k1.past k4 e0⟩
set_option maxRecDepth 100000 in
theorem at_no (h : LogAt w b sb sm ve vr E) {i : Int} (hi : hasB E i = false) : Calls Try.prog 18 #[.pointer (some ⟨b, 0, none⟩), .int .i64 i] w (ToldN (.tuple #[.agg eZero.cells.toArray, .bool false]) w) := by
  have hh := hide (fun w' (c : Chg noBlk w w') => has_at (h.no c) i)
  rw [hi] at hh
  clear h hi
  have ta : True := True.intro
  go_enter Try.func18, Try.ntmps18
  go_wp2_with (first
    | (go_at_call 37; (with_reducible refine (unhide hh _ k1).mono ?_); rintro e w2 ⟨rfl, rfl⟩)
    | ((with_reducible show wpList _ _ _ (_ :: _) _ _); first
      | (clear ta; refine wpL_alloc rfl 34 rfl _ zero_ent ?_; intro p w1 e1 k1 g1 z1; have e0 : w.heap.size ≤ p := Nat.le_of_eq e1; clear e1 z1)
      | (refine wpL_store rfl 34 (.tmp 4) (.tmp 10) rfl p eZero.cells.toArray rfl rfl _ _ g1 info_ent rfl (all_oneCell_toArray (ET.one _)) ?_; intro w4 k4 g5 z5)))
  refine bodyPost_ret (results_row_tmp rfl _ _ p _ _ _ _ rfl g5 Try.underlying34 rfl info_ent) rfl ?_
  exact ⟨rfl, k1.past k4 e0⟩
set_option maxRecDepth 100000 in
theorem res_yes (h : LogAt w b sb sm ve vr E) {k : Nat} (hk : k < E.length) : Calls Try.prog 19 #[.pointer (some ⟨b, 0, none⟩), .int .i64 ((k : Int) + 1)] w (ToldN (.tuple #[.agg (resN E k).cells.toArray, .bool true]) w) := by
  have hf := h.fit.few
  have hh := hide (fun w' (c : Chg noBlk w w') => has_at (h.no c) ((k : Int) + 1))
  rw [hasB_yes.2 (by omega)] at hh
  obtain ⟨ad, cap, rfl, _, _, hr⟩ := h.res.form RT.len
  rw [ress_len] at h
  have hc0 := hide (fun w' (c : Chg noBlk w w') => (h.no c).c1)
  obtain ⟨_, g, off, rfl, hw⟩ := hr k _ (ress_get hk)
  have HR := hide (fun w' (c : Chg noBlk w w') => range_kept hw c)
  have i1 : (0 : Int) ≤ (k : Int) := by omega
  have i2 : (k : Int) < (E.length : Int) := by omega
  obtain ⟨x, hx⟩ : ∃ x, resN E k = x := ⟨_, rfl⟩
  rw [hx] at HR ⊢
  clear h hr hw hx
  have ta : True := True.intro
  go_enter Try.func19, Try.ntmps19
  go_wp2_with (first
    | (go_at_call 37; (with_reducible refine (unhide hh _ k1).mono ?_); rintro e w2 ⟨rfl, rfl⟩; have c0 := unhide hc0 _ k1; have R1 := hide (unhide HR _ k1))
    | ((with_reducible show wpList _ _ _ (_ :: _) _ _); first
      | (clear ta; refine wpL_alloc rfl 38 rfl _ zero_res ?_; intro p w1 e1 k1 g1 z1; have e0 : w.heap.size ≤ p := Nat.le_of_eq e1; clear e1 z1)
      | (refine wpList_load_mid rfl 38 (.tmp 17) rfl g (off + k * 4) rfl x.cells _ (unhide R1) Try.underlying38 rfl (by rw [info_res]; rfl) ?_)
      | (refine wpL_store rfl 38 (.tmp 4) (.tmp 18) rfl p x.cells.toArray rfl rfl _ _ g1 info_res rfl (all_oneCell_toArray (RT.one _)) ?_; intro w4 k4 g5 z5)))
  refine bodyPost_ret (results_row_tmp rfl _ _ p _ _ _ _ rfl g5 Try.underlying38 rfl info_res) rfl ?_
  exact ⟨rfl, k1.past k4 e0⟩
set_option maxRecDepth 100000 in
theorem res_no (h : LogAt w b sb sm ve vr E) {i : Int} (hi : hasB E i = false) : Calls Try.prog 19 #[.pointer (some ⟨b, 0, none⟩), .int .i64 i] w (ToldN (.tuple #[.agg rZero.cells.toArray, .bool false]) w) := by
  have hh := hide (fun w' (c : Chg noBlk w w') => has_at (h.no c) i)
  rw [hi] at hh
  clear h hi
  have ta : True := True.intro
  go_enter Try.func19, Try.ntmps19
  go_wp2_with (first
    | (go_at_call 37; (with_reducible refine (unhide hh _ k1).mono ?_); rintro e w2 ⟨rfl, rfl⟩)
    | ((with_reducible show wpList _ _ _ (_ :: _) _ _); first
      | (clear ta; refine wpL_alloc rfl 38 rfl _ zero_res ?_; intro p w1 e1 k1 g1 z1; have e0 : w.heap.size ≤ p := Nat.le_of_eq e1; clear e1 z1)
      | (refine wpL_store rfl 38 (.tmp 4) (.tmp 10) rfl p rZero.cells.toArray rfl rfl _ _ g1 info_res rfl (all_oneCell_toArray (RT.one _)) ?_; intro w4 k4 g5 z5)))
  refine bodyPost_ret (results_row_tmp rfl _ _ p _ _ _ _ rfl g5 Try.underlying38 rfl info_res) rfl ?_
  exact ⟨rfl, k1.past k4 e0⟩
end
end Go.Proofs.Ytfffgegdcgfakaa
