/-
  Logs: a log that is none has no entries.
-/
import Derived.Test.YtfffgegdcgfakaaLogsJ
namespace Go.Proofs.Ytfffgegdcgfakaa
open Go.ChangeShapes Go.WideShapes Go.ChangeAt Go.RowKit
set_option linter.unusedVariables false
attribute [local go_sem] bs_size bs_app bs_cut bs_tl bs_at
attribute [local go_sem ↓] eq_ress eq_same
attribute [local go_sem] eqRb_self
def bareC : Array Value := #[.slice none 0 0, .slice none 0 0, .pointer none, .int .i64 0, .int .i64 0, .int .i64 0, .int .i64 0, .int .i64 0, .int .i64 0]
/-- a log that is none -/
def NoneAt (w : World) (p : Value) : Prop := p = .pointer none ∨ ∃ b, p = .pointer (some ⟨b, 0, none⟩) ∧ w.heap[b]? = some (.cells bareC 59 (0, 0))
section
variable {w w' : World} {p : Value}
theorem NoneAt.no (h : NoneAt w p) (k : Chg noBlk w w') : NoneAt w' p := by
  rcases h with h | ⟨b, h, hb⟩
  · exact .inl h
  · exact .inr ⟨b, h, k.at hb id⟩
theorem lnone_yes (h : NoneAt w p) : Calls Try.prog 24 #[p] w (Told (.bool true) w) := by
  rcases h with rfl | ⟨b, rfl, hb⟩
  · go_enter Try.func24, Try.ntmps24
    go_wp2
    go_ret
    exact ⟨rfl, rfl⟩
  · have c2 : w.cell? ⟨b, 2, none⟩ = some (.pointer none) := cellAt hb 2 _ rfl
    clear hb
    go_enter Try.func24, Try.ntmps24
    go_wp2
    go_ret
    exact ⟨rfl, rfl⟩
theorem lnone_nil (w : World) : Calls Try.prog 24 #[.pointer none] w (Told (.bool true) w) := lnone_yes (.inl rfl)
theorem lnone_log {S : Nat → Prop} {E : List ET} (h : IsLog w S p E) : Calls Try.prog 24 #[p] w (Told (.bool false) w) := by
  obtain ⟨h0, b, sb, sm, ve, vr, rfl, hl, hi⟩ := h
  exact lnone_at hl
theorem llen_none (h : NoneAt w p) : Calls Try.prog 13 #[p] w (Told (.int .i64 0) w) := by
  have hin := hide (lnone_yes h)
  clear h
  go_enter Try.func13, Try.ntmps13
  go_wp2_with (go_at_call 24; (with_reducible refine (unhide hin).mono ?_); rintro e w3 ⟨rfl, rfl⟩)
  go_ret
  exact ⟨rfl, rfl⟩
theorem has_none (h : NoneAt w p) : Calls Try.prog 37 #[p, .int .i64 1] w (Told (.bool false) w) := by
  have hin := hide (llen_none h)
  clear h
  go_enter Try.func37, Try.ntmps37
  go_wp2_with (go_at_call 13; (with_reducible refine (unhide hin).mono ?_); rintro e w3 ⟨rfl, rfl⟩)
  go_ret
  exact ⟨rfl, rfl⟩
set_option maxRecDepth 100000 in
theorem at_none (h : NoneAt w p) : Calls Try.prog 18 #[p, .int .i64 1] w (ToldN (.tuple #[.agg eZero.cells.toArray, .bool false]) w) := by
  have hh := hide (fun w' (c : Chg noBlk w w') => has_none (h.no c))
  clear h
  have ta : True := True.intro
  go_enter Try.func18, Try.ntmps18
  go_wp2_with (first
    | (go_at_call 37; (with_reducible refine (unhide hh _ k1).mono ?_); rintro e w2 ⟨rfl, rfl⟩)
    | ((with_reducible show wpList _ _ _ (_ :: _) _ _); first
      | (clear ta; refine wpL_alloc rfl 34 rfl _ zero_ent ?_; intro p w1 e1 k1 g1 z1; have e0 : w.heap.size ≤ p := Nat.le_of_eq e1; clear e1 z1)
      | (refine wpL_store rfl 34 (.tmp 4) (.tmp 10) rfl p eZero.cells.toArray rfl rfl _ _ g1 info_ent rfl (all_oneCell_toArray (ET.one _)) ?_; intro w4 k4 g5 z5)))
  refine bodyPost_ret (results_row_tmp rfl _ _ _ _ _ _ _ rfl g5 Try.underlying34 rfl info_ent) rfl ?_
  exact ⟨rfl, k1.past k4 e0⟩
set_option maxRecDepth 100000 in
theorem res_none (h : NoneAt w p) : Calls Try.prog 19 #[p, .int .i64 1] w (ToldN (.tuple #[.agg rZero.cells.toArray, .bool false]) w) := by
  have hh := hide (fun w' (c : Chg noBlk w w') => has_none (h.no c))
  clear h
  have ta : True := True.intro
  go_enter Try.func19, Try.ntmps19
  go_wp2_with (first
    | (go_at_call 37; (with_reducible refine (unhide hh _ k1).mono ?_); rintro e w2 ⟨rfl, rfl⟩)
    | ((with_reducible show wpList _ _ _ (_ :: _) _ _); first
      | (clear ta; refine wpL_alloc rfl 38 rfl _ zero_res ?_; intro p w1 e1 k1 g1 z1; have e0 : w.heap.size ≤ p := Nat.le_of_eq e1; clear e1 z1)
      | (refine wpL_store rfl 38 (.tmp 4) (.tmp 10) rfl p rZero.cells.toArray rfl rfl _ _ g1 info_res rfl (all_oneCell_toArray (RT.one _)) ?_; intro w4 k4 g5 z5)))
  refine bodyPost_ret (results_row_tmp rfl _ _ _ _ _ _ _ rfl g5 Try.underlying38 rfl info_res) rfl ?_
  exact ⟨rfl, k1.past k4 e0⟩
theorem last_none (h : NoneAt w p) (c : Int) : Calls Try.prog 20 #[p, .int .i64 c] w (Told (.tuple #[.int .i64 0, .int .i64 0]) w) := by
  have hin := hide (lnone_yes h)
  clear h
  go_enter Try.func20, Try.ntmps20
  go_wp2_with (go_at_call 24; (with_reducible refine (unhide hin).mono ?_); rintro e w2 ⟨rfl, rfl⟩)
  go_ret2
  exact ⟨rfl, rfl⟩
theorem entries_none (h : NoneAt w p) : Calls Try.prog 21 #[p] w (Told (.slice none 0 0) w) := by
  have hin := hide (lnone_yes h)
  clear h
  go_enter Try.func21, Try.ntmps21
  go_wp2_with (go_at_call 24; (with_reducible refine (unhide hin).mono ?_); rintro e w2 ⟨rfl, rfl⟩)
  go_ret
  exact ⟨rfl, rfl⟩
theorem lcopy_none (h : NoneAt w p) : Calls Try.prog 9 #[p] w (Told (.pointer none) w) := by
  have hin := hide (lnone_yes h)
  clear h
  go_enter Try.func9, Try.ntmps9
  go_wp2_with (go_at_call 24; (with_reducible refine (unhide hin).mono ?_); rintro e w2 ⟨rfl, rfl⟩)
  go_ret
  exact ⟨rfl, rfl⟩
set_option maxRecDepth 100000 in
theorem llook_none (h : NoneAt w p) (k : List UInt8) : Calls Try.prog 10 #[p, str k] w (ToldN (.agg rZero.cells.toArray) w) := by
  have hin := hide (fun w' (c : Chg noBlk w w') => lnone_yes (h.no c))
  clear h
  have ta : True := True.intro
  go_enter Try.func10, Try.ntmps10
  go_wp2_with (first
    | (go_at_call 24; (with_reducible refine (unhide hin _ k1).mono ?_); rintro e w2 ⟨rfl, rfl⟩)
    | ((with_reducible show wpList _ _ _ (_ :: _) _ _); first
      | (clear ta; refine wpL_alloc rfl 38 rfl _ zero_res ?_; intro p w1 e1 k1 g1 z1; have e0 : w.heap.size ≤ p := Nat.le_of_eq e1; clear e1 z1)
      | (refine wpL_store rfl 38 (.tmp 4) (.tmp 7) rfl p rZero.cells.toArray rfl rfl _ _ g1 info_res rfl (all_oneCell_toArray (RT.one _)) ?_; intro w4 k4 g5 z5)))
  refine bodyPost_ret (ret_res rfl _ _ _ _ _ _ rfl g5) rfl ?_
  exact ⟨rfl, k1.past k4 e0⟩
set_option maxRecDepth 100000 in
theorem lcheck_none (h : NoneAt w p) (x : ET) : Calls Try.prog 31 #[p, .agg x.cells.toArray] w (ToldN (.int .i64 1) w) := by
  have hin := hide (fun w' (c : Chg noBlk w w') => lnone_yes (h.no c))
  clear h
  have ta : True := True.intro
  go_enter Try.func31, Try.ntmps31
  go_wp2_with (first
    | (go_at_call 24; (with_reducible refine (unhide hin _ k1).mono ?_); rintro e w2 ⟨rfl, rfl⟩)
    | ((with_reducible show wpList _ _ _ (_ :: _) _ _); (clear ta; refine wpL_box rfl 34 (.tmp 1) rfl x.cells.toArray rfl ?_; intro q w1 e1 k1 g1 z1; clear g1 z1 e1)))
  go_ret
  exact ⟨rfl, k1⟩
set_option maxRecDepth 100000 in
theorem lappend_none (h : NoneAt w p) (x : ET) : Calls Try.prog 12 #[p, .agg x.cells.toArray] w (ToldN (.tuple #[.agg rZero.cells.toArray, .int .i64 1]) w) := by
  have HC := hide (fun w' (c : Chg noBlk w w') => lcheck_none (h.no c) x)
  clear h
  have ta : True := True.intro
  go_enter Try.func12, Try.ntmps12
  go_wp2_with (first
    | (go_at_call 31; refine (unhide HC _ (k1.andNo k2)).mono ?_; rintro e w3 ⟨rfl, k3⟩; have g3 := k3.at g2 id)
    | ((with_reducible show wpList _ _ _ (_ :: _) _ _); first
      | (clear ta; refine wpL_box rfl 34 (.tmp 1) rfl x.cells.toArray rfl ?_; intro q w1 e1 k1 g1 z1; have eq0 : w.heap.size ≤ q := Nat.le_of_eq e1; clear e1 z1)
      | (refine wpL_alloc rfl 38 rfl _ zero_res ?_; intro p w2 e2 k2 g2 z2; have e0 : w.heap.size ≤ p := Nat.le_trans k1.size (Nat.le_of_eq e2); have g4 := k2.at g1 id; clear e2 z2)
      | (refine wpL_load rfl 34 (.tmp 3) rfl q rfl _ _ _ g4 _ Try.underlying34 rfl info_ent ?_)
      | (refine wpL_store rfl 38 (.tmp 4) (.tmp 11) rfl p rZero.cells.toArray rfl rfl _ _ g3 info_res rfl (all_oneCell_toArray (RT.one _)) ?_; intro w6 k6 g7 z7)))
  refine bodyPost_ret (results_row_tmp rfl _ _ _ _ _ _ _ rfl g7 Try.underlying38 rfl info_res) rfl ?_
  exact ⟨rfl, ((k1.andNo k2).andNo k3).past k6 e0⟩
theorem begins_none (h : NoneAt w p) : Calls Try.prog 16 #[p, .pointer none] w (Told (.bool true) w) := by
  have hin := hide (lnone_yes h)
  have hnl := hide (lnone_nil w)
  clear h
  have t1 : True := True.intro
  have t2 : True := True.intro
  go_enter Try.func16, Try.ntmps16
  go_wp2_with (first
    | (clear t1; go_at_call 24; (with_reducible refine (unhide hin).mono ?_); rintro e w3 ⟨rfl, rfl⟩)
    | (clear t2; go_at_call 24; (with_reducible refine (unhide hin).mono ?_); rintro e w3 ⟨rfl, rfl⟩)
    | (go_at_call 24; (with_reducible refine (unhide hnl).mono ?_); rintro e w3 ⟨rfl, rfl⟩))
  go_ret
  exact ⟨rfl, rfl⟩
variable {S : Nat → Prop} {p2 : Value} {E : List ET}
theorem begins_not1 (h : NoneAt w p) (h2 : IsLog w S p2 E) : Calls Try.prog 16 #[p, p2] w (Told (.bool false) w) := by
  have hin := hide (lnone_yes h)
  have hnl := hide (lnone_log h2)
  clear h h2
  have t1 : True := True.intro
  have t2 : True := True.intro
  go_enter Try.func16, Try.ntmps16
  go_wp2_with (first
    | (clear t1; go_at_call 24; (with_reducible refine (unhide hin).mono ?_); rintro e w3 ⟨rfl, rfl⟩)
    | (clear t2; go_at_call 24; (with_reducible refine (unhide hin).mono ?_); rintro e w3 ⟨rfl, rfl⟩)
    | (go_at_call 24; (with_reducible refine (unhide hnl).mono ?_); rintro e w3 ⟨rfl, rfl⟩))
  go_ret
  exact ⟨rfl, rfl⟩
theorem begins_not2 (h : NoneAt w p) (h2 : IsLog w S p2 E) : Calls Try.prog 16 #[p2, p] w (Told (.bool false) w) := by
  have hin := hide (lnone_yes h)
  have hnl := hide (lnone_log h2)
  clear h h2
  have t1 : True := True.intro
  have t2 : True := True.intro
  go_enter Try.func16, Try.ntmps16
  go_wp2_with (first
    | (clear t1; go_at_call 24; (with_reducible refine (unhide hnl).mono ?_); rintro e w3 ⟨rfl, rfl⟩)
    | (clear t2; go_at_call 24; (with_reducible refine (unhide hin).mono ?_); rintro e w3 ⟨rfl, rfl⟩)
    | (go_at_call 24; (with_reducible refine (unhide hnl).mono ?_); rintro e w3 ⟨rfl, rfl⟩))
  go_ret
  exact ⟨rfl, rfl⟩
end
/-- where the two turns stand -/
def TurnAt (w0 : World) (b : Nat) (a : AT) (s i : Value) (w : World) : Prop := ∃ k : Nat, k ≤ 2 ∧ i = .int .i64 (k : Int) ∧ NoneAt w s ∧ ActAt w b a ∧ Chg noBlk w0 w
end Go.Proofs.Ytfffgegdcgfakaa
