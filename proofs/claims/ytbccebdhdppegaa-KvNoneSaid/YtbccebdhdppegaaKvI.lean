/-
  Keys with values: a store that is none; the chapter's store.
-/
import Derived.Test.YtbccebdhdppegaaKvH
namespace Go.Proofs.Ytbccebdhdppegaa
open Go.ChangeShapes Go.WideShapes Go.ChangeAt Go.RowKit
set_option linter.unusedVariables false
attribute [local go_sem] bs_size bs_app bs_cut bs_tl bs_at
/-- a store that is none -/
def NoneAt (w : World) (p : Value) : Prop := p = .pointer none ∨ ∃ b, p = .pointer (some ⟨b, 0, none⟩) ∧ w.heap[b]? = some (.cells #[.map none] 47 (0, 0))
section
variable {w w' : World} {p : Value}
theorem NoneAt.no (h : NoneAt w p) (k : Chg noBlk w w') : NoneAt w' p := by
  rcases h with h | ⟨b, h, hb⟩
  · exact .inl h
  · exact .inr ⟨b, h, k.at hb id⟩
theorem isnone_yes (h : NoneAt w p) : Calls Try.prog 20 #[p] w (Told (.bool true) w) := by
  rcases h with rfl | ⟨b, rfl, hb⟩
  · exact isnone_nil w
  · exact isnone_zero (cellAt hb 0 _ rfl)
set_option maxRecDepth 100000 in
theorem apply_none (h : NoneAt w p) (i : Int) (o : PT) : Calls Try.prog 12 #[p, .int .i64 i, .agg o.cells.toArray] w (ToldN (.agg rZero.cells.toArray) w) := by
  have hin := hide (fun w' (c : Chg noBlk w w') => isnone_yes (h.no c))
  clear h
  have ta : True := True.intro
  go_enter Try.func12, Try.ntmps12
  go_wp2_with (first
    | (go_at_call 20; (with_reducible refine (unhide hin _ K2).mono ?_); rintro e w3 ⟨rfl, rfl⟩)
    | ((with_reducible show wpList _ _ _ (_ :: _) _ _); first
      | (clear ta; refine wpL_box rfl 29 (.tmp 2) rfl o.cells.toArray rfl ?_; intro q w1 e1 k1 g1 z1; clear g1 z1 e1)
      | (refine wpL_alloc rfl 33 rfl _ zero_res ?_; intro p w2 e2 k2 g2 z2; have e0 : w.heap.size ≤ p := Nat.le_trans k1.size (Nat.le_of_eq e2); have K2 := k1.andNo k2; clear e2 z2)
      | (refine wpL_store rfl 33 (.tmp 6) (.tmp 22) rfl p rZero.cells.toArray rfl rfl _ _ g2 info_res rfl (all_oneCell_toArray (RT.one _)) ?_; intro w6 k6 g7 z7)))
  refine bodyPost_ret (ret_res rfl _ _ _ _ _ _ rfl g7) rfl ?_
  exact ⟨rfl, K2.past k6 e0⟩
set_option maxRecDepth 100000 in
theorem look_none_at (h : NoneAt w p) (k : List UInt8) (i : Int) : Calls Try.prog 10 #[p, str k, .int .i64 i] w (ToldN (.agg rZero.cells.toArray) w) := by
  have hin := hide (fun w' (c : Chg noBlk w w') => isnone_yes (h.no c))
  clear h
  have ta : True := True.intro
  go_enter Try.func10, Try.ntmps10
  go_wp2_with (first
    | (go_at_call 20; (with_reducible refine (unhide hin _ k2).mono ?_); rintro e w3 ⟨rfl, rfl⟩)
    | ((with_reducible show wpList _ _ _ (_ :: _) _ _); first
      | (clear ta; refine wpL_alloc rfl 33 rfl _ zero_res ?_; intro p w2 e2 k2 g2 z2; have e0 : w.heap.size ≤ p := Nat.le_of_eq e2; clear e2 z2)
      | (refine wpL_store rfl 33 (.tmp 6) (.tmp 11) rfl p rZero.cells.toArray rfl rfl _ _ g2 info_res rfl (all_oneCell_toArray (RT.one _)) ?_; intro w6 k6 g7 z7)))
  refine bodyPost_ret (ret_res rfl _ _ _ _ _ _ rfl g7) rfl ?_
  exact ⟨rfl, k2.past k6 e0⟩
theorem size_none (h : NoneAt w p) : Calls Try.prog 16 #[p] w (Told (.int .i64 0) w) := by
  have hin := hide (isnone_yes h)
  clear h
  go_enter Try.func16, Try.ntmps16
  go_wp2_with (go_at_call 20; (with_reducible refine (unhide hin).mono ?_); rintro e w3 ⟨rfl, rfl⟩)
  go_ret
  exact ⟨rfl, rfl⟩
theorem keys_none (h : NoneAt w p) : Calls Try.prog 17 #[p] w (Told (.slice none 0 0) w) := by
  have hin := hide (isnone_yes h)
  clear h
  go_enter Try.func17, Try.ntmps17
  go_wp2_with (go_at_call 20; (with_reducible refine (unhide hin).mono ?_); rintro e w3 ⟨rfl, rfl⟩)
  go_ret
  exact ⟨rfl, rfl⟩
theorem copy_none (h : NoneAt w p) : Calls Try.prog 9 #[p] w (Told (.pointer none) w) := by
  have hin := hide (isnone_yes h)
  clear h
  go_enter Try.func9, Try.ntmps9
  go_wp2_with (go_at_call 20; (with_reducible refine (unhide hin).mono ?_); rintro e w3 ⟨rfl, rfl⟩)
  go_ret
  exact ⟨rfl, rfl⟩
theorem same_none (h : NoneAt w p) : Calls Try.prog 15 #[p, .pointer none] w (Told (.bool true) w) := by
  have hin := hide (isnone_yes h)
  have hnl := hide (isnone_nil w)
  clear h
  have t1 : True := True.intro
  have t2 : True := True.intro
  go_enter Try.func15, Try.ntmps15
  go_wp2_with (first
    | (clear t1; go_at_call 20; (with_reducible refine (unhide hin).mono ?_); rintro e w3 ⟨rfl, rfl⟩)
    | (clear t2; go_at_call 20; (with_reducible refine (unhide hin).mono ?_); rintro e w3 ⟨rfl, rfl⟩)
    | (go_at_call 20; (with_reducible refine (unhide hnl).mono ?_); rintro e w3 ⟨rfl, rfl⟩))
  go_ret
  exact ⟨rfl, rfl⟩
theorem same_not (h : NoneAt w p) {b m : Nat} {L : List KV} (h2 : StAt w b m L) : Calls Try.prog 15 #[p, .pointer (some ⟨b, 0, none⟩)] w (Told (.bool false) w) := by
  have hin := hide (isnone_yes h)
  have hnl := hide (isnone_at h2)
  clear h h2
  have t1 : True := True.intro
  have t2 : True := True.intro
  go_enter Try.func15, Try.ntmps15
  go_wp2_with (first
    | (clear t1; go_at_call 20; (with_reducible refine (unhide hin).mono ?_); rintro e w3 ⟨rfl, rfl⟩)
    | (clear t2; go_at_call 20; (with_reducible refine (unhide hin).mono ?_); rintro e w3 ⟨rfl, rfl⟩)
    | (go_at_call 20; (with_reducible refine (unhide hnl).mono ?_); rintro e w3 ⟨rfl, rfl⟩))
  go_ret
  exact ⟨rfl, rfl⟩
end
/-! ### the chapter's store -/
def x1 : PT := ⟨2, [107], [118], 0⟩
def x2 : PT := ⟨4, [107], [119], 0⟩
def x3 : PT := ⟨4, [107], [119], 1⟩
def x4 : PT := ⟨3, [107], [], 0⟩
def s1 : List KV := [⟨[107], [118], 1⟩]
def s2 : List KV := [⟨[107], [119], 2⟩]
theorem a1 : appL [] 1 x1 = s1 ∧ appR [] 1 x1 = ⟨1, [], 1, 1⟩ := by constructor <;> rfl
theorem a2 : appL s1 2 x2 = s1 ∧ appR s1 2 x2 = ⟨3, [118], 1, 2⟩ := by constructor <;> rfl
theorem a3 : appL s1 2 x3 = s2 ∧ appR s1 2 x3 = ⟨1, [], 2, 2⟩ := by constructor <;> rfl
theorem a4 : look s2 [107] 7 = ⟨1, [119], 2, 7⟩ := rfl
theorem a5 : appL s2 3 x4 = [] ∧ appR s2 3 x4 = ⟨1, [], 0, 3⟩ := by constructor <;> rfl
theorem a6 : appL [] 4 x4 = [] ∧ appR [] 4 x4 = ⟨2, [], 0, 4⟩ := by constructor <;> rfl
theorem b1 : Try.prog.built 29 [(0, .int .i64 2), (1, str [107]), (2, str [118])] = some x1.cells.toArray := by kernel_rfl
theorem b2 : Try.prog.built 29 [(0, .int .i64 4), (1, str [107]), (2, str [119])] = some x2.cells.toArray := by kernel_rfl
theorem b3 : Try.prog.built 29 [(0, .int .i64 4), (1, str [107]), (2, str [119]), (3, .int .i64 1)] = some x3.cells.toArray := by kernel_rfl
theorem b4 : Try.prog.built 29 [(0, .int .i64 3), (1, str [107])] = some x4.cells.toArray := by kernel_rfl
end Go.Proofs.Ytbccebdhdppegaa
