/-
  Operations: contracts of the operation of any bytes, and of the document's answer beside it.
-/
import Derived.Test.YtfplgmkbhpdmjaaOpsE
namespace Go.Proofs.Ytfplgmkbhpdmjaa
open Go.ChangeShapes Go.WideShapes Go.ChangeAt Go.RowKit
set_option linter.unusedVariables false
attribute [local go_sem] bs_size bs_app bs_cut bs_tl bs_at
theorem clone_n (l : List UInt8) (h : l.length ≤ 1048576) (w : World) : Calls Try.prog 26 #[str l] w (ToldN (str l) w) := by
  have C := fun w => Try.stringslite_Clone (bs l) w (by rw [bs_size]; omega)
  have HC := hide C
  clear C
  go_enter Try.func26, Try.ntmps26
  go_wp2_with (go_at_call 44; (with_reducible refine (unhide HC _).mono ?_); rintro e w1 ⟨rfl, hb⟩)
  go_ret
  exact ⟨rfl, Chg.ofBelow hb⟩
theorem built_zero : Try.prog.built 24 ([] : List (Nat × Value)) = some pZero.cells.toArray := by kernel_rfl
/-- the operation at b, and what was there ahead of it as it was -/
structure Hold (w1 : World) (b : Nat) (o : PT) (w : World) : Prop where
  chg : Chg (oneBlk b) w1 w
  lies : OpAt w b o
section
variable {w1 w w' : World} {b : Nat} {o : PT}
theorem Hold.drew (h : Hold w1 b o w) : Hold w1 b o w.drew := ⟨h.chg.drew, h.lies⟩
theorem Hold.drewN (h : Hold w1 b o w) (n : Nat) : Hold w1 b o (w.drewN n) := ⟨h.chg.drewN n, h.lies⟩
theorem Hold.andNo (h : Hold w1 b o w) (k : Chg noBlk w w') : Hold w1 b o w' := ⟨h.chg.andNo k, h.lies.no k⟩
theorem Hold.key (h : Hold w1 b o w) : Hold w1 b o (w.setCell ⟨b, 1, none⟩ (str o.key)) := ⟨h.chg.trans (setCell_chg w b 1 _) fun _ _ e => e, setCell_heap (str o.key) h.lies⟩
theorem Hold.val (h : Hold w1 b o w) : Hold w1 b o (w.setCell ⟨b, 2, none⟩ (str o.val)) := ⟨h.chg.trans (setCell_chg w b 2 _) fun _ _ e => e, setCell_heap (str o.val) h.lies⟩
theorem hold_keep (h : Hold w1 b o w) : Hold w1 b o w ∧ w.cell? ⟨b, 1, none⟩ = some (str o.key) ∧ w.cell? ⟨b, 2, none⟩ = some (str o.val) ∧ w.frozen? ⟨b, 1, none⟩ = false ∧ w.frozen? ⟨b, 2, none⟩ = false :=
  ⟨h, h.lies.c1, h.lies.c2, freeAt h.lies 1, freeAt h.lies 2⟩
end
set_option maxRecDepth 100000 in
set_option maxHeartbeats 1000000 in
theorem get_op_no (l : List UInt8) (hl : l.length ≤ 1048576) (h : getX l = none) (w : World) : Calls Try.prog 33 #[str l] w (ToldN (getT l) w) := by
  have R := fun w => read_op l hl w
  have HE := hide (getT_none h)
  have hw : (rdL l = none) ∨ (∃ o r, rdL l = some (o, r) ∧ r ≠ []) ∨ (∃ o, rdL l = some (o, []) ∧ (chk o == 0) = false) := by
    cases hr : rdL l with
    | none => exact .inl rfl
    | some x =>
      obtain ⟨o, r⟩ := x
      by_cases e : r = []
      · subst e
        refine .inr (.inr ⟨o, rfl, ?_⟩)
        by_cases hc : chk o = 0
        · rw [get_some hr hc] at h; simp at h
        · simpa using hc
      · exact .inr (.inl ⟨o, r, rfl, e⟩)
  clear h hl
  rcases hw with hw | ⟨o, r, hw, hr⟩ | ⟨o, hw, hc⟩
  · have HR := hide (fun w => rd_none hw (R w))
    clear R hw
    have ta : True := True.intro
    go_enter Try.func33, Try.ntmps33
    go_wp2_with (first
      | ((with_reducible show wpList _ _ _ (_ :: _) _ _); clear ta; refine wpL_alloc rfl 24 rfl pZero.cells.toArray zero_op ?_; intro p w1 e1 k1 g1 z1; have e0 : w.heap.size ≤ p := Nat.le_of_eq e1; have G1 : OpAt w1 p pZero := g1; clear e1 z1 g1)
      | (go_at_call 51; (with_reducible refine (unhide HR _).mono ?_); rintro e w2 ⟨o, r, rfl, k2⟩)
      | ((with_reducible show wpList _ _ _ (_ :: _) _ _); refine wpL_store rfl 24 (.tmp 2) (.tmp 9) rfl p o.cells.toArray rfl rfl _ _ (G1.no k2) info_op rfl (all_oneCell_toArray (PT.one _)) ?_; intro w3 k3 g3 z3; have G3 : OpAt w3 p o := g3; clear g3 z3)
      | ((with_reducible show wpList _ _ _ (_ :: _) _ _); refine wpL_build rfl 24 #[] rfl pZero.cells.toArray built_zero ?_)
      | ((with_reducible show wpList _ _ _ (_ :: _) _ _); refine wpL_store rfl 24 (.tmp 2) (.tmp 23) rfl p pZero.cells.toArray rfl rfl _ _ G3 info_op rfl (all_oneCell_toArray (PT.one _)) ?_; intro w5 k5 g5 z5))
    refine bodyPost_ret (results_row_tmp rfl _ _ p _ _ _ _ rfl g5 Try.underlying24 rfl info_op) rfl ?_
    exact ⟨by rw [unhide HE]; rfl, ((k1.andNo k2).past k3 e0).past k5 e0⟩
  · have HR := hide (fun w => rd_some hw (R w))
    clear R hw
    have ta : True := True.intro
    go_enter Try.func33, Try.ntmps33
    go_wp2_with (first
      | ((with_reducible show wpList _ _ _ (_ :: _) _ _); clear ta; refine wpL_alloc rfl 24 rfl pZero.cells.toArray zero_op ?_; intro p w1 e1 k1 g1 z1; have e0 : w.heap.size ≤ p := Nat.le_of_eq e1; have G1 : OpAt w1 p pZero := g1; clear e1 z1 g1)
      | (go_at_call 51; (with_reducible refine (unhide HR _).mono ?_); rintro e w2 ⟨rfl, k2⟩)
      | ((with_reducible show wpList _ _ _ (_ :: _) _ _); refine wpL_store rfl 24 (.tmp 2) (.tmp 9) rfl p o.cells.toArray rfl rfl _ _ (G1.no k2) info_op rfl (all_oneCell_toArray (PT.one _)) ?_; intro w3 k3 g3 z3; have G3 : OpAt w3 p o := g3; clear g3 z3)
      | ((with_reducible show wpList _ _ _ (_ :: _) _ _); refine wpL_build rfl 24 #[] rfl pZero.cells.toArray built_zero ?_)
      | ((with_reducible show wpList _ _ _ (_ :: _) _ _); refine wpL_store rfl 24 (.tmp 2) (.tmp 23) rfl p pZero.cells.toArray rfl rfl _ _ G3 info_op rfl (all_oneCell_toArray (PT.one _)) ?_; intro w5 k5 g5 z5))
    refine bodyPost_ret (results_row_tmp rfl _ _ p _ _ _ _ rfl g5 Try.underlying24 rfl info_op) rfl ?_
    exact ⟨by rw [unhide HE]; rfl, ((k1.andNo k2).past k3 e0).past k5 e0⟩
  · have HR := hide (fun w => rd_some hw (R w))
    have HC := hide (fun w => check_any o w)
    clear R hw
    have ta : True := True.intro
    go_enter Try.func33, Try.ntmps33
    go_wp2_with (first
      | ((with_reducible show wpList _ _ _ (_ :: _) _ _); clear ta; refine wpL_alloc rfl 24 rfl pZero.cells.toArray zero_op ?_; intro p w1 e1 k1 g1 z1; have e0 : w.heap.size ≤ p := Nat.le_of_eq e1; have G1 : OpAt w1 p pZero := g1; clear e1 z1 g1)
      | (go_at_call 51; (with_reducible refine (unhide HR _).mono ?_); rintro e w2 ⟨rfl, k2⟩)
      | (go_at_call 52; refine (unhide HC _).mono ?_; rintro e w4 ⟨rfl, k4⟩; clear c0 c1 c2 c3)
      | ((with_reducible show wpList _ _ _ (_ :: _) _ _); refine wpL_store rfl 24 (.tmp 2) (.tmp 9) rfl p o.cells.toArray rfl rfl _ _ (G1.no k2) info_op rfl (all_oneCell_toArray (PT.one _)) ?_; intro w3 k3 g3 z3; have G3 : OpAt w3 p o := g3; have c0 := G3.c0; have c1 := G3.c1; have c2 := G3.c2; have c3 := G3.c3; clear g3 z3)
      | ((with_reducible show wpList _ _ _ (_ :: _) _ _); refine wpL_build rfl 24 #[] rfl pZero.cells.toArray built_zero ?_)
      | ((with_reducible show wpList _ _ _ (_ :: _) _ _); refine wpL_store rfl 24 (.tmp 2) (.tmp 23) rfl p pZero.cells.toArray rfl rfl _ _ (G3.no k4) info_op rfl (all_oneCell_toArray (PT.one _)) ?_; intro w5 k5 g5 z5))
    refine bodyPost_ret (results_row_tmp rfl _ _ p _ _ _ _ rfl g5 Try.underlying24 rfl info_op) rfl ?_
    exact ⟨by rw [unhide HE]; rfl, (((k1.andNo k2).past k3 e0).andNo k4).past k5 e0⟩
set_option maxRecDepth 100000 in
set_option maxHeartbeats 2000000 in
theorem get_op_yes (l : List UInt8) (o : PT) (hl : l.length ≤ 1048576) (h : getX l = some o) (w : World) : Calls Try.prog 33 #[str l] w (ToldN (getT l) w) := by
  obtain ⟨b1, b2, b3⟩ := get_back h
  have f := chk_fit.1 b2
  have HE := hide (getT_some h)
  have HR := hide (fun w => rd_some b1 (read_op l hl w))
  have HC := hide (chk_world b2 (fun w => check_any o w))
  have HK := hide (clone_n o.key (by have := f.l1; omega))
  have HV := hide (clone_n o.val (by have := f.l2; omega))
  clear h b1 b2 b3 f hl
  have ta : True := True.intro
  go_enter Try.func33, Try.ntmps33
  go_wp2_with (first
    | ((with_reducible show wpList _ _ _ (_ :: _) _ _); clear ta; refine wpL_alloc rfl 24 rfl pZero.cells.toArray zero_op ?_; intro p w1 e1 k1 g1 z1; have e0 : w.heap.size ≤ p := Nat.le_of_eq e1; have G1 : OpAt w1 p pZero := g1; clear e1 z1 g1)
    | (go_at_call 51; (with_reducible refine (unhide HR _).mono ?_); rintro e w2 ⟨rfl, k2⟩)
    | (go_at_call 52; refine (unhide HC _).mono ?_; rintro e w4 ⟨rfl, k4⟩; clear c0 c1 c2 c3; have B0 : Hold w4 p o w4 := ⟨Chg.refl _ _, G3.no k4⟩; have KE := hide (fun w' (h : Hold w4 p o w') => hold_keep h))
    | ((with_reducible show wpList _ _ _ (_ :: _) _ _); refine wpL_store rfl 24 (.tmp 2) (.tmp 9) rfl p o.cells.toArray rfl rfl _ _ (G1.no k2) info_op rfl (all_oneCell_toArray (PT.one _)) ?_; intro w3 k3 g3 z3; have G3 : OpAt w3 p o := g3; have c0 := G3.c0; have c1 := G3.c1; have c2 := G3.c2; have c3 := G3.c3; clear g3 z3))
  go_region_held3 (fun w' => Hold w4 p o w' ∧ w'.cell? ⟨p, 1, none⟩ = some (str o.key) ∧ w'.cell? ⟨p, 2, none⟩ = some (str o.val) ∧ w'.frozen? ⟨p, 1, none⟩ = false ∧ w'.frozen? ⟨p, 2, none⟩ = false)
    ((refine unhide KE _ ?_; go_split_ands; first | assumption | exact Hold.drew (by assumption) | exact Hold.drewN (by assumption) _ | exact Hold.andNo (by assumption) (by assumption) | exact Hold.key (by assumption) | exact Hold.val (by assumption)))
    (first | (go_at_call 26; (with_reducible refine (unhide HK _).mono ?_); rintro e w5 ⟨rfl, k5⟩) | (go_at_call 26; (with_reducible refine (unhide HV _).mono ?_); rintro e w6 ⟨rfl, k6⟩))
  have H6 := ((B0.drew.andNo k5).andNo k6).key.val
  generalize (w6.setCell ⟨p, 1, none⟩ (str o.key)).setCell ⟨p, 2, none⟩ (str o.val) = w7 at H6 ⊢
  clear KE k5 k6 B0
  go_wp2_with (first
    | ((with_reducible show wpList _ _ _ (_ :: _) _ _); refine wpL_load rfl 24 (.tmp 2) rfl p rfl _ _ _ H6.lies _ Try.underlying24 rfl info_op ?_)
    | ((with_reducible show wpList _ _ _ (_ :: _) _ _); refine wpL_store rfl 24 (.tmp 2) (.tmp 32) rfl p o.cells.toArray rfl rfl _ _ H6.lies info_op rfl (all_oneCell_toArray (PT.one _)) ?_; intro w8 k8 g8 z8))
  refine bodyPost_ret (results_row_tmp rfl _ _ p _ _ _ _ rfl g8 Try.underlying24 rfl info_op) rfl ?_
  exact ⟨by rw [unhide HE]; rfl, ((((k1.andNo k2).past k3 e0).andNo k4).past H6.chg e0).past k8 e0⟩
theorem get_any (l : List UInt8) (hl : l.length ≤ 1048576) (w : World) : Calls Try.prog 33 #[str l] w (ToldN (getT l) w) := by
  cases h : getX l with
  | none => exact get_op_no l hl h w
  | some o => exact get_op_yes l o hl h w
end Go.Proofs.Ytfplgmkbhpdmjaa
