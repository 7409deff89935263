/-
  Logs: contracts of check, and of Append that takes nothing.
-/
import Derived.Test.YtfffgegdcgfakaaLogsE
namespace Go.Proofs.Ytfffgegdcgfakaa
open Go.ChangeShapes Go.WideShapes Go.ChangeAt Go.RowKit
set_option linter.unusedVariables false
attribute [local go_sem] bs_size bs_app bs_cut bs_tl bs_at
/-- does it read? -/
def rdB (o : PT) : Bool := (o.k == 1) && (chk o == 0)
set_option maxRecDepth 100000 in
theorem reads_any (o : PT) (w : World) : Calls Try.prog 43 #[.agg o.cells.toArray] w (ToldN (.bool (rdB o)) w) := by
  unfold rdB
  have C := fun w => check_any o w
  obtain ⟨n, hn⟩ : ∃ n, chk o = n := ⟨_, rfl⟩
  rw [hn] at C ⊢
  have HC := hide C
  clear C hn
  cases hk : (o.k == 1)
  · have ta : True := True.intro
    go_enter Try.func43, Try.ntmps43
    go_wp2_with (first
      | (go_at_call 42; refine (unhide HC _).mono ?_; rintro e w4 ⟨rfl, k4⟩)
      | ((with_reducible show wpList _ _ _ (_ :: _) _ _); (clear ta; refine wpL_box rfl 32 (.tmp 0) rfl o.cells.toArray rfl ?_; intro q w1 e1 k1 g1 z1; have G1 : OpAt w1 q o := g1; clear g1 z1 e1; have c0 := G1.c0; have c1 := G1.c1; have c2 := G1.c2; have c3 := G1.c3)))
    go_ret
    exact ⟨rfl, k1⟩
  · have ta : True := True.intro
    go_enter Try.func43, Try.ntmps43
    go_wp2_with (first
      | (go_at_call 42; refine (unhide HC _).mono ?_; rintro e w4 ⟨rfl, k4⟩)
      | ((with_reducible show wpList _ _ _ (_ :: _) _ _); (clear ta; refine wpL_box rfl 32 (.tmp 0) rfl o.cells.toArray rfl ?_; intro q w1 e1 k1 g1 z1; have G1 : OpAt w1 q o := g1; clear g1 z1 e1; have c0 := G1.c0; have c1 := G1.c1; have c2 := G1.c2; have c3 := G1.c3)))
    go_ret
    exact ⟨rfl, k1.andNo k4⟩
theorem argB_ways {e : ET} (h : argB e = true) : cliB e.cl = false ∨ (cliB e.cl = true ∧ e.seq < 1) ∨ (cliB e.cl = true ∧ 1 ≤ e.seq ∧ (chk e.op != 0) = true) ∨ (cliB e.cl = true ∧ 1 ≤ e.seq ∧ (chk e.op != 0) = false ∧ rdB e.op = true) := by
  by_cases h1 : cliB e.cl = true
  · refine .inr ?_
    by_cases h2 : e.seq < 1
    · exact .inl ⟨h1, h2⟩
    refine .inr ?_
    by_cases h3 : chk e.op = 0
    · refine .inr ⟨h1, by omega, by simp [h3], ?_⟩
      have h4 : e.op.k = 1 := Classical.byContradiction fun h4 => by
        have := argB_no.2 ⟨(cliB_yes.1 h1).1, (cliB_yes.1 h1).2, by omega, h3, h4⟩
        rw [this] at h; cases h
      unfold rdB; simp [h3, h4]
    · exact .inl ⟨h1, by omega, by simp [h3]⟩
  · exact .inl (by simpa using h1)
theorem argB_not {e : ET} (h : argB e = false) : cliB e.cl = true ∧ 1 ≤ e.seq ∧ (chk e.op != 0) = false ∧ rdB e.op = false := by
  obtain ⟨h1, h2, h3, h4, h5⟩ := argB_no.1 h
  exact ⟨cliB_yes.2 ⟨h1, h2⟩, h3, by simp [h4], by unfold rdB; simp [h5]⟩
section
variable {w : World} {b sb sm : Nat} {ve vr : Value} {E : List ET}
set_option maxRecDepth 100000 in
set_option maxHeartbeats 2000000 in
theorem lcheck_arg (h : LogAt w b sb sm ve vr E) (x : ET) (hx : argB x = true) : Calls Try.prog 31 #[.pointer (some ⟨b, 0, none⟩), .agg x.cells.toArray] w (ToldN (.int .i64 2) w) := by
  have hin := hide (fun w' (c : Chg noBlk w w') => lnone_at (h.no c))
  have C := fun w => check_any x.op w
  have R := fun w => reads_any x.op w
  have M := fun w => maybe_any x.cl w
  have hw := argB_ways hx
  clear h hx
  obtain ⟨i, c, s, o⟩ := x
  obtain ⟨n, hn⟩ : ∃ n, chk o = n := ⟨_, rfl⟩
  obtain ⟨r, hr⟩ : ∃ r, rdB o = r := ⟨_, rfl⟩
  obtain ⟨q, hq⟩ : ∃ q, cliB c = q := ⟨_, rfl⟩
  simp only [hn, hr, hq] at C R M hw
  have HC := hide C
  have HR := hide R
  have HM := hide M
  clear C R M hn hr hq
  rcases hw with rfl | ⟨rfl, hs⟩ | ⟨rfl, hs, hd⟩ | ⟨rfl, hs, hd, rfl⟩
  all_goals
    have ta : True := True.intro
    go_enter Try.func31, Try.ntmps31
    go_wp2_with (first
      | (go_at_call 24; (with_reducible refine (unhide hin _ k1).mono ?_); rintro e w2 ⟨rfl, rfl⟩)
      | (go_at_call 38; (with_reducible refine (unhide HM _).mono ?_); rintro e w3 ⟨rfl, rfl⟩)
      | (go_at_call 42; refine (unhide HC _).mono ?_; rintro e w4 ⟨rfl, k4⟩; have G4 := G1.no k4; clear c0 c1 c2 c3 c4 c5 c6; have c3 := G4.c3; have c4 := G4.c4; have c5 := G4.c5; have c6 := G4.c6)
      | (go_at_call 43; refine (unhide HR _).mono ?_; rintro e w5 ⟨rfl, k5⟩)
      | ((with_reducible show wpList _ _ _ (_ :: _) _ _); (clear ta; refine wpL_box rfl 34 (.tmp 1) rfl (ET.cells ⟨i, c, s, o⟩).toArray rfl ?_; intro p w1 e1 k1 g1 z1; have G1 : EntAt w1 p ⟨i, c, s, o⟩ := g1; clear g1 z1 e1; have c0 := G1.c0; have c1 := G1.c1; have c2 := G1.c2; have c3 := G1.c3; have c4 := G1.c4; have c5 := G1.c5; have c6 := G1.c6)))
    go_ret
    first
      | exact ⟨rfl, k1⟩
      | exact ⟨rfl, k1.andNo k4⟩
      | exact ⟨rfl, (k1.andNo k4).andNo k5⟩
set_option maxRecDepth 100000 in
set_option maxHeartbeats 2000000 in
theorem lcheck_full (h : LogAt w b sb sm ve vr E) (x : ET) (hx : argB x = false) (hf : 4096 ≤ E.length) : Calls Try.prog 31 #[.pointer (some ⟨b, 0, none⟩), .agg x.cells.toArray] w (ToldN (.int .i64 60) w) := by
  have hin := hide (fun w' (c : Chg noBlk w w') => lnone_at (h.no c))
  have hl := hide (fun w' (c : Chg noBlk w w') => llen_at (h.no c))
  have C := fun w => check_any x.op w
  have R := fun w => reads_any x.op w
  have M := fun w => maybe_any x.cl w
  have hw := argB_not hx
  have d9 : decide (4096 ≤ (E.length : Int)) = true := by simp; omega
  clear h hx hf
  obtain ⟨i, c, s, o⟩ := x
  obtain ⟨n, hn⟩ : ∃ n, chk o = n := ⟨_, rfl⟩
  obtain ⟨r, hr⟩ : ∃ r, rdB o = r := ⟨_, rfl⟩
  obtain ⟨q, hq⟩ : ∃ q, cliB c = q := ⟨_, rfl⟩
  simp only [hn, hr, hq] at C R M hw
  have HC := hide C
  have HR := hide R
  have HM := hide M
  clear C R M hn hr hq
  obtain ⟨rfl, hs, hd, rfl⟩ := hw
  have ta : True := True.intro
  go_enter Try.func31, Try.ntmps31
  go_wp2_with (first
    | (go_at_call 24; (with_reducible refine (unhide hin _ k1).mono ?_); rintro e w2 ⟨rfl, rfl⟩)
    | (go_at_call 38; (with_reducible refine (unhide HM _).mono ?_); rintro e w3 ⟨rfl, rfl⟩)
    | (go_at_call 42; refine (unhide HC _).mono ?_; rintro e w4 ⟨rfl, k4⟩; have G4 := G1.no k4; clear c0 c1 c2 c3 c4 c5 c6; have c3 := G4.c3; have c4 := G4.c4; have c5 := G4.c5; have c6 := G4.c6)
    | (go_at_call 43; refine (unhide HR _).mono ?_; rintro e w5 ⟨rfl, k5⟩)
    | (go_at_call 13; (with_reducible refine (unhide hl _ ((k1.andNo k4).andNo k5)).mono ?_); rintro e w6 ⟨rfl, rfl⟩)
    | ((with_reducible show wpList _ _ _ (_ :: _) _ _); (clear ta; refine wpL_box rfl 34 (.tmp 1) rfl (ET.cells ⟨i, c, s, o⟩).toArray rfl ?_; intro p w1 e1 k1 g1 z1; have G1 : EntAt w1 p ⟨i, c, s, o⟩ := g1; clear g1 z1 e1; have c0 := G1.c0; have c1 := G1.c1; have c2 := G1.c2; have c3 := G1.c3; have c4 := G1.c4; have c5 := G1.c5; have c6 := G1.c6)))
  go_ret
  exact ⟨rfl, (k1.andNo k4).andNo k5⟩
set_option maxRecDepth 100000 in
set_option maxHeartbeats 2000000 in
theorem lcheck_rest (h : LogAt w b sb sm ve vr E) (x : ET) (hx : argB x = false) (hf : E.length < 4096) : Calls Try.prog 31 #[.pointer (some ⟨b, 0, none⟩), .agg x.cells.toArray] w (ToldN (.int .i64 (if x.idx ≠ (E.length : Int) + 1 then 70 else if x.seq ≤ seqL E x.cl then 71 else 0)) w) := by
  have hin := hide (fun w' (c : Chg noBlk w w') => lnone_at (h.no c))
  have hl := hide (fun w' (c : Chg noBlk w w') => llen_at (h.no c))
  have C := fun w => check_any x.op w
  have R := fun w => reads_any x.op w
  have M := fun w => maybe_any x.cl w
  have LA := fun w' (c : Chg noBlk w w') => last_at (h.no c) x.cl
  have hw := argB_not hx
  have d9 : decide (4096 ≤ (E.length : Int)) = false := by simp; omega
  have i1 : IntKind.i64.wrap ((E.length : Int) + 1) = (E.length : Int) + 1 := IntWalk.i64_in _ (by omega)
  clear h hx
  obtain ⟨i, c, s, o⟩ := x
  obtain ⟨n, hn⟩ : ∃ n, chk o = n := ⟨_, rfl⟩
  obtain ⟨r, hr⟩ : ∃ r, rdB o = r := ⟨_, rfl⟩
  obtain ⟨q, hq⟩ : ∃ q, cliB c = q := ⟨_, rfl⟩
  obtain ⟨sq, hsq⟩ : ∃ q, seqL E c = q := ⟨_, rfl⟩
  obtain ⟨ln, hln⟩ : ∃ q : Int, (lastN E c E.length : Int) = q := ⟨_, rfl⟩
  have hgo : ∃ a, (if i ≠ (E.length : Int) + 1 then (70 : Int) else if s ≤ sq then 71 else 0) = a ∧ ((a = 70 ∧ (i != (E.length : Int) + 1) = true) ∨ (a = 71 ∧ (i != (E.length : Int) + 1) = false ∧ decide (s ≤ sq) = true) ∨ (a = 0 ∧ (i != (E.length : Int) + 1) = false ∧ decide (s ≤ sq) = false)) := by
    refine ⟨_, rfl, ?_⟩
    by_cases h1 : i = (E.length : Int) + 1
    · by_cases h2 : s ≤ sq
      · exact .inr (.inl ⟨by simp [h1, h2], by simp [h1], by simp [h2]⟩)
      · exact .inr (.inr ⟨by simp [h1, h2], by simp [h1], by simp [h2]⟩)
    · exact .inl ⟨by simp [h1], by simp [h1]⟩
  simp only [hn, hr, hq, hsq, hln] at C R M hw LA ⊢
  obtain ⟨a, ha, hgo⟩ := hgo
  rw [ha]
  have HC := hide C
  have HR := hide R
  have HM := hide M
  have HL := hide LA
  clear C R M LA hn hr hq hsq hln ha
  obtain ⟨rfl, hs, hd, rfl⟩ := hw
  rcases hgo with ⟨rfl, d1⟩ | ⟨rfl, d1, d2⟩ | ⟨rfl, d1, d2⟩
  all_goals
    have ta : True := True.intro
    go_enter Try.func31, Try.ntmps31
    go_wp2_with (first
      | (go_at_call 24; (with_reducible refine (unhide hin _ k1).mono ?_); rintro e w2 ⟨rfl, rfl⟩)
      | (go_at_call 38; (with_reducible refine (unhide HM _).mono ?_); rintro e w3 ⟨rfl, rfl⟩)
      | (go_at_call 42; refine (unhide HC _).mono ?_; rintro e w4 ⟨rfl, k4⟩; have G4 := G1.no k4; clear c0 c1 c2 c3 c4 c5 c6; have c3 := G4.c3; have c4 := G4.c4; have c5 := G4.c5; have c6 := G4.c6)
      | (go_at_call 43; refine (unhide HR _).mono ?_; rintro e w5 ⟨rfl, k5⟩; have G5 := G4.no k5; clear c3 c4 c5 c6; have c0 := G5.c0; have K5 := hide ((k1.andNo k4).andNo k5))
      | (go_at_call 13; (with_reducible refine (unhide hl _ (unhide K5)).mono ?_); rintro e w6 ⟨rfl, rfl⟩)
      | ((with_reducible show wpList _ _ _ (_ :: _) _ _); (clear ta; refine wpL_box rfl 34 (.tmp 1) rfl (ET.cells ⟨i, c, s, o⟩).toArray rfl ?_; intro p w1 e1 k1 g1 z1; have G1 : EntAt w1 p ⟨i, c, s, o⟩ := g1; clear g1 z1 e1; have c0 := G1.c0; have c1 := G1.c1; have c2 := G1.c2; have c3 := G1.c3; have c4 := G1.c4; have c5 := G1.c5; have c6 := G1.c6)))
    go_quiet ((go_at_call 13; (with_reducible exact quiet_told (unhide hl _ ((unhide K5).drewN _)))))
    have K6 := hide ((unhide K5).drewN nq)
    have c1 : (w5.drewN nq).cell? _ = _ := G5.c1
    have G6 : EntAt (w5.drewN nq) p ⟨i, c, s, o⟩ := G5
    clear c0 G5 k5 G4 k4 G1 k1
    generalize w5.drewN nq = w7 at K6 c1 G6 ⊢
    go_wp2_with (go_at_call 20; (with_reducible refine (unhide HL _ (unhide K6)).mono ?_); rintro e w8 ⟨rfl, k8⟩; clear c1; have c2 := (G6.no k8).c2)
    go_ret
    first
      | exact ⟨rfl, unhide K6⟩
      | exact ⟨rfl, (unhide K6).andNo k8⟩
theorem lcheck_any (h : LogAt w b sb sm ve vr E) (x : ET) : Calls Try.prog 31 #[.pointer (some ⟨b, 0, none⟩), .agg x.cells.toArray] w (ToldN (.int .i64 (lchk E x)) w) := by
  unfold lchk
  cases hx : argB x
  · by_cases hf : 4096 ≤ E.length
    · rw [if_neg (by simp), if_pos hf]
      exact lcheck_full h x hx hf
    · rw [if_neg (by simp), if_neg hf]
      exact lcheck_rest h x hx (by omega)
  · rw [if_pos rfl]
    exact lcheck_arg h x hx
end
end Go.Proofs.Ytfffgegdcgfakaa
