/-
  Operations: contracts of what is wrong with one, what it counts for, whether it reads; and of the document's answers beside them.
-/
import Derived.Test.YtmknjeomkfoidaaOpsA
import Derived.Test.YtmknjeomkfoidaaKitT
import Derived.Test.YtmknjeomkfoidaaKitO
namespace Go.Proofs.Ytmknjeomkfoidaa
open Go.ChangeShapes Go.WideShapes Go.ChangeAt Go.RowKit
set_option linter.unusedVariables false
attribute [local go_sem] bs_size bs_app bs_cut bs_tl bs_at

theorem hasvalue_any (k : Int) (w : World) : Calls Try.prog 20 #[.int .i64 k] w (Told (.bool (hv k)) w) := by
  obtain ⟨b, hb⟩ : ∃ b, hv k = b := ⟨_, rfl⟩
  rw [hb]
  by_cases h2 : k = 2
  · subst h2
    obtain rfl : true = b := hb
    go_enter Try.func20, Try.ntmps20
    go_wp2
    go_ret
    exact ⟨rfl, rfl⟩
  by_cases h4 : k = 4
  · subst h4
    obtain rfl : true = b := hb
    go_enter Try.func20, Try.ntmps20
    go_wp2
    go_ret
    exact ⟨rfl, rfl⟩
  have d2 : (k == 2) = false := by simpa using h2
  have d4 : (k == 4) = false := by simpa using h4
  obtain rfl : false = b := by rw [← hb]; unfold hv; rw [d2, d4]; rfl
  clear hb h2 h4
  go_enter Try.func20, Try.ntmps20
  go_wp2
  go_ret
  exact ⟨rfl, rfl⟩
theorem hasversion_any (k : Int) (w : World) : Calls Try.prog 21 #[.int .i64 k] w (Told (.bool (hn k)) w) := by
  obtain ⟨b, hb⟩ : ∃ b, (k == 4) = b := ⟨_, rfl⟩
  have e : hn k = b := hb
  rw [e]
  clear e
  go_enter Try.func21, Try.ntmps21
  go_wp2
  go_ret
  exact ⟨rfl, rfl⟩
set_option maxRecDepth 100000 in
set_option maxHeartbeats 2000000 in
theorem check_any (o : PT) (w : World) : Calls Try.prog 11 #[.agg o.cells.toArray] w (ToldN (.int .i64 (chk o)) w) := by
  obtain ⟨n, hn'⟩ : ∃ n, chk o = n := ⟨_, rfl⟩
  rw [hn']
  obtain ⟨k, hk⟩ : ∃ k, o.k = k := ⟨_, rfl⟩
  obtain ⟨key, hkey⟩ : ∃ k, o.key = k := ⟨_, rfl⟩
  obtain ⟨val, hval⟩ : ∃ k, o.val = k := ⟨_, rfl⟩
  obtain ⟨ver, hver⟩ : ∃ k, o.ver = k := ⟨_, rfl⟩
  have HN := hide hn'
  have HK := hide hk
  have HY := hide hkey
  have HL := hide hval
  have HV := hide hver
  clear hn' hk hkey hval hver
  go_enter Try.func11, Try.ntmps11
  have tk : True := True.intro
  go_wp2_with (first
    | (clear tk; refine wpL_box rfl 23 (.tmp 0) rfl o.cells.toArray rfl ?_; intro b w1 e1 k1 g1 z1; have G1 : OpAt w1 b o := g1; have c0 := G1.c0; have c1 := G1.c1; have c2 := G1.c2; have c3 := G1.c3; rw [unhide HK] at c0; rw [unhide HY] at c1; rw [unhide HL] at c2; rw [unhide HV] at c3; clear g1 z1 e1 G1)
    | (go_at_call 20; refine (hasvalue_any k _).mono ?_; rintro e w2 ⟨rfl, rfl⟩)
    | (go_at_call 21; refine (hasversion_any k _).mono ?_; rintro e w2 ⟨rfl, rfl⟩))
  all_goals clear c0 c1 c2 c3
  all_goals go_ret
  all_goals refine ⟨?_, k1⟩
  all_goals refine ret_int (k := .i64) ?_
  all_goals rw [← unhide HN, chk_eq, unhide HK, unhide HY, unhide HL, unhide HV]
  all_goals clear HN HK HY HL HV k1
  all_goals simp_all
  all_goals ((try intros); (repeat' split) <;> omega)
set_option maxRecDepth 100000 in
set_option maxHeartbeats 2000000 in
theorem rcheck_any (o : PT) (w : World) : Calls Try.prog 12 #[.agg o.cells.toArray] w (ToldN (.int .i64 (chk o)) w) := by
  obtain ⟨n, hn'⟩ : ∃ n, chk o = n := ⟨_, rfl⟩
  rw [hn']
  obtain ⟨k, hk⟩ : ∃ k, o.k = k := ⟨_, rfl⟩
  obtain ⟨key, hkey⟩ : ∃ k, o.key = k := ⟨_, rfl⟩
  obtain ⟨val, hval⟩ : ∃ k, o.val = k := ⟨_, rfl⟩
  obtain ⟨ver, hver⟩ : ∃ k, o.ver = k := ⟨_, rfl⟩
  have HN := hide hn'
  have HK := hide hk
  have HY := hide hkey
  have HL := hide hval
  have HV := hide hver
  clear hn' hk hkey hval hver
  go_enter Try.func12, Try.ntmps12
  have tk : True := True.intro
  go_wp2_with (first
    | (clear tk; refine wpL_box rfl 23 (.tmp 0) rfl o.cells.toArray rfl ?_; intro b w1 e1 k1 g1 z1; have G1 : OpAt w1 b o := g1; have c0 := G1.c0; have c1 := G1.c1; have c2 := G1.c2; have c3 := G1.c3; rw [unhide HK] at c0; rw [unhide HY] at c1; rw [unhide HL] at c2; rw [unhide HV] at c3; clear g1 z1 e1 G1))
  all_goals clear c0 c1 c2 c3
  all_goals go_ret
  all_goals refine ⟨?_, k1⟩
  all_goals refine ret_int (k := .i64) ?_
  all_goals rw [← unhide HN, chk_len, unhide HK, unhide HY, unhide HL, unhide HV]
  all_goals clear HN HK HY HL HV k1
  all_goals first
    | ((repeat' split) <;> omega)
    | (simp only [← List.length_eq_zero_iff, beq_iff_eq, beq_eq_false_iff_ne] at *; (repeat' split) <;> omega)
theorem cost_len {o : PT} (h : chk o = 0) : o.key.length ≤ 16 ∧ o.val.length ≤ 64 := ⟨(chk_fit.1 h).l1, (chk_fit.1 h).l2⟩
set_option maxRecDepth 100000 in
theorem cost_any (o : PT) (w : World) : Calls Try.prog 13 #[.agg o.cells.toArray] w (ToldN (.int .i64 (cost o)) w) := by
  by_cases h : chk o = 0
  · obtain ⟨l1, l2⟩ := cost_len h
    have C := fun w => check_any o w
    rw [h] at C
    have HC := hide C
    have HE := hide (cost_ok h)
    clear C h
    go_enter Try.func13, Try.ntmps13
    go_wp2_with (first
      | (refine wpL_box rfl 23 (.tmp 0) rfl o.cells.toArray rfl ?_; intro b w1 e1 k1 g1 z1; have G1 : OpAt w1 b o := g1; clear g1 z1 e1)
      | (refine wpL_load rfl 23 (.tmp 1) rfl b rfl o.cells.toArray _ _ G1 _ Try.underlying23 rfl info_op ?_)
      | (go_at_call 11; refine (unhide HC _).mono ?_; rintro e w2 ⟨rfl, k2⟩; have G2 := G1.no k2; have c1 := G2.c1; have c2 := G2.c2))
    go_ret
    exact ⟨by rw [unhide HE]; rfl, k1.andNo k2⟩
  · have C := fun w => check_any o w
    have d1 : (chk o == 0) = false := by simpa using h
    have HC := hide C
    have HE := hide (cost_no h)
    clear C h
    go_enter Try.func13, Try.ntmps13
    go_wp2_with (first
      | (refine wpL_box rfl 23 (.tmp 0) rfl o.cells.toArray rfl ?_; intro b w1 e1 k1 g1 z1; have G1 : OpAt w1 b o := g1; clear g1 z1 e1)
      | (refine wpL_load rfl 23 (.tmp 1) rfl b rfl o.cells.toArray _ _ G1 _ Try.underlying23 rfl info_op ?_)
      | (go_at_call 11; refine (unhide HC _).mono ?_; rintro e w2 ⟨rfl, k2⟩))
    go_ret
    exact ⟨by rw [unhide HE]; rfl, k1.andNo k2⟩
set_option maxRecDepth 100000 in
theorem rcost_any (o : PT) (w : World) : Calls Try.prog 14 #[.agg o.cells.toArray] w (ToldN (.int .i64 (cost o)) w) := by
  by_cases h : chk o = 0
  · obtain ⟨l1, l2⟩ := cost_len h
    have C := fun w => rcheck_any o w
    rw [h] at C
    have HC := hide C
    have HE := hide (cost_ok h)
    clear C h
    go_enter Try.func14, Try.ntmps14
    go_wp2_with (first
      | (refine wpL_box rfl 23 (.tmp 0) rfl o.cells.toArray rfl ?_; intro b w1 e1 k1 g1 z1; have G1 : OpAt w1 b o := g1; clear g1 z1 e1)
      | (refine wpL_load rfl 23 (.tmp 1) rfl b rfl o.cells.toArray _ _ G1 _ Try.underlying23 rfl info_op ?_)
      | (go_at_call 12; refine (unhide HC _).mono ?_; rintro e w2 ⟨rfl, k2⟩; have G2 := G1.no k2; have c1 := G2.c1; have c2 := G2.c2))
    go_ret
    exact ⟨by rw [unhide HE, Int.add_assoc]; rfl, k1.andNo k2⟩
  · have C := fun w => rcheck_any o w
    have d1 : (chk o == 0) = false := by simpa using h
    have HC := hide C
    have HE := hide (cost_no h)
    clear C h
    go_enter Try.func14, Try.ntmps14
    go_wp2_with (first
      | (refine wpL_box rfl 23 (.tmp 0) rfl o.cells.toArray rfl ?_; intro b w1 e1 k1 g1 z1; have G1 : OpAt w1 b o := g1; clear g1 z1 e1)
      | (refine wpL_load rfl 23 (.tmp 1) rfl b rfl o.cells.toArray _ _ G1 _ Try.underlying23 rfl info_op ?_)
      | (go_at_call 12; refine (unhide HC _).mono ?_; rintro e w2 ⟨rfl, k2⟩))
    go_ret
    exact ⟨by rw [unhide HE]; rfl, k1.andNo k2⟩
set_option maxRecDepth 100000 in
theorem reads_any (o : PT) (w : World) : Calls Try.prog 15 #[.agg o.cells.toArray] w (ToldN (.bool (readsB o)) w) := by
  obtain ⟨k, hk⟩ : ∃ k, o.k = k := ⟨_, rfl⟩
  obtain ⟨c, hc⟩ : ∃ c, chk o = c := ⟨_, rfl⟩
  have C := fun w => check_any o w
  have E : readsB o = (k == 1 && c == 0) := by unfold readsB; rw [hk, hc]
  rw [hc] at C
  by_cases h : k = 1
  · have E2 : readsB o = (c == 0) := by rw [E, h]; rfl
    have d1 : (o.k == 1) = true := by rw [hk, h]; rfl
    have HC := hide C
    have HE := hide E2
    clear C E E2 hk hc h k
    have tk : True := True.intro
    go_enter Try.func15, Try.ntmps15
    go_wp2_with (first
      | (clear tk; refine wpL_box rfl 23 (.tmp 0) rfl o.cells.toArray rfl ?_; intro b w1 e1 k1 g1 z1; have G1 : OpAt w1 b o := g1; have c0 := G1.c0; have c1 := G1.c1; have c2 := G1.c2; have c3 := G1.c3; clear g1 z1 e1)
      | (go_at_call 11; refine ((unhide HC) _).mono ?_; rintro e w2 ⟨rfl, k2⟩))
    go_ret
    exact ⟨by rw [unhide HE]; rfl, k1.andNo k2⟩
  · have d1 : (k == 1) = false := by simpa using h
    have E2 : readsB o = false := by rw [E, d1]; rfl
    have HE := hide E2
    have HK := hide hk
    clear C E E2 hk hc h
    have tk : True := True.intro
    go_enter Try.func15, Try.ntmps15
    go_wp2_with (clear tk; refine wpL_box rfl 23 (.tmp 0) rfl o.cells.toArray rfl ?_; intro b w1 e1 k1 g1 z1; have G1 : OpAt w1 b o := g1; have c0 := G1.c0; rw [unhide HK] at c0; clear g1 z1 e1)
    go_ret
    exact ⟨by rw [unhide HE]; rfl, k1⟩
end Go.Proofs.Ytmknjeomkfoidaa
