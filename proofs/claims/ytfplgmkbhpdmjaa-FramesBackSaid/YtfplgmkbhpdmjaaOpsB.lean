/-
  Operations: contracts of what is wrong with one, what it counts for, whether it reads; and of the document's answers beside them.
-/
import Derived.Test.YtfplgmkbhpdmjaaOpsA
import Derived.Test.YtfplgmkbhpdmjaaKitX
namespace Go.Proofs.Ytfplgmkbhpdmjaa
open Go.ChangeShapes Go.WideShapes Go.ChangeAt Go.RowKit
set_option linter.unusedVariables false
attribute [local go_sem] bs_size bs_app bs_cut bs_tl bs_at

theorem hasvalue_any (k : Int) (w : World) : Calls Try.prog 63 #[.int .i64 k] w (Told (.bool (hv k)) w) := by
  obtain ⟨b, hb⟩ : ∃ b, hv k = b := ⟨_, rfl⟩
  rw [hb]
  by_cases h2 : k = 2
  · subst h2
    obtain rfl : true = b := hb
    go_enter Try.func63, Try.ntmps63
    go_wp2
    go_ret
    exact ⟨rfl, rfl⟩
  by_cases h4 : k = 4
  · subst h4
    obtain rfl : true = b := hb
    go_enter Try.func63, Try.ntmps63
    go_wp2
    go_ret
    exact ⟨rfl, rfl⟩
  have d2 : (k == 2) = false := by simpa using h2
  have d4 : (k == 4) = false := by simpa using h4
  obtain rfl : false = b := by rw [← hb]; unfold hv; rw [d2, d4]; rfl
  clear hb h2 h4
  go_enter Try.func63, Try.ntmps63
  go_wp2
  go_ret
  exact ⟨rfl, rfl⟩
theorem hasversion_any (k : Int) (w : World) : Calls Try.prog 64 #[.int .i64 k] w (Told (.bool (hn k)) w) := by
  obtain ⟨b, hb⟩ : ∃ b, (k == 4) = b := ⟨_, rfl⟩
  have e : hn k = b := hb
  rw [e]
  clear e
  go_enter Try.func64, Try.ntmps64
  go_wp2
  go_ret
  exact ⟨rfl, rfl⟩
set_option maxRecDepth 100000 in
set_option maxHeartbeats 2000000 in
theorem check_any (o : PT) (w : World) : Calls Try.prog 52 #[.agg o.cells.toArray] w (ToldN (.int .i64 (chk o)) w) := by
  obtain ⟨n, hn'⟩ : ∃ n, chk o = n := ⟨_, rfl⟩
  rw [hn']
  obtain ⟨k, hk⟩ : ∃ k, o.k = k := ⟨_, rfl⟩
  obtain ⟨key, hkey⟩ : ∃ k, o.key = k := ⟨_, rfl⟩
  obtain ⟨val, hval⟩ : ∃ k, o.val = k := ⟨_, rfl⟩
  obtain ⟨ver, hver⟩ : ∃ k, o.ver = k := ⟨_, rfl⟩
  have HN := hide hn'
  have HK := hide hk
  have HY := hide hkey
  have HL := hide hval
  have HV := hide hver
  clear hn' hk hkey hval hver
  go_enter Try.func52, Try.ntmps52
  have tk : True := True.intro
  go_wp2_with (first
    | (clear tk; refine wpL_box rfl 24 (.tmp 0) rfl o.cells.toArray rfl ?_; intro b w1 e1 k1 g1 z1; have G1 : OpAt w1 b o := g1; have c0 := G1.c0; have c1 := G1.c1; have c2 := G1.c2; have c3 := G1.c3; rw [unhide HK] at c0; rw [unhide HY] at c1; rw [unhide HL] at c2; rw [unhide HV] at c3; clear g1 z1 e1 G1)
    | (go_at_call 63; refine (hasvalue_any k _).mono ?_; rintro e w2 ⟨rfl, rfl⟩)
    | (go_at_call 64; refine (hasversion_any k _).mono ?_; rintro e w2 ⟨rfl, rfl⟩))
  all_goals clear c0 c1 c2 c3
  all_goals go_ret
  all_goals refine ⟨?_, k1⟩
  all_goals refine ret_int (k := .i64) ?_
  all_goals rw [← unhide HN, chk_eq, unhide HK, unhide HY, unhide HL, unhide HV]
  all_goals clear HN HK HY HL HV k1
  all_goals simp_all
  all_goals ((try intros); (repeat' split) <;> omega)
set_option maxRecDepth 100000 in
set_option maxHeartbeats 2000000 in
theorem rcheck_any (o : PT) (w : World) : Calls Try.prog 58 #[.agg o.cells.toArray] w (ToldN (.int .i64 (chk o)) w) := by
  obtain ⟨n, hn'⟩ : ∃ n, chk o = n := ⟨_, rfl⟩
  rw [hn']
  obtain ⟨k, hk⟩ : ∃ k, o.k = k := ⟨_, rfl⟩
  obtain ⟨key, hkey⟩ : ∃ k, o.key = k := ⟨_, rfl⟩
  obtain ⟨val, hval⟩ : ∃ k, o.val = k := ⟨_, rfl⟩
  obtain ⟨ver, hver⟩ : ∃ k, o.ver = k := ⟨_, rfl⟩
  have HN := hide hn'
  have HK := hide hk
  have HY := hide hkey
  have HL := hide hval
  have HV := hide hver
  clear hn' hk hkey hval hver
  go_enter Try.func58, Try.ntmps58
  have tk : True := True.intro
  go_wp2_with (first
    | (clear tk; refine wpL_box rfl 24 (.tmp 0) rfl o.cells.toArray rfl ?_; intro b w1 e1 k1 g1 z1; have G1 : OpAt w1 b o := g1; have c0 := G1.c0; have c1 := G1.c1; have c2 := G1.c2; have c3 := G1.c3; rw [unhide HK] at c0; rw [unhide HY] at c1; rw [unhide HL] at c2; rw [unhide HV] at c3; clear g1 z1 e1 G1))
  all_goals clear c0 c1 c2 c3
  all_goals go_ret
  all_goals refine ⟨?_, k1⟩
  all_goals refine ret_int (k := .i64) ?_
  all_goals rw [← unhide HN, chk_len, unhide HK, unhide HY, unhide HL, unhide HV]
  all_goals clear HN HK HY HL HV k1
  all_goals first
    | ((repeat' split) <;> omega)
    | (simp only [← List.length_eq_zero_iff, beq_iff_eq, beq_eq_false_iff_ne] at *; (repeat' split) <;> omega)
theorem cost_len {o : PT} (h : chk o = 0) : o.key.length ≤ 16 ∧ o.val.length ≤ 64 := ⟨(chk_fit.1 h).l1, (chk_fit.1 h).l2⟩
end Go.Proofs.Ytfplgmkbhpdmjaa
