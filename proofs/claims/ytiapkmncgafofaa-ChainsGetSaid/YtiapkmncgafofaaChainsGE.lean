/-
  Chains: the walk of the law that bytes' chain is the document's.
-/
import Derived.Test.YtiapkmncgafofaaChainsGD
import Derived.Test.YtiapkmncgafofaaChainsBA
import Derived.Test.YtiapkmncgafofaaChainsN
namespace Go.Proofs.Ytiapkmncgafofaa
open Go.ChangeShapes Go.WideShapes Go.ChangeAt Go.RowKit
set_option linter.unusedVariables false
attribute [local go_sem] bs_size bs_app bs_cut bs_tl bs_at
set_option maxRecDepth 100000 in
theorem getlaw_long (s : List UInt8) (h : 300 < s.length) (w : World) : Calls Try.prog 5 #[str s] w (ToldN (.bool true) w) := by
  have h1 : (300 : Int) < (s.length : Int) := by omega
  have ta : True := True.intro
  go_enter Try.func5, Try.ntmps5
  go_wp2_with (go_at_call 9; (with_reducible refine (linked_any _).mono ?_); rintro e w3 ⟨rfl, k3⟩)
  go_ret
  exact ⟨rfl, k3⟩
set_option maxRecDepth 100000 in
set_option maxHeartbeats 2000000 in
theorem getlaw_in (s : List UInt8) (h : ¬ 300 < s.length) (w : World) : Calls Try.prog 5 #[str s] w (ToldN (.bool true) w) := by
  have h1 : ¬ (300 : Int) < (s.length : Int) := by omega
  have HA := hide (fun w' => get_any w' s (by omega))
  have HB := hide (fun w' => rget_any s (by omega) w')
  have HS := hide (fun (c : CT) (ad ad2 : Option Addr) (cap cap2 : Nat) w' (h : Sl w' ad cap c.ms) (h2 : Sl w' ad2 cap2 c.ms) => (by have := rsame_any h h2; rw [show sameB c c = true from decide_eq_true rfl] at this; exact this : Calls Try.prog 16 #[chV c (.slice ad c.ms.length cap), chV c (.slice ad2 c.ms.length cap2)] w' (ToldN (.bool true) w')))
  have ta : True := True.intro
  go_enter Try.func5, Try.ntmps5
  go_wp2_with (first
    | (go_at_call 23; (with_reducible refine (unhide HA _).mono ?_); rintro e w2 hx; obtain ⟨c, n, ad, cap, hg, rfl, k2, s2⟩ := got_open hx; have GA := hide hg; have S2 := hide s2; clear hx hg s2)
    | (go_at_call 24; (with_reducible refine (unhide HB _).mono ?_); rintro e w5 hx; obtain ⟨d, m, ad2, cap2, hg, rfl, k5, s5⟩ := got_open hx; obtain ⟨e1, e2⟩ := got_one (unhide GA) hg; subst e1; subst e2; have S5 := hide s5; have P5 := k5.at p4 id; have S25 := hide ((unhide S2).no (N4.andNo k5)); have K5 := (k2.andNo N4).andNo k5; clear hx hg s5)
    | (go_at_call 16; (with_reducible refine (unhide HS _ _ _ _ _ _ ((unhide S25).no N7) ((unhide S5).no N7)).mono ?_); rintro e w8 ⟨rfl, k8⟩)
    | (go_at_call 9; (with_reducible refine (linked_any _).mono ?_); rintro e w9 ⟨rfl, k9⟩)
    | ((with_reducible show wpList _ _ _ (⟨some 3, _, _, _, _, none⟩ :: _) _ _); refine wpL_alloc rfl 24 rfl _ zero_ch ?_; intro p w3 e3 k3 g3 z3; clear z3)
    | ((with_reducible show wpList _ _ _ (⟨some 5, _, _, _, _, none⟩ :: _) _ _); refine wpL_alloc rfl 24 rfl _ zero_ch ?_; intro q w6 e6 k6 g6 z6; clear z6)
    | ((with_reducible show wpList _ _ _ (⟨some 21, _, _, _, _, none⟩ :: _) _ _); refine wpL_load rfl 24 (.tmp 3) rfl p rfl (chC c (.slice ad c.ms.length cap)) _ _ P7 _ Try.underlying24 rfl info_ch ?_)
    | ((with_reducible show wpList _ _ _ (⟨some 22, _, _, _, _, none⟩ :: _) _ _); refine wpL_load rfl 24 (.tmp 5) rfl q rfl (chC c (.slice ad2 c.ms.length cap2)) _ _ Q7 _ Try.underlying24 rfl info_ch ?_)
    | ((with_reducible show wpList _ _ _ (⟨none, _, _, _, _, none⟩ :: _) _ _); refine wpL_store rfl 24 (.tmp 3) (.tmp 14) rfl p (chC c (.slice ad c.ms.length cap)) rfl (by rfl) _ _ g3 info_ch rfl (all_oneCell_toArray (one_chC rfl)) ?_; intro w4 k4 p4 z4; have N4 := k3.past k4 (Nat.le_of_eq e3); clear z4 k4 k3 g3)
    | ((with_reducible show wpList _ _ _ (⟨none, _, _, _, _, none⟩ :: _) _ _); refine wpL_store rfl 24 (.tmp 5) (.tmp 19) rfl q (chC c (.slice ad2 c.ms.length cap2)) rfl (by rfl) _ _ g6 info_ch rfl (all_oneCell_toArray (one_chC rfl)) ?_; intro w7 k7 Q7 z7; have N7 := k6.past k7 (Nat.le_of_eq e6); have P7 := N7.at P5 id; clear z7 k7 k6 g6))
  go_ret
  exact ⟨rfl, ((K5.andNo N7).andNo k8).andNo k9⟩
theorem getlaw_any (s : List UInt8) (w : World) : Calls Try.prog 5 #[str s] w (ToldN (.bool true) w) := by
  by_cases h : 300 < s.length
  · exact getlaw_long s h w
  · exact getlaw_in s h w
#print axioms getlaw_any
end Go.Proofs.Ytiapkmncgafofaa
