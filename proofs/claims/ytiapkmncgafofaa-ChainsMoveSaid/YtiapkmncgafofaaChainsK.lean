/-
  Chains: contracts of Drain, of slices.Delete.
-/
import Derived.Test.YtiapkmncgafofaaChainsJ
import Derived.Laws.OwnMore
import Derived.OwnWalk
namespace Go.Proofs.Ytiapkmncgafofaa
open Go.ChangeShapes Go.WideShapes Go.ChangeAt Go.RowKit
set_option linter.unusedVariables false
section
variable {w : World} {ad : Option Addr} {cap : Nat} {c : CT}
theorem goE_of {n : Int} (h : goE c n = 0) : nextE c = 0 ∧ ¬ pos n c.ms < 0 ∧ c.ms.length ≠ 1 := by
  rcases go_ways_ c n with ⟨q1, q⟩ | ⟨q1, q2, q⟩ | ⟨q1, q2, q3, q⟩ | ⟨q1, q2, q3, q⟩
  · omega
  · omega
  · omega
  · exact ⟨q1, q2, by have := beq_eq_false_iff_ne.1 q3; omega⟩
theorem drain_ways (c : CT) (n : Int) : ((goE c n != 0) = true ∧ drainE c n = goE c n ∧ drainF c n = cZero) ∨ (goE c n = 0 ∧ (c.dr != -1) = true ∧ drainE c n = 62 ∧ drainF c n = cZero) ∨ (goE c n = 0 ∧ (c.dr != -1) = false ∧ drainE c n = 0 ∧ drainF c n = drainC c n) := by
  unfold drainF drainE
  by_cases h1 : goE c n = 0
  · by_cases h2 : c.dr = -1
    · exact .inr (.inr ⟨h1, by simp [h2], by simp [h1, h2], by simp [h1, h2]⟩)
    · exact .inr (.inl ⟨h1, by simp [h2], by simp [h1, h2], by simp [h1, h2]⟩)
  · exact .inl ⟨by simp [h1], by simp [h1], by simp [h1]⟩
set_option maxRecDepth 100000 in
set_option maxHeartbeats 1000000 in
theorem drain_any (h : Sl w ad cap c.ms) (n : Int) : Calls Try.prog 21 #[chV c (.slice ad c.ms.length cap), .int .i64 n] w (NewCE (drainF c n) (drainE c n) w) := by
  have C := fun w' (k : Chg noBlk w w') => checkGo_any (h.no k) n
  have ta : True := True.intro
  rcases drain_ways c n with ⟨q1, q, qf⟩ | ⟨q1, q2, q, qf⟩ | ⟨q1, q2, q, qf⟩
  · rw [q, qf]
    generalize goE c n = m at *
    have HC := hide C
    clear C q qf h
    go_enter Try.func21, Try.ntmps21
    go_wp2_with (first
      | (go_at_call 41; (with_reducible refine (unhide HC _ (k1.andNo k2)).mono ?_); rintro e w3 ⟨rfl, k3⟩; have g3 := k3.at g2 id)
      | ((with_reducible show wpList _ _ _ (_ :: _) _ _); first
        | (refine wpL_box rfl 24 _ rfl (chC c (.slice ad c.ms.length cap)) (by rfl) ?_; intro p w1 e1 k1 g1 z1; have G1 : ChAt w1 p c (.slice ad c.ms.length cap) := g1; clear e1 z1 g1)
        | (refine wpL_alloc rfl 24 rfl _ zero_ch ?_; intro q w2 e2 k2 g2 z2; have E2 := hide (show w1.heap.size ≤ q from Nat.le_of_eq e2); have G2 := G1.no k2; clear z2 e2 G1)
        | (refine wpL_load rfl 24 (.tmp 2) rfl p rfl (chC c (.slice ad c.ms.length cap)) _ _ G2 _ Try.underlying24 rfl info_ch ?_)
        | (refine wpL_store rfl 24 (.tmp 4) (.tmp 11) rfl q (chC cZero (.slice none 0 0)) rfl (by rfl) _ _ g3 info_ch rfl cZero_one ?_; intro w4 k4 g4 z4; have K4 := (k2.andNo k3).past k4 (unhide E2); clear z4)))
    refine bodyPost_ret (ret_ch2 rfl _ _ q cZero _ rfl g4) rfl ?_
    exact newCE_zero (k1.andNo K4)
  · rw [q, qf]
    rw [q1] at C
    have HC := hide C
    clear C q1 q qf h
    go_enter Try.func21, Try.ntmps21
    go_wp2_with (first
      | (go_at_call 41; (with_reducible refine (unhide HC _ (k1.andNo k2)).mono ?_); rintro e w3 ⟨rfl, k3⟩; have g3 := k3.at g2 id; have c2 := (G2.no k3).c2)
      | ((with_reducible show wpList _ _ _ (_ :: _) _ _); first
        | (refine wpL_box rfl 24 _ rfl (chC c (.slice ad c.ms.length cap)) (by rfl) ?_; intro p w1 e1 k1 g1 z1; have G1 : ChAt w1 p c (.slice ad c.ms.length cap) := g1; clear e1 z1 g1)
        | (refine wpL_alloc rfl 24 rfl _ zero_ch ?_; intro q w2 e2 k2 g2 z2; have E2 := hide (show w1.heap.size ≤ q from Nat.le_of_eq e2); have G2 := G1.no k2; clear z2 e2 G1)
        | (refine wpL_load rfl 24 (.tmp 2) rfl p rfl (chC c (.slice ad c.ms.length cap)) _ _ G2 _ Try.underlying24 rfl info_ch ?_)
        | (refine wpL_store rfl 24 (.tmp 4) (.tmp 16) rfl q (chC cZero (.slice none 0 0)) rfl (by rfl) _ _ g3 info_ch rfl cZero_one ?_; intro w4 k4 g4 z4; have K4 := (k2.andNo k3).past k4 (unhide E2); clear z4)))
    refine bodyPost_ret (ret_ch2 rfl _ _ q cZero _ rfl g4) rfl ?_
    exact newCE_zero (k1.andNo K4)
  · rw [q, qf]
    have q3 := (nextE_of (goE_of q1).1).1
    have gg := good_iff.1 q3
    have HN := hide (fun w' (k : Chg noBlk w w') => cnext_any (h.no k) gg.ep1 gg.ep2)
    rw [q1] at C
    have HC := hide C
    clear C q1 q qf h gg q3
    go_enter Try.func21, Try.ntmps21
    go_wp2_with (first
      | (go_at_call 41; (with_reducible refine (unhide HC _ (k1.andNo k2)).mono ?_); rintro e w3 ⟨rfl, k3⟩; have c2 := (G2.no k3).c2; have G6 := G2.no k3; clear ta)
      | (go_at_call 40; (with_reducible refine (unhide HN _ ((k1.andNo k2).andNo k3)).mono ?_); rintro e w7 ⟨v7, rfl, k7, o7, f7⟩; obtain ⟨a7, c7, rfl, _, _, _⟩ := o7.form MT.len; have K7 := k3.andNo k7; have g7 := K7.at g2 id)
      | ((with_reducible show wpList _ _ _ (_ :: _) _ _); first
        | (refine wpL_box rfl 24 _ rfl (chC c (.slice ad c.ms.length cap)) (by rfl) ?_; intro p w1 e1 k1 g1 z1; have G1 : ChAt w1 p c (.slice ad c.ms.length cap) := g1; clear e1 z1 g1)
        | (refine wpL_alloc rfl 24 rfl _ zero_ch ?_; intro q w2 e2 k2 g2 z2; have E2 := hide (show w1.heap.size ≤ q from Nat.le_of_eq e2); have G2 := G1.no k2; clear z2 e2 G1)
        | (have t := ta; refine wpL_load rfl 24 (.tmp 2) rfl p rfl (chC c (.slice ad c.ms.length cap)) _ _ G2 _ Try.underlying24 rfl info_ch ?_)
        | (refine wpL_load rfl 24 (.tmp 2) rfl p rfl (chC c (.slice ad c.ms.length cap)) _ _ G6 _ Try.underlying24 rfl info_ch ?_)
        | (refine wpL_store rfl 24 (.tmp 4) (.tmp 18) rfl q (chC ⟨c.ep + 1, c.ms, c.dr⟩ (.slice a7 c.ms.length c7)) rfl (by rfl) _ _ g7 info_ch rfl (all_oneCell_toArray (one_chC (c := ⟨c.ep + 1, c.ms, c.dr⟩) o7.one)) ?_; intro w8 k8 g8 z8; have K8 := (k2.andNo K7).past k8 (unhide E2); have F8 := hide (own_far f7 (k3.lt (lt_of_block g2))); have o8 := OwnL.kept o7 k8 (own_not (unhide F8)); clear z8)
        | (refine wpL_set rfl 3 (.tmp 20) (.tmp 19) rfl q 2 (.int .i64 n) rfl (by rfl) rfl (by kernel_rfl) _ _ g8 (by simp) ?_; intro w11 k11 g11 z11; have G11 : ChAt w11 q (drainC c n) (.slice a7 c.ms.length c7) := g11; have o11 := OwnL.kept o8 k11 (own_not (unhide F8)))
        | (refine wpL_load rfl 24 (.tmp 4) rfl q rfl (chC (drainC c n) (.slice a7 c.ms.length c7)) _ _ G11 _ Try.underlying24 rfl info_ch ?_)
        | (refine wpL_store rfl 24 (.tmp 4) (.tmp 21) rfl q (chC (drainC c n) (.slice a7 c.ms.length c7)) rfl (by rfl) _ _ G11 info_ch rfl (all_oneCell_toArray (one_chC (c := drainC c n) o7.one)) ?_; intro w12 k12 g12 z12; have o12 := OwnL.kept o11 k12 (own_not (unhide F8)))))
    refine bodyPost_ret (ret_ch2 rfl _ _ q (drainC c n) _ rfl g12) rfl ?_
    exact ⟨_, rfl, (k1.andNo ((K8.past k11 (unhide E2)).past k12 (unhide E2))), o12, fun g hg => by have := f7 g hg; have := k1.size; have := k2.size; have := k3.size; omega⟩
end
end Go.Proofs.Ytiapkmncgafofaa
