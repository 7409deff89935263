/-
  Chains: contracts of the document's leaves, Drain.
-/
import Derived.Test.YtiapkmncgafofaaChainsF
import Derived.Test.YtiapkmncgafofaaChainsM
import Derived.Deep.RegionHeld3
import Derived.RegionTactic
import Derived.Deep.RegionLaw
namespace Go.Proofs.Ytiapkmncgafofaa
open Go.ChangeShapes Go.WideShapes Go.ChangeAt Go.RowKit
set_option linter.unusedVariables false
section
variable {w : World} {ad : Option Addr} {cap : Nat} {c : CT}
theorem next_cases (c : CT) : (good c = false ∧ nextE c = 2) ∨ (good c = true ∧ (c.ep == 1099511627776) = true ∧ nextE c = 2) ∨ (good c = true ∧ (c.ep == 1099511627776) = false ∧ nextE c = 0) := by
  cases g : good c
  · exact .inl ⟨rfl, nextE_bad g⟩
  · have := (good_iff.1 g).ep2
    by_cases h : c.ep = 1099511627776
    · exact .inr (.inl ⟨rfl, beq_iff_eq.2 h, nextE_hi (by omega)⟩)
    · exact .inr (.inr ⟨rfl, beq_eq_false_iff_ne.2 h, nextE_yes g (by omega)⟩)
theorem leaves_ways (c : CT) (n : Int) : (good c = false ∧ goE c n = 2) ∨ (good c = true ∧ (c.ep == 1099511627776) = true ∧ goE c n = 2) ∨ (good c = true ∧ (c.ep == 1099511627776) = false ∧ pos n c.ms < 0 ∧ goE c n = 4) ∨ (good c = true ∧ (c.ep == 1099511627776) = false ∧ ¬ pos n c.ms < 0 ∧ c.ms.length < 2 ∧ goE c n = 72) ∨ (good c = true ∧ (c.ep == 1099511627776) = false ∧ ¬ pos n c.ms < 0 ∧ ¬ c.ms.length < 2 ∧ goE c n = 0) := by
  rcases next_cases c with ⟨g, h⟩ | ⟨g, e, h⟩ | ⟨g, e, h⟩
  · exact .inl ⟨g, by unfold goE; rw [if_pos h]⟩
  · exact .inr (.inl ⟨g, e, by unfold goE; rw [if_pos h]⟩)
  · have hl := (good_iff.1 g).len1
    rcases go_ways_ c n with ⟨q1, q⟩ | ⟨q1, q2, q⟩ | ⟨q1, q2, q3, q⟩ | ⟨q1, q2, q3, q⟩
    · omega
    · exact .inr (.inr (.inl ⟨g, e, q2, q⟩))
    · have := beq_iff_eq.1 q3
      exact .inr (.inr (.inr (.inl ⟨g, e, q2, by omega, q⟩)))
    · have := beq_eq_false_iff_ne.1 q3
      exact .inr (.inr (.inr (.inr ⟨g, e, q2, by omega, q⟩)))
set_option maxRecDepth 100000 in
set_option maxHeartbeats 1000000 in
theorem leaves_any (h : Sl w ad cap c.ms) (n : Int) : Calls Try.prog 43 #[chV c (.slice ad c.ms.length cap), .int .i64 n] w (ToldN (.int .i64 (goE c n)) w) := by
  have HP := hide (fun w' (k : Chg noBlk w w') => rat_any (h.no k) n)
  rcases leaves_ways c n with ⟨g, q⟩ | ⟨g, e, q⟩ | ⟨g, e, q2, q⟩ | ⟨g, e, q2, q3, q⟩ | ⟨g, e, q2, q3, q⟩
  · have HC := hide (fun w' (k : Chg noBlk w w') => rcheck_no (h.no k) g)
    have HE := hide q
    clear h g q
    go_enter Try.func43, Try.ntmps43
    go_wp2_with (first
      | (go_at_call 14; (with_reducible refine (unhide HC _ k1).mono ?_); rintro e w2 ⟨rfl, k2⟩)
      | ((with_reducible show wpList _ _ _ (⟨_, _, _, _, _, none⟩ :: _) _ _); first
        | (refine wpL_box rfl 24 _ rfl (chC c (.slice ad c.ms.length cap)) (by rfl) ?_; intro p w1 e1 k1 g1 z1; have G1 : ChAt w1 p c (.slice ad c.ms.length cap) := g1; clear e1 z1 g1)
        | (refine wpL_load rfl 24 (.tmp 2) rfl p rfl (chC c (.slice ad c.ms.length cap)) _ _ G1 _ Try.underlying24 rfl info_ch ?_)))
    go_ret
    exact ⟨ret_int (unhide HE).symm, k1.andNo k2⟩
  · have HC := hide (fun w' (k : Chg noBlk w w') => rcheck_yes (h.no k) g)
    have HE := hide q
    clear h g q
    go_enter Try.func43, Try.ntmps43
    go_wp2_with (first
      | (go_at_call 14; (with_reducible refine (unhide HC _ k1).mono ?_); rintro e w2 ⟨rfl, k2⟩; have x0 := (G1.no k2).c0)
      | ((with_reducible show wpList _ _ _ (⟨_, _, _, _, _, none⟩ :: _) _ _); first
        | (refine wpL_box rfl 24 _ rfl (chC c (.slice ad c.ms.length cap)) (by rfl) ?_; intro p w1 e1 k1 g1 z1; have G1 : ChAt w1 p c (.slice ad c.ms.length cap) := g1; clear e1 z1 g1)
        | (refine wpL_load rfl 24 (.tmp 2) rfl p rfl (chC c (.slice ad c.ms.length cap)) _ _ G1 _ Try.underlying24 rfl info_ch ?_)))
    go_ret
    exact ⟨ret_int (unhide HE).symm, k1.andNo k2⟩
  all_goals
    have HC := hide (fun w' (k : Chg noBlk w w') => rcheck_yes (h.no k) g)
    have HE := hide q
    clear h g q
    go_enter Try.func43, Try.ntmps43
    go_wp2_with (first
      | (go_at_call 14; (with_reducible refine (unhide HC _ k1).mono ?_); rintro e w2 ⟨rfl, k2⟩; have x0 := (G1.no k2).c0; have G2 := G1.no k2; clear G1)
      | (go_at_call 37; (with_reducible refine (unhide HP _ (k1.andNo k2)).mono ?_); rintro e w3 ⟨rfl, k3⟩; have x1 := (G2.no k3).c1)
      | ((with_reducible show wpList _ _ _ (⟨_, _, _, _, _, none⟩ :: _) _ _); first
        | (refine wpL_box rfl 24 _ rfl (chC c (.slice ad c.ms.length cap)) (by rfl) ?_; intro p w1 e1 k1 g1 z1; have G1 : ChAt w1 p c (.slice ad c.ms.length cap) := g1; clear e1 z1 g1)
        | (refine wpL_load rfl 24 (.tmp 2) rfl p rfl (chC c (.slice ad c.ms.length cap)) _ _ (by first | exact G2 | exact G1) _ Try.underlying24 rfl info_ch ?_)))
    go_ret
    exact ⟨ret_int (unhide HE).symm, (k1.andNo k2).andNo k3⟩
attribute [local go_sem ↓] stCh_pre in
set_option maxRecDepth 100000 in
set_option maxHeartbeats 1000000 in
theorem rdrain_any (h : Sl w ad cap c.ms) (n : Int) : Calls Try.prog 22 #[chV c (.slice ad c.ms.length cap), .int .i64 n] w (NewCE (drainF c n) (drainE c n) w) := by
  have C := fun w' (k : Chg noBlk w w') => leaves_any (h.no k) n
  rcases drain_ways c n with ⟨q1, q, qf⟩ | ⟨q1, q2, q, qf⟩ | ⟨q1, q2, q, qf⟩
  · rw [q, qf]
    generalize goE c n = m at *
    have HC := hide C
    clear C q qf h
    go_enter Try.func22, Try.ntmps22
    go_wp2_with (first
      | (go_at_call 43; (with_reducible refine (unhide HC _ (k1.andNo k2)).mono ?_); rintro e w3 ⟨rfl, k3⟩; have g3 := k3.at g2 id)
      | ((with_reducible show wpList _ _ _ (⟨_, _, _, _, _, none⟩ :: _) _ _); first
        | (refine wpL_box rfl 24 _ rfl (chC c (.slice ad c.ms.length cap)) (by rfl) ?_; intro p w1 e1 k1 g1 z1; have G1 : ChAt w1 p c (.slice ad c.ms.length cap) := g1; clear e1 z1 g1)
        | (refine wpL_alloc rfl 24 rfl _ zero_ch ?_; intro q w2 e2 k2 g2 z2; have E2 := hide (show w1.heap.size ≤ q from Nat.le_of_eq e2); have G2 := G1.no k2; clear z2 e2 G1)
        | (refine wpL_load rfl 24 (.tmp 2) rfl p rfl (chC c (.slice ad c.ms.length cap)) _ _ G2 _ Try.underlying24 rfl info_ch ?_)
        | (refine wpL_store rfl 24 (.tmp 4) (.tmp 12) rfl q (chC cZero (.slice none 0 0)) rfl (by rfl) _ _ g3 info_ch rfl cZero_one ?_; intro w4 k4 g4 z4; have K4 := (k2.andNo k3).past k4 (unhide E2); clear z4)))
    refine bodyPost_ret (ret_ch2 rfl _ _ q cZero _ rfl g4) rfl ?_
    exact newCE_zero (k1.andNo K4)
  · rw [q, qf]
    rw [q1] at C
    have HC := hide C
    clear C q1 q qf h
    go_enter Try.func22, Try.ntmps22
    go_wp2_with (first
      | (go_at_call 43; (with_reducible refine (unhide HC _ (k1.andNo k2)).mono ?_); rintro e w3 ⟨rfl, k3⟩; have g3 := k3.at g2 id; have c2 := (G2.no k3).c2)
      | ((with_reducible show wpList _ _ _ (⟨_, _, _, _, _, none⟩ :: _) _ _); first
        | (refine wpL_box rfl 24 _ rfl (chC c (.slice ad c.ms.length cap)) (by rfl) ?_; intro p w1 e1 k1 g1 z1; have G1 : ChAt w1 p c (.slice ad c.ms.length cap) := g1; clear e1 z1 g1)
        | (refine wpL_alloc rfl 24 rfl _ zero_ch ?_; intro q w2 e2 k2 g2 z2; have E2 := hide (show w1.heap.size ≤ q from Nat.le_of_eq e2); have G2 := G1.no k2; clear z2 e2 G1)
        | (refine wpL_load rfl 24 (.tmp 2) rfl p rfl (chC c (.slice ad c.ms.length cap)) _ _ G2 _ Try.underlying24 rfl info_ch ?_)
        | (refine wpL_store rfl 24 (.tmp 4) (.tmp 17) rfl q (chC cZero (.slice none 0 0)) rfl (by rfl) _ _ g3 info_ch rfl cZero_one ?_; intro w4 k4 g4 z4; have K4 := (k2.andNo k3).past k4 (unhide E2); clear z4)))
    refine bodyPost_ret (ret_ch2 rfl _ _ q cZero _ rfl g4) rfl ?_
    exact newCE_zero (k1.andNo K4)
  · rw [q, qf]
    have q3 := nextE_of (goE_of q1).1
    have gg := good_iff.1 q3.1
    have be := q3.2
    have be1 := gg.ep1
    have bl := gg.len2
    have hsum : IntKind.i64.wrap (c.ep + 1) = c.ep + 1 := IntWalk.i64_in _ (by omega)
    have m1 : c.ms.length ≤ maxLen := by unfold maxLen; omega
    have m3 : c.ms.length * 16 ≤ 140737488355328 := by omega
    have HRD := hide (fun w' (k : Chg noBlk w w') => (h.no k).reads)
    rw [q1] at C
    have HC := hide C
    clear C q1 q qf h gg q3
    go_enter Try.func22, Try.ntmps22
    go_wp2_with (first
      | (go_at_call 43; (with_reducible refine (unhide HC _ (k1.andNo k2)).mono ?_); rintro e w3 ⟨rfl, k3⟩; have g3 := k3.at g2 id; have c2 := (G2.no k3).c2)
      | ((with_reducible show wpList _ _ _ (⟨_, _, _, _, _, none⟩ :: _) _ _); first
        | (refine wpL_box rfl 24 _ rfl (chC c (.slice ad c.ms.length cap)) (by rfl) ?_; intro p w1 e1 k1 g1 z1; have G1 : ChAt w1 p c (.slice ad c.ms.length cap) := g1; clear e1 z1 g1)
        | (refine wpL_alloc rfl 24 rfl _ zero_ch ?_; intro q w2 e2 k2 g2 z2; have E2 := hide (show w1.heap.size ≤ q from Nat.le_of_eq e2); have G2 := G1.no k2; clear z2 e2)
        | (refine wpL_load rfl 24 (.tmp 2) rfl p rfl (chC c (.slice ad c.ms.length cap)) _ _ G2 _ Try.underlying24 rfl info_ch ?_)))
    have KE := hide (ch_keep G1)
    have HG3 := hide g3
    have B0 := k2.andNo k3
    have HRD := hide (fun w' (k : Chg noBlk w1 w' ∧ w'.cell? ⟨p, 0, none⟩ = some (.int .i64 c.ep) ∧ w'.cell? ⟨p, 1, none⟩ = some (.slice ad c.ms.length cap) ∧ w'.cell? ⟨p, 2, none⟩ = some (.int .i64 c.dr)) => unhide HRD _ (k1.andNo k.1))
    have l2 := lt_of_block g2
    clear G1 G2 g2 g3 c2
    go_region_held3 (fun w' => Chg noBlk w1 w' ∧ w'.cell? ⟨p, 0, none⟩ = some (.int .i64 c.ep) ∧ w'.cell? ⟨p, 1, none⟩ = some (.slice ad c.ms.length cap) ∧ w'.cell? ⟨p, 2, none⟩ = some (.int .i64 c.dr))
      ((refine unhide KE _ ?_; go_split_ands; first | assumption | exact Chg.drew (by assumption) | exact Chg.drewN (by assumption) _ | exact KST | exact Chg.andNo (by assumption) (by assumption)))
      (first
        | (refine step_clone rfl (.tmp 22) 22 (by rfl) 37 (.agg mZero.cells.toArray) 2 16 Try.underlying22 infx_mem rfl (by decide) (.slice ad c.ms.length cap) c.ms.length (flatC MT.cells c.ms) (by rfl) (unhide HRD _ (by assumption)) m1 m3 ?_; intro v4 w4 k4 o4 f4 n4; have O4 : OwnL w4 37 MT.cells 2 v4 c.ms := ownL_of o4 rfl rfl; obtain ⟨a4, c4, rfl, _, _, _⟩ := O4.form MT.len; have g4 := k4.at (show w3.drew.heap[q]? = _ from unhide HG3) id; have PC := hide (put_ch (c := ⟨c.ep + 1, c.ms, n⟩) g4 rfl O4.one); have ST := run_stCh (c := ⟨c.ep + 1, c.ms, n⟩) g4 rfl O4.one; have KST := ((B0.drew).andNo k4).past (unhide PC).2 (unhide E2); clear o4))
    rename_i hH
    obtain ⟨K9, _, _, _⟩ := hH
    have l3 : w2.heap.size ≤ w3.heap.size := k3.size
    have l4 : w3.drew.heap.size = w3.heap.size := rfl
    have l5 := k1.size
    have l6 := k2.size
    have o5 := OwnL.kept O4 (unhide PC).2 fun g hg e => by
      have e : g = q := e
      have := f4 g hg
      omega
    go_wp2_with fail
    refine bodyPost_ret (ret_ch2 rfl _ _ q (drainC c n) _ rfl (unhide PC).1) rfl ?_
    exact ⟨_, rfl, k1.andNo K9, o5, fun g hg => by have := f4 g hg; omega⟩
end
end Go.Proofs.Ytiapkmncgafofaa
