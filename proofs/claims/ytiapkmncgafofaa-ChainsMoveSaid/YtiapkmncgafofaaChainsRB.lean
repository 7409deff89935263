/-
  Chains: a contract of the document's With.
-/
import Derived.Test.YtiapkmncgafofaaChainsRA
namespace Go.Proofs.Ytiapkmncgafofaa
open Go.ChangeShapes Go.WideShapes Go.ChangeAt Go.RowKit
set_option linter.unusedVariables false
theorem push_le {w5 : World} {X : Obj} {k : Nat} (h : k = (w5.alloc X).drew.heap.size) : w5.heap.size ≤ k := by rw [h]; show w5.heap.size ≤ (w5.alloc X).heap.size; simp
theorem own_two {w5 W wD : World} {v1 v2 : Value} (h : Chg noBlk w5 W) (f : ∀ k, v1.ownBlock = some k → w5.heap.size ≤ k) (kD : Chg (fun k => v1.ownBlock = some k) W wD) (fD : v2.ownBlock = v1.ownBlock ∨ v2.ownBlock = some W.heap.size) :
    Chg noBlk w5 wD ∧ ∀ k, v2.ownBlock = some k → w5.heap.size ≤ k := by
  refine ⟨h.trans kD fun i hi e => by have := f i e; omega, fun k hk => ?_⟩
  rcases fD with e | e
  · exact f k (by rw [← e]; exact hk)
  · rw [e] at hk
    have := Option.some.inj hk
    have := h.size
    omega
section
variable {w : World} {ad : Option Addr} {cap : Nat} {c : CT}
theorem rwith_ways (c : CT) (n : Int) : (good c = false ∧ withE c n = 2 ∧ withF c n = cZero) ∨ (good c = true ∧ (c.ep == 1099511627776) = true ∧ withE c n = 2 ∧ withF c n = cZero) ∨ (good c = true ∧ (c.ep == 1099511627776) = false ∧ n < 0 ∧ withE c n = 2 ∧ withF c n = cZero) ∨ (good c = true ∧ (c.ep == 1099511627776) = false ∧ ¬ n < 0 ∧ 5 < n ∧ withE c n = 2 ∧ withF c n = cZero) ∨
    (good c = true ∧ (c.ep == 1099511627776) = false ∧ ¬ n < 0 ∧ ¬ 5 < n ∧ ¬ pos n c.ms < 0 ∧ withE c n = 62 ∧ withF c n = cZero) ∨ (good c = true ∧ (c.ep == 1099511627776) = false ∧ ¬ n < 0 ∧ ¬ 5 < n ∧ pos n c.ms < 0 ∧ withE c n = 0 ∧ withF c n = withC c n) := by
  rcases next_cases c with ⟨g, h⟩ | ⟨g, e, h⟩ | ⟨g, e, h⟩ <;> rcases with_ways c n with ⟨q1, q⟩ | ⟨q1, q2, q⟩ | ⟨q1, q2, q3, q⟩ | ⟨q1, q2, q3, q⟩ <;> try omega
  · exact .inl ⟨g, q⟩
  · exact .inr (.inl ⟨g, e, q⟩)
  · have := mayB_no.1 q2
    by_cases hn : n < 0
    · exact .inr (.inr (.inl ⟨g, e, hn, q⟩))
    · exact .inr (.inr (.inr (.inl ⟨g, e, hn, by omega, q⟩)))
  · have := mayB_yes.1 q2
    exact .inr (.inr (.inr (.inr (.inl ⟨g, e, by omega, by omega, q3, q⟩))))
  · have := mayB_yes.1 q2
    exact .inr (.inr (.inr (.inr (.inr ⟨g, e, by omega, by omega, q3, q⟩))))
set_option maxRecDepth 100000 in
set_option maxHeartbeats 2000000 in
theorem rwith_bad (h : Sl w ad cap c.ms) (n : Int) (g : good c = false) (q : withE c n = 2) (qf : withF c n = cZero) : Calls Try.prog 18 #[chV c (.slice ad c.ms.length cap), .int .i64 n] w (NewCE (withF c n) (withE c n) w) := by
  rw [q, qf]
  have HC := hide (fun w' (k : Chg noBlk w w') => rcheck_no (h.no k) g)
  clear q qf h g
  go_enter Try.func18, Try.ntmps18
  go_wp2_with (first
    | (go_at_call 14; (with_reducible refine (unhide HC _ (k1.andNo k2)).mono ?_); rintro e w3 ⟨rfl, k3⟩; have g3 := k3.at g2 id; have x0 := (G2.no k3).c0)
    | ((with_reducible show wpList _ _ _ (⟨_, _, _, _, _, none⟩ :: _) _ _); first
      | (refine wpL_box rfl 24 _ rfl (chC c (.slice ad c.ms.length cap)) (by rfl) ?_; intro p w1 e1 k1 g1 z1; have G1 : ChAt w1 p c (.slice ad c.ms.length cap) := g1; clear e1 z1 g1)
      | (refine wpL_alloc rfl 24 rfl _ zero_ch ?_; intro q w2 e2 k2 g2 z2; have E2 := hide (show w1.heap.size ≤ q from Nat.le_of_eq e2); have G2 := G1.no k2; clear z2 e2 G1)
      | (refine wpL_load rfl 24 (.tmp 2) rfl p rfl (chC c (.slice ad c.ms.length cap)) _ _ G2 _ Try.underlying24 rfl info_ch ?_)
      | (refine wpL_store rfl 24 (.tmp 4) (.tmp 23) rfl q (chC cZero (.slice none 0 0)) rfl (by rfl) _ _ g3 info_ch rfl cZero_one ?_; intro w4 k4 g4 z4; have K4 := (k2.andNo k3).past k4 (unhide E2); clear z4)))
  refine bodyPost_ret (ret_ch2 rfl _ _ q cZero _ rfl g4) rfl ?_
  exact newCE_zero (k1.andNo K4)
set_option maxRecDepth 100000 in
set_option maxHeartbeats 2000000 in
theorem rwith_out (h : Sl w ad cap c.ms) (n : Int) (g : good c = true) (hw : (c.ep == 1099511627776) = true ∨ ((c.ep == 1099511627776) = false ∧ n < 0) ∨ ((c.ep == 1099511627776) = false ∧ ¬ n < 0 ∧ 5 < n)) (q : withE c n = 2) (qf : withF c n = cZero) : Calls Try.prog 18 #[chV c (.slice ad c.ms.length cap), .int .i64 n] w (NewCE (withF c n) (withE c n) w) := by
  rw [q, qf]
  have HC := hide (fun w' (k : Chg noBlk w w') => rcheck_yes (h.no k) g)
  clear h g q qf
  rcases hw with e0 | ⟨e0, n1⟩ | ⟨e0, n1, n2⟩
  all_goals
    go_enter Try.func18, Try.ntmps18
    go_wp2_with (first
      | (go_at_call 14; (with_reducible refine (unhide HC _ (k1.andNo k2)).mono ?_); rintro e w3 ⟨rfl, k3⟩; have g3 := k3.at g2 id; have x0 := (G2.no k3).c0)
      | ((with_reducible show wpList _ _ _ (⟨_, _, _, _, _, none⟩ :: _) _ _); first
        | (refine wpL_box rfl 24 _ rfl (chC c (.slice ad c.ms.length cap)) (by rfl) ?_; intro p w1 e1 k1 g1 z1; have G1 : ChAt w1 p c (.slice ad c.ms.length cap) := g1; clear e1 z1 g1)
        | (refine wpL_alloc rfl 24 rfl _ zero_ch ?_; intro q w2 e2 k2 g2 z2; have E2 := hide (show w1.heap.size ≤ q from Nat.le_of_eq e2); have G2 := G1.no k2; clear z2 e2 G1)
        | (refine wpL_load rfl 24 (.tmp 2) rfl p rfl (chC c (.slice ad c.ms.length cap)) _ _ G2 _ Try.underlying24 rfl info_ch ?_)
        | (refine wpL_store rfl 24 (.tmp 4) (.tmp 23) rfl q (chC cZero (.slice none 0 0)) rfl (by rfl) _ _ g3 info_ch rfl cZero_one ?_; intro w4 k4 g4 z4; have K4 := (k2.andNo k3).past k4 (unhide E2); clear z4)))
    refine bodyPost_ret (ret_ch2 rfl _ _ q cZero _ rfl g4) rfl ?_
    exact newCE_zero (k1.andNo K4)
set_option maxRecDepth 100000 in
set_option maxHeartbeats 2000000 in
theorem rwith_have (h : Sl w ad cap c.ms) (n : Int) (g : good c = true) (e0 : (c.ep == 1099511627776) = false) (n1 : ¬ n < 0) (n2 : ¬ 5 < n) (n3 : ¬ pos n c.ms < 0) (q : withE c n = 62) (qf : withF c n = cZero) : Calls Try.prog 18 #[chV c (.slice ad c.ms.length cap), .int .i64 n] w (NewCE (withF c n) (withE c n) w) := by
  rw [q, qf]
  have HP := hide (fun w' (k : Chg noBlk w w') => rat_any (h.no k) n)
  have HC := hide (fun w' (k : Chg noBlk w w') => rcheck_yes (h.no k) g)
  clear q qf h g
  go_enter Try.func18, Try.ntmps18
  go_wp2_with (first
    | (go_at_call 14; (with_reducible refine (unhide HC _ (k1.andNo k2)).mono ?_); rintro e w3 ⟨rfl, k3⟩; have x0 := (G2.no k3).c0; have G3 := G2.no k3; clear G2)
    | (go_at_call 37; (with_reducible refine (unhide HP _ ((k1.andNo k2).andNo k3)).mono ?_); rintro e w5 ⟨rfl, k5⟩; have g5 := (k3.andNo k5).at g2 id)
    | ((with_reducible show wpList _ _ _ (⟨_, _, _, _, _, none⟩ :: _) _ _); first
      | (refine wpL_box rfl 24 _ rfl (chC c (.slice ad c.ms.length cap)) (by rfl) ?_; intro p w1 e1 k1 g1 z1; have G1 : ChAt w1 p c (.slice ad c.ms.length cap) := g1; clear e1 z1 g1)
      | (refine wpL_alloc rfl 24 rfl _ zero_ch ?_; intro q w2 e2 k2 g2 z2; have E2 := hide (show w1.heap.size ≤ q from Nat.le_of_eq e2); have G2 := G1.no k2; clear z2 e2 G1)
      | (refine wpL_load rfl 24 (.tmp 2) rfl p rfl (chC c (.slice ad c.ms.length cap)) _ _ (by first | exact G3 | exact G2) _ Try.underlying24 rfl info_ch ?_)
      | (refine wpL_store rfl 24 (.tmp 4) (.tmp 28) rfl q (chC cZero (.slice none 0 0)) rfl (by rfl) _ _ g5 info_ch rfl cZero_one ?_; intro w4 k4 g4 z4; have K4 := (k2.andNo (k3.andNo k5)).past k4 (unhide E2); clear z4)))
  refine bodyPost_ret (ret_ch2 rfl _ _ q cZero _ rfl g4) rfl ?_
  exact newCE_zero (k1.andNo K4)
set_option maxRecDepth 100000 in
set_option maxHeartbeats 2000000 in
theorem rwith_yes (h : Sl w ad cap c.ms) (n : Int) (g : good c = true) (e0 : (c.ep == 1099511627776) = false) (n1 : ¬ n < 0) (n2 : ¬ 5 < n) (n3 : pos n c.ms < 0) (q : withE c n = 0) (qf : withF c n = withC c n) : Calls Try.prog 18 #[chV c (.slice ad c.ms.length cap), .int .i64 n] w (NewCE (withF c n) (withE c n) w) := by
  rw [q, qf]
  have HP := hide (fun w' (k : Chg noBlk w w') => rat_any (h.no k) n)
  have gg := good_iff.1 g
  have be1 := gg.ep1
  have be2 := gg.ep2
  have bl := gg.len2
  have HC := hide (fun w' (k : Chg noBlk w w') => rcheck_yes (h.no k) g)
  have hsum : IntKind.i64.wrap (c.ep + 1) = c.ep + 1 := IntWalk.i64_in _ (by omega)
  have m1 : c.ms.length ≤ maxLen := by unfold maxLen; omega
  have m2 : c.ms.length + 1 ≤ maxLen := by unfold maxLen; omega
  have m3 : c.ms.length * 16 ≤ 140737488355328 := by omega
  have m4 : (c.ms.length + 1) * 16 ≤ 140737488355328 := by omega
  have HRD := hide (fun w' (k : Chg noBlk w w') => (h.no k).reads)
  clear q qf h g gg
  go_enter Try.func18, Try.ntmps18
  go_wp2_with (first
    | (go_at_call 14; (with_reducible refine (unhide HC _ (k1.andNo k2)).mono ?_); rintro e w3 ⟨rfl, k3⟩; have x0 := (G2.no k3).c0; have G3 := G2.no k3; clear G2)
    | (go_at_call 37; (with_reducible refine (unhide HP _ ((k1.andNo k2).andNo k3)).mono ?_); rintro e w5 ⟨rfl, k5⟩; clear x0; have G5 := G3.no k5)
    | ((with_reducible show wpList _ _ _ (⟨_, _, _, _, _, none⟩ :: _) _ _); first
      | (refine wpL_box rfl 24 _ rfl (chC c (.slice ad c.ms.length cap)) (by rfl) ?_; intro p w1 e1 k1 g1 z1; have G1 : ChAt w1 p c (.slice ad c.ms.length cap) := g1; clear e1 z1 g1)
      | (refine wpL_alloc rfl 24 rfl _ zero_ch ?_; intro q w2 e2 k2 g2 z2; have E2 := hide (show w1.heap.size ≤ q from Nat.le_of_eq e2); have G2 := G1.no k2; clear z2 e2 G1)
      | (refine wpL_load rfl 24 (.tmp 2) rfl p rfl (chC c (.slice ad c.ms.length cap)) _ _ (by first | exact G3 | exact G2) _ Try.underlying24 rfl info_ch ?_)))
  have KW := (k1.andNo k2).andNo (k3.andNo k5)
  have RA := hide (fun w' (k : Chg noBlk w5 w' ∧ w'.cell? ⟨p, 0, none⟩ = some (.int .i64 c.ep) ∧ w'.cell? ⟨p, 1, none⟩ = some (.slice ad c.ms.length cap) ∧ w'.cell? ⟨p, 2, none⟩ = some (.int .i64 c.dr)) => unhide HRD _ (KW.andNo k.1))
  have KE := hide (ch_keep G5)
  have HG5 := hide G5
  have B0 := Chg.refl noBlk w5
  have K5 := k2.andNo (k3.andNo k5)
  have q5 := (k3.andNo k5).at g2 id
  have s1 := k1.size
  have s5 := K5.size
  clear G3 G5 HP HC k2 k3 k5 g2
  go_region_held3 (fun w' => Chg noBlk w5 w' ∧ w'.cell? ⟨p, 0, none⟩ = some (.int .i64 c.ep) ∧ w'.cell? ⟨p, 1, none⟩ = some (.slice ad c.ms.length cap) ∧ w'.cell? ⟨p, 2, none⟩ = some (.int .i64 c.dr))
    ((refine unhide KE _ ?_; go_split_ands; first | assumption | exact Chg.drew (by assumption) | exact Chg.drewN (by assumption) _ | exact Chg.andNo (by assumption) (by assumption) | exact Chg.alloc (by assumption) _ | exact (Chg.alloc (Chg.refl _ _) _).drew))
    (first
      | (refine step_clone rfl (.tmp 30) 22 (by rfl) 37 (.agg mZero.cells.toArray) 2 16 Try.underlying22 infx_mem rfl (by decide) (.slice ad c.ms.length cap) c.ms.length (flatC MT.cells c.ms) (by rfl) (unhide RA _ (by assumption)) m1 m3 ?_; intro v1 wC kC oC fC vC)
      | (refine step_append rfl (.tmp 31) (.tmp 37) 22 (by rfl) 37 (.agg mZero.cells.toArray) 2 16 Try.underlying22 infx_mem rfl (by decide) v1 c.ms.length (flatC MT.cells c.ms) (by rfl) (oC.alloc _) (.slice (some ⟨wC.heap.size, 0, none⟩) 1 1) 1 (MT.cells ⟨n, c.ep + 1⟩) (by rfl) (reads_at1 (heap_alloc_new wC _) rfl (MT.one _)) m2 m4 ?_; intro v2 wD kD oD fD; obtain ⟨kE, f2⟩ := own_two (v1 := v1) (v2 := v2) (W := wC.alloc (.cells #[.int .i64 n, .int .i64 (c.ep + 1)] 37)) (wD := wD) ((B0.drew.andNo kC).alloc _) (fun k hk => Nat.le_of_eq (fC k hk).symm) kD fD; clear kD fD)
      | (refine step_append rfl (.tmp 31) (.tmp 37) 22 (by rfl) 37 (.agg mZero.cells.toArray) 2 16 Try.underlying22 infx_mem rfl (by decide) v1 c.ms.length (flatC MT.cells c.ms) (by rfl) oC (.slice (some ⟨w5.heap.size, 0, none⟩) 1 1) 1 (MT.cells ⟨n, c.ep + 1⟩) (by rfl) (reads_at1 (kC.at (heap_alloc_new w5.drew _) id) rfl (MT.one _)) m2 m4 ?_; intro v2 wD kD oD fD; obtain ⟨kE, f2⟩ := own_two (v1 := v1) (v2 := v2) (W := wC) (wD := wD) (((B0.alloc (.cells #[.int .i64 n, .int .i64 (c.ep + 1)] 37)).drew).andNo kC) (fun k hk => push_le (fC k hk)) kD fD; clear kD fD))
  all_goals
    rename_i hJ
    obtain ⟨KJ, x0, x1, x2⟩ := hJ
    have OD := ownL_grew (c := MT.cells) (L := c.ms) (x := ⟨n, c.ep + 1⟩) oD
    obtain ⟨a2, cp2, rfl, _, _, _⟩ := OD.form MT.len
    rw [app_len] at OD f2
    have qD := kE.at q5 id
    have lq := lt_of_block q5
    go_wp2_with ((with_reducible show wpList _ _ _ (⟨_, _, _, _, _, none⟩ :: _) _ _); refine wpL_store rfl 24 (.tmp 4) (.tmp 45) rfl q (chC (withC c n) (.slice a2 (c.ms.length + 1) cp2)) rfl (by rfl) _ _ qD info_ch rfl (all_oneCell_toArray (one_chC (c := withC c n) OD.one)) ?_; intro w9 k9 g9 z9)
    refine bodyPost_ret (ret_ch2 rfl _ _ q (withC c n) _ rfl g9) rfl ?_
    exact ⟨_, rfl, k1.andNo ((K5.andNo kE).past k9 (unhide E2)), OD.kept k9 (own_not (own_far f2 lq)), fun g hg => by have := f2 g hg; omega⟩
theorem rwith_any (h : Sl w ad cap c.ms) (n : Int) : Calls Try.prog 18 #[chV c (.slice ad c.ms.length cap), .int .i64 n] w (NewCE (withF c n) (withE c n) w) := by
  rcases rwith_ways c n with ⟨g, q, qf⟩ | ⟨g, e0, q, qf⟩ | ⟨g, e0, n1, q, qf⟩ | ⟨g, e0, n1, n2, q, qf⟩ | ⟨g, e0, n1, n2, n3, q, qf⟩ | ⟨g, e0, n1, n2, n3, q, qf⟩
  · exact rwith_bad h n g q qf
  · exact rwith_out h n g (.inl e0) q qf
  · exact rwith_out h n g (.inr (.inl ⟨e0, n1⟩)) q qf
  · exact rwith_out h n g (.inr (.inr ⟨e0, n1, n2⟩)) q qf
  · exact rwith_have h n g e0 n1 n2 n3 q qf
  · exact rwith_yes h n g e0 n1 n2 n3 q qf
end
end Go.Proofs.Ytiapkmncgafofaa
