/-
  Chains: contracts of With, Drain.
-/
import Derived.Test.YtiapkmncgafofaaChainsI
namespace Go.Proofs.Ytiapkmncgafofaa
open Go.ChangeShapes Go.WideShapes Go.ChangeAt Go.RowKit
set_option linter.unusedVariables false
section
variable {w : World} {ad : Option Addr} {cap : Nat} {c : CT}
theorem infy_mem : (Try.prog.info? 37).map (fun i => (i.zero, i.size)) = some (some (.agg mZero.cells.toArray), mZero.cells.toArray.size) := by kernel_rfl
theorem app_len (L : List MT) (x : MT) : (L ++ [x]).length = L.length + 1 := by simp
theorem own_far {v : Value} {n q : Nat} (f : ∀ g, v.ownBlock = some g → n ≤ g) (h : q < n) : ¬ v.ownBlock = some q := fun e => by have := f q e; omega
theorem own_not {v : Value} {q : Nat} (h : ¬ v.ownBlock = some q) : ∀ g, v.ownBlock = some g → ¬ oneBlk q g := fun g hg e => by
  have e : g = q := e
  subst e
  exact h hg
theorem own_grown {v v' : Value} {q n : Nat} (h : ¬ v.ownBlock = some q) (f : v'.ownBlock = v.ownBlock ∨ v'.ownBlock = some n) (hq : q < n) : ¬ v'.ownBlock = some q := fun e => by
  rcases f with f | f
  · exact h (f ▸ e)
  · rw [f] at e
    have e := Option.some.inj e
    omega
theorem withC_chg {w w1 w2 w6 w7 w8 w9 w10 w11 w12 : World} {v : Value} {q : Nat} (k1 : Chg noBlk w w1) (k2 : Chg noBlk w1 w2) (k6 : Chg noBlk w2 w6) (k7 : Chg noBlk w6 w7) (f7 : ∀ g, v.ownBlock = some g → w6.heap.size ≤ g) (hq : w1.heap.size ≤ q) (k8 : Chg noBlk w1 w8) (k9 : Chg noBlk w8 w9) (k10 : Chg (fun k => v.ownBlock = some k) w9 w10) (k11 : Chg (oneBlk q) w10 w11) (k12 : Chg (oneBlk q) w11 w12) : Chg noBlk w w12 := by
  have s1 := k1.size
  have s2 := k2.size
  have s6 := k6.size
  have a := k1.andNo (k8.andNo k9)
  have b := a.trans k10 (S := noBlk) fun i hi e => by have := f7 i e; omega
  exact (b.past k11 (by omega)).past k12 (by omega)
theorem withC_new {w w1 w2 w6 w7 w8 w9 : World} {v v' : Value} (k1 : Chg noBlk w w1) (k2 : Chg noBlk w1 w2) (k6 : Chg noBlk w2 w6) (k7 : Chg noBlk w6 w7) (f7 : ∀ g, v.ownBlock = some g → w6.heap.size ≤ g) (k8 : Chg noBlk w1 w8) (k9 : Chg noBlk w8 w9) (f : v'.ownBlock = v.ownBlock ∨ v'.ownBlock = some w9.heap.size) : ∀ g, v'.ownBlock = some g → w.heap.size ≤ g := by
  have s1 := k1.size
  have s2 := k2.size
  have s6 := k6.size
  have s8 := k8.size
  have s9 := k9.size
  intro g hg
  rcases f with f | f
  · have := f7 g (f ▸ hg); omega
  · rw [f] at hg
    have := Option.some.inj hg
    omega
theorem cZero_one : (chC cZero (.slice none 0 0)).all (·.oneCell') = true := all_oneCell_toArray (one_chC (c := cZero) (v := .slice none 0 0) rfl)
theorem newCE_zero {w w' : World} {n : Int} (k : Chg noBlk w w') : NewCE cZero n w (.returned (.tuple #[chV cZero (.slice none 0 0), .int .i64 n])) w' := ⟨_, rfl, k, ownL_nil _ _ _ _, fun g hg => by cases hg⟩
theorem with_ways (c : CT) (n : Int) : (nextE c = 2 ∧ withE c n = 2 ∧ withF c n = cZero) ∨ (nextE c = 0 ∧ mayB n = false ∧ withE c n = 2 ∧ withF c n = cZero) ∨ (nextE c = 0 ∧ mayB n = true ∧ ¬ pos n c.ms < 0 ∧ withE c n = 62 ∧ withF c n = cZero) ∨ (nextE c = 0 ∧ mayB n = true ∧ pos n c.ms < 0 ∧ withE c n = 0 ∧ withF c n = withC c n) := by
  unfold withF withE
  by_cases h1 : nextE c = 0
  · rw [if_neg (show ¬ nextE c = 2 by omega)]
    cases h2 : mayB n
    · exact .inr (.inl ⟨h1, rfl, by simp, by simp⟩)
    by_cases h3 : pos n c.ms < 0
    · exact .inr (.inr (.inr ⟨h1, rfl, h3, by simp [h3], by simp [h3]⟩))
    · exact .inr (.inr (.inl ⟨h1, rfl, h3, by simp [h3], by simp [h3]⟩))
  · have h1 := nextE_two h1
    exact .inl ⟨h1, if_pos h1, by rw [if_pos h1]; rfl⟩
set_option maxRecDepth 100000 in
set_option maxHeartbeats 1000000 in
theorem with_any (h : Sl w ad cap c.ms) (n : Int) : Calls Try.prog 17 #[chV c (.slice ad c.ms.length cap), .int .i64 n] w (NewCE (withF c n) (withE c n) w) := by
  have C := fun w' (k : Chg noBlk w w') => checkNext_any (h.no k)
  have HP := hide (fun w' (k : Chg noBlk w w') => place_any (h.no k) n)
  have HM := hide (fun w' => mayBe_any n w')
  have ta : True := True.intro
  rcases with_ways c n with ⟨q1, q, qf⟩ | ⟨q1, q2, q, qf⟩ | ⟨q1, q2, q3, q, qf⟩ | ⟨q1, q2, q3, q, qf⟩
  · rw [q, qf]
    rw [q1] at C
    have HC := hide C
    clear C q1 q qf h
    go_enter Try.func17, Try.ntmps17
    go_wp2_with (first
      | (go_at_call 39; (with_reducible refine (unhide HC _ (k1.andNo k2)).mono ?_); rintro e w3 ⟨rfl, k3⟩; have g3 := k3.at g2 id)
      | ((with_reducible show wpList _ _ _ (_ :: _) _ _); first
        | (refine wpL_box rfl 24 _ rfl (chC c (.slice ad c.ms.length cap)) (by rfl) ?_; intro p w1 e1 k1 g1 z1; have G1 : ChAt w1 p c (.slice ad c.ms.length cap) := g1; clear e1 z1 g1)
        | (refine wpL_alloc rfl 24 rfl _ zero_ch ?_; intro q w2 e2 k2 g2 z2; have E2 := hide (show w1.heap.size ≤ q from Nat.le_of_eq e2); have G2 := G1.no k2; clear z2 e2 G1)
        | (refine wpL_load rfl 24 (.tmp 2) rfl p rfl (chC c (.slice ad c.ms.length cap)) _ _ G2 _ Try.underlying24 rfl info_ch ?_)
        | (refine wpL_store rfl 24 (.tmp 4) (.tmp 10) rfl q (chC cZero (.slice none 0 0)) rfl (by rfl) _ _ g3 info_ch rfl cZero_one ?_; intro w4 k4 g4 z4; have K4 := (k2.andNo k3).past k4 (unhide E2); clear z4)))
    refine bodyPost_ret (ret_ch2 rfl _ _ q cZero _ rfl g4) rfl ?_
    exact newCE_zero (k1.andNo K4)
  · rw [q, qf]
    rw [q1] at C
    have HC := hide C
    clear C q1 q qf h
    go_enter Try.func17, Try.ntmps17
    go_wp2_with (first
      | (go_at_call 39; (with_reducible refine (unhide HC _ (k1.andNo k2)).mono ?_); rintro e w3 ⟨rfl, k3⟩; have g3 := k3.at g2 id)
      | (go_at_call 35; (with_reducible refine (unhide HM _).mono ?_); rintro e w5 ⟨rfl, rfl⟩)
      | ((with_reducible show wpList _ _ _ (_ :: _) _ _); first
        | (refine wpL_box rfl 24 _ rfl (chC c (.slice ad c.ms.length cap)) (by rfl) ?_; intro p w1 e1 k1 g1 z1; have G1 : ChAt w1 p c (.slice ad c.ms.length cap) := g1; clear e1 z1 g1)
        | (refine wpL_alloc rfl 24 rfl _ zero_ch ?_; intro q w2 e2 k2 g2 z2; have E2 := hide (show w1.heap.size ≤ q from Nat.le_of_eq e2); have G2 := G1.no k2; clear z2 e2 G1)
        | (refine wpL_load rfl 24 (.tmp 2) rfl p rfl (chC c (.slice ad c.ms.length cap)) _ _ G2 _ Try.underlying24 rfl info_ch ?_)
        | (refine wpL_store rfl 24 (.tmp 4) (.tmp 15) rfl q (chC cZero (.slice none 0 0)) rfl (by rfl) _ _ g3 info_ch rfl cZero_one ?_; intro w4 k4 g4 z4; have K4 := (k2.andNo k3).past k4 (unhide E2); clear z4)))
    refine bodyPost_ret (ret_ch2 rfl _ _ q cZero _ rfl g4) rfl ?_
    exact newCE_zero (k1.andNo K4)
  · rw [q, qf]
    rw [q1] at C
    have HC := hide C
    clear C q1 q qf h
    go_enter Try.func17, Try.ntmps17
    go_wp2_with (first
      | (go_at_call 39; (with_reducible refine (unhide HC _ (k1.andNo k2)).mono ?_); rintro e w3 ⟨rfl, k3⟩; have c1 := (G2.no k3).c1)
      | (go_at_call 35; (with_reducible refine (unhide HM _).mono ?_); rintro e w5 ⟨rfl, rfl⟩)
      | (go_at_call 36; (with_reducible refine (unhide HP _ ((k1.andNo k2).andNo k3)).mono ?_); rintro e w6 ⟨rfl, k6⟩; have g3 := (k3.andNo k6).at g2 id)
      | ((with_reducible show wpList _ _ _ (_ :: _) _ _); first
        | (refine wpL_box rfl 24 _ rfl (chC c (.slice ad c.ms.length cap)) (by rfl) ?_; intro p w1 e1 k1 g1 z1; have G1 : ChAt w1 p c (.slice ad c.ms.length cap) := g1; clear e1 z1 g1)
        | (refine wpL_alloc rfl 24 rfl _ zero_ch ?_; intro q w2 e2 k2 g2 z2; have E2 := hide (show w1.heap.size ≤ q from Nat.le_of_eq e2); have G2 := G1.no k2; clear z2 e2 G1)
        | (refine wpL_load rfl 24 (.tmp 2) rfl p rfl (chC c (.slice ad c.ms.length cap)) _ _ G2 _ Try.underlying24 rfl info_ch ?_)
        | (refine wpL_store rfl 24 (.tmp 4) (.tmp 21) rfl q (chC cZero (.slice none 0 0)) rfl (by rfl) _ _ g3 info_ch rfl cZero_one ?_; intro w4 k4 g4 z4; have K4 := ((k2.andNo k3).andNo k6).past k4 (unhide E2); clear z4)))
    refine bodyPost_ret (ret_ch2 rfl _ _ q cZero _ rfl g4) rfl ?_
    exact newCE_zero (k1.andNo K4)
  · rw [q, qf]
    obtain ⟨gg, hl⟩ := nextE_of q1
    have gg := good_iff.1 gg
    have HN := hide (fun w' (k : Chg noBlk w w') => cnext_any (h.no k) gg.ep1 gg.ep2)
    have l2 := gg.len2
    have HL2 := hide l2
    rw [q1] at C
    have HC := hide C
    have HI := hide infx_mem
    clear C q1 q qf h gg l2
    go_enter Try.func17, Try.ntmps17
    go_wp2_with (first
      | (go_at_call 39; (with_reducible refine (unhide HC _ (k1.andNo k2)).mono ?_); rintro e w3 ⟨rfl, k3⟩; have c1 := (G2.no k3).c1)
      | (go_at_call 35; (with_reducible refine (unhide HM _).mono ?_); rintro e w5 ⟨rfl, rfl⟩)
      | (go_at_call 36; (with_reducible refine (unhide HP _ ((k1.andNo k2).andNo k3)).mono ?_); rintro e w6 ⟨rfl, k6⟩; have K6 := k3.andNo k6; have G6 := G2.no K6; clear ta)
      | (go_at_call 40; (with_reducible refine (unhide HN _ ((k1.andNo k2).andNo K6)).mono ?_); rintro e w7 ⟨v7, rfl, k7, o7, f7⟩; obtain ⟨a7, c7, rfl, _, _, _⟩ := o7.form MT.len; have K7 := K6.andNo k7; have g7 := K7.at g2 id)
      | ((with_reducible show wpList _ _ _ (_ :: _) _ _); first
        | (refine wpL_box rfl 24 _ rfl (chC c (.slice ad c.ms.length cap)) (by rfl) ?_; intro p w1 e1 k1 g1 z1; have G1 : ChAt w1 p c (.slice ad c.ms.length cap) := g1; clear e1 z1 g1)
        | (refine wpL_alloc rfl 24 rfl _ zero_ch ?_; intro q w2 e2 k2 g2 z2; have E2 := hide (show w1.heap.size ≤ q from Nat.le_of_eq e2); have G2 := G1.no k2; clear z2 e2 G1)
        | (have t := ta; refine wpL_load rfl 24 (.tmp 2) rfl p rfl (chC c (.slice ad c.ms.length cap)) _ _ G2 _ Try.underlying24 rfl info_ch ?_)
        | (refine wpL_load rfl 24 (.tmp 2) rfl p rfl (chC c (.slice ad c.ms.length cap)) _ _ G6 _ Try.underlying24 rfl info_ch ?_)
        | (refine wpL_store rfl 24 (.tmp 4) (.tmp 23) rfl q (chC ⟨c.ep + 1, c.ms, c.dr⟩ (.slice a7 c.ms.length c7)) rfl (by rfl) _ _ g7 info_ch rfl (all_oneCell_toArray (one_chC (c := ⟨c.ep + 1, c.ms, c.dr⟩) o7.one)) ?_; intro w8 k8 g8 z8; have K8 := (k2.andNo K7).past k8 (unhide E2); have F8 := hide (own_far f7 (K6.lt (lt_of_block g2))); have G8 : ChAt w8 q ⟨c.ep + 1, c.ms, c.dr⟩ (.slice a7 c.ms.length c7) := g8; have o8 := OwnL.kept o7 k8 (own_not (unhide F8)); have d0 := G8.c0; have d1 := G8.c1; clear z8)
        | (refine wpL_one rfl 22 (.tmp 29) rfl 37 mZero.cells.toArray Try.underlying22 infy_mem (by decide) (by decide) (MT.cells ⟨n, c.ep + 1⟩).toArray (by rfl) rfl ?_; intro b9 w9 e9 k9 g9 z9; clear e9 z9)
        | (refine wpL_append rfl (.tmp 25) (.tmp 30) 22 (by rfl) 37 (.agg mZero.cells.toArray) 2 16 Try.underlying22 infx_mem rfl (by decide) (.slice a7 c.ms.length c7) c.ms.length (flatC MT.cells c.ms) (by rfl) (o8.no k9) (.slice (some ⟨b9, 0, none⟩) 1 1) 1 (MT.cells ⟨n, c.ep + 1⟩) (by rfl) (reads_at1 g9 rfl (MT.one _)) (by have := unhide HL2; unfold maxLen; omega) (by have := unhide HL2; omega) ?_; intro v10 w10 k10 p10 f10; have o10 := ownL_grew (c := MT.cells) (L := c.ms) (x := ⟨n, c.ep + 1⟩) p10; obtain ⟨a10, c10, rfl, _, _, _⟩ := o10.form MT.len; rw [app_len] at o10 f10; have g10 := k10.at (k9.at g8 id) (unhide F8); have G10 : ChAt w10 q ⟨c.ep + 1, c.ms, c.dr⟩ (.slice a7 c.ms.length c7) := g10)
        | (refine wpL_set rfl 22 (.tmp 32) (.tmp 31) rfl q 1 (.slice a10 (c.ms.length + 1) c10) rfl (by rfl) rfl (by kernel_rfl) _ _ g10 (by simp) ?_; intro w11 k11 g11 z11; have G11 : ChAt w11 q (withC c n) (.slice a10 (c.ms.length + 1) c10) := g11; have F11 := hide (own_grown (unhide F8) f10 (Nat.lt_of_lt_of_le (k8.lt (lt_of_block g7)) k9.size)); have o11 := OwnL.kept o10 k11 (own_not (unhide F11)))
        | (refine wpL_load rfl 24 (.tmp 4) rfl q rfl (chC (withC c n) (.slice a10 (c.ms.length + 1) c10)) _ _ G11 _ Try.underlying24 rfl info_ch ?_)
        | (refine wpL_store rfl 24 (.tmp 4) (.tmp 33) rfl q (chC (withC c n) (.slice a10 (c.ms.length + 1) c10)) rfl (by rfl) _ _ G11 info_ch rfl (all_oneCell_toArray (one_chC (c := withC c n) o10.one)) ?_; intro w12 k12 g12 z12; have o12 := OwnL.kept o11 k12 (own_not (unhide F11)))))
    refine bodyPost_ret (ret_ch2 rfl _ _ q (withC c n) _ rfl g12) rfl ?_
    exact ⟨_, rfl, withC_chg k1 k2 K6 k7 f7 (unhide E2) K8 k9 k10 k11 k12, o12, withC_new k1 k2 K6 k7 f7 K8 k9 f10⟩
end
end Go.Proofs.Ytiapkmncgafofaa
