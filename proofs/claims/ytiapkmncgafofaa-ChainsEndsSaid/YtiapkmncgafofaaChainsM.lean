/-
  Chains: a contract of Without.
-/
import Derived.Test.YtiapkmncgafofaaChainsL
namespace Go.Proofs.Ytiapkmncgafofaa
open Go.ChangeShapes Go.WideShapes Go.ChangeAt Go.RowKit
set_option linter.unusedVariables false
theorem sl_of {w : World} {e : TypeId} {ad : Option Addr} {n cap : Nat} {L : List MT} (h : OwnL w e MT.cells 2 (.slice ad n cap) L) (hf : L.length ≤ 100) (hn : n = L.length) : Sl w ad cap L := by
  subst hn
  obtain ⟨ad', cap', h1, h2⟩ := sl_own h hf
  injection h1 with a1 a2 a3
  subst a1
  subst a3
  exact h2
theorem filter_erase {L : List MT} {k : Nat} {x : MT} {n : Int} (hx : L[k]? = some x) (hn : x.node = n) (h : ∀ (j : Nat) y, L[j]? = some y → y.node = n → j = k) : L.filter (fun m => decide (m.node ≠ n)) = L.eraseIdx k := by
  have hk := (List.getElem?_eq_some_iff.1 hx).1
  have e : L = L.take k ++ x :: L.drop (k + 1) := by
    have h2 := List.take_append_drop k L
    rw [List.drop_eq_getElem_cons hk, (List.getElem?_eq_some_iff.1 hx).2] at h2
    exact h2.symm
  rw [List.eraseIdx_eq_take_drop_succ]
  conv => lhs; rw [e]
  rw [List.filter_append, List.filter_cons, if_neg (by simp [hn])]
  congr 1
  · refine List.filter_eq_self.2 fun y hy => ?_
    obtain ⟨j, hj⟩ := List.mem_iff_getElem?.1 hy
    rw [List.getElem?_take] at hj
    split at hj
    · simp
      intro e
      have := h j y hj e
      omega
    · cases hj
  · refine List.filter_eq_self.2 fun y hy => ?_
    obtain ⟨j, hj⟩ := List.mem_iff_getElem?.1 hy
    rw [List.getElem?_drop] at hj
    simp
    intro e
    have := h _ y hj e
    omega
theorem good_uniq {c : CT} (g : good c = true) {n : Int} {k : Nat} (hk : pos n c.ms = (k : Int)) : ∀ (j : Nat) y, c.ms[j]? = some y → y.node = n → j = k := by
  intro j y hy e
  have := (memB_yes.1 ((good_iff.1 g).mem j y hy)).2.1
  rw [e, hk] at this
  omega
theorem erase_of {c : CT} (g : good c = true) {n : Int} {k : Nat} (hk : pos n c.ms = (k : Int)) (hlt : k < c.ms.length) : c.ms.filter (fun m => decide (m.node ≠ n)) = c.ms.eraseIdx k := by
  rcases pos_ways n c.ms with ⟨h1, _⟩ | ⟨i, m, h1, h2, h3, h4⟩
  · omega
  · obtain rfl : i = k := by omega
    exact filter_erase h2 h3 (good_uniq g hk)
theorem wo_chg {w w1 w2 w3 w9 w10 w13 : World} {v : Value} {q : Nat} (k1 : Chg noBlk w w1) (k2 : Chg noBlk w1 w2) (k3 : Chg noBlk w2 w3) (f7 : ∀ g, v.ownBlock = some g → w3.heap.size ≤ g) (hq : w1.heap.size ≤ q) (k9 : Chg noBlk w1 w9) (k10 : Chg (fun k => v.ownBlock = some k) w9 w10) (k13 : Chg (oneBlk q) w10 w13) : Chg noBlk w w13 := by
  have s1 := k1.size
  have s2 := k2.size
  have s3 := k3.size
  have b := (k1.andNo k9).trans k10 (S := noBlk) fun i hi e => by have := f7 i e; omega
  exact b.past k13 (by omega)
theorem wo_new {w w1 w2 w3 : World} {v v' : Value} (k1 : Chg noBlk w w1) (k2 : Chg noBlk w1 w2) (k3 : Chg noBlk w2 w3) (f7 : ∀ g, v.ownBlock = some g → w3.heap.size ≤ g) (f : v'.ownBlock = v.ownBlock) : ∀ g, v'.ownBlock = some g → w.heap.size ≤ g := by
  have s1 := k1.size
  have s2 := k2.size
  have s3 := k3.size
  intro g hg
  have := f7 g (f ▸ hg)
  omega
section
variable {w : World} {ad : Option Addr} {cap : Nat} {c : CT}
theorem wo_ways (c : CT) (n : Int) : ((goE c n != 0) = true ∧ woF c n = cZero) ∨ (goE c n = 0 ∧ ∃ k : Nat, pos n c.ms = (k : Int) ∧ k < c.ms.length ∧ woF c n = ⟨c.ep + 1, c.ms.eraseIdx k, if c.dr = n then -1 else c.dr⟩) := by
  unfold woF
  by_cases h1 : goE c n = 0
  · have h2 := goE_of h1
    obtain ⟨k, x, hk, hx, _, _⟩ := pos_yes h2.2.1
    have hl := (List.getElem?_eq_some_iff.1 hx).1
    refine .inr ⟨h1, k, hk, hl, ?_⟩
    rw [if_pos h1]
    unfold woC
    rw [erase_of (nextE_of h2.1).1 hk hl]
  · exact .inl ⟨by simp [h1], by simp [h1]⟩
set_option maxRecDepth 100000 in
set_option maxHeartbeats 1000000 in
theorem without_any (h : Sl w ad cap c.ms) (n : Int) : Calls Try.prog 19 #[chV c (.slice ad c.ms.length cap), .int .i64 n] w (NewCE (woF c n) (goE c n) w) := by
  have C := fun w' (k : Chg noBlk w w') => checkGo_any (h.no k) n
  have ta : True := True.intro
  rcases wo_ways c n with ⟨q1, qf⟩ | ⟨q1, k, hk, hlt, qf⟩
  · rw [qf]
    generalize goE c n = m at *
    have HC := hide C
    clear C qf h
    go_enter Try.func19, Try.ntmps19
    go_wp2_with (first
      | (go_at_call 41; (with_reducible refine (unhide HC _ (k1.andNo k2)).mono ?_); rintro e w3 ⟨rfl, k3⟩; have g3 := k3.at g2 id)
      | ((with_reducible show wpList _ _ _ (_ :: _) _ _); first
        | (refine wpL_box rfl 24 _ rfl (chC c (.slice ad c.ms.length cap)) (by rfl) ?_; intro p w1 e1 k1 g1 z1; have G1 : ChAt w1 p c (.slice ad c.ms.length cap) := g1; clear e1 z1 g1)
        | (refine wpL_alloc rfl 24 rfl _ zero_ch ?_; intro q w2 e2 k2 g2 z2; have E2 := hide (show w1.heap.size ≤ q from Nat.le_of_eq e2); have G2 := G1.no k2; clear z2 e2 G1)
        | (refine wpL_load rfl 24 (.tmp 2) rfl p rfl (chC c (.slice ad c.ms.length cap)) _ _ G2 _ Try.underlying24 rfl info_ch ?_)
        | (refine wpL_store rfl 24 (.tmp 4) (.tmp 12) rfl q (chC cZero (.slice none 0 0)) rfl (by rfl) _ _ g3 info_ch rfl cZero_one ?_; intro w4 k4 g4 z4; have K4 := (k2.andNo k3).past k4 (unhide E2); clear z4)))
    refine bodyPost_ret (ret_ch2 rfl _ _ q cZero _ rfl g4) rfl ?_
    exact newCE_zero (k1.andNo K4)
  · rw [qf, q1]
    have q3 := (nextE_of (goE_of q1).1).1
    have gg := good_iff.1 q3
    have HN := hide (fun w' (k : Chg noBlk w w') => cnext_any (h.no k) gg.ep1 gg.ep2)
    have HF := hide (show c.ms.length ≤ 100 by have := gg.len2; omega)
    rw [q1] at C
    have HC := hide C
    have HK := hide hk
    have hl6 := gg.len2
    have hs : (k : Int) + 1 ≤ 100 := by omega
    clear C q1 qf h gg q3 hk
    by_cases hd : c.dr = n
    · have d1 : (c.dr == n) = true := beq_iff_eq.2 hd
      rw [if_pos hd]
      clear hd
      go_enter Try.func19, Try.ntmps19
      go_wp2_with (first
        | (go_at_call 41; (with_reducible refine (unhide HC _ (k1.andNo k2)).mono ?_); rintro e w3 ⟨rfl, k3⟩; have G6 := G2.no k3; clear ta)
        | (go_at_call 40; (with_reducible refine (unhide HN _ ((k1.andNo k2).andNo k3)).mono ?_); rintro e w7 ⟨v7, rfl, k7, o7, f7⟩; obtain ⟨a7, c7, rfl, _, _, _⟩ := o7.form MT.len; have K7 := k3.andNo k7; have g7 := K7.at g2 id)
        | (go_at_call 36; (with_reducible refine (place_any (sl_of o8 (unhide HF) rfl) n).mono ?_); rintro e w9 ⟨rfl, k9⟩; rw [unhide HK]; have o9 := o8.no k9; have g9 := k9.at g8 id; have d1 : w9.cell? ⟨q, 1, none⟩ = some (.slice a7 c.ms.length c7) := cellAt g9 1 _ rfl)
        | (go_at_call 42; (with_reducible refine (delete_any o9 hlt (unhide HF)).mono ?_); rintro e w10 ⟨v10, rfl, k10, o10, f10⟩; have F10 := hide (own_grown (n := q + 1) (unhide F8) (.inl f10) (by omega)); have g10 := k10.at g9 (unhide F8); clear d1)
        | ((with_reducible show wpList _ _ _ (_ :: _) _ _); first
          | (refine wpL_box rfl 24 _ rfl (chC c (.slice ad c.ms.length cap)) (by rfl) ?_; intro p w1 e1 k1 g1 z1; have G1 : ChAt w1 p c (.slice ad c.ms.length cap) := g1; clear e1 z1 g1)
          | (refine wpL_alloc rfl 24 rfl _ zero_ch ?_; intro q w2 e2 k2 g2 z2; have E2 := hide (show w1.heap.size ≤ q from Nat.le_of_eq e2); have G2 := G1.no k2; clear z2 e2 G1)
          | (have t := ta; refine wpL_load rfl 24 (.tmp 2) rfl p rfl (chC c (.slice ad c.ms.length cap)) _ _ G2 _ Try.underlying24 rfl info_ch ?_)
          | (refine wpL_load rfl 24 (.tmp 2) rfl p rfl (chC c (.slice ad c.ms.length cap)) _ _ G6 _ Try.underlying24 rfl info_ch ?_)
          | (refine wpL_store rfl 24 (.tmp 4) (.tmp 15) rfl q (chC ⟨c.ep + 1, c.ms, c.dr⟩ (.slice a7 c.ms.length c7)) rfl (by rfl) _ _ g7 info_ch rfl (all_oneCell_toArray (one_chC (c := ⟨c.ep + 1, c.ms, c.dr⟩) o7.one)) ?_; intro w8 k8 g8 z8; have K8 := (k2.andNo K7).past k8 (unhide E2); have F8 := hide (own_far f7 (k3.lt (lt_of_block g2))); have o8 := OwnL.kept o7 k8 (own_not (unhide F8)); have d1 : w8.cell? ⟨q, 1, none⟩ = some (.slice a7 c.ms.length c7) := cellAt g8 1 _ rfl; clear z8)
          | (refine wpL_set rfl 22 (.tmp 26) (.tmp 25) rfl q 1 v10 rfl (by rfl) o10.one (by kernel_rfl) _ _ g10 (by simp) ?_; intro w11 k11 g11 z11; have o11 := OwnL.kept o10 k11 (own_not (unhide F10)); have d2 : w11.cell? ⟨q, 2, none⟩ = some (.int .i64 c.dr) := cellAt g11 2 _ rfl)
          | (refine wpL_set rfl 3 (.tmp 31) (.const (.int .i64 (-1))) rfl q 2 (.int .i64 (-1)) rfl (by rfl) rfl (by kernel_rfl) _ _ g11 (by simp) ?_; intro w12 k12 g12 z12; have G12 : ChAt w12 q ⟨c.ep + 1, c.ms.eraseIdx k, -1⟩ v10 := g12; have o12 := OwnL.kept o11 k12 (own_not (unhide F10)))
          | (refine wpL_load rfl 24 (.tmp 4) rfl q rfl (chC ⟨c.ep + 1, c.ms.eraseIdx k, -1⟩ v10) _ _ G12 _ Try.underlying24 rfl info_ch ?_)
          | (refine wpL_store rfl 24 (.tmp 4) (.tmp 32) rfl q (chC ⟨c.ep + 1, c.ms.eraseIdx k, -1⟩ v10) rfl (by rfl) _ _ G12 info_ch rfl (all_oneCell_toArray (one_chC (c := ⟨c.ep + 1, c.ms.eraseIdx k, -1⟩) o10.one)) ?_; intro w13 k13 g13 z13; have o13 := OwnL.kept o12 k13 (own_not (unhide F10)))))
      refine bodyPost_ret (ret_ch2 rfl _ _ q ⟨c.ep + 1, c.ms.eraseIdx k, -1⟩ _ rfl g13) rfl ?_
      exact ⟨_, rfl, wo_chg k1 k2 k3 f7 (unhide E2) (K8.andNo k9) k10 ((k11.trans k12 fun _ _ e => e).trans k13 fun _ _ e => e), o13, wo_new k1 k2 k3 f7 f10⟩
    · have d1 : (c.dr == n) = false := beq_eq_false_iff_ne.2 hd
      rw [if_neg hd]
      clear hd
      go_enter Try.func19, Try.ntmps19
      go_wp2_with (first
        | (go_at_call 41; (with_reducible refine (unhide HC _ (k1.andNo k2)).mono ?_); rintro e w3 ⟨rfl, k3⟩; have G6 := G2.no k3; clear ta)
        | (go_at_call 40; (with_reducible refine (unhide HN _ ((k1.andNo k2).andNo k3)).mono ?_); rintro e w7 ⟨v7, rfl, k7, o7, f7⟩; obtain ⟨a7, c7, rfl, _, _, _⟩ := o7.form MT.len; have K7 := k3.andNo k7; have g7 := K7.at g2 id)
        | (go_at_call 36; (with_reducible refine (place_any (sl_of o8 (unhide HF) rfl) n).mono ?_); rintro e w9 ⟨rfl, k9⟩; rw [unhide HK]; have o9 := o8.no k9; have g9 := k9.at g8 id; have d1 : w9.cell? ⟨q, 1, none⟩ = some (.slice a7 c.ms.length c7) := cellAt g9 1 _ rfl)
        | (go_at_call 42; (with_reducible refine (delete_any o9 hlt (unhide HF)).mono ?_); rintro e w10 ⟨v10, rfl, k10, o10, f10⟩; have F10 := hide (own_grown (n := q + 1) (unhide F8) (.inl f10) (by omega)); have g10 := k10.at g9 (unhide F8); clear d1)
        | ((with_reducible show wpList _ _ _ (_ :: _) _ _); first
          | (refine wpL_box rfl 24 _ rfl (chC c (.slice ad c.ms.length cap)) (by rfl) ?_; intro p w1 e1 k1 g1 z1; have G1 : ChAt w1 p c (.slice ad c.ms.length cap) := g1; clear e1 z1 g1)
          | (refine wpL_alloc rfl 24 rfl _ zero_ch ?_; intro q w2 e2 k2 g2 z2; have E2 := hide (show w1.heap.size ≤ q from Nat.le_of_eq e2); have G2 := G1.no k2; clear z2 e2 G1)
          | (have t := ta; refine wpL_load rfl 24 (.tmp 2) rfl p rfl (chC c (.slice ad c.ms.length cap)) _ _ G2 _ Try.underlying24 rfl info_ch ?_)
          | (refine wpL_load rfl 24 (.tmp 2) rfl p rfl (chC c (.slice ad c.ms.length cap)) _ _ G6 _ Try.underlying24 rfl info_ch ?_)
          | (refine wpL_store rfl 24 (.tmp 4) (.tmp 15) rfl q (chC ⟨c.ep + 1, c.ms, c.dr⟩ (.slice a7 c.ms.length c7)) rfl (by rfl) _ _ g7 info_ch rfl (all_oneCell_toArray (one_chC (c := ⟨c.ep + 1, c.ms, c.dr⟩) o7.one)) ?_; intro w8 k8 g8 z8; have K8 := (k2.andNo K7).past k8 (unhide E2); have F8 := hide (own_far f7 (k3.lt (lt_of_block g2))); have o8 := OwnL.kept o7 k8 (own_not (unhide F8)); have d1 : w8.cell? ⟨q, 1, none⟩ = some (.slice a7 c.ms.length c7) := cellAt g8 1 _ rfl; clear z8)
          | (refine wpL_set rfl 22 (.tmp 26) (.tmp 25) rfl q 1 v10 rfl (by rfl) o10.one (by kernel_rfl) _ _ g10 (by simp) ?_; intro w11 k11 g11 z11; have o11 := OwnL.kept o10 k11 (own_not (unhide F10)); have d2 : w11.cell? ⟨q, 2, none⟩ = some (.int .i64 c.dr) := cellAt g11 2 _ rfl; have G11 : ChAt w11 q ⟨c.ep + 1, c.ms.eraseIdx k, c.dr⟩ v10 := g11)
          | (refine wpL_load rfl 24 (.tmp 4) rfl q rfl (chC ⟨c.ep + 1, c.ms.eraseIdx k, c.dr⟩ v10) _ _ G11 _ Try.underlying24 rfl info_ch ?_)
          | (refine wpL_store rfl 24 (.tmp 4) (.tmp 32) rfl q (chC ⟨c.ep + 1, c.ms.eraseIdx k, c.dr⟩ v10) rfl (by rfl) _ _ G11 info_ch rfl (all_oneCell_toArray (one_chC (c := ⟨c.ep + 1, c.ms.eraseIdx k, c.dr⟩) o10.one)) ?_; intro w13 k13 g13 z13; have o13 := OwnL.kept o11 k13 (own_not (unhide F10)))))
      refine bodyPost_ret (ret_ch2 rfl _ _ q ⟨c.ep + 1, c.ms.eraseIdx k, c.dr⟩ _ rfl g13) rfl ?_
      exact ⟨_, rfl, wo_chg k1 k2 k3 f7 (unhide E2) (K8.andNo k9) k10 (k11.trans k13 fun _ _ e => e), o13, wo_new k1 k2 k3 f7 f10⟩
end
end Go.Proofs.Ytiapkmncgafofaa
