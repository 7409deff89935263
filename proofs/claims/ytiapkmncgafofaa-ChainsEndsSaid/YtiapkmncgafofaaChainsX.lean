/-
  Chains: the chapter's chain.
-/
import Derived.Test.YtiapkmncgafofaaChainsW
import Derived.Deep.DeepCutAuto
namespace Go.Proofs.Ytiapkmncgafofaa
open Go.ChangeShapes Go.WideShapes Go.ChangeAt Go.RowKit
set_option linter.unusedVariables false
attribute [local go_sem ↓] eq_mem
attribute [local go_sem] eqMb_self
/-- told: a chain of its own, and a number; the members at hand -/
theorem newCE_open {d : CT} {n : Int} {w w' : World} {x : Ending} (h : NewCE d n w x w') (hf : d.ms.length ≤ 100) : ∃ ad cap, x = .returned (.tuple #[.agg #[.int .i64 d.ep, .slice ad d.ms.length cap, .int .i64 d.dr], .int .i64 n]) ∧ Chg noBlk w w' ∧ Sl w' ad cap d.ms := by
  obtain ⟨v, rfl, k, o, f⟩ := h
  obtain ⟨ad, cap, rfl, s⟩ := sl_own o hf
  exact ⟨ad, cap, rfl, k, s⟩
section
variable {w : World} {ad : Option Addr} {cap : Nat}
theorem lkW (h : Sl w ad cap cL.ms) : Calls Try.prog 17 #[.agg #[.int .i64 3, .slice ad 2 cap, .int .i64 (-1)], .int .i64 1] w (fun x w' => ∃ g off cap, x = .returned (.tuple #[.agg #[.int .i64 4, .slice (some ⟨g, off, none⟩) 3 cap, .int .i64 (-1)], .int .i64 0]) ∧ Chg noBlk w w' ∧ w'.cell? ⟨g, off + 4, none⟩ = some (.int .i64 1) ∧ w'.cell? ⟨g, off + 4 + 1, none⟩ = some (.int .i64 4)) := by
  have := with_any (c := cL) h 1
  rw [lk1.1, lk1.2] at this
  refine this.mono fun x w' hx => ?_
  obtain ⟨ad, cap, rfl, k, s⟩ := newCE_open hx (by decide)
  obtain ⟨g, off, rfl, m0, m1⟩ := s.at (i := 2) (x := ⟨1, 4⟩) rfl
  exact ⟨g, off, cap, rfl, k, m0, m1⟩
theorem lkO (h : Sl w ad cap cL.ms) : Calls Try.prog 19 #[.agg #[.int .i64 3, .slice ad 2 cap, .int .i64 (-1)], .int .i64 2] w (fun x w' => ∃ g off cap, x = .returned (.tuple #[.agg #[.int .i64 4, .slice (some ⟨g, off, none⟩) 1 cap, .int .i64 (-1)], .int .i64 0]) ∧ Chg noBlk w w' ∧ w'.cell? ⟨g, off, none⟩ = some (.int .i64 0) ∧ w'.cell? ⟨g, off + 1, none⟩ = some (.int .i64 3)) := by
  have := without_any (c := cL) h 2
  rw [lk2.1, lk2.2] at this
  refine this.mono fun x w' hx => ?_
  obtain ⟨ad, cap, rfl, k, s⟩ := newCE_open hx (by decide)
  obtain ⟨g, off, rfl, m0, m1⟩ := s.at (i := 0) (x := ⟨0, 3⟩) rfl
  rw [Nat.zero_mul, Nat.add_zero] at m0 m1
  exact ⟨g, off, cap, rfl, k, m0, m1⟩
theorem lkD (h : Sl w ad cap cL.ms) : Calls Try.prog 21 #[.agg #[.int .i64 3, .slice ad 2 cap, .int .i64 (-1)], .int .i64 0] w (fun x w' => ∃ ad cap, x = .returned (.tuple #[.agg #[.int .i64 4, .slice ad 2 cap, .int .i64 0], .int .i64 0]) ∧ Chg noBlk w w' ∧ Sl w' ad cap cD.ms) := by
  have := drain_any (c := cL) h 0
  rw [lk3.1, lk3.2] at this
  exact this.mono fun x w' hx => newCE_open hx (by decide)
theorem lkE (h : Sl w ad cap cD.ms) : Calls Try.prog 21 #[.agg #[.int .i64 4, .slice ad 2 cap, .int .i64 0], .int .i64 2] w (fun x w' => ∃ ad cap, x = .returned (.tuple #[.agg #[.int .i64 0, .slice ad 0 cap, .int .i64 0], .int .i64 62]) ∧ Chg noBlk w w') := by
  have := drain_any (c := cD) h 2
  rw [lk4.1, lk4.2] at this
  refine this.mono fun x w' hx => ?_
  obtain ⟨ad, cap, rfl, k, s⟩ := newCE_open hx (by decide)
  exact ⟨ad, cap, rfl, k⟩
theorem lkH (h : Sl w ad cap cL.ms) : Calls Try.prog 25 #[.agg #[.int .i64 3, .slice ad 2 cap, .int .i64 (-1)]] w (ToldN (.int .i64 2) w) := by
  have := head_any (c := cL) h
  rw [lk5.1] at this
  exact this
theorem lkT (h : Sl w ad cap cL.ms) : Calls Try.prog 28 #[.agg #[.int .i64 3, .slice ad 2 cap, .int .i64 (-1)]] w (ToldN (.int .i64 0) w) := by
  have := tail_any (c := cL) h
  rw [lk5.2.1] at this
  exact this
theorem lkN (h : Sl w ad cap cL.ms) : Calls Try.prog 26 #[.agg #[.int .i64 3, .slice ad 2 cap, .int .i64 (-1)], .int .i64 2] w (ToldN (.int .i64 0) w) := by
  have := next_any (c := cL) h 2
  rw [lk5.2.2.1] at this
  exact this
theorem lkP (h : Sl w ad cap cL.ms) : Calls Try.prog 27 #[.agg #[.int .i64 3, .slice ad 2 cap, .int .i64 (-1)], .int .i64 2] w (ToldN (.int .i64 (-1)) w) := by
  have := prev_any (c := cL) h 2
  rw [lk5.2.2.2] at this
  exact this
theorem three_one (e d : Int) (v : Value) (hv : v.oneCell' = true) : (#[.int .i64 e, v, .int .i64 d] : Array Value).all (·.oneCell') = true := all_oneCell_toArray (one_chC (c := ⟨e, [], d⟩) hv)
/-- three cells of a chain -/
theorem three_at {w : World} {b : Nat} {e d : Int} {v : Value} (h : w.heap[b]? = some (.cells #[.int .i64 e, v, .int .i64 d] 24 (0, 0))) : w.cell? ⟨b, 0, none⟩ = some (.int .i64 e) ∧ w.cell? ⟨b, 1, none⟩ = some v ∧ w.cell? ⟨b, 2, none⟩ = some (.int .i64 d) := ⟨cellAt h 0 _ rfl, cellAt h 1 _ rfl, cellAt h 2 _ rfl⟩
end
set_option maxRecDepth 100000 in
set_option maxHeartbeats 2000000 in
theorem linked_any (w : World) : Calls Try.prog 9 #[] w (ToldN (.bool true) w) := by
  have HW := hide (fun w' ad cap h => lkW (w := w') (ad := ad) (cap := cap) h)
  have HO := hide (fun w' ad cap h => lkO (w := w') (ad := ad) (cap := cap) h)
  have HD := hide (fun w' ad cap h => lkD (w := w') (ad := ad) (cap := cap) h)
  have HE := hide (fun w' ad cap h => lkE (w := w') (ad := ad) (cap := cap) h)
  have HH := hide (fun w' ad cap h => lkH (w := w') (ad := ad) (cap := cap) h)
  have HT := hide (fun w' ad cap h => lkT (w := w') (ad := ad) (cap := cap) h)
  have HN := hide (fun w' ad cap h => lkN (w := w') (ad := ad) (cap := cap) h)
  have HP := hide (fun w' ad cap h => lkP (w := w') (ad := ad) (cap := cap) h)
  go_enter Try.func9, Try.ntmps9
  go_upto_region 6 with (first
    | (go_at_call 17; (with_reducible refine (unhide HW _ _ _ (unhide HS _ (Chg.refl _ _))).mono ?_); rintro e w4 ⟨g4, o4, c4, rfl, k4, m4, m5⟩; have G4 := unhide HG _ k4)
    | (go_at_call 19; (with_reducible refine (unhide HO _ _ _ (unhide HS _ K6)).mono ?_); rintro e w7 ⟨g7, o7, c7, rfl, k7, m7, m8⟩; have G7 := unhide HG _ (K6.andNo k7))
    | (go_at_call 21; (with_reducible refine (unhide HE _ _ _ s12).mono ?_); rintro e w13 ⟨a13, c13, rfl, k13⟩)
    | (go_at_call 21; (with_reducible refine (unhide HD _ _ _ (unhide HS _ (K6.andNo K9))).mono ?_); rintro e w10 ⟨a10, c10, rfl, k10, s10⟩)
    | ((with_reducible show wpList _ _ _ (_ :: _) _ _); first
      | (refine wpL_two rfl (.tmp 10) (.tmp 11) rfl 2 1 0 3 (by rfl) (by rfl) ?_; intro g w1 e1 k1 g1 z1; have L1 := hide (sl_lit g1))
      | (have tk := k13; refine wpL_alloc rfl 24 rfl _ zero_ch ?_; intro p14 w14 e14 k14 g14 z14)
      | (have tk := k10; refine wpL_alloc rfl 24 rfl _ zero_ch ?_; intro p11 w11 e11 k11 g11 z11)
      | (have tk := k7; refine wpL_alloc rfl 24 rfl _ zero_ch ?_; intro p8 w8 e8 k8 g8 z8)
      | (have tk := k4; refine wpL_alloc rfl 24 rfl _ zero_ch ?_; intro p5 w5 e5 k5 g5 z5)
      | (refine wpL_alloc rfl 24 rfl _ zero_ch ?_; intro p w2 e2 k2 g2 z2)
      | (refine wpL_store rfl 24 (.tmp 1) (.tmp 13) rfl p #[.int .i64 3, .slice (some ⟨g, 0, none⟩) 2 2, .int .i64 (-1)] rfl (by rfl) _ _ g2 info_ch rfl (three_one _ _ _ rfl) ?_; intro w3 k3 g3 z3; have K3 : Chg noBlk w1 w3 := k2.past k3 (Nat.le_of_eq e2); have KK := hide (k1.andNo K3); have HG := hide (fun w' (k : Chg noBlk w3 w') => k.at g3 id); have HS := hide (fun w' (k : Chg noBlk w3 w') => ((unhide L1).no K3).no k); have G3 := g3; clear e1 e2 g2 z1 z2 z3 k3 g3 L1 k1 k2 K3)
      | (refine wpL_store rfl 24 (.tmp 2) (.tmp 17) rfl p5 #[.int .i64 4, .slice (some ⟨g4, o4, none⟩) 3 c4, .int .i64 (-1)] rfl (by rfl) _ _ g5 info_ch rfl (three_one _ _ _ rfl) ?_; intro w6 k6 g6 z6; have q6 : Chg noBlk w4 w6 := k5.past k6 (Nat.le_of_eq e5); have K6 := k4.andNo q6; have X6 := hide (fun w' (k : Chg noBlk w6 w') => And.intro (three_at (k.at g6 id)) (And.intro ((q6.andNo k).cell m4 id) ((q6.andNo k).cell m5 id))); have G6 := unhide HG _ K6; clear m4 m5 e5 g5 z5 k6 g6 z6 k5 q6 k4 G3 G4)
      | (refine wpL_store rfl 24 (.tmp 4) (.tmp 22) rfl p8 #[.int .i64 4, .slice (some ⟨g7, o7, none⟩) 1 c7, .int .i64 (-1)] rfl (by rfl) _ _ g8 info_ch rfl (three_one _ _ _ rfl) ?_; intro w9 k9 g9 z9; have q9 : Chg noBlk w7 w9 := k8.past k9 (Nat.le_of_eq e8); have K9 := k7.andNo q9; have X9 := hide (fun w' (k : Chg noBlk w9 w') => And.intro (three_at (k.at g9 id)) (And.intro ((q9.andNo k).cell m7 id) ((q9.andNo k).cell m8 id))); have G9 := unhide HG _ (K6.andNo K9); clear m7 m8 e8 g8 z8 k9 g9 z9 k8 q9 k7 G6 G7)
      | (refine wpL_store rfl 24 (.tmp 6) (.tmp 27) rfl p11 #[.int .i64 4, .slice a10 2 c10, .int .i64 0] rfl (by rfl) _ _ g11 info_ch rfl (three_one _ _ _ rfl) ?_; intro w12 k12 g12 z12; have q12 : Chg noBlk w10 w12 := k11.past k12 (Nat.le_of_eq e11); have K12 := k10.andNo q12; have X12 := hide (fun w' (k : Chg noBlk w12 w') => three_at (k.at g12 id)); have s12 := s10.no q12; clear e11 g11 z11 k12 z12 k11 q12 k10 G9 s10)
      | (refine wpL_store rfl 24 (.tmp 8) (.tmp 32) rfl p14 #[.int .i64 0, .slice a13 0 c13, .int .i64 0] rfl (by rfl) _ _ g14 info_ch rfl (three_one _ _ _ rfl) ?_; intro w15 k15 g15 z15; have q15 : Chg noBlk w13 w15 := k14.past k15 (Nat.le_of_eq e14); have J15 := k13.andNo q15; have K15 := ((K6.andNo K9).andNo K12).andNo J15; have G15 := unhide HG _ K15; clear e14 g14 z14 k15 g15 z15 k14 q15 k13 g12 s12)
      | (refine wpL_load rfl 24 (.tmp 6) rfl p11 rfl #[.int .i64 4, .slice a10 2 c10, .int .i64 0] _ _ g12 _ Try.underlying24 rfl info_ch ?_)
      | (refine wpL_load rfl 24 (.tmp 1) rfl p rfl #[.int .i64 3, .slice (some ⟨g, 0, none⟩) 2 2, .int .i64 (-1)] _ _ (by assumption) _ Try.underlying24 rfl info_ch ?_)))
  obtain ⟨x0, x1, x2⟩ := three_at G15
  go_wp2_with (first
    | (go_at_call 25; (with_reducible refine (unhide HH _ _ _ (unhide HS _ K15)).mono ?_); rintro e w16 ⟨rfl, k16⟩; clear x0 x1 x2; obtain ⟨x0, x1, x2⟩ := three_at (unhide HG _ (K15.andNo k16)))
    | (go_at_call 28; (with_reducible refine (unhide HT _ _ _ (unhide HS _ (K15.andNo k16))).mono ?_); rintro e w17 ⟨rfl, k17⟩; clear x0 x1 x2; obtain ⟨x0, x1, x2⟩ := three_at (unhide HG _ ((K15.andNo k16).andNo k17)))
    | (go_at_call 26; (with_reducible refine (unhide HN _ _ _ (unhide HS _ ((K15.andNo k16).andNo k17))).mono ?_); rintro e w18 ⟨rfl, k18⟩; clear x0 x1 x2; obtain ⟨x0, x1, x2⟩ := three_at (unhide HG _ (((K15.andNo k16).andNo k17).andNo k18)))
    | (go_at_call 27; (with_reducible refine (unhide HP _ _ _ (unhide HS _ (((K15.andNo k16).andNo k17).andNo k18))).mono ?_); rintro e w19 ⟨rfl, k19⟩; clear x0 x1 x2; have E15 := ((k16.andNo k17).andNo k18).andNo k19; obtain ⟨⟨a0, a1, a2⟩, a3, a4⟩ := unhide X6 _ (((K9.andNo K12).andNo J15).andNo E15); obtain ⟨⟨b0, b1, b2⟩, b3, b4⟩ := unhide X9 _ ((K12.andNo J15).andNo E15); obtain ⟨d0, d1, d2⟩ := unhide X12 _ (J15.andNo E15)))
  go_ret
  exact ⟨rfl, (unhide KK).andNo (K15.andNo E15)⟩
#print axioms linked_any
end Go.Proofs.Ytiapkmncgafofaa
