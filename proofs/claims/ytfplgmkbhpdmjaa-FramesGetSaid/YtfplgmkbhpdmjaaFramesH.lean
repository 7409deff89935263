/-
  Frames: a contract of getResult.
-/
import Derived.Test.YtfplgmkbhpdmjaaFramesG
namespace Go.Proofs.Ytfplgmkbhpdmjaa.Fm
open Go.ChangeShapes Go.WideShapes Go.ChangeAt Go.RowKit
set_option linter.unusedVariables false
attribute [local go_sem] bs_size bs_app bs_cut bs_tl bs_at
def FT.withRe (g : FT) (r : RT) : FT := ⟨g.n, g.op, r, g.eop, g.ch⟩
section
variable {w : World} {p : Nat} {g : FT} {v : Value} {c n t x : Int} {a y : List UInt8}
theorem fr_re0 (h : w.heap[p]? = some (.cells (((g.withRe ⟨c, a, n, t⟩).cells v).toArray.setIfInBounds 11 (.int .i64 x)) 33 (0, 0))) : FrAt w p (g.withRe ⟨x, a, n, t⟩) v := by
  unfold FrAt; rw [h]; simp [FT.cells, FT.withRe]
theorem fr_re1 (h : w.heap[p]? = some (.cells (((g.withRe ⟨c, a, n, t⟩).cells v).toArray.setIfInBounds 12 (str y)) 33 (0, 0))) : FrAt w p (g.withRe ⟨c, y, n, t⟩) v := by
  unfold FrAt; rw [h]; simp [FT.cells, FT.withRe]
theorem fr_re2 (h : w.heap[p]? = some (.cells (((g.withRe ⟨c, a, n, t⟩).cells v).toArray.setIfInBounds 13 (.int .i64 x)) 33 (0, 0))) : FrAt w p (g.withRe ⟨c, a, x, t⟩) v := by
  unfold FrAt; rw [h]; simp [FT.cells, FT.withRe]
theorem fr_re3 (h : w.heap[p]? = some (.cells (((g.withRe ⟨c, a, n, t⟩).cells v).toArray.setIfInBounds 14 (.int .i64 x)) 33 (0, 0))) : FrAt w p (g.withRe ⟨c, a, n, x⟩) v := by
  unfold FrAt; rw [h]; simp [FT.cells, FT.withRe]
theorem fr_c11 (h : FrAt w p (g.withRe ⟨c, a, n, t⟩) v) : w.cell? ⟨p, 11, none⟩ = some (.int .i64 c) := cellAt h 11 _ rfl
theorem fr_c12 (h : FrAt w p (g.withRe ⟨c, a, n, t⟩) v) : w.cell? ⟨p, 12, none⟩ = some (str a) := cellAt h 12 _ rfl
theorem fr_c13 (h : FrAt w p (g.withRe ⟨c, a, n, t⟩) v) : w.cell? ⟨p, 13, none⟩ = some (.int .i64 n) := cellAt h 13 _ rfl
theorem fr_c14 (h : FrAt w p (g.withRe ⟨c, a, n, t⟩) v) : w.cell? ⟨p, 14, none⟩ = some (.int .i64 t) := cellAt h 14 _ rfl
theorem fr_size {f : FT} {i : Nat} (h : i < 29) : i < (f.cells v).toArray.size := by rw [List.size_toArray, FT.len]; exact h
end
/-- no result has just these bytes -/
def NoR (l : List UInt8) : Prop := ∀ q : RT, resB q = true → resL q ≠ l
/-- told: a result taken into the frame at b -/
def ResT (l : List UInt8) (g : FT) (b : Nat) (w : World) (e : Ending) (w' : World) : Prop := ∃ r ok, e = .returned (.bool ok) ∧ FrAt w' b (g.withRe r) v0 ∧ Chg (oneBlk b) w w' ∧ ((ok = true ∧ resB r = true ∧ resL r = l) ∨ (ok = false ∧ NoR l))
theorem cut_any' {l t r : List UInt8} {o : Bool} (hu : cutT l = (t, r, o)) (hl : l.length ≤ 1048576) (w : World) : Calls Try.prog 55 #[str l] w (ToldN (.tuple #[str t, str r, .bool o]) w) := by
  have := cut_n l hl w
  rw [hu] at this
  exact this
theorem unint_len' {l r : List UInt8} {x : Int} {o : Bool} (hu : unintT l = (x, r, o)) : r.length ≤ l.length := by
  have := unint_len l; rw [hu] at this; exact this
theorem cut_len' {l r t : List UInt8} {o : Bool} (hu : cutT l = (t, r, o)) : r.length ≤ l.length ∧ t.length ≤ l.length := by
  rcases cut_ways l with h | ⟨k, q, h, e⟩
  · rw [hu] at h; simp at h; simp [h]
  · rw [hu] at h; simp at h; obtain ⟨rfl, rfl, _⟩ := h
    have := congrArg List.length e
    simp [textL] at this
    omega
/-- what taking a result's bytes off in order comes to -/
theorem res_take {q : RT} (h : resB q = true) {l l1 l2 l3 l4 t : List UInt8} {c n p : Int} {o1 o2 o3 o4 : Bool} (e : resL q = l) (h1 : unintT l = (c, l1, o1)) (h2 : cutT l1 = (t, l2, o2)) (h3 : unintT l2 = (n, l3, o3)) (h4 : unintT l3 = (p, l4, o4)) :
    q = ⟨c, t, n, p⟩ ∧ o1 = true ∧ o2 = true ∧ o3 = true ∧ o4 = true ∧ l4 = [] := by
  obtain ⟨a1, a2, a3, a4, a5⟩ := resB_yes.1 h
  subst e
  rw [resL, unint_put q.code _ (by omega) (by omega)] at h1
  simp only [Prod.mk.injEq] at h1
  obtain ⟨rfl, rfl, rfl⟩ := h1
  rw [cut_put q.val _ (by omega)] at h2
  simp only [Prod.mk.injEq] at h2
  obtain ⟨rfl, rfl, rfl⟩ := h2
  rw [unint_put q.ver _ (may_fits a4).1 (may_fits a4).2] at h3
  simp only [Prod.mk.injEq] at h3
  obtain ⟨rfl, rfl, rfl⟩ := h3
  have := unint_put q.pt [] (may_fits a5).1 (may_fits a5).2
  rw [List.append_nil] at this
  rw [this] at h4
  simp only [Prod.mk.injEq] at h4
  obtain ⟨rfl, rfl, rfl⟩ := h4
  exact ⟨rfl, rfl, rfl, rfl, rfl, rfl⟩
theorem res_gway {l l1 l2 l3 l4 t : List UInt8} {c n p : Int} {o1 o2 o3 o4 : Bool} (h1 : unintT l = (c, l1, o1)) (h2 : cutT l1 = (t, l2, o2)) (h3 : unintT l2 = (n, l3, o3)) (h4 : unintT l3 = (p, l4, o4)) :
    (o1 = false ∧ NoR l) ∨ (o1 = true ∧ o2 = false ∧ NoR l) ∨ (o1 = true ∧ o2 = true ∧ o3 = false ∧ NoR l) ∨ (o1 = true ∧ o2 = true ∧ o3 = true ∧ o4 = false ∧ NoR l) ∨ (o1 = true ∧ o2 = true ∧ o3 = true ∧ o4 = true ∧ ¬ l4 = [] ∧ NoR l) ∨
    (o1 = true ∧ o2 = true ∧ o3 = true ∧ o4 = true ∧ l4 = [] ∧ ((resB ⟨c, t, n, p⟩ = true ∧ resL ⟨c, t, n, p⟩ = l) ∨ (resB ⟨c, t, n, p⟩ = false ∧ NoR l))) := by
  have T := fun (q : RT) (h : resB q = true) (e : resL q = l) => res_take h e h1 h2 h3 h4
  cases o1
  · exact .inl ⟨rfl, fun q h e => by have := T q h e; simp at this⟩
  cases o2
  · exact .inr (.inl ⟨rfl, rfl, fun q h e => by have := T q h e; simp at this⟩)
  cases o3
  · exact .inr (.inr (.inl ⟨rfl, rfl, rfl, fun q h e => by have := T q h e; simp at this⟩))
  cases o4
  · exact .inr (.inr (.inr (.inl ⟨rfl, rfl, rfl, rfl, fun q h e => by have := T q h e; simp at this⟩)))
  by_cases h5 : l4 = []
  · refine .inr (.inr (.inr (.inr (.inr ⟨rfl, rfl, rfl, rfl, h5, ?_⟩))))
    cases hb : resB ⟨c, t, n, p⟩
    · exact .inr ⟨rfl, fun q h e => by have := (T q h e).1; subst this; rw [hb] at h; cases h⟩
    · refine .inl ⟨rfl, ?_⟩
      subst h5
      have e4 := unint_back h4
      rw [List.append_nil] at e4
      simp only [resL]
      rw [e4, unint_back h3, cut_back h2, unint_back h1]
  · exact .inr (.inr (.inr (.inr (.inl ⟨rfl, rfl, rfl, rfl, h5, fun q h e => h5 (T q h e).2.2.2.2.2⟩))))
set_option maxRecDepth 100000 in
set_option maxHeartbeats 2000000 in
theorem getResult_any (l : List UInt8) (hl : l.length ≤ 1000) (g : FT) {w : World} {b : Nat} (h : FrAt w b (g.withRe rZero) v0) : Calls Try.prog 35 #[str l, .pointer (some ⟨b, 11, none⟩)] w (ResT l g b w) := by
  obtain ⟨c, l1, o1, h1⟩ : ∃ k r o, unintT l = (k, r, o) := ⟨_, _, _, rfl⟩
  obtain ⟨t, l2, o2, h2⟩ : ∃ k r o, cutT l1 = (k, r, o) := ⟨_, _, _, rfl⟩
  obtain ⟨n, l3, o3, h3⟩ : ∃ k r o, unintT l2 = (k, r, o) := ⟨_, _, _, rfl⟩
  obtain ⟨p, l4, o4, h4⟩ : ∃ k r o, unintT l3 = (k, r, o) := ⟨_, _, _, rfl⟩
  have m1 := unint_len' h1
  have m2 := cut_len' h2
  have m3 := unint_len' h3
  have U1 := unint_any' h1 (by omega)
  have U2 := cut_any' h2 (by omega)
  have U3 := unint_any' h3 (by omega)
  have U4 := unint_any' h4 (by omega)
  have LT := hide (show t.length ≤ 1048576 by omega)
  have L0 := hide (show ([] : List UInt8).length ≤ 1048576 by simp)
  have HR := hide (fun w => (isResult_any ⟨c, t, n, p⟩ w : Calls Try.prog 56 #[.agg #[.int .i64 c, str t, .int .i64 n, .int .i64 p]] w (ToldN (.bool (resB ⟨c, t, n, p⟩)) w)))
  have HC := hide (fun (l : List UInt8) (h : l.length ≤ 1048576) w => clone_n l h w)
  have hw := res_gway h1 h2 h3 h4
  have GG : FrAt w b (g.withRe ⟨0, [], 0, 0⟩) v0 := h
  clear h h1 h2 h3 h4 m1 m2 m3 hl
  rcases hw with ⟨rfl, hw⟩ | ⟨rfl, rfl, hw⟩ | ⟨rfl, rfl, rfl, hw⟩ | ⟨rfl, rfl, rfl, rfl, hw⟩ | ⟨rfl, rfl, rfl, rfl, hn, hw⟩ | ⟨rfl, rfl, rfl, rfl, rfl, hw⟩
  all_goals
    have H1 := hide U1
    have H2 := hide U2
    have H3 := hide U3
    have H4 := hide U4
    have HW := hide hw
    have KK := hide (Chg.refl (oneBlk b) w)
    clear U1 U2 U3 U4 hw
    go_enter Try.func35, Try.ntmps35
    go_wp2_with (first
      | (go_at_call 30; (with_reducible refine (unhide H1 _).mono ?_); rintro e w2 ⟨rfl, k2⟩)
      | (go_at_call 55; (with_reducible refine (unhide H2 _).mono ?_); rintro e w4 ⟨rfl, k4⟩)
      | (go_at_call 30; (with_reducible refine (unhide H3 _).mono ?_); rintro e w6 ⟨rfl, k6⟩)
      | (go_at_call 30; (with_reducible refine (unhide H4 _).mono ?_); rintro e w8 ⟨rfl, k8⟩)
      | (go_at_call 56; (refine (unhide HR _).mono ?_); rintro e w14 ⟨rfl, k14⟩)
      | (go_at_call 26; (with_reducible refine (unhide HC t (unhide LT) _).mono ?_); rintro e w10 ⟨rfl, k10⟩)
      | (go_at_call 26; (with_reducible refine (unhide HC [] (unhide L0) _).mono ?_); rintro e w10 ⟨rfl, k10⟩)
      | ((with_reducible show wpList _ _ _ (⟨none, _, _, _, _, none⟩ :: _) _ _); first
        | (refine wpL_set rfl 3 (.tmp 13) (.tmp 9) rfl b 11 (.int .i64 c) rfl rfl rfl info_int _ _ (GG.no k2) (fr_size (by omega)) ?_; intro w3 k3 g3 z3; have KL := hide ((unhide KK).trans (chg_one k2 k3) fun _ _ e => e); clear KK GG; have GG := fr_re0 g3; have KK := KL; have c12 := fr_c12 GG; clear z3 g3)
        | (refine wpL_set rfl 9 (.tmp 23) (.tmp 19) rfl b 12 (str t) rfl rfl rfl info_string _ _ (GG.no k4) (fr_size (by omega)) ?_; intro w5 k5 g5 z5; have KL := hide ((unhide KK).trans (chg_one k4 k5) fun _ _ e => e); clear KK GG c12; have GG := fr_re1 g5; have KK := KL; have c12 := fr_c12 GG; clear z5 g5)
        | (refine wpL_set rfl 3 (.tmp 33) (.tmp 29) rfl b 13 (.int .i64 n) rfl rfl rfl info_int _ _ (GG.no k6) (fr_size (by omega)) ?_; intro w7 k7 g7 z7; have KL := hide ((unhide KK).trans (chg_one k6 k7) fun _ _ e => e); clear KK GG c12; have GG := fr_re2 g7; have KK := KL; have c12 := fr_c12 GG; clear z7 g7)
        | (refine wpL_set rfl 3 (.tmp 43) (.tmp 39) rfl b 14 (.int .i64 p) rfl rfl rfl info_int _ _ (GG.no k8) (fr_size (by omega)) ?_; intro w9 k9 g9 z9; have KL := hide ((unhide KK).trans (chg_one k8 k9) fun _ _ e => e); clear KK GG c12; have GG := fr_re3 g9; have KK := KL; have c12 := fr_c12 GG; clear z9 g9)
        | (refine wpL_set rfl 9 (.tmp 51) (.tmp 49) rfl b 12 (str _) rfl rfl rfl info_string _ _ (GG.no k10) (fr_size (by omega)) ?_; intro w11 k11 g11 z11; have KL := hide ((unhide KK).trans (chg_one k10 k11) fun _ _ e => e); clear KK GG c12; have GG := fr_re1 g11; have KK := KL; have c11 := fr_c11 GG; have c12 := fr_c12 GG; have c13 := fr_c13 GG; have c14 := fr_c14 GG; clear z11 g11)))
    go_ret
  · exact ⟨_, _, rfl, GG, unhide KK, .inr ⟨rfl, unhide HW⟩⟩
  · exact ⟨_, _, rfl, GG, unhide KK, .inr ⟨rfl, unhide HW⟩⟩
  · exact ⟨_, _, rfl, GG, unhide KK, .inr ⟨rfl, unhide HW⟩⟩
  · exact ⟨_, _, rfl, GG, unhide KK, .inr ⟨rfl, unhide HW⟩⟩
  · exact ⟨_, _, rfl, GG, unhide KK, .inr ⟨rfl, unhide HW⟩⟩
  · exact ⟨_, _, rfl, GG.no k14, (unhide KK).andNo k14, (unhide HW).imp (fun q => ⟨q.1, q.1, q.2⟩) id⟩
#print axioms getResult_any
end Go.Proofs.Ytfplgmkbhpdmjaa.Fm
