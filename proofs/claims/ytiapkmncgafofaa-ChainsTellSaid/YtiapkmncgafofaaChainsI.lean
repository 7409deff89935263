/-
  Chains: contracts of slices.Clone, next, checkNext, checkGo.
-/
import Derived.Test.YtiapkmncgafofaaChainsE
namespace Go.Proofs.Ytiapkmncgafofaa
open Go.ChangeShapes Go.WideShapes Go.ChangeAt Go.RowKit
set_option linter.unusedVariables false
/-- told: a new slice that has L -/
def NewL (L : List MT) (w : World) (x : Ending) (w' : World) : Prop := ∃ v, x = .returned v ∧ Chg noBlk w w' ∧ OwnL w' 37 MT.cells 2 v L ∧ ∀ g, v.ownBlock = some g → w.heap.size ≤ g
theorem own_empty (w : World) : OwnL (w.alloc (.cells #[] 37)) 37 MT.cells 2 (.slice (some ⟨w.heap.size, 0, none⟩) 0 0) [] := by
  refine ⟨by simp [flatC], .inr ⟨w.heap.size, 0, #[], rfl, Nat.zero_le _, heap_alloc_new w _, Nat.le_refl _, by unfold maxLen; omega, by simp, by simp [flatC]⟩⟩
set_option maxRecDepth 100000 in
theorem clone_any {w : World} {ad : Option Addr} {cap : Nat} {E : List MT} (h : Sl w ad cap E) : Calls Try.prog 52 #[.slice ad E.length cap] w (NewL E w) := by
  have hr := h.reads
  have hn := h.few
  rcases hr.2.2 with ⟨he, hz⟩ | ⟨ad, cap, he, _⟩
  · obtain rfl : E = [] := List.eq_nil_of_length_eq_zero hz
    rw [he]
    have he : ∀ w : World, (binOp .eql 22 (.slice none 0 0) (.slice none 0 0)).run Try.prog w = .ok (.bool true) w := fun _ => rfl
    clear h hz hr
    go_enter Try.func52, Try.ntmps52
    go_wp2
    go_ret
    exact ⟨_, rfl, Chg.refl _ _, ownL_nil _ _ _ _, fun g hg => by cases hg⟩
  · rw [he] at hr ⊢
    clear he h
    have HR := hide (fun w' (k : Chg noBlk w w') => hr.kept k fun _ _ _ => id)
    have HO := hide (own_empty w)
    have he : ∀ w : World, (binOp .eql 22 (.slice (some ad) E.length cap) (.slice none 0 0)).run Try.prog w = .ok (.bool false) w := fun _ => rfl
    clear hr
    go_enter Try.func52, Try.ntmps52
    go_wp2_with ((with_reducible show wpList _ _ _ (_ :: _) _ _); refine wpL_append rfl (.tmp 5) (.tmp 6) 22 (by rfl) 37 (.agg mZero.cells.toArray) 2 16 Try.underlying22 infx_mem rfl (by decide) (.slice (some ⟨w.heap.size, 0, none⟩) 0 0) 0 [] (by rfl) (unhide HO) (.slice (some ad) E.length cap) E.length (flatC MT.cells E) (by rfl) (unhide HR _ ((Chg.refl _ _).alloc _)) (by unfold maxLen; omega) (by omega) ?_; intro v' w2 k2 o2 f2)
    go_ret
    refine ⟨v', rfl, ((Chg.refl noBlk w).alloc _).trans k2 fun i hi e => by have e : w.heap.size = i := Option.some.inj e; omega, ownL_of o2 (by omega) (by simp), fun g hg => ?_⟩
    rcases f2 with e | e <;> rw [hg] at e
    · have e : g = w.heap.size := Option.some.inj e
      omega
    · have e := Option.some.inj e
      simp at e
      omega
/-- a chain written: met whole -/
def stCh (x y : Value) : Sem Unit := Instr.storeAt 24 x y
theorem stCh_pre (x y : Value) : Instr.storeAt 24 x y = stCh x y := rfl
theorem one_chC {c : CT} {v : Value} (hv : v.oneCell' = true) : ∀ u ∈ (chC c v).toList, u.oneCell' = true := by
  intro u hu
  simp at hu
  rcases hu with rfl | rfl | rfl
  · rfl
  · exact hv
  · rfl
theorem run_stCh {w : World} {b : Nat} {cur : Array Value} {c : CT} {v : Value} (h : w.heap[b]? = some (.cells cur 24 (0, 0))) (hc : cur.size = 3) (hv : v.oneCell' = true) : (stCh (.pointer (some ⟨b, 0, none⟩)) (chV c v)).run Try.prog w = .ok () (w.setCells b 0 (chC c v).toList) := by
  have := run_storeAt_mid (P := Try.prog) w b 0 24 (chC c v) (fun j hj => ⟨by rw [cellAt h (0 + j) (cur[0 + j]'(by simp at hj; omega)) (by simp)]; rfl, freeAt h _⟩) (by rw [info_ch]; rfl) (all_oneCell_toArray (one_chC hv))
  unfold stCh
  simpa using this
theorem put_ch {w : World} {b : Nat} {cur : Array Value} {c : CT} {v : Value} (h : w.heap[b]? = some (.cells cur 24 (0, 0))) (hc : cur.size = 3) (hv : v.oneCell' = true) : ChAt (w.setCells b 0 (chC c v).toList) b c v ∧ Chg (oneBlk b) w (w.setCells b 0 (chC c v).toList) := by
  refine ⟨?_, setCells_chg w b _ 0⟩
  have := setCells_heap Try.prog h (o := 0) (vs := (chC c v).toList) (by simp; omega) (one_chC hv)
  have e : laidIn cur 0 (chC c v).toList = chC c v := by
    unfold laidIn
    rw [List.take_zero, List.nil_append, List.drop_of_length_le (by simp; omega), List.append_nil]
  rw [e] at this
  exact this
/-- told: a chain of its own -/
def NewC (d : CT) (w : World) (x : Ending) (w' : World) : Prop := ∃ v, x = .returned (chV d v) ∧ Chg noBlk w w' ∧ OwnL w' 37 MT.cells 2 v d.ms ∧ ∀ g, v.ownBlock = some g → w.heap.size ≤ g
/-- told: a chain of its own, and a number -/
def NewCE (d : CT) (n : Int) (w : World) (x : Ending) (w' : World) : Prop := ∃ v, x = .returned (.tuple #[chV d v, .int .i64 n]) ∧ Chg noBlk w w' ∧ OwnL w' 37 MT.cells 2 v d.ms ∧ ∀ g, v.ownBlock = some g → w.heap.size ≤ g
theorem ret_ch {fn : Func} {p : Tmp} (h : fn.results = #[.cell p 24]) (tmps : Array Value) (w : World) (g : Nat) (c : CT) (v : Value) (hp : tmps.getD p undef = .pointer (some ⟨g, 0, none⟩)) (hg : ChAt w g c v) : (results fn tmps).run Try.prog w = .ok (chV c v) w :=
  results_cell_row h tmps w g _ (chC c v) _ _ hp hg Try.underlying24 rfl info_ch
theorem ret_ch2 {fn : Func} {p u : Tmp} (h : fn.results = #[.cell p 24, .tmp u]) (tmps : Array Value) (w : World) (g : Nat) (c : CT) (v : Value) (hp : tmps.getD p undef = .pointer (some ⟨g, 0, none⟩)) (hg : ChAt w g c v) : (results fn tmps).run Try.prog w = .ok (.tuple #[chV c v, tmps.getD u undef]) w :=
  results_row_tmp h tmps w g _ (chC c v) _ _ hp hg Try.underlying24 rfl info_ch
section
variable {w : World} {ad : Option Addr} {cap : Nat} {c : CT}
attribute [local go_sem ↓] stCh_pre in
set_option maxRecDepth 100000 in
theorem cnext_any (h : Sl w ad cap c.ms) (h1 : 1 ≤ c.ep) (h2 : c.ep ≤ 1099511627776) : Calls Try.prog 40 #[chV c (.slice ad c.ms.length cap)] w (NewC ⟨c.ep + 1, c.ms, c.dr⟩ w) := by
  have HL := hide (fun w' (k : Chg noBlk w w') => clone_any (h.no k))
  have hs : IntKind.i64.wrap (c.ep + 1) = c.ep + 1 := IntWalk.i64_in _ (by omega)
  clear h
  go_enter Try.func40, Try.ntmps40
  go_wp2_with ((with_reducible show wpList _ _ _ (_ :: _) _ _); first
    | (refine wpL_box rfl 24 _ rfl (chC c (.slice ad c.ms.length cap)) (by rfl) ?_; intro p w1 e1 k1 g1 z1; have G1 : ChAt w1 p c (.slice ad c.ms.length cap) := g1; clear z1 g1)
    | (refine wpL_alloc rfl 24 rfl _ zero_ch ?_; intro q w2 e2 k2 g2 z2; clear z2))
  have KE := hide (ch_keep G1)
  have E2 := hide (show w1.heap.size ≤ q from Nat.le_of_eq e2)
  have HG2 := hide g2
  have B0 := k2
  have E1 := k1.size
  clear G1 e1 e2 g2
  go_region_held3 (fun w' => Chg noBlk w1 w' ∧ w'.cell? ⟨p, 0, none⟩ = some (.int .i64 c.ep) ∧ w'.cell? ⟨p, 1, none⟩ = some (.slice ad c.ms.length cap) ∧ w'.cell? ⟨p, 2, none⟩ = some (.int .i64 c.dr))
    ((refine unhide KE _ ?_; go_split_ands; first | assumption | exact Chg.drew (by assumption) | exact Chg.drewN (by assumption) _ | exact KST | exact Chg.andNo (by assumption) (by assumption)))
    (first
      | (go_at_call 52; (with_reducible refine (unhide HL _ (k1.andNo B0.drew)).mono ?_); rintro e w3 ⟨v3, rfl, k3, o3, f3⟩; obtain ⟨a3, c3, rfl, _, _, _⟩ := o3.form MT.len; have g3 := k3.at (show w2.drew.heap[q]? = _ from unhide HG2) id; have PC := hide (put_ch (c := ⟨c.ep + 1, c.ms, c.dr⟩) g3 rfl o3.one); have ST := run_stCh (c := ⟨c.ep + 1, c.ms, c.dr⟩) g3 rfl o3.one; have KST := ((B0.drew).andNo k3).past (unhide PC).2 (unhide E2)))
  rename_i hH
  obtain ⟨K9, _, _, _⟩ := hH
  have o4 := OwnL.kept o3 (unhide PC).2 fun g hg e => by
    have e : g = q := e
    have h1 := f3 g hg
    have h2 : q < w2.heap.size := lt_of_block (unhide HG2)
    have h3 : w2.drew.heap.size = w2.heap.size := rfl
    omega
  go_wp2_with fail
  refine bodyPost_ret (ret_ch rfl _ _ q ⟨c.ep + 1, c.ms, c.dr⟩ _ rfl (unhide PC).1) rfl ?_
  exact ⟨_, rfl, k1.andNo K9, o4, fun g hg => by have := f3 g hg; have h3 : w2.drew.heap.size = w2.heap.size := rfl; have := k2.size; omega⟩
theorem nextE_yes (g : good c = true) (h : c.ep < 1099511627776) : nextE c = 0 := by unfold nextE; rw [if_pos ⟨g, h⟩]
theorem nextE_bad (g : good c = false) : nextE c = 2 := by unfold nextE; rw [if_neg (by simp [g])]
theorem nextE_hi (h : ¬ c.ep < 1099511627776) : nextE c = 2 := by unfold nextE; rw [if_neg (by omega)]
theorem nextE_of (h : nextE c = 0) : good c = true ∧ c.ep < 1099511627776 := by
  unfold nextE at h
  split at h
  · assumption
  · omega
theorem nextE_two (h : nextE c ≠ 0) : nextE c = 2 := by
  unfold nextE at h ⊢
  split at h
  · exact absurd rfl h
  · rename_i q; rw [if_neg q]
set_option maxRecDepth 100000 in
theorem checkNext_any (h : Sl w ad cap c.ms) : Calls Try.prog 39 #[chV c (.slice ad c.ms.length cap)] w (ToldN (.int .i64 (nextE c)) w) := by
  cases hg : good c
  · have HC := hide (fun w' (k : Chg noBlk w w') => check_no (h.no k) hg)
    have HE := hide (nextE_bad hg)
    clear h hg
    go_enter Try.func39, Try.ntmps39
    go_wp2_with (first
      | (go_at_call 13; (with_reducible refine (unhide HC _ k1).mono ?_); rintro e w2 ⟨rfl, k2⟩)
      | ((with_reducible show wpList _ _ _ (_ :: _) _ _); first
        | (refine wpL_box rfl 24 _ rfl (chC c (.slice ad c.ms.length cap)) (by rfl) ?_; intro p w1 e1 k1 g1 z1; have G1 : ChAt w1 p c (.slice ad c.ms.length cap) := g1; clear e1 z1 g1)
        | (refine wpL_load rfl 24 (.tmp 1) rfl p rfl (chC c (.slice ad c.ms.length cap)) _ _ G1 _ Try.underlying24 rfl info_ch ?_)))
    go_ret
    exact ⟨ret_int (unhide HE).symm, k1.andNo k2⟩
  have HC := hide (fun w' (k : Chg noBlk w w') => check_yes (h.no k) hg)
  by_cases q : c.ep < 1099511627776
  · have HE := hide (nextE_yes hg q)
    clear h hg
    go_enter Try.func39, Try.ntmps39
    go_wp2_with (first
      | (go_at_call 13; (with_reducible refine (unhide HC _ k1).mono ?_); rintro e w2 ⟨rfl, k2⟩; have c0 := (G1.no k2).c0)
      | ((with_reducible show wpList _ _ _ (_ :: _) _ _); first
        | (refine wpL_box rfl 24 _ rfl (chC c (.slice ad c.ms.length cap)) (by rfl) ?_; intro p w1 e1 k1 g1 z1; have G1 : ChAt w1 p c (.slice ad c.ms.length cap) := g1; clear e1 z1 g1)
        | (refine wpL_load rfl 24 (.tmp 1) rfl p rfl (chC c (.slice ad c.ms.length cap)) _ _ G1 _ Try.underlying24 rfl info_ch ?_)))
    go_ret
    exact ⟨ret_int (unhide HE).symm, k1.andNo k2⟩
  · have HE := hide (nextE_hi q)
    clear h hg
    go_enter Try.func39, Try.ntmps39
    go_wp2_with (first
      | (go_at_call 13; (with_reducible refine (unhide HC _ k1).mono ?_); rintro e w2 ⟨rfl, k2⟩; have c0 := (G1.no k2).c0)
      | ((with_reducible show wpList _ _ _ (_ :: _) _ _); first
        | (refine wpL_box rfl 24 _ rfl (chC c (.slice ad c.ms.length cap)) (by rfl) ?_; intro p w1 e1 k1 g1 z1; have G1 : ChAt w1 p c (.slice ad c.ms.length cap) := g1; clear e1 z1 g1)
        | (refine wpL_load rfl 24 (.tmp 1) rfl p rfl (chC c (.slice ad c.ms.length cap)) _ _ G1 _ Try.underlying24 rfl info_ch ?_)))
    go_ret
    exact ⟨ret_int (unhide HE).symm, k1.andNo k2⟩
theorem go_ways_ (c : CT) (n : Int) : (nextE c = 2 ∧ goE c n = 2) ∨ (nextE c = 0 ∧ pos n c.ms < 0 ∧ goE c n = 4) ∨ (nextE c = 0 ∧ ¬ pos n c.ms < 0 ∧ ((c.ms.length : Int) == 1) = true ∧ goE c n = 72) ∨ (nextE c = 0 ∧ ¬ pos n c.ms < 0 ∧ ((c.ms.length : Int) == 1) = false ∧ goE c n = 0) := by
  unfold goE
  by_cases h1 : nextE c = 0
  · rw [if_neg (by omega)]
    by_cases h2 : pos n c.ms < 0
    · exact .inr (.inl ⟨h1, h2, if_pos h2⟩)
    rw [if_neg h2]
    by_cases h3 : c.ms.length = 1
    · exact .inr (.inr (.inl ⟨h1, h2, beq_iff_eq.2 (by omega), if_pos h3⟩))
    · exact .inr (.inr (.inr ⟨h1, h2, beq_eq_false_iff_ne.2 (by omega), if_neg h3⟩))
  · have h1 := nextE_two h1
    exact .inl ⟨h1, if_pos h1⟩
set_option maxRecDepth 100000 in
theorem checkGo_any (h : Sl w ad cap c.ms) (n : Int) : Calls Try.prog 41 #[chV c (.slice ad c.ms.length cap), .int .i64 n] w (ToldN (.int .i64 (goE c n)) w) := by
  have C := fun w' (k : Chg noBlk w w') => checkNext_any (h.no k)
  have HP := hide (fun w' (k : Chg noBlk w w') => place_any (h.no k) n)
  clear h
  rcases go_ways_ c n with ⟨q1, q⟩ | ⟨q1, q2, q⟩ | ⟨q1, q2, q3, q⟩ | ⟨q1, q2, q3, q⟩
  · rw [q1] at C
    have HC := hide C
    have HE := hide q
    clear C q1 q
    go_enter Try.func41, Try.ntmps41
    go_wp2_with (first
      | (go_at_call 39; (with_reducible refine (unhide HC _ k1).mono ?_); rintro e w2 ⟨rfl, k2⟩)
      | ((with_reducible show wpList _ _ _ (_ :: _) _ _); first
        | (refine wpL_box rfl 24 _ rfl (chC c (.slice ad c.ms.length cap)) (by rfl) ?_; intro p w1 e1 k1 g1 z1; have G1 : ChAt w1 p c (.slice ad c.ms.length cap) := g1; clear e1 z1 g1)
        | (refine wpL_load rfl 24 (.tmp 2) rfl p rfl (chC c (.slice ad c.ms.length cap)) _ _ G1 _ Try.underlying24 rfl info_ch ?_)))
    go_ret
    exact ⟨ret_int (unhide HE).symm, k1.andNo k2⟩
  · rw [q1] at C
    have HC := hide C
    have HE := hide q
    clear C q1 q
    go_enter Try.func41, Try.ntmps41
    go_wp2_with (first
      | (go_at_call 39; (with_reducible refine (unhide HC _ k1).mono ?_); rintro e w2 ⟨rfl, k2⟩; have c1 := (G1.no k2).c1)
      | (go_at_call 36; (with_reducible refine (unhide HP _ (k1.andNo k2)).mono ?_); rintro e w3 ⟨rfl, k3⟩)
      | ((with_reducible show wpList _ _ _ (_ :: _) _ _); first
        | (refine wpL_box rfl 24 _ rfl (chC c (.slice ad c.ms.length cap)) (by rfl) ?_; intro p w1 e1 k1 g1 z1; have G1 : ChAt w1 p c (.slice ad c.ms.length cap) := g1; clear e1 z1 g1)
        | (refine wpL_load rfl 24 (.tmp 2) rfl p rfl (chC c (.slice ad c.ms.length cap)) _ _ G1 _ Try.underlying24 rfl info_ch ?_)))
    go_ret
    exact ⟨ret_int (unhide HE).symm, (k1.andNo k2).andNo k3⟩
  all_goals
    rw [q1] at C
    have HC := hide C
    have HE := hide q
    clear C q1 q
    go_enter Try.func41, Try.ntmps41
    go_wp2_with (first
      | (go_at_call 39; (with_reducible refine (unhide HC _ k1).mono ?_); rintro e w2 ⟨rfl, k2⟩; have c1 := (G1.no k2).c1)
      | (go_at_call 36; (with_reducible refine (unhide HP _ (k1.andNo k2)).mono ?_); rintro e w3 ⟨rfl, k3⟩; have c1 := ((G1.no k2).no k3).c1)
      | ((with_reducible show wpList _ _ _ (_ :: _) _ _); first
        | (refine wpL_box rfl 24 _ rfl (chC c (.slice ad c.ms.length cap)) (by rfl) ?_; intro p w1 e1 k1 g1 z1; have G1 : ChAt w1 p c (.slice ad c.ms.length cap) := g1; clear e1 z1 g1)
        | (refine wpL_load rfl 24 (.tmp 2) rfl p rfl (chC c (.slice ad c.ms.length cap)) _ _ G1 _ Try.underlying24 rfl info_ch ?_)))
    go_ret
    exact ⟨ret_int (unhide HE).symm, (k1.andNo k2).andNo k3⟩
end
end Go.Proofs.Ytiapkmncgafofaa
