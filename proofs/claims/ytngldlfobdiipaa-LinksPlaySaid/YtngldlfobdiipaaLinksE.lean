/-
  Links: slices.Clone, Count, List, find.
-/
import Derived.Test.YtngldlfobdiipaaLinksD
namespace Go.Proofs.Ytngldlfobdiipaa.Lk
open Go.ChangeShapes Go.WideShapes Go.ChangeAt Go.RowKit
set_option linter.unusedVariables false
attribute [local go_sem] bs_size bs_app bs_cut bs_tl bs_at
/-- told: a new slice that has T -/
def NewT (T : List (List UInt8)) (w : World) (x : Ending) (w' : World) : Prop := ∃ v, x = .returned v ∧ Chg noBlk w w' ∧ OwnT w' v T ∧ ∀ g, v.ownBlock = some g → w.heap.size ≤ g
theorem own_empty (w : World) : OwnT (w.alloc (.cells #[] 9)) (.slice (some ⟨w.heap.size, 0, none⟩) 0 0) [] := by
  refine ⟨by simp [flatC], .inr ⟨w.heap.size, 0, #[], rfl, Nat.zero_le _, heap_alloc_new w _, Nat.le_refl _, by unfold maxLen; omega, by simp, by simp [flatC]⟩⟩
theorem own_form {w : World} {v : Value} {T : List (List UInt8)} (h : OwnT w v T) : ∃ ad cap, v = .slice ad T.length cap := by
  obtain ⟨ad, cap, h1, _⟩ := h.form txC_len
  exact ⟨ad, cap, h1⟩
theorem own_cell {w : World} {v : Value} {T : List (List UInt8)} (h : OwnT w v T) {k : Nat} {x : List UInt8} (hx : T[k]? = some x) : ∃ g cap, v = .slice (some ⟨g, 0, none⟩) T.length cap ∧ w.cell? ⟨g, k, none⟩ = some (str x) := by
  obtain ⟨ad, cap, h1, _, _, hr⟩ := h.form txC_len
  obtain ⟨_, g, off, e, hc⟩ := hr k x hx
  have := hc 0 (str x) rfl
  subst e
  rcases h.2 with ⟨h2, _⟩ | ⟨g', cap', cur, h2, _⟩
  · rw [h1] at h2; cases h2
  · rw [h1] at h2
    injection h2 with h2 _ _
    injection h2 with h2
    injection h2 with e1 e2
    subst e1; subst e2
    refine ⟨g, cap, h1, ?_⟩
    simpa using this
set_option maxRecDepth 100000 in
theorem clone_any {w : World} {v : Value} {T : List (List UInt8)} (h : OwnT w v T) (hn : T.length ≤ 1000) : Calls Try.prog 27 #[v] w (NewT T w) := by
  have hr := h.reads txC_one
  rcases hr.2.2 with ⟨he, hz⟩ | ⟨ad, cap, he, _⟩
  · obtain rfl : T = [] := List.eq_nil_of_length_eq_zero hz
    rw [he]
    have he : ∀ w : World, (binOp .eql 46 (.slice none 0 0) (.slice none 0 0)).run Try.prog w = .ok (.bool true) w := fun _ => rfl
    clear h hz hr hn
    go_enter Try.func27, Try.ntmps27
    go_wp2
    go_ret
    exact ⟨_, rfl, Chg.refl _ _, ownL_nil _ _ _ _, fun g hg => by cases hg⟩
  · rw [he] at hr ⊢
    clear he h
    have HR := hide (fun w' (k : Chg noBlk w w') => hr.kept k fun _ _ _ => id)
    have HO := hide (own_empty w)
    have he : ∀ w : World, (binOp .eql 46 (.slice (some ad) T.length cap) (.slice none 0 0)).run Try.prog w = .ok (.bool false) w := fun _ => rfl
    clear hr
    go_enter Try.func27, Try.ntmps27
    go_wp2_with ((with_reducible show wpList _ _ _ (_ :: _) _ _); refine wpL_append rfl (.tmp 5) (.tmp 6) 46 (by rfl) 9 (str []) 1 16 Try.underlying46 infx_str rfl (by decide) (.slice (some ⟨w.heap.size, 0, none⟩) 0 0) 0 [] (by rfl) (unhide HO) (.slice (some ad) T.length cap) T.length (flatC txC T) (by rfl) (unhide HR _ ((Chg.refl _ _).alloc _)) (by unfold maxLen; omega) (by omega) ?_; intro v' w2 k2 o2 f2)
    go_ret
    refine ⟨v', rfl, ((Chg.refl noBlk w).alloc _).trans k2 fun i hi e => by have e : w.heap.size = i := Option.some.inj e; omega, ownL_of o2 (by omega) (by simp), fun g hg => ?_⟩
    rcases f2 with e | e <;> rw [hg] at e
    · have e : g = w.heap.size := Option.some.inj e
      omega
    · have e := Option.some.inj e
      simp at e
      omega
section
variable {w w' : World} {b m cap : Nat} {L : List ML} {F : Hd} {S : Nat → Prop}
theorem count_at (h : LkAt w b m cap L F) {x y : Int} (hx : wfI x) (hy : wfI y) : Calls Try.prog 20 #[.pointer (some ⟨b, 0, none⟩), .int .i64 x, .int .i64 y] w (Told (.int .i64 ((sel L x y).length : Int)) w) := by
  have c1 := h.c1
  have LK := h.m.look hx hy
  obtain ⟨ad, c, e⟩ := own_form (h.m.rows.row x y)
  rw [e] at LK
  unfold pr at LK
  have hin := hide (isnone_at h)
  obtain ⟨T, hT⟩ : ∃ T, sel L x y = T := ⟨_, rfl⟩
  rw [hT] at LK ⊢
  clear h e hT hx hy
  go_enter Try.func20, Try.ntmps20
  go_wp2_with (go_at_call 26; (with_reducible refine (unhide hin).mono ?_); rintro e w2 ⟨rfl, rfl⟩)
  go_ret
  exact ⟨rfl, rfl⟩
theorem list_at (h : LkAt w b m cap L F) (hf : L.length ≤ 1000) {x y : Int} (hx : wfI x) (hy : wfI y) : Calls Try.prog 21 #[.pointer (some ⟨b, 0, none⟩), .int .i64 x, .int .i64 y] w (NewT (sel L x y) w) := by
  have c1 := h.c1
  have LK := h.m.look hx hy
  have HC := hide (clone_any (h.m.rows.row x y) (Nat.le_trans (sel_len L x y) hf))
  obtain ⟨v, hv⟩ : ∃ v, F x y = v := ⟨_, rfl⟩
  rw [hv] at LK HC
  unfold pr at LK
  have hin := hide (isnone_at h)
  obtain ⟨T, hT⟩ : ∃ T, sel L x y = T := ⟨_, rfl⟩
  rw [hT] at HC ⊢
  clear h hv hT hx hy hf
  go_enter Try.func21, Try.ntmps21
  go_wp2_with (first
    | (go_at_call 26; (with_reducible refine (unhide hin).mono ?_); rintro e w2 ⟨rfl, rfl⟩)
    | (go_at_call 27; (with_reducible refine (unhide HC).mono ?_); rintro e w2 ⟨v2, rfl, k2, o2, f2⟩))
  go_ret
  exact ⟨v2, rfl, k2, o2, f2⟩
/-- told: that mail -/
abbrev ToldM (x : ML) (n : Int) (w : World) : Ending → World → Prop := ToldN (.tuple #[.agg x.cells.toArray, .int .i64 n]) w
set_option maxRecDepth 100000 in
theorem find_no (h : LkAt w b m cap L F) {x y : Int} (hx : wfI x) (hy : wfI y) {i : Int} (hi : hasN (sel L x y) i = false) : Calls Try.prog 23 #[.pointer (some ⟨b, 0, none⟩), .int .i64 x, .int .i64 y, .int .i64 i] w (ToldM mZero 4 w) := by
  have HLK := hide (fun w' (c : Chg noBlk w w') => (h.no c).m.look hx hy)
  have HC := hide (fun w' (c : Chg noBlk w w') => (h.no c).c1)
  obtain ⟨ad, c, e⟩ := own_form (h.m.rows.row x y)
  rw [e] at HLK
  unfold pr at HLK
  have hin := hide (fun w' (c : Chg noBlk w w') => isnone_at (h.no c))
  obtain ⟨T, hT⟩ : ∃ T, sel L x y = T := ⟨_, rfl⟩
  rw [hT] at HLK hi
  have hw : i < 0 ∨ (¬ i < 0 ∧ (T.length : Int) ≤ i) := by have := hasN_no.1 hi; omega
  clear h e hT hx hy hi
  have tk : True := True.intro
  rcases hw with d1 | ⟨d0, d1⟩
  all_goals
    go_enter Try.func23, Try.ntmps23
    go_wp2_with (first
      | (go_at_call 26; (with_reducible refine (unhide hin _ k1).mono ?_); rintro e w2 ⟨rfl, rfl⟩; have LK := unhide HLK _ k1; have c1 := unhide HC _ k1)
      | ((with_reducible show wpList _ _ _ (_ :: _) _ _); first
        | (clear tk; refine wpL_alloc rfl 33 rfl _ zero_mail ?_; intro q w1 e1 k1 g1 z1; have eq0 : w.heap.size ≤ q := Nat.le_of_eq e1; clear e1 z1)
        | (refine wpL_store rfl 33 (.tmp 8) (.tmp 30) rfl q mZero.cells.toArray rfl rfl _ _ g1 info_mail rfl (all_oneCell_toArray (ML.one _)) ?_; intro w3 k3 g3 z3)))
    refine bodyPost_ret (results_row_tmp rfl _ _ q _ _ _ _ rfl g3 Try.underlying33 rfl info_mail) rfl ?_
    exact ⟨rfl, k1.past k3 eq0⟩
set_option maxRecDepth 100000 in
theorem find_yes (h : LkAt w b m cap L F) {x y : Int} (hx : wfI x) (hy : wfI y) {k : Nat} {t : List UInt8} (hi : (sel L x y)[k]? = some t) (hf : L.length ≤ 1000) : Calls Try.prog 23 #[.pointer (some ⟨b, 0, none⟩), .int .i64 x, .int .i64 y, .int .i64 (k : Int)] w (ToldM ⟨x, y, t⟩ 0 w) := by
  have HLK := hide (fun w' (c : Chg noBlk w w') => (h.no c).m.look hx hy)
  have HC := hide (fun w' (c : Chg noBlk w w') => (h.no c).c1)
  obtain ⟨g, c, e, hc⟩ := own_cell (h.m.rows.row x y) hi
  rw [e] at HLK
  unfold pr at HLK
  have hin := hide (fun w' (c : Chg noBlk w w') => isnone_at (h.no c))
  have HCE := hide (fun w' (c : Chg noBlk w w') => c.cell hc id)
  have hl := (List.getElem?_eq_some_iff.1 hi).1
  have hs := sel_len L x y
  obtain ⟨T, hT⟩ : ∃ T, sel L x y = T := ⟨_, rfl⟩
  rw [hT] at HLK hl hs
  clear h e hT hx hy hi hc
  have tk : True := True.intro
  have i0 : (0 : Int) ≤ (k : Int) := by omega
  have i1 : (k : Int) < (T.length : Int) := by omega
  have i2 : T.length ≤ 1000 := by omega
  clear hs hf
  go_enter Try.func23, Try.ntmps23
  go_wp2_with (first
    | (go_at_call 26; (with_reducible refine (unhide hin _ k1).mono ?_); rintro e w2 ⟨rfl, rfl⟩; have LK := unhide HLK _ k1; have c1 := unhide HC _ k1; have ce := unhide HCE _ k1)
    | ((with_reducible show wpList _ _ _ (_ :: _) _ _); first
      | (clear tk; refine wpL_alloc rfl 33 rfl _ zero_mail ?_; intro q w1 e1 k1 g1 z1; have eq0 : w.heap.size ≤ q := Nat.le_of_eq e1; clear e1 z1)
      | (refine wpL_store rfl 33 (.tmp 8) (.tmp 37) rfl q (ML.cells ⟨x, y, t⟩).toArray rfl rfl _ _ g1 info_mail rfl (all_oneCell_toArray (ML.one _)) ?_; intro w3 k3 g3 z3)))
  refine bodyPost_ret (results_row_tmp rfl _ _ q _ _ _ _ rfl g3 Try.underlying33 rfl info_mail) rfl ?_
  exact ⟨rfl, k1.past k3 eq0⟩
theorem find_any (h : LkAt w b m cap L F) {x y : Int} (hx : wfI x) (hy : wfI y) (i : Int) (hf : L.length ≤ 1000) : Calls Try.prog 23 #[.pointer (some ⟨b, 0, none⟩), .int .i64 x, .int .i64 y, .int .i64 i] w (ToldM (fndM L x y i) (fndE L x y i) w) := by
  unfold fndM fndE
  cases hi : hasN (sel L x y) i
  · exact find_no h hx hy hi
  · obtain ⟨h0, h1⟩ := hasN_yes.1 hi
    obtain ⟨k, rfl⟩ := Int.eq_ofNat_of_zero_le h0
    have hk : k < (sel L x y).length := by omega
    have := find_yes h hx hy (k := k) (List.getElem?_eq_getElem hk) hf
    simpa [List.getD, List.getElem?_eq_getElem hk] using this
end
end Go.Proofs.Ytngldlfobdiipaa.Lk
