/-
  Links: the document's Deliver.
-/
import Derived.Test.YtngldlfobdiipaaLinksBc
namespace Go.Proofs.Ytngldlfobdiipaa.Lk
open Go.ChangeShapes Go.WideShapes Go.ChangeAt Go.RowKit
set_option linter.unusedVariables false
attribute [local go_sem] bs_size bs_app bs_cut bs_tl bs_at
attribute [local go_sem ↓] Go.wp_at_zero Go.wp_at_succ
/-! ### one mail more -/
theorem rmv_app {a b : Int} : ∀ (A B : List ML) (k : Nat), k < (sel A a b).length → rmv a b k (A ++ B) = rmv a b k A ++ B
  | [], B, k, h => by simp [sel_nil] at h
  | m :: r, B, k, h => by
    cases hp : isP a b m
    · rw [List.cons_append, rmv_miss k _ hp, rmv_miss k _ hp, rmv_app r B k (by rw [sel_cons_miss _ hp] at h; exact h)]
      rfl
    · cases k with
      | zero => rw [List.cons_append, rmv_hit0 _ hp, rmv_hit0 _ hp]
      | succ k =>
        rw [List.cons_append, rmv_hit k _ hp, rmv_hit k _ hp, rmv_app r B k (by rw [sel_cons_hit _ hp] at h; simpa using h)]
        rfl
theorem rmv_end {a b : Int} {m : ML} (hm : isP a b m = true) : ∀ A : List ML, rmv a b (sel A a b).length (A ++ [m]) = A
  | [] => rmv_hit0 [] hm
  | x :: r => by
    cases hp : isP a b x
    · rw [sel_cons_miss _ hp, List.cons_append, rmv_miss _ _ hp, rmv_end hm r]
    · rw [sel_cons_hit _ hp, List.cons_append, List.length_cons, rmv_hit _ _ hp, rmv_end hm r]
theorem next_same {A : List ML} {m : ML} {x y i : Int} (h : hasN (sel (A ++ [m]) x y) i = hasN (sel A x y) i) : fndM (A ++ [m]) x y i = fndM A x y i ∧ fndE (A ++ [m]) x y i = fndE A x y i ∧ dlv (A ++ [m]) x y i = dlv A x y i ++ [m] := by
  unfold fndM fndE dlv
  rw [h]
  cases e : hasN (sel A x y) i
  · simp
  · obtain ⟨h0, h1⟩ := hasN_yes.1 e
    have hk : i.toNat < (sel A x y).length := by omega
    refine ⟨?_, rfl, ?_⟩
    · simp only [if_true]
      congr 1
      rw [sel_app, List.getD_eq_getElem?_getD, List.getD_eq_getElem?_getD, List.getElem?_append_left hk]
    · simp only [if_true]
      exact rmv_app A [m] _ hk
theorem next_miss {A : List ML} {m : ML} {x y : Int} (i : Int) (h : isP x y m = false) : fndM (A ++ [m]) x y i = fndM A x y i ∧ fndE (A ++ [m]) x y i = fndE A x y i ∧ dlv (A ++ [m]) x y i = dlv A x y i ++ [m] :=
  next_same (by rw [sel_snoc_miss A h])
theorem next_past {A : List ML} {m : ML} {x y i : Int} (h : isP x y m = true) (hi : i ≠ ((sel A x y).length : Int)) : fndM (A ++ [m]) x y i = fndM A x y i ∧ fndE (A ++ [m]) x y i = fndE A x y i ∧ dlv (A ++ [m]) x y i = dlv A x y i ++ [m] :=
  next_same (by
    rw [sel_snoc_hit A h]
    unfold hasN
    rw [List.length_append]
    by_cases h0 : 0 ≤ i <;> by_cases h1 : i < ((sel A x y).length : Int)
    · simp [h0, h1]; omega
    · simp [h0, h1]; omega
    · simp [h0]
    · simp [h0])
theorem next_hit {A : List ML} {m : ML} {x y i : Int} (h : isP x y m = true) (hi : i = ((sel A x y).length : Int)) : fndM (A ++ [m]) x y i = m ∧ fndE (A ++ [m]) x y i = 0 ∧ dlv (A ++ [m]) x y i = dlv A x y i := by
  have e1 : hasN (sel (A ++ [m]) x y) i = true := hasN_yes.2 ⟨by omega, by rw [sel_snoc_hit A h]; simp; omega⟩
  have e2 : hasN (sel A x y) i = false := hasN_no.2 (.inr (by omega))
  have e3 : i.toNat = (sel A x y).length := by omega
  unfold fndM fndE dlv
  rw [e1, e2, e3]
  refine ⟨?_, rfl, ?_⟩
  · simp only [if_true]
    rw [sel_snoc_hit A h, List.getD_eq_getElem?_getD, List.getElem?_append_right (Nat.le_refl _)]
    obtain ⟨a, b⟩ := isP_yes.1 h
    subst a
    subst b
    simp
  · simp only [if_true]
    exact rmv_end h A
theorem fnd_nil (x y i : Int) : fndM [] x y i = mZero ∧ fndE [] x y i = 4 ∧ dlv [] x y i = [] := by
  have e : hasN (sel [] x y) i = false := hasN_no.2 (by rw [sel_nil]; simp; omega)
  unfold fndM fndE dlv
  rw [e]
  exact ⟨rfl, rfl, rfl⟩
/-- the number counted down, going round -/
def IvOk (i0 : Int) (c : Nat) (iv : Int) : Prop := -9223372036854775808 ≤ iv ∧ iv ≤ 9223372036854775807 ∧ (iv = i0 - c ∨ iv = i0 - c + 18446744073709551616)
theorem iv_start {i0 : Int} (h : -9223372036854775808 ≤ i0 ∧ i0 ≤ 9223372036854775807) : IvOk i0 0 i0 := ⟨h.1, h.2, .inl (by omega)⟩
theorem iv_zero {i0 : Int} {c : Nat} {iv : Int} (h : IvOk i0 c iv) (hi : -9223372036854775808 ≤ i0) (hc : c ≤ 1000) : iv = 0 ↔ i0 = (c : Int) := by
  obtain ⟨h1, h2, h3⟩ := h
  omega
theorem iv_down {i0 : Int} {c : Nat} {iv : Int} (h : IvOk i0 c iv) (hi : -9223372036854775808 ≤ i0) (hc : c ≤ 1000) : IvOk i0 (c + 1) (wrap64 (iv - 1)) ∧ (wrap64 (iv - 1) = -1 ↔ iv = 0) := by
  obtain ⟨h1, h2, h3⟩ := h
  by_cases e : iv = -9223372036854775808
  · subst e
    have : wrap64 (-9223372036854775808 - 1) = 9223372036854775807 := by rw [← IntWalk.i64_left]; decide
    rw [this]
    refine ⟨⟨by omega, by omega, ?_⟩, by omega⟩
    omega
  · rw [IntWalk.wrap64_in _ (by omega)]
    refine ⟨⟨by omega, by omega, ?_⟩, by omega⟩
    omega
/-- where the taking out stands -/
def DelAt (w0 : World) (L : List ML) (x y i0 : Int) (rb ob : Nat) (i v e k : Value) (w : World) : Prop :=
  ∃ (n : Nat) (iv : Int), n ≤ L.length ∧ k = .int .i64 (n : Int) ∧ i = .int .i64 iv ∧ IvOk i0 (sel (L.take n) x y).length iv ∧ e = .int .i64 (fndE (L.take n) x y i0) ∧ OwnM w v (dlv (L.take n) x y i0) ∧ (∀ g, v.ownBlock = some g → w0.heap.size ≤ g) ∧ MailAt w ob (fndM (L.take n) x y i0) ∧ Chg (oneBlk ob) w0 w
theorem fndE_ways (L : List ML) (x y i : Int) : fndE L x y i = 0 ∨ fndE L x y i = 4 := by unfold fndE; split <;> simp
theorem info_slm : (Try.prog.info? 56).map (·.size) = some 1 := by kernel_rfl
theorem take_next {L : List ML} {n : Nat} {m : ML} (h : L[n]? = some m) : L.take (n + 1) = L.take n ++ [m] := by rw [List.take_add_one, h]; rfl
section
variable {w w' : World} {S : Nat → Prop} {b cap : Nat} {v : Value} {L : List ML}
/-- what a mail more does to the list -/
theorem del_grown {w0 w w3 : World} {v v3 : Value} {ob : Nat} {o : Obj} (k : Chg (oneBlk ob) w0 w) (f : ∀ g, v.ownBlock = some g → w0.heap.size ≤ g) (k3 : Chg (fun i => v.ownBlock = some i) (w.alloc o) w3) : Chg (oneBlk ob) w0 w3 :=
  (k.alloc o).trans k3 fun i hi e => by have := f i e; omega
set_option maxRecDepth 100000 in
set_option maxHeartbeats 8000000 in
theorem rdeliver_any (h : RefAt w S b v cap L) (hl : L.length ≤ 999) (x y : Int) {i0 : Int} (hi : -9223372036854775808 ≤ i0 ∧ i0 ≤ 9223372036854775807) :
    Calls Try.prog 11 #[.pointer (some ⟨b, 0, none⟩), .int .i64 x, .int .i64 y, .int .i64 i0] w (DoneR S b cap (.tuple #[.agg (fndM L x y i0).cells.toArray, .int .i64 (fndE L x y i0)]) (dlv L x y i0) w) := by
  have HS := hide h
  obtain ⟨ad, cp, rfl⟩ := h.form
  have HBW := h.lt b h.inb
  have HI := hide hi
  have IV0 := hide (iv_start hi)
  clear h hi
  have tk : True := True.intro
  have t2 : True := True.intro
  go_enter Try.func11, Try.ntmps11
  go_wp2_with ((with_reducible show wpList _ _ _ (_ :: _) _ _); first
    | (clear tk; refine wpL_alloc rfl 33 rfl _ zero_mail ?_; intro rb w1 e1 k1 g1 z1; have er : w.heap.size ≤ rb := Nat.le_of_eq e1; clear e1 z1)
    | (clear t2; refine wpL_alloc rfl 33 rfl _ zero_mail ?_; intro ob w2 e2 k2 g2 z2; have eo : w1.heap.size ≤ ob := Nat.le_of_eq e2; clear e2 z2)
    | (refine wpL_store rfl 33 (.tmp 11) (.tmp 15) rfl ob mZero.cells.toArray rfl rfl _ _ g2 info_mail rfl (all_oneCell_toArray (ML.one _)) ?_; intro w3 k3 g3 z3))
  have R3 : MailAt w3 rb mZero := (k2.past k3 eo).at g1 id
  have lr := lt_of_block g1
  have nro : rb ≠ ob := by omega
  have KA := hide (k1.andNo (k2.past k3 eo))
  have eo2 : w.heap.size ≤ ob := Nat.le_trans k1.size eo
  have HR := hide R3
  have HG3 := hide (lt_of_block g3)
  have HB0 := hide (show DelAt w3 L x y i0 rb ob (.int .i64 i0) (.slice none 0 0) (.int .i64 4) (.int .i64 0) w3 from ⟨0, i0, by omega, rfl, rfl, by simpa [sel_nil] using unhide IV0, by rw [List.take_zero, (fnd_nil x y i0).2.1], by rw [List.take_zero, (fnd_nil x y i0).2.2]; exact ownL_nil _ _ _ _, (fun g hg => by cases hg), by rw [List.take_zero, (fnd_nil x y i0).1]; exact g3, Chg.refl _ _⟩)
  have HS3 := hide ((unhide HS).no (unhide KA))
  have nob : ¬ S ob := fun e => by have := (unhide HS).lt ob e; omega
  clear k1 k2 k3 g1 g2 g3 z3 R3 IV0 lr HS
  go_loopw [3, 10, 12, 13] (fun i v e k wr => DelAt w3 L x y i0 rb ob i v e k wr) (fun i v e k wr => L.length - (intOf k).toNat)
  case atStart => exact unhide HB0
  case round =>
    clear HB0
    obtain ⟨n, iv, hn, rfl, rfl, hiv, rfl, ho, hb, hg, kw⟩ := hrel
    have KW := hide kw
    have HO := hide ho
    have HB := hide hb
    have HG := hide hg
    have HIV := hide hiv
    have HSW := hide ((unhide HS3).kept kw fun i hi e => by have e : i = ob := e; rw [e] at hi; exact nob hi)
    clear kw ho hb hg hiv
    have h1 := (unhide HSW).c1
    by_cases hlt : n < L.length
    · have d1 : decide (n < L.length) = true := by simpa using hlt
      obtain ⟨m, hm⟩ : ∃ m, L[n]? = some m := ⟨_, List.getElem?_eq_getElem hlt⟩
      obtain ⟨g, off, rfl, hr⟩ := (unhide HSW).at rfl hm
      have HRR := hide hr
      have HTK := hide (take_next hm)
      have hct : (sel (L.take n) x y).length ≤ 999 := Nat.le_trans (sel_few L n x y) (by omega)
      have HCT := hide hct
      have hdl : (dlv (L.take n) x y i0).length ≤ 999 := Nat.le_trans (dlv_len _ _ _ _) (by rw [List.length_take]; omega)
      have M1 := hide (show (dlv (L.take n) x y i0).length + 1 ≤ maxLen by unfold maxLen; omega)
      have M2 := hide (show ((dlv (L.take n) x y i0).length + 1) * 32 ≤ 140737488355328 by omega)
      have HDN := hide (iv_down (unhide HIV) (unhide HI).1 (Nat.le_trans hct (by omega)))
      have HZ := hide (iv_zero (unhide HIV) (unhide HI).1 (Nat.le_trans hct (by omega)))
      obtain ⟨iw, hiw⟩ : ∃ iw, wrap64 (iv - 1) = iw := ⟨_, rfl⟩
      rw [hiw] at HDN
      have HIW := hide hiw
      have i1 : (0 : Int) ≤ (n : Int) := by omega
      have i2 : (n : Int) < (L.length : Int) := by omega
      have i3 : (n : Int) ≤ 1000 := by omega
      clear hm hr hct hdl hiw
      by_cases e1 : m.fr = x
      · have d2 : (m.fr == x) = true := by simpa using e1
        by_cases e2 : m.to = y
        · have d3 : (m.to == y) = true := by simpa using e2
          have HP := hide (isP_yes.2 ⟨e1, e2⟩)
          by_cases ez : iv = 0
          · have HLN := hide ((unhide HZ).1 ez)
            have HNX := hide (next_hit (unhide HP) ((unhide HZ).1 ez))
            obtain rfl : iw = -1 := (unhide HDN).2.2 ez
            have HIK := hide (unhide HDN).1
            subst ez
            clear e1 e2 HZ HDN HIV HIW
            go_wp2_with ((with_reducible show wpList _ _ _ (_ :: _) _ _); first
            | (refine wpList_load_mid rfl 33 (.tmp 30) rfl g (off + n * 3) rfl m.cells _ (unhide HRR) Try.underlying33 rfl (by rw [info_mail]; rfl) ?_)
            | (refine wpL_alloc rfl 33 rfl _ zero_mail ?_; intro pb w4 e4 k4 g4 z4; have e5 : wr.heap.size ≤ pb := Nat.le_of_eq e4; clear e4 z4)
            | (refine wpL_store rfl 33 (.tmp 14) (.tmp 31) rfl pb m.cells.toArray rfl rfl _ _ g4 info_mail rfl (all_oneCell_toArray (ML.one _)) ?_; intro w5 k5 g5 z5; have K5 := hide (k4.past k5 e5); have p0 : w5.cell? ⟨pb, 0, none⟩ = some (.int .i64 m.fr) := cellAt g5 0 _ rfl; have p1 : w5.cell? ⟨pb, 1, none⟩ = some (.int .i64 m.to) := cellAt g5 1 _ rfl; have GO := (unhide K5).at (unhide HG) id; clear k4 k5 g4 z5)
            | (refine wpL_load rfl 33 (.tmp 14) rfl pb rfl m.cells.toArray _ _ g5 _ Try.underlying33 rfl info_mail ?_)
            | (refine wpL_store rfl 33 (.tmp 11) (.tmp 44) rfl ob m.cells.toArray rfl rfl _ _ GO info_mail rfl (all_oneCell_toArray (ML.one _)) ?_; intro w6 k6 g6 z6))
            have REL := hide (show DelAt w3 L x y i0 rb ob (.int .i64 (-1)) u10 (.int .i64 0) (.int .i64 ((n : Int) + 1)) w6 from
              ⟨n + 1, -1, by omega, by go_num, rfl, by rw [unhide HTK, sel_snoc_hit _ (unhide HP), List.length_append]; exact unhide HIK, by rw [unhide HTK, (unhide HNX).2.1], by rw [unhide HTK, (unhide HNX).2.2]; exact ((unhide HO).no (unhide K5)).kept k6 fun g' hg' e => (by have e : g' = ob := e; have := unhide HB g' hg'; have := unhide HG3; omega),
                unhide HB, by rw [unhide HTK, (unhide HNX).1]; exact g6, ((unhide KW).andNo (unhide K5)).trans k6 fun i hi e => e⟩)
            clear k6 g5 g6 z6 GO
            go_roundw
            case rel => exact unhide REL
            case measure => simp [intOf]; omega
          · have dz : (iv == 0) = false := by simpa using ez
            have dw : (iw == -1) = false := by simpa using fun e => ez ((unhide HDN).2.1 e)
            have HNX := hide (next_past (unhide HP) (fun e => ez ((unhide HZ).2 e)))
            have HIK := hide (unhide HDN).1
            clear e1 e2 ez HZ HDN HIV
            go_upto_region 11 with ((with_reducible show wpList _ _ _ (_ :: _) _ _); first
            | (refine wpList_load_mid rfl 33 (.tmp 30) rfl g (off + n * 3) rfl m.cells _ (unhide HRR) Try.underlying33 rfl (by rw [info_mail]; rfl) ?_)
            | (refine wpL_alloc rfl 33 rfl _ zero_mail ?_; intro pb w4 e4 k4 g4 z4; have e5 : wr.heap.size ≤ pb := Nat.le_of_eq e4; clear e4 z4)
            | (refine wpL_store rfl 33 (.tmp 14) (.tmp 31) rfl pb m.cells.toArray rfl rfl _ _ g4 info_mail rfl (all_oneCell_toArray (ML.one _)) ?_; intro w5 k5 g5 z5; have K5 := hide (k4.past k5 e5); have p0 : w5.cell? ⟨pb, 0, none⟩ = some (.int .i64 m.fr) := cellAt g5 0 _ rfl; have p1 : w5.cell? ⟨pb, 1, none⟩ = some (.int .i64 m.to) := cellAt g5 1 _ rfl; have GO := (unhide K5).at (unhide HG) id; clear k4 k5 g4 z5)
            | (refine wpL_load rfl 33 (.tmp 14) rfl pb rfl m.cells.toArray _ _ g5 _ Try.underlying33 rfl info_mail ?_))
            simp only [unhide HIW]
            go_wp2_with ((with_reducible show wpList _ _ _ (_ :: _) _ _); first
            | (refine wpList_load_mid rfl 33 (.tmp 30) rfl g (off + n * 3) rfl m.cells _ (unhide HRR) Try.underlying33 rfl (by rw [info_mail]; rfl) ?_)
            | (refine wpL_alloc rfl 33 rfl _ zero_mail ?_; intro pb w4 e4 k4 g4 z4; have e5 : wr.heap.size ≤ pb := Nat.le_of_eq e4; clear e4 z4)
            | (refine wpL_store rfl 33 (.tmp 14) (.tmp 31) rfl pb m.cells.toArray rfl rfl _ _ g4 info_mail rfl (all_oneCell_toArray (ML.one _)) ?_; intro w5 k5 g5 z5; have K5 := hide (k4.past k5 e5); have p0 : w5.cell? ⟨pb, 0, none⟩ = some (.int .i64 m.fr) := cellAt g5 0 _ rfl; have p1 : w5.cell? ⟨pb, 1, none⟩ = some (.int .i64 m.to) := cellAt g5 1 _ rfl; have GO := (unhide K5).at (unhide HG) id; clear k4 k5 g4 z5)
            | (refine wpL_load rfl 33 (.tmp 14) rfl pb rfl m.cells.toArray _ _ g5 _ Try.underlying33 rfl info_mail ?_)
            | (refine wpL_one rfl 56 (.tmp 54) rfl 33 mZero.cells.toArray Try.underlying56 (by kernel_rfl) (by decide) (by decide) m.cells.toArray rfl rfl ?_; intro b6 w6 e6 k6 g6 z6; have K6 := hide ((unhide K5).andNo k6); clear k6 e6 z6 p0 p1 GO)
            | (refine wpL_append rfl (.tmp 53) (.tmp 55) 56 (by rfl) 33 (.agg mZero.cells.toArray) 3 32 Try.underlying56 infx_mail rfl (by decide) u10 (dlv (L.take n) x y i0).length (flatC ML.cells (dlv (L.take n) x y i0)) (by rfl) ((unhide HO).no (unhide K6)) (.slice (some ⟨b6, 0, none⟩) 1 1) 1 m.cells (by rfl) (reads_at1 g6 (ML.len m) (ML.one m)) (unhide M1) (unhide M2) ?_; intro v7 w7 k7 o7 f7))
            have REL := hide (show DelAt w3 L x y i0 rb ob (.int .i64 iw) v7 (.int .i64 (fndE (L.take n) x y i0)) (.int .i64 ((n : Int) + 1)) w7 from
              ⟨n + 1, iw, by omega, by go_num, rfl, by rw [unhide HTK]; rw [sel_snoc_hit _ (unhide HP), List.length_append]; exact unhide HIK, by rw [unhide HTK, (unhide HNX).2.1], by rw [unhide HTK, (unhide HNX).2.2]; exact ownL_grew o7,
                fun g' hg' => by
                  rcases f7 with e | e <;> rw [hg'] at e
                  · exact unhide HB g' e.symm
                  · have e := Option.some.inj e
                    have := ((unhide KW).andNo (unhide K6)).size
                    omega,
                by
                  rw [unhide HTK, (unhide HNX).1]
                  exact k7.at ((unhide K6).at (unhide HG) id) fun e => by have := unhide HB ob e; have := unhide HG3; omega,
                ((unhide KW).andNo (unhide K6)).trans k7 fun i hi e => by have := unhide HB i e; omega⟩)
            clear k7 o7 f7 g5 g6
            go_roundw
            case rel => exact unhide REL
            case measure => simp [intOf]; omega

        · have d3 : (m.to == y) = false := by simpa using e2
          have HP := hide (show isP x y m = false from isP_no.2 fun e => e2 e.2)
          have HNX := hide (next_miss (A := L.take n) i0 (unhide HP))
          clear e1 e2 HZ HDN HIW
          go_wp2_with ((with_reducible show wpList _ _ _ (_ :: _) _ _); first
            | (refine wpList_load_mid rfl 33 (.tmp 30) rfl g (off + n * 3) rfl m.cells _ (unhide HRR) Try.underlying33 rfl (by rw [info_mail]; rfl) ?_)
            | (refine wpL_alloc rfl 33 rfl _ zero_mail ?_; intro pb w4 e4 k4 g4 z4; have e5 : wr.heap.size ≤ pb := Nat.le_of_eq e4; clear e4 z4)
            | (refine wpL_store rfl 33 (.tmp 14) (.tmp 31) rfl pb m.cells.toArray rfl rfl _ _ g4 info_mail rfl (all_oneCell_toArray (ML.one _)) ?_; intro w5 k5 g5 z5; have K5 := hide (k4.past k5 e5); have p0 : w5.cell? ⟨pb, 0, none⟩ = some (.int .i64 m.fr) := cellAt g5 0 _ rfl; have p1 : w5.cell? ⟨pb, 1, none⟩ = some (.int .i64 m.to) := cellAt g5 1 _ rfl; have GO := (unhide K5).at (unhide HG) id; clear k4 k5 g4 z5)
            | (refine wpL_load rfl 33 (.tmp 14) rfl pb rfl m.cells.toArray _ _ g5 _ Try.underlying33 rfl info_mail ?_)
            | (refine wpL_one rfl 56 (.tmp 54) rfl 33 mZero.cells.toArray Try.underlying56 (by kernel_rfl) (by decide) (by decide) m.cells.toArray rfl rfl ?_; intro b6 w6 e6 k6 g6 z6; have K6 := hide ((unhide K5).andNo k6); clear k6 e6 z6 p0 p1 GO)
            | (refine wpL_append rfl (.tmp 53) (.tmp 55) 56 (by rfl) 33 (.agg mZero.cells.toArray) 3 32 Try.underlying56 infx_mail rfl (by decide) u10 (dlv (L.take n) x y i0).length (flatC ML.cells (dlv (L.take n) x y i0)) (by rfl) ((unhide HO).no (unhide K6)) (.slice (some ⟨b6, 0, none⟩) 1 1) 1 m.cells (by rfl) (reads_at1 g6 (ML.len m) (ML.one m)) (unhide M1) (unhide M2) ?_; intro v7 w7 k7 o7 f7))
          have REL := hide (show DelAt w3 L x y i0 rb ob (.int .i64 iv) v7 (.int .i64 (fndE (L.take n) x y i0)) (.int .i64 ((n : Int) + 1)) w7 from
            ⟨n + 1, iv, by omega, by go_num, rfl, by rw [unhide HTK]; rw [sel_snoc_miss _ (unhide HP)]; exact unhide HIV, by rw [unhide HTK, (unhide HNX).2.1], by rw [unhide HTK, (unhide HNX).2.2]; exact ownL_grew o7,
              fun g' hg' => by
                rcases f7 with e | e <;> rw [hg'] at e
                · exact unhide HB g' e.symm
                · have e := Option.some.inj e
                  have := ((unhide KW).andNo (unhide K6)).size
                  omega,
              by
                rw [unhide HTK, (unhide HNX).1]
                exact k7.at ((unhide K6).at (unhide HG) id) fun e => by have := unhide HB ob e; have := unhide HG3; omega,
              ((unhide KW).andNo (unhide K6)).trans k7 fun i hi e => by have := unhide HB i e; omega⟩)
          clear k7 o7 f7 g5 g6
          go_roundw
          case rel => exact unhide REL
          case measure => simp [intOf]; omega
      · have d2 : (m.fr == x) = false := by simpa using e1
        have HP := hide (show isP x y m = false from isP_no.2 fun e => e1 e.1)
        have HNX := hide (next_miss (A := L.take n) i0 (unhide HP))
        clear e1 HZ HDN HIW
        go_wp2_with ((with_reducible show wpList _ _ _ (_ :: _) _ _); first
            | (refine wpList_load_mid rfl 33 (.tmp 30) rfl g (off + n * 3) rfl m.cells _ (unhide HRR) Try.underlying33 rfl (by rw [info_mail]; rfl) ?_)
            | (refine wpL_alloc rfl 33 rfl _ zero_mail ?_; intro pb w4 e4 k4 g4 z4; have e5 : wr.heap.size ≤ pb := Nat.le_of_eq e4; clear e4 z4)
            | (refine wpL_store rfl 33 (.tmp 14) (.tmp 31) rfl pb m.cells.toArray rfl rfl _ _ g4 info_mail rfl (all_oneCell_toArray (ML.one _)) ?_; intro w5 k5 g5 z5; have K5 := hide (k4.past k5 e5); have p0 : w5.cell? ⟨pb, 0, none⟩ = some (.int .i64 m.fr) := cellAt g5 0 _ rfl; have p1 : w5.cell? ⟨pb, 1, none⟩ = some (.int .i64 m.to) := cellAt g5 1 _ rfl; have GO := (unhide K5).at (unhide HG) id; clear k4 k5 g4 z5)
            | (refine wpL_load rfl 33 (.tmp 14) rfl pb rfl m.cells.toArray _ _ g5 _ Try.underlying33 rfl info_mail ?_)
            | (refine wpL_one rfl 56 (.tmp 54) rfl 33 mZero.cells.toArray Try.underlying56 (by kernel_rfl) (by decide) (by decide) m.cells.toArray rfl rfl ?_; intro b6 w6 e6 k6 g6 z6; have K6 := hide ((unhide K5).andNo k6); clear k6 e6 z6 p0 p1 GO)
            | (refine wpL_append rfl (.tmp 53) (.tmp 55) 56 (by rfl) 33 (.agg mZero.cells.toArray) 3 32 Try.underlying56 infx_mail rfl (by decide) u10 (dlv (L.take n) x y i0).length (flatC ML.cells (dlv (L.take n) x y i0)) (by rfl) ((unhide HO).no (unhide K6)) (.slice (some ⟨b6, 0, none⟩) 1 1) 1 m.cells (by rfl) (reads_at1 g6 (ML.len m) (ML.one m)) (unhide M1) (unhide M2) ?_; intro v7 w7 k7 o7 f7))
        have REL := hide (show DelAt w3 L x y i0 rb ob (.int .i64 iv) v7 (.int .i64 (fndE (L.take n) x y i0)) (.int .i64 ((n : Int) + 1)) w7 from
          ⟨n + 1, iv, by omega, by go_num, rfl, by rw [unhide HTK]; rw [sel_snoc_miss _ (unhide HP)]; exact unhide HIV, by rw [unhide HTK, (unhide HNX).2.1], by rw [unhide HTK, (unhide HNX).2.2]; exact ownL_grew o7,
            fun g' hg' => by
              rcases f7 with e | e <;> rw [hg'] at e
              · exact unhide HB g' e.symm
              · have e := Option.some.inj e
                have := ((unhide KW).andNo (unhide K6)).size
                omega,
            by
              rw [unhide HTK, (unhide HNX).1]
              exact k7.at ((unhide K6).at (unhide HG) id) fun e => by have := unhide HB ob e; have := unhide HG3; omega,
            ((unhide KW).andNo (unhide K6)).trans k7 fun i hi e => by have := unhide HB i e; omega⟩)
        clear k7 o7 f7 g5 g6
        go_roundw
        case rel => exact unhide REL
        case measure => simp [intOf]; omega
    · obtain rfl : n = L.length := by omega
      have HT := hide (List.take_length (l := L))
      rw [unhide HT] at HO HG ⊢
      obtain ⟨ad9, cp9, e9⟩ : ∃ ad9 cp9, u10 = .slice ad9 (dlv L x y i0).length cp9 := by
        obtain ⟨ad9, cp9, e, _⟩ := (unhide HO).form ML.len
        exact ⟨ad9, cp9, e⟩
      subst e9
      have lb := (unhide HS3).lt b (unhide HS3).inb
      have lrb := lt_of_block (unhide HR)
      have nb : w.heap.size ≤ rb := er
      have lbw := hide (show b < w.heap.size from HBW)
      go_wp2_with ((with_reducible show wpList _ _ _ (_ :: _) _ _); first
        | (refine wpL_set rfl 56 (.tmp 60) (.tmp 58) rfl b 1 (.slice ad9 (dlv L x y i0).length cp9) rfl rfl rfl info_slm _ _ (unhide HSW).blk (by show 1 < 2; omega) ?_; intro w4 k4 g4 z4; have G5 : w4.heap[ob]? = some (.cells (fndM L x y i0).cells.toArray 33 (0, 0)) := k4.at (unhide HG) (fun e => nob (by rw [show ob = b from e]; exact (unhide HS3).inb)); have R4 : w4.heap[rb]? = some (.cells mZero.cells.toArray 33 (0, 0)) := k4.at ((unhide KW).at (unhide HR) nro) (fun e => by have e : rb = b := e; have := unhide lbw; omega))
        | (refine wpL_load rfl 33 (.tmp 11) rfl ob rfl (fndM L x y i0).cells.toArray _ _ G5 _ Try.underlying33 rfl info_mail ?_)
        | (refine wpL_store rfl 33 (.tmp 8) (.tmp 61) rfl rb (fndM L x y i0).cells.toArray rfl rfl _ _ R4 info_mail rfl (all_oneCell_toArray (ML.one _)) ?_; intro w6 k6 g6 z6))
      refine bodyPost_ret (results_row_tmp rfl _ _ rb _ _ _ _ rfl g6 Try.underlying33 rfl info_mail) rfl ?_
      have lbw := unhide lbw
      have own := unhide HB
      have KX := (unhide KA).past (unhide KW) eo2
      have hz := (unhide KA).size
      have b6 : w6.heap[b]? = some (.cells #[.int .i64 (cap : Int), .slice ad9 (dlv L x y i0).length cp9] 58 (0, 0)) := k6.at g4 (fun e => by have e : b = rb := e; omega)
      have row : OwnM w6 (.slice ad9 (dlv L x y i0).length cp9) (dlv L x y i0) := ((unhide HO).kept k4 fun g hg e => by have e : g = b := e; have := own g hg; omega).kept k6 fun g hg e => by have e : g = rb := e; have := own g hg; omega
      refine ⟨rfl, ((KX.no S).trans k4 fun i _ e => by have e : i = b := e; rw [e]; exact (unhide HS3).inb).trans k6 fun i hi e => by have e : i = rb := e; omega, _, fun k => k = b ∨ (Value.slice ad9 (dlv L x y i0).length cp9).ownBlock = some k, fun k hk => ?_, b6, row, .inl rfl, fun g hg => .inr hg, fun k hk => ?_⟩
      · rcases hk with rfl | hk
        · exact ⟨.inl (unhide HS3).inb, lt_of_block b6⟩
        · exact ⟨.inr (by have := own k hk; omega), OwnL.lt row hk⟩
      · rcases hk with rfl | hk
        · exact lt_of_block b6
        · exact OwnL.lt row hk
end
end Go.Proofs.Ytngldlfobdiipaa.Lk
