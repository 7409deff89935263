/-
  Links: the chapter's, walked.
-/
import Derived.Test.YtngldlfobdiipaaLinksK
namespace Go.Proofs.Ytngldlfobdiipaa.Lk
open Go.ChangeShapes Go.WideShapes Go.ChangeAt Go.RowKit
set_option linter.unusedVariables false
attribute [local go_sem] bs_size bs_app bs_cut bs_tl bs_at
attribute [local go_sem ↓] eq_mail
/-- what is carried from call to call: the links, their blocks new -/
structure Own (w0 w : World) (S : Nat → Prop) (p : Value) (cap : Nat) (L : List ML) : Prop where
  lk : IsLk w S p cap L
  new : ∀ k, S k → w0.heap.size ≤ k
  chg : Chg noBlk w0 w
section
variable {w0 w w' : World} {S : Nat → Prop} {p : Value} {cap : Nat} {L M : List ML}
theorem Own.no (h : Own w0 w S p cap L) (k : Chg noBlk w w') : Own w0 w' S p cap L := ⟨h.lk.no k, h.new, h.chg.andNo k⟩
theorem Own.step {S' : Nat → Prop} (h : Own w0 w S p cap L) (k : Chg S w w') (g : Grew S w S' w') (l : IsLk w' S' p cap M) : Own w0 w' S' p cap M :=
  ⟨l, g.new h.new h.chg.size, h.chg.trans k fun i hi e => by have := h.new i e; omega⟩
end
theorem wfI0 : wfI 0 := wfI_of (by omega)
theorem wfI1 : wfI 1 := wfI_of (by omega)
set_option maxRecDepth 100000 in
set_option maxHeartbeats 2000000 in
theorem mailed_any (w : World) : Calls Try.prog 7 #[] w (ToldN (.bool true) w) := by
  have HN := hide (show Calls Try.prog 8 #[.int .i64 2] w (MadeK 2 w) from lk_new 2 w (by omega) (by omega))
  have H1 := hide (fun (w : World) S p (h : IsLk w S p 2 []) => (show Calls Try.prog 16 #[p, .agg #[.int .i64 0, .int .i64 1, .string ⟨#[97]⟩]] w (DoneK S p (.returned (.int .i64 0)) 2 [xa] w) from by have := lk_send h xa (by simp); rw [s1.1, s1.2] at this; exact this))
  have H2 := hide (fun (w : World) S p (h : IsLk w S p 2 [xa]) => (show Calls Try.prog 16 #[p, .agg #[.int .i64 0, .int .i64 1, .string ⟨#[98]⟩]] w (DoneK S p (.returned (.int .i64 0)) 2 [xa, xb] w) from by have := lk_send h xb (by simp); rw [s2.1, s2.2] at this; exact this))
  have H3 := hide (fun (w : World) S p (h : IsLk w S p 2 [xa, xb]) => (show Calls Try.prog 16 #[p, .agg #[.int .i64 0, .int .i64 1, .string ⟨#[99]⟩]] w (DoneK S p (.returned (.int .i64 60)) 2 [xa, xb] w) from by have := lk_send h xc (by simp); rw [s3.1, s3.2] at this; exact this))
  have H4 := hide (fun (w : World) S p (h : IsLk w S p 2 [xa, xb]) => (show Calls Try.prog 13 #[p, .int .i64 0, .int .i64 1, .int .i64 0] w (DoneK S p (.returned (.int .i64 60)) 2 [xa, xb] w) from by have := lk_double h (by simp) wfI0 wfI1 0; rw [s4.1, s4.2] at this; exact this))
  have H5 := hide (fun (w : World) S p (h : IsLk w S p 2 [xa, xb]) => (show Calls Try.prog 10 #[p, .int .i64 0, .int .i64 1, .int .i64 1] w (DoneK S p (.returned (.tuple #[.agg #[.int .i64 0, .int .i64 1, .string ⟨#[98]⟩], .int .i64 0])) 2 [xa] w) from by have := lk_deliver h (by simp) wfI0 wfI1 1; rw [s5.1, s5.2.1, s5.2.2] at this; exact this))
  have H6 := hide (fun (w : World) S p (h : IsLk w S p 2 [xa]) => (show Calls Try.prog 13 #[p, .int .i64 0, .int .i64 1, .int .i64 0] w (DoneK S p (.returned (.int .i64 0)) 2 [xa, xa] w) from by have := lk_double h (by simp) wfI0 wfI1 0; rw [s6.1, s6.2] at this; exact this))
  have H7 := hide (fun (w : World) S p (h : IsLk w S p 2 [xa, xa]) => (show Calls Try.prog 21 #[p, .int .i64 0, .int .i64 1] w (NewT [[97], [97]] w) from by have := lk_list h (by simp) wfI0 wfI1; rw [s7] at this; exact this))
  have H8 := hide (fun (w : World) S p (h : IsLk w S p 2 [xa, xa]) => (show Calls Try.prog 16 #[p, .agg #[.int .i64 0, .int .i64 0, .string ⟨#[]⟩]] w (DoneK S p (.returned (.int .i64 2)) 2 [xa, xa] w) from by have := lk_send h x0 (by simp); rw [s8.1, s8.2] at this; exact this))
  have H9 := hide (fun (w : World) S p (h : IsLk w S p 2 [xa, xa]) => (show Calls Try.prog 16 #[p, .agg #[.int .i64 6, .int .i64 0, .string ⟨#[]⟩]] w (DoneK S p (.returned (.int .i64 2)) 2 [xa, xa] w) from by have := lk_send h x6 (by simp); rw [s9.1, s9.2] at this; exact this))
  have H10 := hide (fun (w : World) S p (h : IsLk w S p 2 [xa, xa]) => (show Calls Try.prog 12 #[p, .int .i64 1, .int .i64 0, .int .i64 0] w (DoneK S p (.returned (.int .i64 4)) 2 [xa, xa] w) from by have := lk_drop h (by simp) wfI1 wfI0 0; rw [s10.1, s10.2] at this; exact this))
  have t1 : True := True.intro
  have t2 : True := True.intro
  have t3 : True := True.intro
  have t4 : True := True.intro
  have t8 : True := True.intro
  go_enter Try.func7, Try.ntmps7
  go_wp2_with (first
    | (go_at_call 8; (with_reducible refine (unhide HN).mono ?_); rintro e w1 ⟨b0, S1, rfl, f1, l1, k1⟩; have O1 := hide (show Own w w1 S1 _ 2 [] from ⟨l1, f1, k1⟩); clear f1 l1 k1)
    | (clear t1; go_at_call 16; (with_reducible refine (unhide H1 _ _ _ (unhide O1).lk).mono ?_); rintro e w2 ⟨rfl, k2, S2, g2, l2⟩; have O2 := hide ((unhide O1).step k2 g2 l2); clear k2 g2 l2)
    | (clear t2; go_at_call 16; (with_reducible refine (unhide H2 _ _ _ (unhide O2).lk).mono ?_); rintro e w3 ⟨rfl, k3, S3, g3, l3⟩; have O3 := hide ((unhide O2).step k3 g3 l3); clear k3 g3 l3)
    | (clear t3; go_at_call 16; (with_reducible refine (unhide H3 _ _ _ (unhide O3).lk).mono ?_); rintro e w4 ⟨rfl, k4, S4, g4, l4⟩; have O4 := hide ((unhide O3).step k4 g4 l4); clear k4 g4 l4)
    | (clear t4; go_at_call 13; (with_reducible refine (unhide H4 _ _ _ (unhide O4).lk).mono ?_); rintro e w5 ⟨rfl, k5, S5, g5, l5⟩; have O5 := hide ((unhide O4).step k5 g5 l5); clear k5 g5 l5)
    | (go_at_call 10; (with_reducible refine (unhide H5 _ _ _ (unhide O5).lk).mono ?_); rintro e w6 ⟨rfl, k6, S6, g6, l6⟩; have O6 := hide ((unhide O5).step k6 g6 l6); clear k6 g6 l6)
    | (go_at_call 13; (with_reducible refine (unhide H6 _ _ _ (unhide O8).lk).mono ?_); rintro e w9 ⟨rfl, k9, S9, g9, l9⟩; have h9 := k9.at h8 (unhide QN); have N9 := hide (g9.out (unhide QN) (lt_of_block h8)); have O9 := hide ((unhide O8).step k9 g9 l9); clear k9 g9 l9 h8)
    | (go_at_call 21; (with_reducible refine (unhide H7 _ _ _ (unhide O9).lk).mono ?_); rintro e w10 ⟨v, rfl, k10, o10, f10⟩; have h10 := k10.at h9 id; obtain ⟨gl, cl, ev, hc0⟩ := own_cell (k := 0) o10 rfl; obtain ⟨gl2, cl2, ev2, hc1⟩ := own_cell (k := 1) o10 rfl; subst ev; cases ev2; have NL := hide ((unhide O9).lk.out (f10 gl rfl)); have LL := hide (o10.lt (g := gl) rfl); have O10 := hide ((unhide O9).no k10); clear o10 f10 k10 h9)
    | (clear t8; go_at_call 16; (with_reducible refine (unhide H8 _ _ _ (unhide O10).lk).mono ?_); rintro e w11 ⟨rfl, k11, S11, g11, l11⟩; have h11 := k11.at h10 (unhide N9); have hd0 := k11.cell hc0 (unhide NL); have hd1 := k11.cell hc1 (unhide NL); have N11 := hide (g11.out (unhide N9) (lt_of_block h10)); have NM := hide (g11.out (unhide NL) (unhide LL)); have O11 := hide ((unhide O10).step k11 g11 l11); clear k11 g11 l11 h10 hc0 hc1)
    | (go_at_call 16; (with_reducible refine (unhide H9 _ _ _ (unhide O11).lk).mono ?_); rintro e w12 ⟨rfl, k12, S12, g12, l12⟩; have h12 := k12.at h11 (unhide N11); have he0 := k12.cell hd0 (unhide NM); have he1 := k12.cell hd1 (unhide NM); have O12 := hide ((unhide O11).step k12 g12 l12); have c0 : w12.cell? ⟨q, 0, none⟩ = some (.int .i64 0) := cellAt h12 0 _ rfl; have c1 : w12.cell? ⟨q, 1, none⟩ = some (.int .i64 1) := cellAt h12 1 _ rfl; have c2 : w12.cell? ⟨q, 2, none⟩ = some (.string ⟨#[98]⟩) := cellAt h12 2 _ rfl; have ce0 : w12.cell? ⟨gl, 0, none⟩ = some (.string ⟨#[97]⟩) := he0; have ce1 : w12.cell? ⟨gl, 1, none⟩ = some (.string ⟨#[97]⟩) := he1; clear k12 g12 l12 h11 hd0 hd1 h12 he0 he1)
    | (go_at_call 12; (with_reducible refine (unhide H10 _ _ _ (unhide O12).lk).mono ?_); rintro e w13 ⟨rfl, k13, S13, g13, l13⟩; have O13 := hide ((unhide O12).step k13 g13 l13); clear k13 g13 l13)
    | ((with_reducible show wpList _ _ _ (_ :: _) _ _); first
      | (refine wpL_alloc rfl 33 rfl _ zero_mail ?_; intro q w7 e7 k7 g7 z7; have e7 : w6.heap.size ≤ q := Nat.le_of_eq e7)
      | (refine wpL_store rfl 33 (.tmp 7) (.tmp 31) rfl q xb.cells.toArray rfl rfl _ _ g7 info_mail rfl (all_oneCell_toArray (ML.one _)) ?_; intro w8 k8 h8 z8; have QN := hide ((unhide O6).lk.out e7); have O8 := hide ((unhide O6).no (k7.past k8 e7)); clear k7 k8 z7 z8 g7)))
  go_ret
  exact ⟨rfl, (unhide O13).chg⟩
end Go.Proofs.Ytngldlfobdiipaa.Lk
