/-
  Rings: a ring that is none.
-/
import Derived.Test.YtbhjeakaedbanaaRingsJ
import Derived.Deep.DeepCutAuto
namespace Go.Proofs.Ytbhjeakaedbanaa
open Go.ChangeShapes Go.WideShapes Go.ChangeAt Go.RowKit
set_option linter.unusedVariables false
attribute [local go_sem ↓] ldFr_pre stFr_pre
/-- no ring: nil, or one that New did not make -/
def Bare (w : World) (p : Value) : Prop := p = .pointer none ∨ ∃ b, p = .pointer (some ⟨b, 0, none⟩) ∧ w.heap[b]? = some (ringC (.slice none 0 0) 0 0)
section
variable {w w' : World} {p : Value}
theorem Bare.kept (h : Bare w p) (k : Chg noBlk w w') : Bare w' p := by
  rcases h with h | ⟨b, h1, h2⟩
  · exact .inl h
  · exact .inr ⟨b, h1, k.at h2 id⟩
theorem bare_len (h : Bare w p) : Calls Try.prog 21 #[p] w (fun e w' => e = .returned (.int .i64 0) ∧ w = w') := by
  rcases h with rfl | ⟨b, rfl, h⟩
  · exact len_nil w
  · exact len_at b _ 0 0 w h
theorem bare_cap (h : Bare w p) : Calls Try.prog 22 #[p] w (fun e w' => e = .returned (.int .i64 0) ∧ w = w') := by
  rcases h with rfl | ⟨b, rfl, h⟩
  · exact cap_nil w
  · exact cap_at b none 0 0 0 0 w h
theorem bare_at (h : Bare w p) (i : Int) : Calls Try.prog 14 #[p, .int .i64 i] w (ToldN w) :=
  at_no p i 0 w (fun w' k => bare_len (h.kept k)) (by omega)
theorem bare_front (h : Bare w p) : Calls Try.prog 12 #[p] w (ToldN w) := front_no p w fun w' k => bare_at (h.kept k) 0
theorem bare_pop (h : Bare w p) : Calls Try.prog 10 #[p] w (ToldN w) := pop_no p w fun w' k => bare_front (h.kept k)
theorem bare_push (h : Bare w p) (c : List Value) : Calls Try.prog 17 #[p, .agg c.toArray] w (ToldB false w) :=
  push_no p c 0 w (fun w' k => bare_len (h.kept k)) (fun w' k => bare_cap (h.kept k))
end
/-- nothing has been told -/
def ToldV (w : World) (e : Ending) (w' : World) : Prop := e = .returned (.tuple #[]) ∧ Chg noBlk w w'
theorem set_same {w w' : World} {b : Nat} {o : Obj} (k : Chg (oneBlk b) w w') (h : w.heap[b]? = some o) (h' : w'.heap[b]? = some o) : Chg noBlk w w' :=
  ⟨k.os, k.tape, k.output, k.size, fun i hi _ => by
    by_cases e : i = b
    · rw [e, h, h']
    · exact k.block i hi e⟩
set_option maxRecDepth 100000 in
theorem bare_clear (w : World) (p : Value) (h : Bare w p) : Calls Try.prog 15 #[p] w (ToldV w) := by
  rcases h with rfl | ⟨b, rfl, h⟩
  · go_enter Try.func15, Try.ntmps15
    go_wp2
    refine bodyPost_ret (results_none rfl _ _ _) rfl ?_
    exact ⟨rfl, Chg.refl _ _⟩
  · have c0 := cellAt h 0 _ rfl
    have hh := hide h
    have hcl : (Builtin.clear_ #[48] 0 #[.slice none 0 0]).run Try.prog w = .ok (.tuple #[]) w := by simp [Builtin.clear_, run_underlying Try.underlying48]
    clear h
    go_enter Try.func15, Try.ntmps15
    go_wp2_with (first
      | (refine wpL_set rfl 3 (.tmp 11) (.const (.int .i64 0)) rfl b 1 (.int .i64 0) rfl rfl rfl size_int _ _ (unhide hh) (by simp) ?_; intro w5 k5 g5 z5)
      | (refine wpL_set rfl 3 (.tmp 13) (.const (.int .i64 0)) rfl b 2 (.int .i64 0) rfl rfl rfl size_int _ _ g5 (by simp) ?_; intro w6 k6 g6 z6))
    refine bodyPost_ret (results_none rfl _ _ _) rfl ?_
    exact ⟨rfl, set_same (k5.trans k6 fun _ _ e => e) (unhide hh) (by rw [g6]; rfl)⟩
set_option maxRecDepth 100000 in
theorem bare_copy (w : World) (p : Value) (h : Bare w p) : Calls Try.prog 16 #[p] w (fun e w' => e = .returned (.pointer none) ∧ w = w') := by
  have CC := hide (bare_cap h)
  have NN := hide (new_no 0 (by omega) w)
  clear h
  go_enter Try.func16, Try.ntmps16
  go_wp2_with (first
    | (go_at_call 22; refine (unhide CC).mono ?_; rintro e w' ⟨rfl, rfl⟩)
    | (go_at_call 8; refine (unhide NN).mono ?_; rintro e w' ⟨rfl, rfl⟩))
  go_ret
  exact ⟨rfl, rfl⟩
theorem size_act : (Try.prog.info? 44).map (·.size) = some 31 := by kernel_rfl
def zeroAct : List Value := .int .u8 0 :: (zeroFr ++ [.int .i64 0])
theorem info_act : (Try.prog.info? 44).map (fun i => (i.zero, i.size)) = some (some (.agg zeroAct.toArray), zeroAct.toArray.size) := by kernel_rfl
/-- where the two turns stand -/
def NoneAt (w0 : World) (r i : Value) (w : World) : Prop := ∃ k : Nat, k ≤ 2 ∧ i = .int .i64 (k : Int) ∧ Bare w r ∧ Chg noBlk w0 w
set_option maxRecDepth 100000 in
set_option maxHeartbeats 1000000 in
theorem none_any (a : AT) (w : World) (h : a.Ok w) : Calls Try.prog 4 #[.agg a.cells.toArray] w (ToldB true w) := by
  have hl := AT.len h.ty
  have H := hide h
  clear h
  by_cases hg : greatB [a] 1 = true
  · go_enter Try.func4, Try.ntmps4
    go_wp2_with (first
      | (refine wpL_box rfl 44 _ rfl a.cells.toArray rfl ?_; intro b1 w1 e1 k1 g1 z1)
      | (refine wpL_load rfl 44 (.tmp 1) rfl b1 rfl _ _ _ g1 _ Try.underlying44 rfl (by rw [size_act]; simp [hl]) ?_)
      | (refine wpL_one rfl 22 (.tmp 11) (by rfl) 44 zeroAct.toArray Try.underlying22 info_act (by decide) (by decide) a.cells.toArray rfl (by simp [hl, zeroAct, zeroFr]) ?_; intro b2 w2 e2 k2 g2 z2; replace g1 := k2.at g1 id; have GC := hide (great_any (some ⟨b2, 0, none⟩) [a] 1 1 w2 (by simp) (by decide) (fun i x hx => by
          have hi : i = 0 := by have := (List.getElem?_eq_some_iff.1 hx).1; simp at this; exact this
          subst hi; simp at hx; subst hx
          exact ⟨(unhide H).ty, b2, 0, rfl, fun j v hv => cellAt g2 (0 + 0 * 31 + j) v (by simpa using hv)⟩)))
      | (go_at_call 6; refine (unhide GC).mono ?_; rintro e w3 ⟨rfl, k3⟩; replace g1 := k3.at g1 id)
      | (go_at_call 7; refine (ringed_any _).mono ?_; rintro e w4 ⟨rfl, k4⟩))
    go_ret
    exact ⟨rfl, ((k1.andNo k2).andNo k3).andNo k4⟩
  have hg' : greatB [a] 1 = false := by simpa using hg
  clear hg
  go_enter Try.func4, Try.ntmps4
  go_upto_region 3 with (first
    | (refine wpL_box rfl 44 _ rfl a.cells.toArray rfl ?_; intro b1 w1 e1 k1 g1 z1)
    | (refine wpL_load rfl 44 (.tmp 1) rfl b1 rfl _ _ _ g1 _ Try.underlying44 rfl (by rw [size_act]; simp [hl]) ?_)
    | (refine wpL_one rfl 22 (.tmp 11) (by rfl) 44 zeroAct.toArray Try.underlying22 info_act (by decide) (by decide) a.cells.toArray rfl (by simp [hl, zeroAct, zeroFr]) ?_; intro b2 w2 e2 k2 g2 z2; replace g1 := k2.at g1 id; have GC := hide (great_any (some ⟨b2, 0, none⟩) [a] 1 1 w2 (by simp) (by decide) (fun i x hx => by
        have hi : i = 0 := by have := (List.getElem?_eq_some_iff.1 hx).1; simp at this; exact this
        subst hi; simp at hx; subst hx
        exact ⟨(unhide H).ty, b2, 0, rfl, fun j v hv => cellAt g2 (0 + 0 * 31 + j) v (by simpa using hv)⟩)))
    | (go_at_call 6; refine (unhide GC).mono ?_; rintro e w3 ⟨rfl, k3⟩; replace g1 := k3.at g1 id)
    | (go_at_call 7; refine (ringed_any _).mono ?_; rintro e w4 ⟨rfl, k4⟩))
  have K3 := (k1.andNo k2).andNo k3
  have ci := cellAt g1 30 (.int .i64 a.i) (by simp only [AT.cells, List.getElem?_toArray, List.getElem?_cons_succ]; rw [List.getElem?_append_right (by rw [(unhide H).ty.len]; omega), (unhide H).ty.len]; rfl)
  have hrng : w3.rangeAt b1 (0 + 1) a.c := range_fr (fun j v hv => cellAt g1 (0 + j) v (by rw [Nat.zero_add]; simpa using hv)) (unhide H).ty
  have i0 := (unhide H).i0
  have HX := hide (fun w' (k : Chg noBlk w3 w') => (⟨k.cell ci id, run_ldFr (range_kept hrng k) (unhide H).ty.len⟩ : w'.cell? ⟨b1, 30, none⟩ = some (.int .i64 a.i) ∧ (ldFr (.pointer (some ⟨b1, 0 + 1, none⟩))).run Try.prog w' = .ok (.agg a.c.toArray) w'))
  clear ci hrng k1 k2 k3 g1 g2 GC e1 e2 z1 z2 hg'
  go_wp2_with (fail)
  go_loopw [3, 4] (fun r i wr => NoneAt w3 r i wr) (fun r i wr => 2 - (intOf i).toNat)
  case atStart => exact ⟨0, by omega, rfl, .inl rfl, Chg.refl _ _⟩
  case round =>
    obtain ⟨k, hk, rfl, hb, kw⟩ := hrel
    have HB := hide hb
    have KW := hide kw
    clear hb kw
    by_cases hlt : k < 2
    · have d1 : decide ((k : Int) < 2) = true := by simp; omega
      have CP := hide (bare_pop (unhide HB))
      go_upto_region 8 with (first
        | (go_at_call 10; refine (unhide CP).mono ?_; rintro e w5 ⟨rfl, k5⟩)
        | (refine wpL_alloc rfl 42 rfl _ zero_fr ?_; intro x1 w6 e6 k6 gx1 z6)
        | (refine wpL_store rfl 42 (.tmp 5) (.tmp 22) rfl x1 zeroFr.toArray rfl rfl _ _ gx1 (by rw [size_fr]; rfl) rfl zero_one ?_; intro w7 k7 gx1 z7))
      have K7 : Chg noBlk _ w7 := (k5.andNo k6).trans k7 fun i hi e => by have e : i = x1 := e; have := k5.size; omega
      have HB7 := hide ((unhide HB).kept K7)
      have KW7 := hide ((unhide KW).andNo K7)
      clear k5 k6 k7 gx1 e6 z6 z7 K7 CP HB KW
      have CF := hide (bare_front (unhide HB7))
      go_upto_region 9 with (first
        | (go_at_call 12; refine (unhide CF).mono ?_; rintro e w8 ⟨rfl, k8⟩)
        | (refine wpL_alloc rfl 42 rfl _ zero_fr ?_; intro x2 w9 e9 k9 gx2 z9)
        | (refine wpL_store rfl 42 (.tmp 7) (.tmp 27) rfl x2 zeroFr.toArray rfl rfl _ _ gx2 (by rw [size_fr]; rfl) rfl zero_one ?_; intro w10 k10 gx2 z10))
      have K10 : Chg noBlk _ w10 := (k8.andNo k9).trans k10 fun i hi e => by have e : i = x2 := e; have := k8.size; omega
      have HB10 := hide ((unhide HB7).kept K10)
      have KW10 := hide ((unhide KW7).andNo K10)
      clear k8 k9 k10 gx2 e9 z9 z10 K10 CF HB7 KW7
      obtain ⟨ci, la⟩ := unhide HX w10 (unhide KW10)
      clear la
      have CA := hide (bare_at (unhide HB10) a.i)
      go_upto_region 10 with (first
        | (go_at_call 14; refine (unhide CA).mono ?_; rintro e w11 ⟨rfl, k11⟩)
        | (refine wpL_alloc rfl 42 rfl _ zero_fr ?_; intro x3 w12 e12 k12 gx3 z12)
        | (refine wpL_store rfl 42 (.tmp 9) (.tmp 34) rfl x3 zeroFr.toArray rfl rfl _ _ gx3 (by rw [size_fr]; rfl) rfl zero_one ?_; intro w13 k13 gx3 z13))
      have K13 : Chg noBlk _ w13 := (k11.andNo k12).trans k13 fun i hi e => by have e : i = x3 := e; have := k11.size; omega
      have HB13 := hide ((unhide HB10).kept K13)
      have KW13 := hide ((unhide KW10).andNo K13)
      clear k11 k12 k13 gx3 e12 z12 z13 K13 CA HB10 KW10 ci
      have CC := hide (bare_clear _ _ (unhide HB13))
      go_upto_region 11 with (first
        | (go_at_call 15; refine (unhide CC).mono ?_; rintro e w14 ⟨rfl, k14⟩))
      have HB14 := hide ((unhide HB13).kept k14)
      have KW14 := hide ((unhide KW13).andNo k14)
      clear k14 CC HB13 KW13
      obtain ⟨ci, la⟩ := unhide HX w14 (unhide KW14)
      clear ci
      have CU := hide (bare_push (unhide HB14) a.c)
      go_wp2_with (first
        | (go_at_call 17; refine (unhide CU).mono ?_; rintro e w15 ⟨rfl, k15⟩; have HB15 := hide ((unhide HB14).kept k15); have CL := hide (bare_len (unhide HB15)); have CK := hide (bare_cap (unhide HB15)); have CY := hide (bare_copy _ _ (unhide HB15)))
        | (go_at_call 21; refine (unhide CL).mono ?_; rintro e w' ⟨rfl, rfl⟩)
        | (go_at_call 22; refine (unhide CK).mono ?_; rintro e w' ⟨rfl, rfl⟩)
        | (go_at_call 16; refine (unhide CY).mono ?_; rintro e w' ⟨rfl, rfl⟩)
        | (refine wpL_build rfl 60 #[] rfl #[.slice none 0 0, .int .i64 0, .int .i64 0] built_bare ?_)
        | (refine wpL_box rfl 60 _ rfl #[.slice none 0 0, .int .i64 0, .int .i64 0] rfl ?_; intro b3 w16 e16 k16 g16 z16))
      go_roundw
      case rel => exact ⟨k + 1, by omega, by go_num, .inr ⟨b3, rfl, g16⟩, ((unhide KW14).andNo k15).andNo k16⟩
      case measure => simp [intOf]; omega
    · have d1 : decide ((k : Int) < 2) = false := by simp; omega
      go_wp2_with (first
        | (go_at_call 7; refine (ringed_any _).mono ?_; rintro e w4 ⟨rfl, k4⟩))
      go_ret
      exact ⟨rfl, (K3.andNo (unhide KW)).andNo k4⟩
end Go.Proofs.Ytbhjeakaedbanaa
