/-
  The document's frames: two that read as one are the same.
-/
import Derived.Test.YtbhjeakaedbanaaRingsJ
import Derived.Laws.StructEq
import Derived.Deep.QuietTactic
import Derived.BigQuiet
import Derived.Deep.DeepCutAuto
namespace Go.Proofs.Ytbhjeakaedbanaa
open Go.ChangeShapes Go.WideShapes Go.ChangeAt Go.RowKit
set_option linter.unusedVariables false
attribute [local go_sem ↓] ldFr_pre stFr_pre
/-- a frame's cells are of their kinds, and its members' -/
structure Fr.Ty (f : Fr) : Prop where
  ty : Typed f.c
  xs : ∀ u ∈ f.xs, ∃ k, u = .int .i64 k
theorem fr_get {w : World} {c : List Value} {f : Fr} (h : FrR w c f) {i : Nat} (hi : i ≠ 24) {v : Value} (hv : f.c[i]? = some v) : c.toArray[i]? = some v := by
  obtain ⟨s, rfl, _⟩ := h
  simp only [List.getElem?_toArray]
  rw [List.getElem?_set_ne (Ne.symm hi)]; exact hv
theorem mem_same {xs : List Value} {i : Nat} {x y : Int} (h : xs[i]? = some (.int .i64 x)) (h' : xs[i]? = some (.int .i64 y)) : y = x := by
  rw [h] at h'; simpa using h'.symm
/-- a member's two cells -/
theorem mem_at {w : World} {a : Option Addr} {n cap k : Nat} {xs : List Value} (h : Reads w 2 (.slice a n cap) n xs) (hk : k < n) (hx : ∀ u ∈ xs, ∃ k, u = .int .i64 k) :
    ∃ g o y0 y1, a = some ⟨g, o, none⟩ ∧ (xs[k * 2]? = some (.int .i64 y0) ∧ w.cell? ⟨g, o + k * 2, none⟩ = some (.int .i64 y0)) ∧ (xs[k * 2 + 1]? = some (.int .i64 y1) ∧ w.cell? ⟨g, o + k * 2 + 1, none⟩ = some (.int .i64 y1)) := by
  obtain ⟨hl, _, h3⟩ := h
  rcases h3 with ⟨_, h0⟩ | ⟨ad, c, he, _, hc⟩
  · omega
  · simp only [Value.slice.injEq] at he
    obtain ⟨rfl, _, rfl⟩ := he
    have g0 : xs[0]? = some (xs[0]'(by omega)) := List.getElem?_eq_getElem (by omega)
    obtain ⟨g, o, rfl⟩ := spot_none (hc 0 _ g0)
    have e0 : xs[k * 2]? = some (xs[k * 2]'(by omega)) := List.getElem?_eq_getElem (by omega)
    have e1 : xs[k * 2 + 1]? = some (xs[k * 2 + 1]'(by omega)) := List.getElem?_eq_getElem (by omega)
    obtain ⟨y0, h0⟩ := hx _ (List.mem_of_getElem? e0)
    obtain ⟨y1, h1⟩ := hx _ (List.mem_of_getElem? e1)
    rw [h0] at e0
    rw [h1] at e1
    have q0 := hc _ _ e0
    have q1 := hc _ _ e1
    rw [Addr.add_mid] at q0 q1
    exact ⟨g, o, y0, y1, rfl, ⟨e0, q0⟩, ⟨e1, by rw [Nat.add_assoc]; exact q1⟩⟩
set_option maxRecDepth 100000 in
set_option maxHeartbeats 4000000 in
theorem same_any (c1 c2 : List Value) (f : Fr) (o : f.Ok) (ht : f.Ty) (w : World) (h1 : FrR w c1 f) (h2 : FrR w c2 f) : Calls Try.prog 19 #[.agg c1.toArray, .agg c2.toArray] w (ToldB true w) := by
  have T := ht.ty
  obtain ⟨x0, e0⟩ := T.ints 0 (by simp)
  obtain ⟨x1, e1⟩ := T.ints 1 (by simp)
  obtain ⟨x2, e2⟩ := T.ints 2 (by simp)
  obtain ⟨x3, e3⟩ := T.ints 3 (by simp)
  obtain ⟨x4, e4⟩ := T.ints 4 (by simp)
  obtain ⟨x5, e5⟩ := T.ints 5 (by simp)
  obtain ⟨x6, e6⟩ := T.ints 6 (by simp)
  obtain ⟨x7, e7⟩ := T.ints 7 (by simp)
  obtain ⟨x10, e10⟩ := T.ints 10 (by simp)
  obtain ⟨x11, e11⟩ := T.ints 11 (by simp)
  obtain ⟨x13, e13⟩ := T.ints 13 (by simp)
  obtain ⟨x14, e14⟩ := T.ints 14 (by simp)
  obtain ⟨x15, e15⟩ := T.ints 15 (by simp)
  obtain ⟨x16, e16⟩ := T.ints 16 (by simp)
  obtain ⟨x17, e17⟩ := T.ints 17 (by simp)
  obtain ⟨x18, e18⟩ := T.ints 18 (by simp)
  obtain ⟨x19, e19⟩ := T.ints 19 (by simp)
  obtain ⟨x22, e22⟩ := T.ints 22 (by simp)
  obtain ⟨x23, e23⟩ := T.ints 23 (by simp)
  obtain ⟨x25, e25⟩ := T.ints 25 (by simp)
  obtain ⟨x26, e26⟩ := T.ints 26 (by simp)
  obtain ⟨x27, e27⟩ := T.ints 27 (by simp)
  obtain ⟨x28, e28⟩ := T.ints 28 (by simp)
  obtain ⟨s8, e8, m8⟩ := T.strs 8 (by simp)
  obtain ⟨s9, e9, m9⟩ := T.strs 9 (by simp)
  obtain ⟨s12, e12, m12⟩ := T.strs 12 (by simp)
  obtain ⟨s20, e20, m20⟩ := T.strs 20 (by simp)
  obtain ⟨s21, e21, m21⟩ := T.strs 21 (by simp)
  have H1 := hide h1
  have H2 := hide h2
  have HT := hide ht
  clear ht T m8 m9 m12 m20 m21
  have A0 := hide (fr_get h1 (by decide) e0)
  have B0 := hide (fr_get h2 (by decide) e0)
  clear e0
  have A1 := hide (fr_get h1 (by decide) e1)
  have B1 := hide (fr_get h2 (by decide) e1)
  clear e1
  have A2 := hide (fr_get h1 (by decide) e2)
  have B2 := hide (fr_get h2 (by decide) e2)
  clear e2
  have A3 := hide (fr_get h1 (by decide) e3)
  have B3 := hide (fr_get h2 (by decide) e3)
  clear e3
  have A4 := hide (fr_get h1 (by decide) e4)
  have B4 := hide (fr_get h2 (by decide) e4)
  clear e4
  have A5 := hide (fr_get h1 (by decide) e5)
  have B5 := hide (fr_get h2 (by decide) e5)
  clear e5
  have A6 := hide (fr_get h1 (by decide) e6)
  have B6 := hide (fr_get h2 (by decide) e6)
  clear e6
  have A7 := hide (fr_get h1 (by decide) e7)
  have B7 := hide (fr_get h2 (by decide) e7)
  clear e7
  have A10 := hide (fr_get h1 (by decide) e10)
  have B10 := hide (fr_get h2 (by decide) e10)
  clear e10
  have A11 := hide (fr_get h1 (by decide) e11)
  have B11 := hide (fr_get h2 (by decide) e11)
  clear e11
  have A13 := hide (fr_get h1 (by decide) e13)
  have B13 := hide (fr_get h2 (by decide) e13)
  clear e13
  have A14 := hide (fr_get h1 (by decide) e14)
  have B14 := hide (fr_get h2 (by decide) e14)
  clear e14
  have A15 := hide (fr_get h1 (by decide) e15)
  have B15 := hide (fr_get h2 (by decide) e15)
  clear e15
  have A16 := hide (fr_get h1 (by decide) e16)
  have B16 := hide (fr_get h2 (by decide) e16)
  clear e16
  have A17 := hide (fr_get h1 (by decide) e17)
  have B17 := hide (fr_get h2 (by decide) e17)
  clear e17
  have A18 := hide (fr_get h1 (by decide) e18)
  have B18 := hide (fr_get h2 (by decide) e18)
  clear e18
  have A19 := hide (fr_get h1 (by decide) e19)
  have B19 := hide (fr_get h2 (by decide) e19)
  clear e19
  have A22 := hide (fr_get h1 (by decide) e22)
  have B22 := hide (fr_get h2 (by decide) e22)
  clear e22
  have A23 := hide (fr_get h1 (by decide) e23)
  have B23 := hide (fr_get h2 (by decide) e23)
  clear e23
  have A25 := hide (fr_get h1 (by decide) e25)
  have B25 := hide (fr_get h2 (by decide) e25)
  clear e25
  have A26 := hide (fr_get h1 (by decide) e26)
  have B26 := hide (fr_get h2 (by decide) e26)
  clear e26
  have A27 := hide (fr_get h1 (by decide) e27)
  have B27 := hide (fr_get h2 (by decide) e27)
  clear e27
  have A28 := hide (fr_get h1 (by decide) e28)
  have B28 := hide (fr_get h2 (by decide) e28)
  clear e28
  have A8 := hide (fr_get h1 (by decide) e8)
  have B8 := hide (fr_get h2 (by decide) e8)
  clear e8
  have A9 := hide (fr_get h1 (by decide) e9)
  have B9 := hide (fr_get h2 (by decide) e9)
  clear e9
  have A12 := hide (fr_get h1 (by decide) e12)
  have B12 := hide (fr_get h2 (by decide) e12)
  clear e12
  have A20 := hide (fr_get h1 (by decide) e20)
  have B20 := hide (fr_get h2 (by decide) e20)
  clear e20
  have A21 := hide (fr_get h1 (by decide) e21)
  have B21 := hide (fr_get h2 (by decide) e21)
  clear e21
  obtain ⟨u1, hc1, v1, r1⟩ := h1
  obtain ⟨u2, hc2, v2, r2⟩ := h2
  have hr1 : u1 = .slice none 0 0 ∧ f.n = 0 ∨ ∃ ad cap, u1 = .slice (some ad) f.n cap := by
    rcases r1.2.2 with h | ⟨ad, cap, h, _⟩
    · exact .inl h
    · exact .inr ⟨ad, cap, h⟩
  have hr2 : u2 = .slice none 0 0 ∧ f.n = 0 ∨ ∃ ad cap, u2 = .slice (some ad) f.n cap := by
    rcases r2.2.2 with h | ⟨ad, cap, h, _⟩
    · exact .inl h
    · exact .inr ⟨ad, cap, h⟩
  obtain ⟨a1, l1, hu1⟩ : ∃ a cap, u1 = .slice a f.n cap := by
    rcases hr1 with ⟨h, h0⟩ | ⟨ad, cap, h⟩
    · exact ⟨none, 0, by rw [h, h0]⟩
    · exact ⟨_, _, h⟩
  obtain ⟨a2, l2, hu2⟩ : ∃ a cap, u2 = .slice a f.n cap := by
    rcases hr2 with ⟨h, h0⟩ | ⟨ad, cap, h⟩
    · exact ⟨none, 0, by rw [h, h0]⟩
    · exact ⟨_, _, h⟩
  have A24 := hide (show c1.toArray[24]? = some (.slice a1 f.n l1) by rw [hc1, ← hu1]; simp [o.len])
  have B24 := hide (show c2.toArray[24]? = some (.slice a2 f.n l2) by rw [hc2, ← hu2]; simp [o.len])
  have hn := o.few
  have R1 := hide (hu1 ▸ r1)
  have R2 := hide (hu2 ▸ r2)
  have l29 := (unhide H1).len o
  have l29' := (unhide H2).len o
  clear hr1 hr2 hu1 hu2 hc1 hc2 r1 r2 v1 v2
  go_enter Try.func19, Try.ntmps19
  go_upto_region 1 with (first
    | (have tk := g1; clear tk; refine wpL_box rfl 42 _ rfl c2.toArray rfl ?_; intro b2 w2 p2 k2 g2 z2; replace g1 := k2.at g1 id)
    | (refine wpL_box rfl 42 _ rfl c1.toArray rfl ?_; intro b1 w1 p1 k1 g1 z1))
  have K2 := k1.andNo k2
  have q0 := cellAt g1 0 _ (unhide A0)
  have t0 := cellAt g2 0 _ (unhide B0)
  clear A0 B0
  have q1 := cellAt g1 1 _ (unhide A1)
  have t1 := cellAt g2 1 _ (unhide B1)
  clear A1 B1
  have q2 := cellAt g1 2 _ (unhide A2)
  have t2 := cellAt g2 2 _ (unhide B2)
  clear A2 B2
  have q3 := cellAt g1 3 _ (unhide A3)
  have t3 := cellAt g2 3 _ (unhide B3)
  clear A3 B3
  have q4 := cellAt g1 4 _ (unhide A4)
  have t4 := cellAt g2 4 _ (unhide B4)
  clear A4 B4
  have q5 := cellAt g1 5 _ (unhide A5)
  have t5 := cellAt g2 5 _ (unhide B5)
  clear A5 B5
  have q6 := cellAt g1 6 _ (unhide A6)
  have t6 := cellAt g2 6 _ (unhide B6)
  clear A6 B6
  have q7 := cellAt g1 7 _ (unhide A7)
  have t7 := cellAt g2 7 _ (unhide B7)
  clear A7 B7
  have q10 := cellAt g1 10 _ (unhide A10)
  have t10 := cellAt g2 10 _ (unhide B10)
  clear A10 B10
  have q11 := cellAt g1 11 _ (unhide A11)
  have t11 := cellAt g2 11 _ (unhide B11)
  clear A11 B11
  have q13 := cellAt g1 13 _ (unhide A13)
  have t13 := cellAt g2 13 _ (unhide B13)
  clear A13 B13
  have q14 := cellAt g1 14 _ (unhide A14)
  have t14 := cellAt g2 14 _ (unhide B14)
  clear A14 B14
  have q15 := cellAt g1 15 _ (unhide A15)
  have t15 := cellAt g2 15 _ (unhide B15)
  clear A15 B15
  have q16 := cellAt g1 16 _ (unhide A16)
  have t16 := cellAt g2 16 _ (unhide B16)
  clear A16 B16
  have q17 := cellAt g1 17 _ (unhide A17)
  have t17 := cellAt g2 17 _ (unhide B17)
  clear A17 B17
  have q18 := cellAt g1 18 _ (unhide A18)
  have t18 := cellAt g2 18 _ (unhide B18)
  clear A18 B18
  have q19 := cellAt g1 19 _ (unhide A19)
  have t19 := cellAt g2 19 _ (unhide B19)
  clear A19 B19
  have q22 := cellAt g1 22 _ (unhide A22)
  have t22 := cellAt g2 22 _ (unhide B22)
  clear A22 B22
  have q23 := cellAt g1 23 _ (unhide A23)
  have t23 := cellAt g2 23 _ (unhide B23)
  clear A23 B23
  have q25 := cellAt g1 25 _ (unhide A25)
  have t25 := cellAt g2 25 _ (unhide B25)
  clear A25 B25
  have q26 := cellAt g1 26 _ (unhide A26)
  have t26 := cellAt g2 26 _ (unhide B26)
  clear A26 B26
  have q27 := cellAt g1 27 _ (unhide A27)
  have t27 := cellAt g2 27 _ (unhide B27)
  clear A27 B27
  have q28 := cellAt g1 28 _ (unhide A28)
  have t28 := cellAt g2 28 _ (unhide B28)
  clear A28 B28
  have q8 := cellAt g1 8 _ (unhide A8)
  have t8 := cellAt g2 8 _ (unhide B8)
  clear A8 B8
  have q9 := cellAt g1 9 _ (unhide A9)
  have t9 := cellAt g2 9 _ (unhide B9)
  clear A9 B9
  have q12 := cellAt g1 12 _ (unhide A12)
  have t12 := cellAt g2 12 _ (unhide B12)
  clear A12 B12
  have q20 := cellAt g1 20 _ (unhide A20)
  have t20 := cellAt g2 20 _ (unhide B20)
  clear A20 B20
  have q21 := cellAt g1 21 _ (unhide A21)
  have t21 := cellAt g2 21 _ (unhide B21)
  clear A21 B21
  have q24 := cellAt g1 24 _ (unhide A24)
  have t24 := cellAt g2 24 _ (unhide B24)
  clear A24 B24
  clear g1 g2 p1 p2 z1 z2 l29 l29'
  go_wp2_with fail
  have KK2 := hide K2
  clear K2 k1 k2
  have hr1 := hide ((unhide R1).kept (unhide KK2) (fun _ _ _ => id))
  have hr2 := hide ((unhide R2).kept (unhide KK2) (fun _ _ _ => id))
  clear R1 R2
  go_loopw [5] (fun i wr => ∃ k d : Nat, k ≤ f.n ∧ i = .int .i64 (k : Int) ∧ wr = w2.drewN d) (fun i wr => f.n - (intOf i).toNat)
  case atStart => exact ⟨0, 0, by omega, rfl, rfl⟩
  case round =>
    obtain ⟨k, d, hk, rfl, rfl⟩ := hrel
    by_cases hlt : k < f.n
    · obtain ⟨g1, o1, y0, y1, rfl, j0, j1⟩ := mem_at (unhide hr1) hlt (unhide HT).xs
      obtain ⟨g2, o2, y0', y1', rfl, j0', j1'⟩ := mem_at (unhide hr2) hlt (unhide HT).xs
      obtain ⟨rfl, rfl⟩ : y0' = y0 ∧ y1' = y1 := ⟨mem_same j0.1 j0'.1, mem_same j1.1 j1'.1⟩
      have c0 := j0.2
      have c1' := j1.2
      have c0' := j0'.2
      have c1'' := j1'.2
      have i1 : (0 : Int) ≤ (k : Int) := by omega
      have i2 : (k : Int) < (f.n : Int) := by omega
      clear j0 j1 j0' j1'
      go_wp2_with fail
      go_quiet (fail)
      go_wp2_with fail
      go_roundw
      case rel => exact ⟨k + 1, _, by omega, by go_num, rfl⟩
      case measure => simp [intOf]; omega
    · have hkn : k = f.n := by omega
      go_wp2_with fail
      go_ret
      exact ⟨rfl, (unhide KK2).drewN d⟩
end Go.Proofs.Ytbhjeakaedbanaa
