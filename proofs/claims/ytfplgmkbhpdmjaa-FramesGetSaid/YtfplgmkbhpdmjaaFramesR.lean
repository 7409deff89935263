/-
  Frames: contracts of the document's behind, of its Put.
-/
import Derived.Test.YtfplgmkbhpdmjaaFramesQ
import Derived.Test.YtfplgmkbhpdmjaaChainsR
import Derived.Test.YtfplgmkbhpdmjaaOpsG
namespace Go.Proofs.Ytfplgmkbhpdmjaa.Fm
open Go.ChangeShapes Go.WideShapes Go.ChangeAt Go.RowKit
set_option linter.unusedVariables false
attribute [local go_sem] bs_size bs_app bs_cut bs_tl bs_at
/-- what stands behind, as the document has it -/
def rB (f : FT) : Bool := if f.n 0 = 1 then chk f.op == 0 else if f.n 0 = 2 then resB f.re else if f.n 0 = 4 then (chk f.eop == 0 && good3 (f.n 16) (f.n 17) (f.n 18)) else if f.n 0 = 8 then Ch.good f.ch else kindB (f.n 0)
def rL (f : FT) : List UInt8 := if f.n 0 = 1 then rawL f.op else if f.n 0 = 2 then resL f.re else if f.n 0 = 4 then intL (f.n 16) ++ (intL (f.n 17) ++ (intL (f.n 18) ++ rawL f.eop)) else if f.n 0 = 8 then Ch.putL f.ch else []
theorem rb_ways (f : FT) : (f.n 0 = 1 ∧ rB f = (chk f.op == 0) ∧ rL f = rawL f.op) ∨ (f.n 0 = 2 ∧ rB f = resB f.re ∧ rL f = resL f.re) ∨ (f.n 0 = 4 ∧ rB f = (chk f.eop == 0 && good3 (f.n 16) (f.n 17) (f.n 18)) ∧ rL f = intL (f.n 16) ++ (intL (f.n 17) ++ (intL (f.n 18) ++ rawL f.eop))) ∨ (f.n 0 = 8 ∧ rB f = Ch.good f.ch ∧ rL f = Ch.putL f.ch) ∨
    ((f.n 0 ≠ 1 ∧ f.n 0 ≠ 2 ∧ f.n 0 ≠ 4 ∧ f.n 0 ≠ 8) ∧ rB f = kindB (f.n 0) ∧ rL f = []) := by
  unfold rB rL
  by_cases h1 : f.n 0 = 1
  · exact .inl ⟨h1, by simp [h1], by simp [h1]⟩
  by_cases h2 : f.n 0 = 2
  · exact .inr (.inl ⟨h2, by simp [h2], by simp [h2]⟩)
  by_cases h3 : f.n 0 = 4
  · exact .inr (.inr (.inl ⟨h3, by simp [h3], by simp [h3]⟩))
  by_cases h4 : f.n 0 = 8
  · exact .inr (.inr (.inr (.inl ⟨h4, by simp [h4], by simp [h4]⟩)))
  · exact .inr (.inr (.inr (.inr ⟨⟨h1, h2, h3, h4⟩, by simp [h1, h2, h3, h4], by simp [h1, h2, h3, h4]⟩)))
def rbT (f : FT) : Value := if rB f = true then .tuple #[str (rL f), .bool true] else .tuple #[str [], .bool false]
theorem rbT_yes {f : FT} {l : List UInt8} (h : rB f = true) (hl : rL f = l) : rbT f = .tuple #[str l, .bool true] := by unfold rbT; rw [if_pos h, hl]
theorem rbT_no {f : FT} (h : rB f = false) : rbT f = .tuple #[str [], .bool false] := if_neg (by simp [h])
theorem zero_re : (Try.prog.info? 26).bind (·.zero) = some (.agg rZero.cells.toArray) := by kernel_rfl
theorem rres_ways (r : RT) : (r.code < 1 ∧ resB r = false) ∨ (¬ r.code < 1 ∧ 3 < r.code ∧ resB r = false) ∨ (¬ r.code < 1 ∧ ¬ 3 < r.code ∧ 64 < (r.val.length : Int) ∧ resB r = false) ∨ (¬ r.code < 1 ∧ ¬ 3 < r.code ∧ ¬ 64 < (r.val.length : Int) ∧ good3 r.ver r.pt 0 = false ∧ resB r = false) ∨ (¬ r.code < 1 ∧ ¬ 3 < r.code ∧ ¬ 64 < (r.val.length : Int) ∧ good3 r.ver r.pt 0 = true ∧ resB r = true) := by
  have e : ∀ b, resB r = b ↔ (b = true ↔ (1 ≤ r.code ∧ r.code ≤ 3 ∧ r.val.length ≤ 64 ∧ good3 r.ver r.pt 0 = true)) := fun b => by
    rw [good3_two, Bool.and_eq_true, ← resB_yes]
    cases b <;> cases resB r <;> simp
  simp only [e]
  cases good3 r.ver r.pt 0 <;> simp <;> omega
section
variable {f : FT} {ad : Option Addr} {cap : Nat} {w : World}
set_option maxRecDepth 100000 in
theorem rb_1 (v : Value) (h0 : f.n 0 = 1) (e1 : rB f = (chk f.op == 0)) (e2 : rL f = rawL f.op) : Calls Try.prog 40 #[frV f v] w (ToldN (rbT f) w) := by
  obtain ⟨s, n, b, q1, q2, q3⟩ : ∃ (s : List UInt8) (n : Int) (b : Bool), putT f.op = .tuple #[str s, .int .i64 n] ∧ (n == 0) = b ∧ rbT f = .tuple #[str s, .bool b] := by
    by_cases h : chk f.op = 0
    · exact ⟨_, _, true, putT_ok h, rfl, rbT_yes (by rw [e1]; simpa using h) e2⟩
    · exact ⟨_, _, false, putT_no h, by simpa using h, rbT_no (by rw [e1]; simpa using h)⟩
  have P := fun w => rput_any f.op w
  rw [q1] at P
  rw [q3]
  have HP := hide P
  clear P q1 q3 e1 e2
  go_enter Try.func40, Try.ntmps40
  go_wp2_with (first
    | ((with_reducible show wpList _ _ _ (⟨_, _, _, _, _, none⟩ :: _) _ _); first
      | (refine wpL_box rfl 33 _ rfl (f.cells v).toArray rfl ?_; intro p w1 e1 k1 g1 z1; have G1 : FrAt w1 p f v := g1; have c0 := h0 ▸ G1.c0; clear e1 z1 g1)
      | (refine wpL_take rfl 24 (.tmp 16) rfl p 7 rfl f.op.cells (f.cells v).toArray _ _ G1 (fun j x => op_at) _ Try.underlying24 rfl info_op ?_))
    | (go_at_call 37; (with_reducible refine (unhide HP _).mono ?_); rintro e w2 ⟨rfl, k2⟩))
  go_ret2
  exact ⟨rfl, k1.andNo k2⟩
set_option maxRecDepth 100000 in
theorem rb_8 (hs : Ch.Sl w ad cap f.ch.ms) (h0 : f.n 0 = 8) (e1 : rB f = Ch.good f.ch) (e2 : rL f = Ch.putL f.ch) : Calls Try.prog 40 #[frV f (.slice ad f.ch.ms.length cap)] w (ToldN (rbT f) w) := by
  obtain ⟨s, n, b, q1, q4, q2, q3⟩ : ∃ (s : List UInt8) (n : Int) (b : Bool), Ch.putB f.ch = s ∧ Ch.chk f.ch = n ∧ (n == 0) = b ∧ rbT f = .tuple #[str s, .bool b] := by
    cases h : Ch.good f.ch
    · exact ⟨_, _, false, Ch.putB_no h, Ch.chk_no h, rfl, rbT_no (by rw [e1, h])⟩
    · exact ⟨_, _, true, Ch.putB_yes h, Ch.chk_yes h, rfl, rbT_yes (by rw [e1, h]) e2⟩
  have P := fun w' (k : Chg noBlk w w') => Ch.rput_any (hs.no k)
  rw [q1, q4] at P
  rw [q3]
  have HP := hide P
  clear P q1 q3 q4 e1 e2 hs
  go_enter Try.func40, Try.ntmps40
  go_wp2_with (first
    | ((with_reducible show wpList _ _ _ (⟨_, _, _, _, _, none⟩ :: _) _ _); first
      | (refine wpL_box rfl 33 _ rfl (f.cells (.slice ad f.ch.ms.length cap)).toArray rfl ?_; intro p w1 e1 k1 g1 z1; have G1 : FrAt w1 p f (.slice ad f.ch.ms.length cap) := g1; have c0 := h0 ▸ G1.c0; clear e1 z1 g1)
      | (refine wpL_take rfl 31 (.tmp 108) rfl p 23 rfl (Ch.chC f.ch (.slice ad f.ch.ms.length cap)).toList (f.cells (.slice ad f.ch.ms.length cap)).toArray _ _ G1 (fun j x => ch_at) _ Try.underlying31 rfl info_ch ?_))
    | (go_at_call 39; (with_reducible refine (unhide HP _ k1).mono ?_); rintro e w2 ⟨rfl, k2⟩))
  go_ret2
  exact ⟨rfl, k1.andNo k2⟩
set_option maxRecDepth 100000 in
theorem rb_x (v : Value) (n1 : f.n 0 ≠ 1) (n2 : f.n 0 ≠ 2) (n4 : f.n 0 ≠ 4) (n8 : f.n 0 ≠ 8) (e1 : rB f = kindB (f.n 0)) (e2 : rL f = []) : Calls Try.prog 40 #[frV f v] w (ToldN (rbT f) w) := by
  have d1 : (f.n 0 == 1) = false := by simpa using n1
  have d4 : (f.n 0 == 4) = false := by simpa using n4
  have d8 : (f.n 0 == 8) = false := by simpa using n8
  have d2 : (f.n 0 == 2) = false := by simpa using n2
  have HE : rbT f = .tuple #[str [], .bool (kindB (f.n 0))] := by
    cases h : kindB (f.n 0)
    · exact rbT_no (by rw [e1, h])
    · exact rbT_yes (by rw [e1, h]) e2
  rw [HE]
  clear HE e1 e2 n1 n4 n8 n2
  unfold kindB
  cases d : decide (1 ≤ f.n 0)
  all_goals
    go_enter Try.func40, Try.ntmps40
    go_wp2_with ((with_reducible show wpList _ _ _ (⟨_, _, _, _, _, none⟩ :: _) _ _); refine wpL_box rfl 33 _ rfl (f.cells v).toArray rfl ?_; intro p w1 e1 k1 g1 z1; have G1 : FrAt w1 p f v := g1; have c0 := G1.c0; clear e1 z1 g1)
    go_quiet (fail)
    go_wp2_with fail
    go_ret2
    exact ⟨rfl, k1.drewN _⟩
set_option maxRecDepth 100000 in
set_option maxHeartbeats 1000000 in
theorem rb_2 (v : Value) (h0 : f.n 0 = 2) (e1 : rB f = resB f.re) (e2 : rL f = resL f.re) : Calls Try.prog 40 #[frV f v] w (ToldN (rbT f) w) := by
  have GD := fun w => good_any f.re.ver f.re.pt 0 w
  rcases rres_ways f.re with ⟨d1, hr⟩ | ⟨d1, d2, hr⟩ | ⟨d1, d2, d3, hr⟩ | ⟨d1, d2, d3, d4, hr⟩ | ⟨d1, d2, d3, d4, hr⟩
  case inr.inr.inr.inr =>
    rw [rbT_yes (e1.trans hr) e2]
    rw [d4] at GD
    have HD := hide GD
    obtain ⟨q1, q2, q3, q4, q5⟩ := resB_yes.1 hr
    have I1 := hide (rint_n f.re.code (by omega) (by omega))
    have I2 := hide (rint_n f.re.ver (i64_may q4).1 (i64_may q4).2)
    have I3 := hide (rint_n f.re.pt (i64_may q5).1 (i64_may q5).2)
    have T1 := hide (rtext_n f.re.val (by omega))
    have l1 := intL_len f.re.code
    have l2 := intL_len f.re.ver
    have l3 := intL_len f.re.pt
    have l4 := textL_len f.re.val (by omega)
    have s1 : ¬ 9223372036854775807 < (intL f.re.code).length + (textL f.re.val).length := by omega
    have s2 : ¬ 9223372036854775807 < (intL f.re.code).length + (textL f.re.val).length + (intL f.re.ver).length := by omega
    have s4 : ¬ 9223372036854775807 < (intL f.re.code).length + ((textL f.re.val).length + (intL f.re.ver).length) + (intL f.re.pt).length := by omega
    clear GD hr q1 q2 q3 q4 q5 l1 l2 l3 l4 d4 e1 e2
    go_enter Try.func40, Try.ntmps40
    go_wp2_with (first
      | (go_at_call 43; (with_reducible refine (unhide HD _).mono ?_); rintro e w5 ⟨rfl, rfl⟩)
      | ((with_reducible show wpList _ _ _ (⟨_, _, _, _, _, none⟩ :: _) _ _); first
        | (refine wpL_box rfl 33 _ rfl (f.cells v).toArray rfl ?_; intro p w1 e1 k1 g1 z1; have G1 : FrAt w1 p f v := g1; have c0 := h0 ▸ G1.c0; clear e1 z1 g1)
        | (refine wpL_take rfl 26 (.tmp 26) rfl p 11 rfl f.re.cells (f.cells v).toArray _ _ G1 (fun j x => re_at) _ Try.underlying26 rfl info_re ?_)
        | (refine wpL_alloc rfl 26 rfl _ zero_re ?_; intro q w2 e2 k2 g2 z2; have E2 := hide (Nat.le_trans k1.size (Nat.le_of_eq e2)); clear z2 e2)
        | (refine wpL_store rfl 26 (.tmp 6) (.tmp 27) rfl q f.re.cells.toArray rfl rfl _ _ g2 info_re rfl (all_oneCell_toArray (RT.one _)) ?_; intro w3 k3 g3 z3; have R3 : ReAt w3 q f.re := g3; have r0 := R3.c0; have r1 := R3.c1; have r2 := R3.c2; have r3 := R3.c3; clear z3 g3)))
    have KE := hide (re_keep R3)
    have B0 := Chg.refl noBlk w3
    clear r0 r1 r2 r3 R3
    go_region_held3 (fun w' => Chg noBlk w3 w' ∧ w'.cell? ⟨q, 0, none⟩ = some (.int .i64 f.re.code) ∧ w'.cell? ⟨q, 1, none⟩ = some (str f.re.val) ∧ w'.cell? ⟨q, 2, none⟩ = some (.int .i64 f.re.ver) ∧ w'.cell? ⟨q, 3, none⟩ = some (.int .i64 f.re.pt))
      ((refine unhide KE _ ?_; go_split_ands; first | assumption | exact Chg.drew (by assumption) | exact Chg.drewN (by assumption) _ | exact Chg.andNo (by assumption) (by assumption)))
      (first
        | (go_at_call 41; (with_reducible refine (unhide I1 _).mono ?_); rintro e w6 ⟨rfl, k6⟩)
        | (go_at_call 41; (with_reducible refine (unhide I2 _).mono ?_); rintro e w7 ⟨rfl, k7⟩)
        | (go_at_call 41; (with_reducible refine (unhide I3 _).mono ?_); rintro e w8 ⟨rfl, k8⟩)
        | (go_at_call 59; (with_reducible refine (unhide T1 _).mono ?_); rintro e w9 ⟨rfl, k9⟩))
    rename_i hH
    obtain ⟨K9, _, _, _, _⟩ := hH
    go_wp2_with fail
    go_ret2
    exact ⟨by simp [resL], ((k1.andNo k2).past k3 (unhide E2)).andNo K9⟩
  all_goals
    rw [rbT_no (e1.trans hr)]
    try rw [d4] at GD
    have HD := hide GD
    clear GD hr e1 e2
    go_enter Try.func40, Try.ntmps40
    go_wp2_with (first
      | (go_at_call 43; (with_reducible refine (unhide HD _).mono ?_); rintro e w5 ⟨rfl, rfl⟩)
      | ((with_reducible show wpList _ _ _ (⟨_, _, _, _, _, none⟩ :: _) _ _); first
        | (refine wpL_box rfl 33 _ rfl (f.cells v).toArray rfl ?_; intro p w1 e1 k1 g1 z1; have G1 : FrAt w1 p f v := g1; have c0 := h0 ▸ G1.c0; clear e1 z1 g1)
        | (refine wpL_take rfl 26 (.tmp 26) rfl p 11 rfl f.re.cells (f.cells v).toArray _ _ G1 (fun j x => re_at) _ Try.underlying26 rfl info_re ?_)
        | (refine wpL_alloc rfl 26 rfl _ zero_re ?_; intro q w2 e2 k2 g2 z2; have E2 := hide (Nat.le_trans k1.size (Nat.le_of_eq e2)); clear z2 e2)
        | (refine wpL_store rfl 26 (.tmp 6) (.tmp 27) rfl q f.re.cells.toArray rfl rfl _ _ g2 info_re rfl (all_oneCell_toArray (RT.one _)) ?_; intro w3 k3 g3 z3; have R3 : ReAt w3 q f.re := g3; have r0 := R3.c0; have r1 := R3.c1; have r2 := R3.c2; have r3 := R3.c3; clear z3 g3)))
    go_ret2
    exact ⟨rfl, (k1.andNo k2).past k3 (unhide E2)⟩
theorem e_ways (f : FT) : (¬ chk f.eop = 0 ∧ (chk f.eop == 0 && good3 (f.n 16) (f.n 17) (f.n 18)) = false) ∨ (chk f.eop = 0 ∧ good3 (f.n 16) (f.n 17) (f.n 18) = false ∧ (chk f.eop == 0 && good3 (f.n 16) (f.n 17) (f.n 18)) = false) ∨ (chk f.eop = 0 ∧ good3 (f.n 16) (f.n 17) (f.n 18) = true ∧ (chk f.eop == 0 && good3 (f.n 16) (f.n 17) (f.n 18)) = true) := by
  by_cases h : chk f.eop = 0
  · cases g : good3 (f.n 16) (f.n 17) (f.n 18)
    · exact .inr (.inl ⟨h, rfl, by simp⟩)
    · exact .inr (.inr ⟨h, rfl, by simp [h]⟩)
  · exact .inl ⟨h, by simp [h]⟩
set_option maxRecDepth 100000 in
set_option maxHeartbeats 1000000 in
theorem rb_4 (v : Value) (h0 : f.n 0 = 4) (e1 : rB f = (chk f.eop == 0 && good3 (f.n 16) (f.n 17) (f.n 18))) (e2 : rL f = intL (f.n 16) ++ (intL (f.n 17) ++ (intL (f.n 18) ++ rawL f.eop))) : Calls Try.prog 40 #[frV f v] w (ToldN (rbT f) w) := by
  have GD := fun w => good_any (f.n 16) (f.n 17) (f.n 18) w
  have P := fun w => rput_any f.eop w
  rcases e_ways f with ⟨d1, hr⟩ | ⟨d1, d4, hr⟩ | ⟨d1, d4, hr⟩
  · rw [rbT_no (e1.trans hr)]
    rw [putT_no d1] at P
    have dn : (chk f.eop != 0) = true := by simpa using d1
    have HP := hide P
    clear P GD hr e1 e2 d1
    go_enter Try.func40, Try.ntmps40
    go_wp2_with (first
      | (go_at_call 43; (with_reducible refine (unhide HD _).mono ?_); rintro e w5 ⟨rfl, rfl⟩)
      | (go_at_call 37; (with_reducible refine (unhide HP _).mono ?_); rintro e w2 ⟨rfl, k2⟩; have c16 := (G1.no k2).num (i := 16) (by decide); have c17 := (G1.no k2).num (i := 17) (by decide); have c18 := (G1.no k2).num (i := 18) (by decide))
      | ((with_reducible show wpList _ _ _ (⟨_, _, _, _, _, none⟩ :: _) _ _); first
        | (refine wpL_box rfl 33 _ rfl (f.cells v).toArray rfl ?_; intro p w1 e1 k1 g1 z1; have G1 : FrAt w1 p f v := g1; have c0 := h0 ▸ G1.c0; clear e1 z1 g1)
        | (refine wpL_take rfl 24 (.tmp 69) rfl p 19 rfl f.eop.cells (f.cells v).toArray _ _ G1 (fun j x => eop_at) _ Try.underlying24 rfl info_op ?_)))
    go_ret2
    exact ⟨rfl, k1.andNo k2⟩
  · rw [rbT_no (e1.trans hr)]
    rw [putT_ok d1] at P
    rw [d4] at GD
    have HP := hide P
    have HD := hide GD
    clear P GD hr e1 e2 d1 d4
    go_enter Try.func40, Try.ntmps40
    go_wp2_with (first
      | (go_at_call 43; (with_reducible refine (unhide HD _).mono ?_); rintro e w5 ⟨rfl, rfl⟩)
      | (go_at_call 37; (with_reducible refine (unhide HP _).mono ?_); rintro e w2 ⟨rfl, k2⟩; have c16 := (G1.no k2).num (i := 16) (by decide); have c17 := (G1.no k2).num (i := 17) (by decide); have c18 := (G1.no k2).num (i := 18) (by decide))
      | ((with_reducible show wpList _ _ _ (⟨_, _, _, _, _, none⟩ :: _) _ _); first
        | (refine wpL_box rfl 33 _ rfl (f.cells v).toArray rfl ?_; intro p w1 e1 k1 g1 z1; have G1 : FrAt w1 p f v := g1; have c0 := h0 ▸ G1.c0; clear e1 z1 g1)
        | (refine wpL_take rfl 24 (.tmp 69) rfl p 19 rfl f.eop.cells (f.cells v).toArray _ _ G1 (fun j x => eop_at) _ Try.underlying24 rfl info_op ?_)))
    go_ret2
    exact ⟨rfl, k1.andNo k2⟩
  · rw [rbT_yes (e1.trans hr) e2]
    rw [putT_ok d1] at P
    have l5 := raw_len (chk_fit.1 d1)
    rw [d4] at GD
    have HP := hide P
    have HD := hide GD
    simp only [good3, Bool.and_eq_true] at d4
    obtain ⟨q1, q2, q3⟩ := d4
    have I1 := hide (rint_n (f.n 16) (i64_may q1).1 (i64_may q1).2)
    have I2 := hide (rint_n (f.n 17) (i64_may q2).1 (i64_may q2).2)
    have I3 := hide (rint_n (f.n 18) (i64_may q3).1 (i64_may q3).2)
    have l1 := intL_len (f.n 16)
    have l2 := intL_len (f.n 17)
    have l3 := intL_len (f.n 18)
    have s1 : ¬ 9223372036854775807 < (intL (f.n 16)).length + (intL (f.n 17)).length := by omega
    have s2 : ¬ 9223372036854775807 < (intL (f.n 16)).length + (intL (f.n 17)).length + (intL (f.n 18)).length := by omega
    have s4 : ¬ 9223372036854775807 < (intL (f.n 16)).length + ((intL (f.n 17)).length + (intL (f.n 18)).length) + (rawL f.eop).length := by omega
    clear P GD hr q1 q2 q3 l1 l2 l3 l5 d1 e1 e2
    go_enter Try.func40, Try.ntmps40
    go_wp2_with (first
      | (go_at_call 43; (with_reducible refine (unhide HD _).mono ?_); rintro e w5 ⟨rfl, rfl⟩)
      | (go_at_call 37; (with_reducible refine (unhide HP _).mono ?_); rintro e w2 ⟨rfl, k2⟩; have c16 := (G1.no k2).num (i := 16) (by decide); have c17 := (G1.no k2).num (i := 17) (by decide); have c18 := (G1.no k2).num (i := 18) (by decide))
      | ((with_reducible show wpList _ _ _ (⟨_, _, _, _, _, none⟩ :: _) _ _); first
        | (refine wpL_box rfl 33 _ rfl (f.cells v).toArray rfl ?_; intro p w1 e1 k1 g1 z1; have G1 : FrAt w1 p f v := g1; have c0 := h0 ▸ G1.c0; clear e1 z1 g1)
        | (refine wpL_take rfl 24 (.tmp 69) rfl p 19 rfl f.eop.cells (f.cells v).toArray _ _ G1 (fun j x => eop_at) _ Try.underlying24 rfl info_op ?_)))
    have KE := hide (fun w' (k : Chg noBlk w2 w') => (⟨k, ((G1.no k2).no k).num (i := 16) (by decide), ((G1.no k2).no k).num (i := 17) (by decide), ((G1.no k2).no k).num (i := 18) (by decide)⟩ : Chg noBlk w2 w' ∧ w'.cell? ⟨p, 16, none⟩ = some (.int .i64 (f.n 16)) ∧ w'.cell? ⟨p, 17, none⟩ = some (.int .i64 (f.n 17)) ∧ w'.cell? ⟨p, 18, none⟩ = some (.int .i64 (f.n 18))))
    have B0 := Chg.refl noBlk w2
    clear c16 c17 c18 G1 c0
    go_region_held3 (fun w' => Chg noBlk w2 w' ∧ w'.cell? ⟨p, 16, none⟩ = some (.int .i64 (f.n 16)) ∧ w'.cell? ⟨p, 17, none⟩ = some (.int .i64 (f.n 17)) ∧ w'.cell? ⟨p, 18, none⟩ = some (.int .i64 (f.n 18)))
      ((refine unhide KE _ ?_; go_split_ands; first | assumption | exact Chg.drew (by assumption) | exact Chg.drewN (by assumption) _ | exact Chg.andNo (by assumption) (by assumption)))
      (first
        | (go_at_call 41; (with_reducible refine (unhide I1 _).mono ?_); rintro e w6 ⟨rfl, k6⟩)
        | (go_at_call 41; (with_reducible refine (unhide I2 _).mono ?_); rintro e w7 ⟨rfl, k7⟩)
        | (go_at_call 41; (with_reducible refine (unhide I3 _).mono ?_); rintro e w8 ⟨rfl, k8⟩))
    rename_i hH
    obtain ⟨K9, _, _, _⟩ := hH
    go_wp2_with fail
    go_ret2
    exact ⟨by simp, (k1.andNo k2).andNo K9⟩
theorem rbehind_any (hs : Ch.Sl w ad cap f.ch.ms) : Calls Try.prog 40 #[frV f (.slice ad f.ch.ms.length cap)] w (ToldN (rbT f) w) := by
  rcases rb_ways f with ⟨h, e1, e2⟩ | ⟨h, e1, e2⟩ | ⟨h, e1, e2⟩ | ⟨h, e1, e2⟩ | ⟨⟨n1, n2, n4, n8⟩, e1, e2⟩
  · exact rb_1 _ h e1 e2
  · exact rb_2 _ h e1 e2
  · exact rb_4 _ h e1 e2
  · exact rb_8 hs h e1 e2
  · exact rb_x _ n1 n2 n4 n8 e1 e2
end
#print axioms rbehind_any
end Go.Proofs.Ytfplgmkbhpdmjaa.Fm
