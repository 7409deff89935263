/-
  Operations: contracts of an operation's bytes, and of the document's answer beside it.
-/
import Derived.Test.YtfplgmkbhpdmjaaOpsB
import Derived.Test.YtfplgmkbhpdmjaaCodecX
import Derived.Deep.QuietTactic
import Derived.BigQuiet
import Derived.RegionTactic
import Derived.RegionCalls
import Derived.Deep.RegionWith
import Derived.Deep.DeepCutAuto
import Derived.ChangeAlike
import Derived.Deep.DrawnRows
import Derived.Deep.RegionHeld3
namespace Go.Proofs.Ytfplgmkbhpdmjaa
open Go.ChangeShapes Go.WideShapes Go.ChangeAt Go.RowKit
set_option linter.unusedVariables false
attribute [local go_sem] bs_size bs_app bs_cut bs_tl bs_at
theorem int_n (n : Int) (h0 : -9223372036854775808 ≤ n) (h1 : n ≤ 9223372036854775807) (w : World) : Calls Try.prog 45 #[.int .i64 n] w (ToldN (str (intL n)) w) :=
  (int_any n h0 h1 w).mono fun _ _ ⟨a, b⟩ => ⟨a, Chg.ofBelow b⟩
theorem rint_n (n : Int) (h0 : -9223372036854775808 ≤ n) (h1 : n ≤ 9223372036854775807) (w : World) : Calls Try.prog 41 #[.int .i64 n] w (ToldN (str (intL n)) w) :=
  (rint_any n h0 h1 w).mono fun _ _ ⟨a, b⟩ => ⟨a, Chg.ofBelow b⟩
theorem text_n (l : List UInt8) (h1 : l.length ≤ 1048576) (w : World) : Calls Try.prog 62 #[str l] w (ToldN (str (textL l)) w) :=
  (text_any l h1 w).mono fun _ _ ⟨a, b⟩ => ⟨a, Chg.ofBelow b⟩
theorem rtext_n (l : List UInt8) (h1 : l.length ≤ 1048576) (w : World) : Calls Try.prog 59 #[str l] w (ToldN (str (textL l)) w) :=
  (rtext_any l h1 w).mono fun _ _ ⟨a, b⟩ => ⟨a, Chg.ofBelow b⟩
theorem Told.toN {v : Value} {w w' : World} {e : Ending} (h : Told v w e w') : ToldN v w e w' := ⟨h.1, h.2 ▸ Chg.refl _ _⟩
/-- what is told of an operation's bytes -/
def putT (o : PT) : Value := .tuple #[str (putL o), .int .i64 (chk o)]
theorem putT_no {o : PT} (h : ¬ chk o = 0) : putT o = .tuple #[str [], .int .i64 (chk o)] := by unfold putT; rw [putL_no h]
theorem putT_ok {o : PT} (h : chk o = 0) : putT o = .tuple #[str (rawL o), .int .i64 0] := by unfold putT; rw [putL_ok h, h]
theorem chk_world {P : Program} {f : FuncId} {o : PT} {n : Int} (h : chk o = n) (c : ∀ w, Calls P f #[.agg o.cells.toArray] w (ToldN (.int .i64 (chk o)) w)) : ∀ w, Calls P f #[.agg o.cells.toArray] w (ToldN (.int .i64 n) w) := by
  rw [h] at c; exact c
/-- the operation's fields, where nothing of what was there has turned -/
def Fields (w1 : World) (b : Nat) (o : PT) (w' : World) : Prop := Chg noBlk w1 w' ∧ w'.cell? ⟨b, 0, none⟩ = some (.int .i64 o.k) ∧ w'.cell? ⟨b, 1, none⟩ = some (str o.key) ∧ w'.cell? ⟨b, 2, none⟩ = some (str o.val) ∧ w'.cell? ⟨b, 3, none⟩ = some (.int .i64 o.ver)
theorem fields_of {w1 : World} {b : Nat} {o : PT} (h : OpAt w1 b o) : ∀ w', Chg noBlk w1 w' → Chg noBlk w1 w' ∧ w'.cell? ⟨b, 0, none⟩ = some (.int .i64 o.k) ∧ w'.cell? ⟨b, 1, none⟩ = some (str o.key) ∧ w'.cell? ⟨b, 2, none⟩ = some (str o.val) ∧ w'.cell? ⟨b, 3, none⟩ = some (.int .i64 o.ver) :=
  fun w' k => ⟨k, (h.no k).c0, (h.no k).c1, (h.no k).c2, (h.no k).c3⟩
set_option maxRecDepth 100000 in
theorem put_no (o : PT) (h : ¬ chk o = 0) (w : World) : Calls Try.prog 46 #[.agg o.cells.toArray] w (ToldN (putT o) w) := by
  have HC := hide (fun w => check_any o w)
  have HE := hide (putT_no h)
  have d1 : (chk o == 0) = false := by simpa using h
  clear h
  have tk : True := True.intro
  go_enter Try.func46, Try.ntmps46
  go_wp2_with (first
    | (clear tk; refine wpL_box rfl 24 (.tmp 0) rfl o.cells.toArray rfl ?_; intro b w1 e1 k1 g1 z1; have G1 : OpAt w1 b o := g1; clear g1 z1 e1)
    | (refine wpL_load rfl 24 (.tmp 1) rfl b rfl o.cells.toArray _ _ G1 _ Try.underlying24 rfl info_op ?_)
    | (go_at_call 52; refine (unhide HC _).mono ?_; rintro e w2 ⟨rfl, k2⟩))
  go_ret2
  exact ⟨by rw [unhide HE]; rfl, k1.andNo k2⟩
set_option maxRecDepth 100000 in
set_option maxHeartbeats 1000000 in
theorem put_yes (o : PT) (h : chk o = 0) (w : World) : Calls Try.prog 46 #[.agg o.cells.toArray] w (ToldN (putT o) w) := by
  have f := chk_fit.1 h
  have HC := hide (chk_world h (fun w => check_any o w))
  have i1 := int_n o.k (by have := f.k1; omega) (by have := f.k4; omega)
  have i2 := int_n o.ver (by have := f.v0; omega) (by have := f.v1; omega)
  have t1 := text_n o.key (by have := f.l1; omega)
  have t2 := text_n o.val (by have := f.l2; omega)
  have l1 := intL_len o.k
  have l2 := intL_len o.ver
  have l3 : (textL o.key).length ≤ 25 := by have := textL_len o.key (by have := f.l1; omega); have := f.l1; omega
  have l4 : (textL o.val).length ≤ 73 := by have := textL_len o.val (by have := f.l2; omega); have := f.l2; omega
  have s1 : ¬ 9223372036854775807 < (intL o.k).length + (textL o.key).length := by omega
  have s2 : ¬ 9223372036854775807 < (intL o.k).length + (textL o.key).length + (textL o.val).length := by omega
  have s3 : ¬ 9223372036854775807 < (intL o.k).length + ((textL o.key).length + (textL o.val).length) + (intL o.ver).length := by omega
  have I1 := hide i1
  have I2 := hide i2
  have T1 := hide t1
  have T2 := hide t2
  have HE := hide (putT_ok h)
  have HZ := hide h
  have HF := hide f
  clear i1 i2 t1 t2 h f
  have V := fun w => hasvalue_any o.k w
  have N := fun w => hasversion_any o.k w
  obtain ⟨bv, bn, R, hbv, hbn, hR, hw⟩ : ∃ bv bn R, hv o.k = bv ∧ hn o.k = bn ∧ rawL o = R ∧ ((bv = true ∧ bn = false ∧ R = intL o.k ++ (textL o.key ++ textL o.val)) ∨ (bv = true ∧ bn = true ∧ R = intL o.k ++ (textL o.key ++ (textL o.val ++ intL o.ver))) ∨ (bv = false ∧ bn = false ∧ R = intL o.k ++ textL o.key)) := by
    refine ⟨_, _, _, rfl, rfl, rfl, ?_⟩
    by_cases e2 : o.k = 2
    · exact .inl ⟨hv_yes.2 (.inl e2), hn_no.2 (by omega), raw2 e2⟩
    by_cases e4 : o.k = 4
    · exact .inr (.inl ⟨hv_yes.2 (.inr e4), hn_yes.2 e4, raw4 e4⟩)
    · exact .inr (.inr ⟨hv_no.2 ⟨e2, e4⟩, hn_no.2 e4, raw1 e2 e4⟩)
  rw [hbv] at V
  rw [hbn] at N
  rw [← hR] at hw
  clear hbv hbn hR R
  rcases hw with ⟨rfl, rfl, hw⟩ | ⟨rfl, rfl, hw⟩ | ⟨rfl, rfl, hw⟩
  all_goals
    have HV := hide V
    have HN := hide N
    have HW := hide hw
    clear V N hw
    have tk : True := True.intro
    have tl : True := True.intro
    go_enter Try.func46, Try.ntmps46
    go_wp2_with (first
      | (clear tk; refine wpL_box rfl 24 (.tmp 0) rfl o.cells.toArray rfl ?_; intro b w1 e1 k1 g1 z1; have G1 : OpAt w1 b o := g1; clear g1 z1 e1)
      | (clear tl; refine wpL_load rfl 24 (.tmp 1) rfl b rfl o.cells.toArray _ _ G1 _ Try.underlying24 rfl info_op ?_)
      | (go_at_call 52; refine (unhide HC _).mono ?_; rintro e w2 ⟨rfl, k2⟩; have KE := hide (fields_of (G1.no k2)); have B0 := Chg.refl noBlk w2))
    go_region_held3 (fun w' => Chg noBlk w2 w' ∧ w'.cell? ⟨b, 0, none⟩ = some (.int .i64 o.k) ∧ w'.cell? ⟨b, 1, none⟩ = some (str o.key) ∧ w'.cell? ⟨b, 2, none⟩ = some (str o.val) ∧ w'.cell? ⟨b, 3, none⟩ = some (.int .i64 o.ver))
      ((refine unhide KE _ ?_; go_split_ands; first | assumption | exact Chg.drew (by assumption) | exact Chg.drewN (by assumption) _ | exact Chg.andNo (by assumption) (by assumption)))
      (first | (go_at_call 45; refine (unhide I1 _).mono ?_; rintro e w3 ⟨rfl, k3⟩) | (go_at_call 62; refine (unhide T1 _).mono ?_; rintro e w3 ⟨rfl, k3⟩))
    rename_i hH
    obtain ⟨K3, c0, c1, c2, c3⟩ := hH
    have G3 := (G1.no k2).no K3
    clear KE k3
    go_wp2_with (first
      | (go_at_call 63; refine (unhide HV _).mono ?_; rintro e w5 ⟨rfl, rfl⟩)
      | (go_at_call 64; refine (unhide HN _).mono ?_; rintro e w5 ⟨rfl, rfl⟩)
      | (go_at_call 62; refine (unhide T2 _).mono ?_; rintro e w6 ⟨rfl, k6⟩; have c4 := (G3.no k6).c0; have c5 := (G3.no k6).c3)
      | (go_at_call 45; refine (unhide I2 _).mono ?_; rintro e w7 ⟨rfl, k7⟩))
    go_ret2
    first
      | exact ⟨by rw [unhide HE, unhide HW]; rfl, (((k1.andNo k2).andNo K3).andNo k6).andNo k7⟩
      | exact ⟨by rw [unhide HE, unhide HW]; rfl, ((k1.andNo k2).andNo K3).andNo k6⟩
      | exact ⟨by rw [unhide HE, unhide HW]; rfl, (k1.andNo k2).andNo K3⟩
theorem put_any (o : PT) (w : World) : Calls Try.prog 46 #[.agg o.cells.toArray] w (ToldN (putT o) w) := by
  by_cases h : chk o = 0
  · exact put_yes o h w
  · exact put_no o h w
set_option maxRecDepth 100000 in
theorem rput_no (o : PT) (h : ¬ chk o = 0) (w : World) : Calls Try.prog 37 #[.agg o.cells.toArray] w (ToldN (putT o) w) := by
  have HC := hide (fun w => rcheck_any o w)
  have HE := hide (putT_no h)
  have d1 : (chk o == 0) = false := by simpa using h
  clear h
  have tk : True := True.intro
  go_enter Try.func37, Try.ntmps37
  go_wp2_with (first
    | (clear tk; refine wpL_box rfl 24 (.tmp 0) rfl o.cells.toArray rfl ?_; intro b w1 e1 k1 g1 z1; have G1 : OpAt w1 b o := g1; clear g1 z1 e1)
    | (refine wpL_load rfl 24 (.tmp 1) rfl b rfl o.cells.toArray _ _ G1 _ Try.underlying24 rfl info_op ?_)
    | (go_at_call 58; refine (unhide HC _).mono ?_; rintro e w2 ⟨rfl, k2⟩))
  go_ret2
  exact ⟨by rw [unhide HE]; rfl, k1.andNo k2⟩
set_option maxRecDepth 100000 in
set_option maxHeartbeats 1000000 in
theorem rput_yes (o : PT) (h : chk o = 0) (w : World) : Calls Try.prog 37 #[.agg o.cells.toArray] w (ToldN (putT o) w) := by
  have f := chk_fit.1 h
  have HC := hide (chk_world h (fun w => rcheck_any o w))
  have i1 := rint_n o.k (by have := f.k1; omega) (by have := f.k4; omega)
  have i2 := rint_n o.ver (by have := f.v0; omega) (by have := f.v1; omega)
  have t1 := rtext_n o.key (by have := f.l1; omega)
  have t2 := rtext_n o.val (by have := f.l2; omega)
  have l1 := intL_len o.k
  have l2 := intL_len o.ver
  have l3 : (textL o.key).length ≤ 25 := by have := textL_len o.key (by have := f.l1; omega); have := f.l1; omega
  have l4 : (textL o.val).length ≤ 73 := by have := textL_len o.val (by have := f.l2; omega); have := f.l2; omega
  have s1 : ¬ 9223372036854775807 < (intL o.k).length + (textL o.key).length := by omega
  have s2 : ¬ 9223372036854775807 < (intL o.k).length + (textL o.key).length + (textL o.val).length := by omega
  have s3 : ¬ 9223372036854775807 < (intL o.k).length + ((textL o.key).length + (textL o.val).length) + (intL o.ver).length := by omega
  have I1 := hide i1
  have I2 := hide i2
  have T1 := hide t1
  have T2 := hide t2
  have HE := hide (putT_ok h)
  clear i1 i2 t1 t2 h f
  have hw : ((o.k == 2) = true ∧ (o.k == 4) = false ∧ rawL o = intL o.k ++ (textL o.key ++ textL o.val)) ∨ ((o.k == 2) = false ∧ (o.k == 4) = true ∧ rawL o = intL o.k ++ (textL o.key ++ (textL o.val ++ intL o.ver))) ∨ ((o.k == 2) = false ∧ (o.k == 4) = false ∧ rawL o = intL o.k ++ textL o.key) := by
    by_cases e2 : o.k = 2
    · exact .inl ⟨by simpa using e2, by simp; omega, raw2 e2⟩
    by_cases e4 : o.k = 4
    · exact .inr (.inl ⟨by simp; omega, by simpa using e4, raw4 e4⟩)
    · exact .inr (.inr ⟨by simpa using e2, by simpa using e4, raw1 e2 e4⟩)
  rcases hw with ⟨d2, d4, hw⟩ | ⟨d2, d4, hw⟩ | ⟨d2, d4, hw⟩
  all_goals
    have HW := hide hw
    clear hw
    have tk : True := True.intro
    have tl : True := True.intro
    go_enter Try.func37, Try.ntmps37
    go_wp2_with (first
      | (clear tk; refine wpL_box rfl 24 (.tmp 0) rfl o.cells.toArray rfl ?_; intro b w1 e1 k1 g1 z1; have G1 : OpAt w1 b o := g1; clear g1 z1 e1)
      | (clear tl; refine wpL_load rfl 24 (.tmp 1) rfl b rfl o.cells.toArray _ _ G1 _ Try.underlying24 rfl info_op ?_)
      | (go_at_call 58; refine (unhide HC _).mono ?_; rintro e w2 ⟨rfl, k2⟩; have KE := hide (fields_of (G1.no k2)); have B0 := Chg.refl noBlk w2))
    go_region_held3 (fun w' => Chg noBlk w2 w' ∧ w'.cell? ⟨b, 0, none⟩ = some (.int .i64 o.k) ∧ w'.cell? ⟨b, 1, none⟩ = some (str o.key) ∧ w'.cell? ⟨b, 2, none⟩ = some (str o.val) ∧ w'.cell? ⟨b, 3, none⟩ = some (.int .i64 o.ver))
      ((refine unhide KE _ ?_; go_split_ands; first | assumption | exact Chg.drew (by assumption) | exact Chg.drewN (by assumption) _ | exact Chg.andNo (by assumption) (by assumption)))
      (first | (go_at_call 41; refine (unhide I1 _).mono ?_; rintro e w3 ⟨rfl, k3⟩) | (go_at_call 59; refine (unhide T1 _).mono ?_; rintro e w3 ⟨rfl, k3⟩))
    rename_i hH
    obtain ⟨K3, c0, c1, c2, c3⟩ := hH
    have G3 := (G1.no k2).no K3
    clear k3
    go_wp2_with (go_at_call 59; refine (unhide T2 _).mono ?_; rintro e w6 ⟨rfl, k6⟩)
  · go_ret2
    exact ⟨by rw [unhide HE, unhide HW]; rfl, ((k1.andNo k2).andNo K3).andNo k6⟩
  · have KF := hide (fields_of G3)
    have B1 := Chg.refl noBlk w3
    clear KE B0
    go_region_held3 (fun w' => Chg noBlk w3 w' ∧ w'.cell? ⟨b, 0, none⟩ = some (.int .i64 o.k) ∧ w'.cell? ⟨b, 1, none⟩ = some (str o.key) ∧ w'.cell? ⟨b, 2, none⟩ = some (str o.val) ∧ w'.cell? ⟨b, 3, none⟩ = some (.int .i64 o.ver))
      ((refine unhide KF _ ?_; go_split_ands; first | assumption | exact Chg.drew (by assumption) | exact Chg.drewN (by assumption) _ | exact Chg.andNo (by assumption) (by assumption)))
      (first | (go_at_call 41; refine (unhide I2 _).mono ?_; rintro e w6 ⟨rfl, k6⟩) | (go_at_call 59; refine (unhide T2 _).mono ?_; rintro e w6 ⟨rfl, k6⟩))
    all_goals
      rename_i hJ
      obtain ⟨K6, q0, q1, q2, q3⟩ := hJ
      go_wp2
      go_ret2
      exact ⟨by rw [unhide HE, unhide HW]; rfl, ((k1.andNo k2).andNo K3).andNo K6⟩
  · go_ret2
    exact ⟨by rw [unhide HE, unhide HW]; rfl, (k1.andNo k2).andNo K3⟩
theorem rput_any (o : PT) (w : World) : Calls Try.prog 37 #[.agg o.cells.toArray] w (ToldN (putT o) w) := by
  by_cases h : chk o = 0
  · exact rput_yes o h w
  · exact rput_no o h w
end Go.Proofs.Ytfplgmkbhpdmjaa
