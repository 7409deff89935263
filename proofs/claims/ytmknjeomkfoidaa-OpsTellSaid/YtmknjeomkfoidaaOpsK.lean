/-
  Operations: the walk of the law that asks the document's answers.
-/
import Derived.Test.YtmknjeomkfoidaaOpsI
import Derived.Maps.RangeWalk
namespace Go.Proofs.Ytmknjeomkfoidaa
open Go.ChangeShapes Go.WideShapes Go.ChangeAt Go.RowKit
set_option linter.unusedVariables false
attribute [local go_sem] bs_size bs_app bs_cut bs_tl bs_at
/-- where the turns stand -/
def TellAt (w0 : World) (b : Nat) (o : PT) (i : Value) (w : World) : Prop := ∃ k : Nat, k ≤ 7 ∧ i = .int .i64 (k : Int) ∧ Chg noBlk w0 w ∧ OpAt w b o
set_option maxRecDepth 100000 in
set_option maxHeartbeats 4000000 in
theorem opstell_any (o : PT) (w : World) : Calls Try.prog 3 #[.agg o.cells.toArray] w (ToldN (.bool true) w) := by
  have G := fun w => great_any o w
  by_cases h : greatB o = true
  · rw [h] at G
    have HG := hide G
    clear G h
    have t1 : True := True.intro
    go_enter Try.func3, Try.ntmps3
    go_wp2_with (first
      | (go_at_call 7; refine (unhide HG _).mono ?_; rintro e w2 ⟨rfl, k2⟩)
      | (go_at_call 8; refine (told_any _).mono ?_; rintro e w3 ⟨rfl, k3⟩)
      | ((with_reducible show wpList _ _ _ (_ :: _) _ _); first
        | (clear t1; refine wpL_box rfl 23 (.tmp 0) rfl o.cells.toArray rfl ?_; intro b w1 e1 k1 g1 z1; have G1 : OpAt w1 b o := g1; clear g1 z1 e1)
        | (refine wpL_load rfl 23 (.tmp 1) rfl b rfl o.cells.toArray _ _ G1 _ Try.underlying23 rfl info_op ?_)))
    go_ret
    exact ⟨rfl, (k1.andNo k2).andNo k3⟩
  have h' : greatB o = false := by simpa using h
  rw [h'] at G
  have HG := hide G
  clear G h h'
  have t1 : True := True.intro
  go_enter Try.func3, Try.ntmps3
  go_wp2_with (first
    | (go_at_call 7; refine (unhide HG _).mono ?_; rintro e w2 ⟨rfl, k2⟩; have G2 := G1.no k2; have K2 := k1.andNo k2; clear G1 k1 k2 HG)
    | ((with_reducible show wpList _ _ _ (_ :: _) _ _); first
      | (clear t1; refine wpL_box rfl 23 (.tmp 0) rfl o.cells.toArray rfl ?_; intro b w1 e1 k1 g1 z1; have G1 : OpAt w1 b o := g1; clear g1 z1 e1)
      | (refine wpL_load rfl 23 (.tmp 1) rfl b rfl o.cells.toArray _ _ G1 _ Try.underlying23 rfl info_op ?_)))
  go_loopw [3] (fun i wr => TellAt w2 b o i wr) (fun i wr => 7 - (intOf i).toNat)
  case atStart => exact ⟨0, by omega, rfl, Chg.refl _ _, G2⟩
  case round =>
    obtain ⟨k, hk, rfl, hC, hO⟩ := hrel
    have HC := hide hC
    have HO := hide hO
    have HK := hide K2
    clear hC hO K2 G2
    by_cases hlt : k < 7
    · have hx : ∃ x : PT, (k = 0 ∧ x = o) ∨ (0 < k ∧ x = ⟨(k : Int) - 1, o.key, o.val, o.ver⟩) := by
        by_cases e : k = 0
        · exact ⟨_, .inl ⟨e, rfl⟩⟩
        · exact ⟨_, .inr ⟨by omega, rfl⟩⟩
      obtain ⟨x, hx⟩ := hx
      have P := fun w => put_any x w
      have RP := fun w => rput_any x w
      have C := fun w => check_any x w
      have RC := fun w => rcheck_any x w
      have Q := fun w => cost_any x w
      have RQ := fun w => rcost_any x w
      have R := fun w => reads_any x w
      obtain ⟨p, hp⟩ : ∃ p, putT x = .tuple #[str p, .int .i64 (chk x)] := ⟨_, rfl⟩
      rw [hp] at P RP
      have hr : ((x.k == 1) = true ∧ (chk x == 0) = true ∧ readsB x = true) ∨ ((x.k == 1) = true ∧ (chk x == 0) = false ∧ readsB x = false) ∨ ((x.k == 1) = false ∧ readsB x = false) := by
        unfold readsB
        cases (x.k == 1) <;> cases (chk x == 0) <;> simp
      obtain ⟨n, hn⟩ : ∃ n, chk x = n := ⟨_, rfl⟩
      obtain ⟨q, hq⟩ : ∃ q, cost x = q := ⟨_, rfl⟩
      obtain ⟨u, hu⟩ : ∃ u, readsB x = u := ⟨_, rfl⟩
      rw [hn] at P RP C RC hr
      rw [hq] at Q RQ
      rw [hu] at R hr
      have HP := hide P
      have HRP := hide RP
      have HC1 := hide C
      have HC2 := hide RC
      have HQ := hide Q
      have HRQ := hide RQ
      have HR := hide R
      clear P RP C RC Q RQ R hp hn hq hu
      have i1 : (k : Int) < 7 := by omega
      have hx' : (k = 0 ∧ x = o) ∨ (∃ z : Int, 0 < k ∧ (k : Int) - 1 = z ∧ x = ⟨z, o.key, o.val, o.ver⟩) := by
        rcases hx with h | ⟨h1, h2⟩
        · exact .inl h
        · exact .inr ⟨_, h1, rfl, h2⟩
      clear hx
      rcases hx' with ⟨rfl, rfl⟩ | ⟨z, hk0, hz, hx⟩
      rotate_left
      have i2 : (0 : Int) < (k : Int) := by omega
      have HX := hide hx
      clear hx hk0
      rotate_left
      all_goals rcases hr with ⟨d1, d2, rfl⟩ | ⟨d1, d2, rfl⟩ | ⟨d1, rfl⟩
      all_goals
        have t1 : True := True.intro
        go_wp2_with (first
          | (go_at_call 9; refine (unhide HP _).mono ?_; rintro e w6 ⟨rfl, k6⟩; have G6 : OpAt w6 p4 x := (by first | exact GX.no k6 | exact G4.no k6))
          | (go_at_call 10; refine (unhide HRP _).mono ?_; rintro e w7 ⟨rfl, k7⟩; have KE := hide (fields_of (G6.no k7)); have B0 := Chg.refl noBlk w7)
          | ((with_reducible show wpList _ _ _ (_ :: _) _ _); first
            | (refine wpL_load rfl 23 (.tmp 1) rfl b rfl _ _ _ (unhide HO) _ Try.underlying23 rfl info_op ?_)
            | (clear t1; refine wpL_alloc rfl 23 rfl pZero.cells.toArray zero_op ?_; intro p4 w3 e3 k3 g3 z3; have e0 : wr.heap.size ≤ p4 := Nat.le_of_eq e3; have G3 : OpAt w3 p4 pZero := g3; clear e3 g3)
            | (refine wpL_store rfl 23 (.tmp 4) (.tmp 16) rfl p4 _ rfl rfl _ _ G3 info_op rfl (all_oneCell_toArray (PT.one _)) ?_; intro w4 k4 g4 z4; have G4 : OpAt w4 p4 _ := g4; have K4 := k3.past k4 e0; clear g4 z4 G3)
            | (refine wpL_set rfl 3 (.tmp 21) (.tmp 20) rfl p4 0 (.int .i64 z) rfl rfl rfl info_int _ _ G4 (by show 0 < 4; omega) ?_; intro w5 k5 g5 z5; have GX : OpAt w5 p4 x := (by rw [unhide HX]; exact g5); have K5 := K4.past k5 e0; clear g5 z5 G4)
            | (refine wpL_load rfl 23 (.tmp 4) rfl p4 rfl x.cells.toArray _ _ GX _ Try.underlying23 rfl info_op ?_)
            | (refine wpL_load rfl 23 (.tmp 4) rfl p4 rfl x.cells.toArray _ _ G4 _ Try.underlying23 rfl info_op ?_)
            | (refine wpL_load rfl 23 (.tmp 4) rfl p4 rfl x.cells.toArray _ _ G6 _ Try.underlying23 rfl info_op ?_)))
      · (go_region_held3 (fun w' => Chg noBlk w7 w' ∧ w'.cell? ⟨p4, 0, none⟩ = some (.int .i64 x.k) ∧ w'.cell? ⟨p4, 1, none⟩ = some (str x.key) ∧ w'.cell? ⟨p4, 2, none⟩ = some (str x.val) ∧ w'.cell? ⟨p4, 3, none⟩ = some (.int .i64 x.ver))
              ((refine unhide KE _ ?_; go_split_ands; first | assumption | exact Chg.drew (by assumption) | exact Chg.drewN (by assumption) _ | exact Chg.andNo (by assumption) (by assumption)))
              (first | (go_at_call 11; refine (unhide HC1 _).mono ?_; rintro e w8 ⟨rfl, k8⟩) | (go_at_call 12; refine (unhide HC2 _).mono ?_; rintro e w8 ⟨rfl, k8⟩) | (go_at_call 13; refine (unhide HQ _).mono ?_; rintro e w8 ⟨rfl, k8⟩) | (go_at_call 14; refine (unhide HRQ _).mono ?_; rintro e w8 ⟨rfl, k8⟩) | (go_at_call 15; refine (unhide HR _).mono ?_; rintro e w8 ⟨rfl, k8⟩)))
        rename_i hH
        obtain ⟨K8, c0, c1, c2, c3⟩ := hH
        clear c0 c1 c2 c3 KE B0
        go_wp2_with fail
        have KA : Chg noBlk wr w8 := by first | exact ((K5.andNo k6).andNo k7).andNo K8 | exact ((K4.andNo k6).andNo k7).andNo K8
        first
          | exact ⟨⟨k + 1, by omega, rfl, (unhide HC).andNo KA, (unhide HO).no KA⟩, by simp [intOf]; omega⟩
          | exact ⟨⟨1, by omega, rfl, (unhide HC).andNo KA, (unhide HO).no KA⟩, by simp [intOf]⟩
      · (go_region_held3 (fun w' => Chg noBlk w7 w' ∧ w'.cell? ⟨p4, 0, none⟩ = some (.int .i64 x.k) ∧ w'.cell? ⟨p4, 1, none⟩ = some (str x.key) ∧ w'.cell? ⟨p4, 2, none⟩ = some (str x.val) ∧ w'.cell? ⟨p4, 3, none⟩ = some (.int .i64 x.ver))
              ((refine unhide KE _ ?_; go_split_ands; first | assumption | exact Chg.drew (by assumption) | exact Chg.drewN (by assumption) _ | exact Chg.andNo (by assumption) (by assumption)))
              (first | (go_at_call 11; refine (unhide HC1 _).mono ?_; rintro e w8 ⟨rfl, k8⟩) | (go_at_call 12; refine (unhide HC2 _).mono ?_; rintro e w8 ⟨rfl, k8⟩) | (go_at_call 13; refine (unhide HQ _).mono ?_; rintro e w8 ⟨rfl, k8⟩) | (go_at_call 14; refine (unhide HRQ _).mono ?_; rintro e w8 ⟨rfl, k8⟩) | (go_at_call 15; refine (unhide HR _).mono ?_; rintro e w8 ⟨rfl, k8⟩)))
        rename_i hH
        obtain ⟨K8, c0, c1, c2, c3⟩ := hH
        clear c0 c1 c2 c3 KE B0
        go_wp2_with fail
        have KA : Chg noBlk wr w8 := by first | exact ((K5.andNo k6).andNo k7).andNo K8 | exact ((K4.andNo k6).andNo k7).andNo K8
        first
          | exact ⟨⟨k + 1, by omega, rfl, (unhide HC).andNo KA, (unhide HO).no KA⟩, by simp [intOf]; omega⟩
          | exact ⟨⟨1, by omega, rfl, (unhide HC).andNo KA, (unhide HO).no KA⟩, by simp [intOf]⟩
      · refine wp_region_held_drew (S := (fun w' => Chg noBlk w7 w' ∧ w'.cell? ⟨p4, 0, none⟩ = some (.int .i64 x.k) ∧ w'.cell? ⟨p4, 1, none⟩ = some (str x.key) ∧ w'.cell? ⟨p4, 2, none⟩ = some (str x.val) ∧ w'.cell? ⟨p4, 3, none⟩ = some (.int .i64 x.ver))) (by kernel_rfl) ?_ (fun hHeld => ?_)
        · exact unhide KE _ B0.drew
        refine wpAnyH_take (i := 0) (oi := _) (v := ?_) rfl (by kernel_rfl) (by kernel_rfl) (by kernel_rfl) (fun _ _ _ h => h) (Or.inl ⟨by rfl, ?_⟩) (by assumption) ?_
        rotate_left
        · intro w hSw; (try dsimp only at hSw); go_simp; (try with_reducible rfl)
        simp only [Act.put, List.getElem_toArray, List.getElem_cons_zero, List.setIfInBounds_toArray, List.set_cons_zero, List.set_cons_succ]
        refine wpAnyH_take (i := 1) (oi := _) (v := ?_) rfl (by kernel_rfl) (by kernel_rfl) (by kernel_rfl) (fun _ _ _ h => h) (Or.inl ⟨by rfl, ?_⟩) (by assumption) ?_
        rotate_left
        · intro w hSw; (try dsimp only at hSw); go_simp; (try with_reducible rfl)
        simp only [Act.put, List.getElem_toArray, List.getElem_cons_zero, List.getElem_cons_succ, List.setIfInBounds_toArray, List.set_cons_zero, List.set_cons_succ]
        refine wpAnyH_take (i := 2) (oi := _) (v := ?_) rfl (by kernel_rfl) (by kernel_rfl) (by kernel_rfl) (fun _ _ _ h => h) (Or.inl ⟨by rfl, ?_⟩) (by assumption) ?_
        rotate_left
        · intro w hSw; (try dsimp only at hSw); go_simp; (try with_reducible rfl)
        simp only [Act.put, List.getElem_toArray, List.getElem_cons_zero, List.getElem_cons_succ, List.setIfInBounds_toArray, List.set_cons_zero, List.set_cons_succ]
        refine wpAnyH_take (i := 3) (oi := _) (v := ?_) rfl (by kernel_rfl) (by kernel_rfl) (by kernel_rfl) (fun _ _ _ h => h) (Or.inl ⟨by rfl, ?_⟩) (by assumption) ?_
        rotate_left
        · intro w hSw; (try dsimp only at hSw); go_simp; (try with_reducible rfl)
        simp only [Act.put, List.getElem_toArray, List.getElem_cons_zero, List.getElem_cons_succ, List.setIfInBounds_toArray, List.set_cons_zero, List.set_cons_succ]
        refine wpAnyH_take (i := 4) (oi := _) (v := ?_) rfl (by kernel_rfl) (by kernel_rfl) (by kernel_rfl) (fun _ _ _ h => h) (Or.inl ⟨by rfl, ?_⟩) (by assumption) ?_
        rotate_left
        · intro w hSw; (try dsimp only at hSw); go_simp; (try with_reducible rfl)
        simp only [Act.put, List.getElem_toArray, List.getElem_cons_zero, List.getElem_cons_succ, List.setIfInBounds_toArray, List.set_cons_zero, List.set_cons_succ]
        refine wpAnyH_take (i := 5) (oi := _) (v := ?_) rfl (by kernel_rfl) (by kernel_rfl) (by kernel_rfl) (fun _ _ _ h => h) (Or.inl ⟨by rfl, ?_⟩) (by assumption) ?_
        rotate_left
        · intro w hSw; (try dsimp only at hSw); go_simp; (try with_reducible rfl)
        simp only [Act.put, List.getElem_toArray, List.getElem_cons_zero, List.getElem_cons_succ, List.setIfInBounds_toArray, List.set_cons_zero, List.set_cons_succ]
        refine wpAnyH_take (i := 6) (oi := _) (v := ?_) rfl (by kernel_rfl) (by kernel_rfl) (by kernel_rfl) (fun _ _ _ h => h) (Or.inl ⟨by rfl, ?_⟩) (by assumption) ?_
        rotate_left
        · intro w hSw; (try dsimp only at hSw); go_simp; (try with_reducible rfl)
        simp only [Act.put, List.getElem_toArray, List.getElem_cons_zero, List.getElem_cons_succ, List.setIfInBounds_toArray, List.set_cons_zero, List.set_cons_succ]
        refine wpAnyH_take (i := 7) (oi := _) (v := ?_) rfl (by kernel_rfl) (by kernel_rfl) (by kernel_rfl) (fun _ _ _ h => h) (Or.inl ⟨by rfl, ?_⟩) (by assumption) ?_
        rotate_left
        · intro w hSw; (try dsimp only at hSw); go_simp; (try with_reducible rfl)
        simp only [Act.put, List.getElem_toArray, List.getElem_cons_zero, List.getElem_cons_succ, List.setIfInBounds_toArray, List.set_cons_zero, List.set_cons_succ]
        refine wpAnyH_take (i := 8) (oi := _) (v := ?_) rfl (by kernel_rfl) (by kernel_rfl) (by kernel_rfl) (fun _ _ _ h => h) (Or.inl ⟨by rfl, ?_⟩) (by assumption) ?_
        rotate_left
        · intro w hSw; (try dsimp only at hSw); go_simp; (try with_reducible rfl)
        simp only [Act.put, List.getElem_toArray, List.getElem_cons_zero, List.getElem_cons_succ, List.setIfInBounds_toArray, List.set_cons_zero, List.set_cons_succ]
        refine wpAnyH_take (i := 9) (oi := _) (v := ?_) rfl (by kernel_rfl) (by kernel_rfl) (by kernel_rfl) (fun _ _ _ h => h) (Or.inl ⟨by rfl, ?_⟩) (by assumption) ?_
        rotate_left
        · intro w hSw; (try dsimp only at hSw); go_simp; (try with_reducible rfl)
        simp only [Act.put, List.getElem_toArray, List.getElem_cons_zero, List.getElem_cons_succ, List.setIfInBounds_toArray, List.set_cons_zero, List.set_cons_succ]
        refine wpAnyH_take (i := 11) (oi := _) (v := ?_) rfl (by kernel_rfl) (by kernel_rfl) (by kernel_rfl) (fun _ _ _ h => h) (Or.inl ⟨by rfl, ?_⟩) (by assumption) ?_
        rotate_left
        · intro w hSw; (try dsimp only at hSw); go_simp; (try with_reducible rfl)
        simp only [Act.put, List.getElem_toArray, List.getElem_cons_zero, List.getElem_cons_succ, List.setIfInBounds_toArray, List.set_cons_zero, List.set_cons_succ]
        refine wpAnyH_ready (rs := [10]) (by kernel_rfl) (by simp) ?_
        refine AllReadyH.cons (o := _) rfl (fun K hK => ?_) AllReadyH.nil
        go_simp
        (go_at_call 11; refine (unhide HC1 _).mono ?_; rintro e w11 ⟨rfl, k11⟩)
        refine hK.out _ _ ?_ (fun hHeld11 => ?_)
        · exact unhide KE _ ((B0.drew).andNo k11)
        clear hK K
        refine wpAnyH_ready (rs := [12]) (by kernel_rfl) (by simp) ?_
        refine AllReadyH.cons (o := _) rfl (fun K hK => ?_) AllReadyH.nil
        go_simp
        (go_at_call 12; refine (unhide HC2 _).mono ?_; rintro e w12 ⟨rfl, k12⟩)
        refine hK.out _ _ ?_ (fun hHeld12 => ?_)
        · exact unhide KE _ (((B0.drew).andNo k11).andNo k12)
        clear hK K
        refine wpAnyH_take (i := 13) (oi := _) (v := ?_) rfl (by kernel_rfl) (by kernel_rfl) (by kernel_rfl) (fun _ _ _ h => h) (Or.inl ⟨by rfl, ?_⟩) (by assumption) ?_
        rotate_left
        · intro w hSw; (try dsimp only at hSw); go_simp; (try with_reducible rfl)
        simp only [Act.put, List.getElem_toArray, List.getElem_cons_zero, List.getElem_cons_succ, List.setIfInBounds_toArray, List.set_cons_zero, List.set_cons_succ]
        refine wpAnyH_take (i := 14) (oi := _) (v := ?_) rfl (by kernel_rfl) (by kernel_rfl) (by kernel_rfl) (fun _ _ _ h => h) (Or.inl ⟨by rfl, ?_⟩) (by assumption) ?_
        rotate_left
        · intro w hSw; (try dsimp only at hSw); go_simp; (try with_reducible rfl)
        simp only [Act.put, List.getElem_toArray, List.getElem_cons_zero, List.getElem_cons_succ, List.setIfInBounds_toArray, List.set_cons_zero, List.set_cons_succ]
        refine wpAnyH_take (i := 15) (oi := _) (v := ?_) rfl (by kernel_rfl) (by kernel_rfl) (by kernel_rfl) (fun _ _ _ h => h) (Or.inl ⟨by rfl, ?_⟩) (by assumption) ?_
        rotate_left
        · intro w hSw; (try dsimp only at hSw); go_simp; (try with_reducible rfl)
        simp only [Act.put, List.getElem_toArray, List.getElem_cons_zero, List.getElem_cons_succ, List.setIfInBounds_toArray, List.set_cons_zero, List.set_cons_succ]
        refine wpAnyH_take (i := 16) (oi := _) (v := ?_) rfl (by kernel_rfl) (by kernel_rfl) (by kernel_rfl) (fun _ _ _ h => h) (Or.inl ⟨by rfl, ?_⟩) (by assumption) ?_
        rotate_left
        · intro w hSw; (try dsimp only at hSw); go_simp; (try with_reducible rfl)
        simp only [Act.put, List.getElem_toArray, List.getElem_cons_zero, List.getElem_cons_succ, List.setIfInBounds_toArray, List.set_cons_zero, List.set_cons_succ]
        refine wpAnyH_take (i := 18) (oi := _) (v := ?_) rfl (by kernel_rfl) (by kernel_rfl) (by kernel_rfl) (fun _ _ _ h => h) (Or.inl ⟨by rfl, ?_⟩) (by assumption) ?_
        rotate_left
        · intro w hSw; (try dsimp only at hSw); go_simp; (try with_reducible rfl)
        simp only [Act.put, List.getElem_toArray, List.getElem_cons_zero, List.getElem_cons_succ, List.setIfInBounds_toArray, List.set_cons_zero, List.set_cons_succ]
        refine wpAnyH_ready (rs := [17]) (by kernel_rfl) (by simp) ?_
        refine AllReadyH.cons (o := _) rfl (fun K hK => ?_) AllReadyH.nil
        go_simp
        (go_at_call 13; refine (unhide HQ _).mono ?_; rintro e w13 ⟨rfl, k13⟩)
        refine hK.out _ _ ?_ (fun hHeld13 => ?_)
        · exact unhide KE _ ((((B0.drew).andNo k11).andNo k12).andNo k13)
        clear hK K
        refine wpAnyH_ready (rs := [19]) (by kernel_rfl) (by simp) ?_
        refine AllReadyH.cons (o := _) rfl (fun K hK => ?_) AllReadyH.nil
        go_simp
        (go_at_call 14; refine (unhide HRQ _).mono ?_; rintro e w14 ⟨rfl, k14⟩)
        refine hK.out _ _ ?_ (fun hHeld14 => ?_)
        · exact unhide KE _ (((((B0.drew).andNo k11).andNo k12).andNo k13).andNo k14)
        clear hK K
        refine wpAnyH_take (i := 20) (oi := _) (v := ?_) rfl (by kernel_rfl) (by kernel_rfl) (by kernel_rfl) (fun _ _ _ h => h) (Or.inl ⟨by rfl, ?_⟩) (by assumption) ?_
        rotate_left
        · intro w hSw; (try dsimp only at hSw); go_simp; (try with_reducible rfl)
        simp only [Act.put, List.getElem_toArray, List.getElem_cons_zero, List.getElem_cons_succ, List.setIfInBounds_toArray, List.set_cons_zero, List.set_cons_succ]
        refine wpAnyH_take (i := 21) (oi := _) (v := ?_) rfl (by kernel_rfl) (by kernel_rfl) (by kernel_rfl) (fun _ _ _ h => h) (Or.inl ⟨by rfl, ?_⟩) (by assumption) ?_
        rotate_left
        · intro w hSw; (try dsimp only at hSw); go_simp; (try with_reducible rfl)
        simp only [Act.put, List.getElem_toArray, List.getElem_cons_zero, List.getElem_cons_succ, List.setIfInBounds_toArray, List.set_cons_zero, List.set_cons_succ]
        refine wpAnyH_take (i := 22) (oi := _) (v := ?_) rfl (by kernel_rfl) (by kernel_rfl) (by kernel_rfl) (fun _ _ _ h => h) (Or.inl ⟨by rfl, ?_⟩) (by assumption) ?_
        rotate_left
        · intro w hSw; (try dsimp only at hSw); go_simp; (try with_reducible rfl)
        simp only [Act.put, List.getElem_toArray, List.getElem_cons_zero, List.getElem_cons_succ, List.setIfInBounds_toArray, List.set_cons_zero, List.set_cons_succ]
        refine wpAnyH_take (i := 23) (oi := _) (v := ?_) rfl (by kernel_rfl) (by kernel_rfl) (by kernel_rfl) (fun _ _ _ h => h) (Or.inl ⟨by rfl, ?_⟩) (by assumption) ?_
        rotate_left
        · intro w hSw; (try dsimp only at hSw); go_simp; (try with_reducible rfl)
        simp only [Act.put, List.getElem_toArray, List.getElem_cons_zero, List.getElem_cons_succ, List.setIfInBounds_toArray, List.set_cons_zero, List.set_cons_succ]
        refine wpAnyH_take (i := 25) (oi := _) (v := ?_) rfl (by kernel_rfl) (by kernel_rfl) (by kernel_rfl) (fun _ _ _ h => h) (Or.inl ⟨by rfl, ?_⟩) (by assumption) ?_
        rotate_left
        · intro w hSw; (try dsimp only at hSw); go_simp; (try with_reducible rfl)
        simp only [Act.put, List.getElem_toArray, List.getElem_cons_zero, List.getElem_cons_succ, List.setIfInBounds_toArray, List.set_cons_zero, List.set_cons_succ]
        refine wpAnyH_take (i := 26) (oi := _) (v := ?_) rfl (by kernel_rfl) (by kernel_rfl) (by kernel_rfl) (fun _ _ _ h => h) (Or.inl ⟨by rfl, ?_⟩) (by assumption) ?_
        rotate_left
        · intro w hSw; (try dsimp only at hSw); go_simp; (try with_reducible rfl)
        simp only [Act.put, List.getElem_toArray, List.getElem_cons_zero, List.getElem_cons_succ, List.setIfInBounds_toArray, List.set_cons_zero, List.set_cons_succ]
        refine wpAnyH_take (i := 27) (oi := _) (v := ?_) rfl (by kernel_rfl) (by kernel_rfl) (by kernel_rfl) (fun _ _ _ h => h) (Or.inl ⟨by rfl, ?_⟩) (by assumption) ?_
        rotate_left
        · intro w hSw; (try dsimp only at hSw); go_simp; (try with_reducible rfl)
        simp only [Act.put, List.getElem_toArray, List.getElem_cons_zero, List.getElem_cons_succ, List.setIfInBounds_toArray, List.set_cons_zero, List.set_cons_succ]
        refine wpAnyH_ready (rs := [24]) (by kernel_rfl) (by simp) ?_
        refine AllReadyH.cons (o := _) rfl (fun K hK => ?_) AllReadyH.nil
        go_simp
        (go_at_call 15; refine (unhide HR _).mono ?_; rintro e w15 ⟨rfl, k15⟩)
        refine hK.out _ _ ?_ (fun hHeld15 => ?_)
        · exact unhide KE _ ((((((B0.drew).andNo k11).andNo k12).andNo k13).andNo k14).andNo k15)
        clear hK K
        refine wpAnyH_take (i := 28) (oi := _) (v := ?_) rfl (by kernel_rfl) (by kernel_rfl) (by kernel_rfl) (fun _ _ _ h => h) (Or.inl ⟨by rfl, ?_⟩) (by assumption) ?_
        rotate_left
        · intro w hSw; (try dsimp only at hSw); go_simp; (try with_reducible rfl)
        simp only [Act.put, List.getElem_toArray, List.getElem_cons_zero, List.getElem_cons_succ, List.setIfInBounds_toArray, List.set_cons_zero, List.set_cons_succ]
        refine wpAnyH_take (i := 29) (oi := _) (v := undef) rfl (by kernel_rfl) (by kernel_rfl) (by kernel_rfl) (fun _ _ _ h => h) (Or.inr ⟨by rfl, rfl⟩) (by assumption) ?_
        simp only [Act.put, List.getElem_toArray, List.getElem_cons_zero, List.getElem_cons_succ, List.setIfInBounds_toArray, List.set_cons_zero, List.set_cons_succ]
        refine wpAnyH_take (i := 30) (oi := _) (v := undef) rfl (by kernel_rfl) (by kernel_rfl) (by kernel_rfl) (fun _ _ _ h => h) (Or.inr ⟨by rfl, rfl⟩) (by assumption) ?_
        simp only [Act.put, List.getElem_toArray, List.getElem_cons_zero, List.getElem_cons_succ, List.setIfInBounds_toArray, List.set_cons_zero, List.set_cons_succ]
        refine wpAnyH_take (i := 31) (oi := _) (v := undef) rfl (by kernel_rfl) (by kernel_rfl) (by kernel_rfl) (fun _ _ _ h => h) (Or.inr ⟨by rfl, rfl⟩) (by assumption) ?_
        simp only [Act.put, List.getElem_toArray, List.getElem_cons_zero, List.getElem_cons_succ, List.setIfInBounds_toArray, List.set_cons_zero, List.set_cons_succ]
        refine wpAnyH_take (i := 32) (oi := _) (v := ?_) rfl (by kernel_rfl) (by kernel_rfl) (by kernel_rfl) (fun _ _ _ h => h) (Or.inl ⟨by rfl, ?_⟩) (by assumption) ?_
        rotate_left
        · intro w hSw; (try dsimp only at hSw); go_simp; (try with_reducible rfl)
        simp only [Act.put, List.getElem_toArray, List.getElem_cons_zero, List.getElem_cons_succ, List.setIfInBounds_toArray, List.set_cons_zero, List.set_cons_succ]
        refine wpAnyH_take (i := 33) (oi := _) (v := ?_) rfl (by kernel_rfl) (by kernel_rfl) (by kernel_rfl) (fun _ _ _ h => h) (Or.inl ⟨by rfl, ?_⟩) (by assumption) ?_
        rotate_left
        · intro w hSw; (try dsimp only at hSw); go_simp; (try with_reducible rfl)
        simp only [Act.put, List.getElem_toArray, List.getElem_cons_zero, List.getElem_cons_succ, List.setIfInBounds_toArray, List.set_cons_zero, List.set_cons_succ]
        refine wpAnyH_take (i := 34) (oi := _) (v := ?_) rfl (by kernel_rfl) (by kernel_rfl) (by kernel_rfl) (fun _ _ _ h => h) (Or.inl ⟨by rfl, ?_⟩) (by assumption) ?_
        rotate_left
        · intro w hSw; (try dsimp only at hSw); go_simp; (try with_reducible rfl)
        simp only [Act.put, List.getElem_toArray, List.getElem_cons_zero, List.getElem_cons_succ, List.setIfInBounds_toArray, List.set_cons_zero, List.set_cons_succ]
        refine wpAnyH_done (by kernel_rfl) ?_ _
        clear hHeld hHeld11 hHeld12 hHeld13 hHeld14 hHeld15 KE
        go_wp2_with fail
        have K8 := (((((B0.drew).andNo k11).andNo k12).andNo k13).andNo k14).andNo k15
        have KA : Chg noBlk wr w15 := by first | exact ((K5.andNo k6).andNo k7).andNo K8 | exact ((K4.andNo k6).andNo k7).andNo K8
        first
          | exact ⟨⟨k + 1, by omega, rfl, (unhide HC).andNo KA, (unhide HO).no KA⟩, by simp [intOf]; omega⟩
          | exact ⟨⟨1, by omega, rfl, (unhide HC).andNo KA, (unhide HO).no KA⟩, by simp [intOf]⟩
      · (go_region_held3 (fun w' => Chg noBlk w7 w' ∧ w'.cell? ⟨p4, 0, none⟩ = some (.int .i64 x.k) ∧ w'.cell? ⟨p4, 1, none⟩ = some (str x.key) ∧ w'.cell? ⟨p4, 2, none⟩ = some (str x.val) ∧ w'.cell? ⟨p4, 3, none⟩ = some (.int .i64 x.ver))
              ((refine unhide KE _ ?_; go_split_ands; first | assumption | exact Chg.drew (by assumption) | exact Chg.drewN (by assumption) _ | exact Chg.andNo (by assumption) (by assumption)))
              (first | (go_at_call 11; refine (unhide HC1 _).mono ?_; rintro e w8 ⟨rfl, k8⟩) | (go_at_call 12; refine (unhide HC2 _).mono ?_; rintro e w8 ⟨rfl, k8⟩) | (go_at_call 13; refine (unhide HQ _).mono ?_; rintro e w8 ⟨rfl, k8⟩) | (go_at_call 14; refine (unhide HRQ _).mono ?_; rintro e w8 ⟨rfl, k8⟩) | (go_at_call 15; refine (unhide HR _).mono ?_; rintro e w8 ⟨rfl, k8⟩)))
        rename_i hH
        obtain ⟨K8, c0, c1, c2, c3⟩ := hH
        clear c0 c1 c2 c3 KE B0
        go_wp2_with fail
        have KA : Chg noBlk wr w8 := by first | exact ((K5.andNo k6).andNo k7).andNo K8 | exact ((K4.andNo k6).andNo k7).andNo K8
        first
          | exact ⟨⟨k + 1, by omega, rfl, (unhide HC).andNo KA, (unhide HO).no KA⟩, by simp [intOf]; omega⟩
          | exact ⟨⟨1, by omega, rfl, (unhide HC).andNo KA, (unhide HO).no KA⟩, by simp [intOf]⟩
      · (go_region_held3 (fun w' => Chg noBlk w7 w' ∧ w'.cell? ⟨p4, 0, none⟩ = some (.int .i64 x.k) ∧ w'.cell? ⟨p4, 1, none⟩ = some (str x.key) ∧ w'.cell? ⟨p4, 2, none⟩ = some (str x.val) ∧ w'.cell? ⟨p4, 3, none⟩ = some (.int .i64 x.ver))
              ((refine unhide KE _ ?_; go_split_ands; first | assumption | exact Chg.drew (by assumption) | exact Chg.drewN (by assumption) _ | exact Chg.andNo (by assumption) (by assumption)))
              (first | (go_at_call 11; refine (unhide HC1 _).mono ?_; rintro e w8 ⟨rfl, k8⟩) | (go_at_call 12; refine (unhide HC2 _).mono ?_; rintro e w8 ⟨rfl, k8⟩) | (go_at_call 13; refine (unhide HQ _).mono ?_; rintro e w8 ⟨rfl, k8⟩) | (go_at_call 14; refine (unhide HRQ _).mono ?_; rintro e w8 ⟨rfl, k8⟩) | (go_at_call 15; refine (unhide HR _).mono ?_; rintro e w8 ⟨rfl, k8⟩)))
        rename_i hH
        obtain ⟨K8, c0, c1, c2, c3⟩ := hH
        clear c0 c1 c2 c3 KE B0
        go_wp2_with fail
        have KA : Chg noBlk wr w8 := by first | exact ((K5.andNo k6).andNo k7).andNo K8 | exact ((K4.andNo k6).andNo k7).andNo K8
        first
          | exact ⟨⟨k + 1, by omega, rfl, (unhide HC).andNo KA, (unhide HO).no KA⟩, by simp [intOf]; omega⟩
          | exact ⟨⟨1, by omega, rfl, (unhide HC).andNo KA, (unhide HO).no KA⟩, by simp [intOf]⟩
      · refine wp_region_held_drew (S := (fun w' => Chg noBlk w7 w' ∧ w'.cell? ⟨p4, 0, none⟩ = some (.int .i64 x.k) ∧ w'.cell? ⟨p4, 1, none⟩ = some (str x.key) ∧ w'.cell? ⟨p4, 2, none⟩ = some (str x.val) ∧ w'.cell? ⟨p4, 3, none⟩ = some (.int .i64 x.ver))) (by kernel_rfl) ?_ (fun hHeld => ?_)
        · exact unhide KE _ B0.drew
        refine wpAnyH_take (i := 0) (oi := _) (v := ?_) rfl (by kernel_rfl) (by kernel_rfl) (by kernel_rfl) (fun _ _ _ h => h) (Or.inl ⟨by rfl, ?_⟩) (by assumption) ?_
        rotate_left
        · intro w hSw; (try dsimp only at hSw); go_simp; (try with_reducible rfl)
        simp only [Act.put, List.getElem_toArray, List.getElem_cons_zero, List.setIfInBounds_toArray, List.set_cons_zero, List.set_cons_succ]
        refine wpAnyH_take (i := 1) (oi := _) (v := ?_) rfl (by kernel_rfl) (by kernel_rfl) (by kernel_rfl) (fun _ _ _ h => h) (Or.inl ⟨by rfl, ?_⟩) (by assumption) ?_
        rotate_left
        · intro w hSw; (try dsimp only at hSw); go_simp; (try with_reducible rfl)
        simp only [Act.put, List.getElem_toArray, List.getElem_cons_zero, List.getElem_cons_succ, List.setIfInBounds_toArray, List.set_cons_zero, List.set_cons_succ]
        refine wpAnyH_take (i := 2) (oi := _) (v := ?_) rfl (by kernel_rfl) (by kernel_rfl) (by kernel_rfl) (fun _ _ _ h => h) (Or.inl ⟨by rfl, ?_⟩) (by assumption) ?_
        rotate_left
        · intro w hSw; (try dsimp only at hSw); go_simp; (try with_reducible rfl)
        simp only [Act.put, List.getElem_toArray, List.getElem_cons_zero, List.getElem_cons_succ, List.setIfInBounds_toArray, List.set_cons_zero, List.set_cons_succ]
        refine wpAnyH_take (i := 3) (oi := _) (v := ?_) rfl (by kernel_rfl) (by kernel_rfl) (by kernel_rfl) (fun _ _ _ h => h) (Or.inl ⟨by rfl, ?_⟩) (by assumption) ?_
        rotate_left
        · intro w hSw; (try dsimp only at hSw); go_simp; (try with_reducible rfl)
        simp only [Act.put, List.getElem_toArray, List.getElem_cons_zero, List.getElem_cons_succ, List.setIfInBounds_toArray, List.set_cons_zero, List.set_cons_succ]
        refine wpAnyH_take (i := 4) (oi := _) (v := ?_) rfl (by kernel_rfl) (by kernel_rfl) (by kernel_rfl) (fun _ _ _ h => h) (Or.inl ⟨by rfl, ?_⟩) (by assumption) ?_
        rotate_left
        · intro w hSw; (try dsimp only at hSw); go_simp; (try with_reducible rfl)
        simp only [Act.put, List.getElem_toArray, List.getElem_cons_zero, List.getElem_cons_succ, List.setIfInBounds_toArray, List.set_cons_zero, List.set_cons_succ]
        refine wpAnyH_take (i := 5) (oi := _) (v := ?_) rfl (by kernel_rfl) (by kernel_rfl) (by kernel_rfl) (fun _ _ _ h => h) (Or.inl ⟨by rfl, ?_⟩) (by assumption) ?_
        rotate_left
        · intro w hSw; (try dsimp only at hSw); go_simp; (try with_reducible rfl)
        simp only [Act.put, List.getElem_toArray, List.getElem_cons_zero, List.getElem_cons_succ, List.setIfInBounds_toArray, List.set_cons_zero, List.set_cons_succ]
        refine wpAnyH_take (i := 6) (oi := _) (v := ?_) rfl (by kernel_rfl) (by kernel_rfl) (by kernel_rfl) (fun _ _ _ h => h) (Or.inl ⟨by rfl, ?_⟩) (by assumption) ?_
        rotate_left
        · intro w hSw; (try dsimp only at hSw); go_simp; (try with_reducible rfl)
        simp only [Act.put, List.getElem_toArray, List.getElem_cons_zero, List.getElem_cons_succ, List.setIfInBounds_toArray, List.set_cons_zero, List.set_cons_succ]
        refine wpAnyH_take (i := 7) (oi := _) (v := ?_) rfl (by kernel_rfl) (by kernel_rfl) (by kernel_rfl) (fun _ _ _ h => h) (Or.inl ⟨by rfl, ?_⟩) (by assumption) ?_
        rotate_left
        · intro w hSw; (try dsimp only at hSw); go_simp; (try with_reducible rfl)
        simp only [Act.put, List.getElem_toArray, List.getElem_cons_zero, List.getElem_cons_succ, List.setIfInBounds_toArray, List.set_cons_zero, List.set_cons_succ]
        refine wpAnyH_take (i := 8) (oi := _) (v := ?_) rfl (by kernel_rfl) (by kernel_rfl) (by kernel_rfl) (fun _ _ _ h => h) (Or.inl ⟨by rfl, ?_⟩) (by assumption) ?_
        rotate_left
        · intro w hSw; (try dsimp only at hSw); go_simp; (try with_reducible rfl)
        simp only [Act.put, List.getElem_toArray, List.getElem_cons_zero, List.getElem_cons_succ, List.setIfInBounds_toArray, List.set_cons_zero, List.set_cons_succ]
        refine wpAnyH_take (i := 9) (oi := _) (v := ?_) rfl (by kernel_rfl) (by kernel_rfl) (by kernel_rfl) (fun _ _ _ h => h) (Or.inl ⟨by rfl, ?_⟩) (by assumption) ?_
        rotate_left
        · intro w hSw; (try dsimp only at hSw); go_simp; (try with_reducible rfl)
        simp only [Act.put, List.getElem_toArray, List.getElem_cons_zero, List.getElem_cons_succ, List.setIfInBounds_toArray, List.set_cons_zero, List.set_cons_succ]
        refine wpAnyH_take (i := 11) (oi := _) (v := ?_) rfl (by kernel_rfl) (by kernel_rfl) (by kernel_rfl) (fun _ _ _ h => h) (Or.inl ⟨by rfl, ?_⟩) (by assumption) ?_
        rotate_left
        · intro w hSw; (try dsimp only at hSw); go_simp; (try with_reducible rfl)
        simp only [Act.put, List.getElem_toArray, List.getElem_cons_zero, List.getElem_cons_succ, List.setIfInBounds_toArray, List.set_cons_zero, List.set_cons_succ]
        refine wpAnyH_ready (rs := [10]) (by kernel_rfl) (by simp) ?_
        refine AllReadyH.cons (o := _) rfl (fun K hK => ?_) AllReadyH.nil
        go_simp
        (go_at_call 11; refine (unhide HC1 _).mono ?_; rintro e w11 ⟨rfl, k11⟩)
        refine hK.out _ _ ?_ (fun hHeld11 => ?_)
        · exact unhide KE _ ((B0.drew).andNo k11)
        clear hK K
        refine wpAnyH_ready (rs := [12]) (by kernel_rfl) (by simp) ?_
        refine AllReadyH.cons (o := _) rfl (fun K hK => ?_) AllReadyH.nil
        go_simp
        (go_at_call 12; refine (unhide HC2 _).mono ?_; rintro e w12 ⟨rfl, k12⟩)
        refine hK.out _ _ ?_ (fun hHeld12 => ?_)
        · exact unhide KE _ (((B0.drew).andNo k11).andNo k12)
        clear hK K
        refine wpAnyH_take (i := 13) (oi := _) (v := ?_) rfl (by kernel_rfl) (by kernel_rfl) (by kernel_rfl) (fun _ _ _ h => h) (Or.inl ⟨by rfl, ?_⟩) (by assumption) ?_
        rotate_left
        · intro w hSw; (try dsimp only at hSw); go_simp; (try with_reducible rfl)
        simp only [Act.put, List.getElem_toArray, List.getElem_cons_zero, List.getElem_cons_succ, List.setIfInBounds_toArray, List.set_cons_zero, List.set_cons_succ]
        refine wpAnyH_take (i := 14) (oi := _) (v := ?_) rfl (by kernel_rfl) (by kernel_rfl) (by kernel_rfl) (fun _ _ _ h => h) (Or.inl ⟨by rfl, ?_⟩) (by assumption) ?_
        rotate_left
        · intro w hSw; (try dsimp only at hSw); go_simp; (try with_reducible rfl)
        simp only [Act.put, List.getElem_toArray, List.getElem_cons_zero, List.getElem_cons_succ, List.setIfInBounds_toArray, List.set_cons_zero, List.set_cons_succ]
        refine wpAnyH_take (i := 15) (oi := _) (v := ?_) rfl (by kernel_rfl) (by kernel_rfl) (by kernel_rfl) (fun _ _ _ h => h) (Or.inl ⟨by rfl, ?_⟩) (by assumption) ?_
        rotate_left
        · intro w hSw; (try dsimp only at hSw); go_simp; (try with_reducible rfl)
        simp only [Act.put, List.getElem_toArray, List.getElem_cons_zero, List.getElem_cons_succ, List.setIfInBounds_toArray, List.set_cons_zero, List.set_cons_succ]
        refine wpAnyH_take (i := 16) (oi := _) (v := ?_) rfl (by kernel_rfl) (by kernel_rfl) (by kernel_rfl) (fun _ _ _ h => h) (Or.inl ⟨by rfl, ?_⟩) (by assumption) ?_
        rotate_left
        · intro w hSw; (try dsimp only at hSw); go_simp; (try with_reducible rfl)
        simp only [Act.put, List.getElem_toArray, List.getElem_cons_zero, List.getElem_cons_succ, List.setIfInBounds_toArray, List.set_cons_zero, List.set_cons_succ]
        refine wpAnyH_take (i := 18) (oi := _) (v := ?_) rfl (by kernel_rfl) (by kernel_rfl) (by kernel_rfl) (fun _ _ _ h => h) (Or.inl ⟨by rfl, ?_⟩) (by assumption) ?_
        rotate_left
        · intro w hSw; (try dsimp only at hSw); go_simp; (try with_reducible rfl)
        simp only [Act.put, List.getElem_toArray, List.getElem_cons_zero, List.getElem_cons_succ, List.setIfInBounds_toArray, List.set_cons_zero, List.set_cons_succ]
        refine wpAnyH_ready (rs := [17]) (by kernel_rfl) (by simp) ?_
        refine AllReadyH.cons (o := _) rfl (fun K hK => ?_) AllReadyH.nil
        go_simp
        (go_at_call 13; refine (unhide HQ _).mono ?_; rintro e w13 ⟨rfl, k13⟩)
        refine hK.out _ _ ?_ (fun hHeld13 => ?_)
        · exact unhide KE _ ((((B0.drew).andNo k11).andNo k12).andNo k13)
        clear hK K
        refine wpAnyH_ready (rs := [19]) (by kernel_rfl) (by simp) ?_
        refine AllReadyH.cons (o := _) rfl (fun K hK => ?_) AllReadyH.nil
        go_simp
        (go_at_call 14; refine (unhide HRQ _).mono ?_; rintro e w14 ⟨rfl, k14⟩)
        refine hK.out _ _ ?_ (fun hHeld14 => ?_)
        · exact unhide KE _ (((((B0.drew).andNo k11).andNo k12).andNo k13).andNo k14)
        clear hK K
        refine wpAnyH_take (i := 20) (oi := _) (v := ?_) rfl (by kernel_rfl) (by kernel_rfl) (by kernel_rfl) (fun _ _ _ h => h) (Or.inl ⟨by rfl, ?_⟩) (by assumption) ?_
        rotate_left
        · intro w hSw; (try dsimp only at hSw); go_simp; (try with_reducible rfl)
        simp only [Act.put, List.getElem_toArray, List.getElem_cons_zero, List.getElem_cons_succ, List.setIfInBounds_toArray, List.set_cons_zero, List.set_cons_succ]
        refine wpAnyH_take (i := 21) (oi := _) (v := ?_) rfl (by kernel_rfl) (by kernel_rfl) (by kernel_rfl) (fun _ _ _ h => h) (Or.inl ⟨by rfl, ?_⟩) (by assumption) ?_
        rotate_left
        · intro w hSw; (try dsimp only at hSw); go_simp; (try with_reducible rfl)
        simp only [Act.put, List.getElem_toArray, List.getElem_cons_zero, List.getElem_cons_succ, List.setIfInBounds_toArray, List.set_cons_zero, List.set_cons_succ]
        refine wpAnyH_take (i := 22) (oi := _) (v := ?_) rfl (by kernel_rfl) (by kernel_rfl) (by kernel_rfl) (fun _ _ _ h => h) (Or.inl ⟨by rfl, ?_⟩) (by assumption) ?_
        rotate_left
        · intro w hSw; (try dsimp only at hSw); go_simp; (try with_reducible rfl)
        simp only [Act.put, List.getElem_toArray, List.getElem_cons_zero, List.getElem_cons_succ, List.setIfInBounds_toArray, List.set_cons_zero, List.set_cons_succ]
        refine wpAnyH_take (i := 23) (oi := _) (v := ?_) rfl (by kernel_rfl) (by kernel_rfl) (by kernel_rfl) (fun _ _ _ h => h) (Or.inl ⟨by rfl, ?_⟩) (by assumption) ?_
        rotate_left
        · intro w hSw; (try dsimp only at hSw); go_simp; (try with_reducible rfl)
        simp only [Act.put, List.getElem_toArray, List.getElem_cons_zero, List.getElem_cons_succ, List.setIfInBounds_toArray, List.set_cons_zero, List.set_cons_succ]
        refine wpAnyH_take (i := 25) (oi := _) (v := ?_) rfl (by kernel_rfl) (by kernel_rfl) (by kernel_rfl) (fun _ _ _ h => h) (Or.inl ⟨by rfl, ?_⟩) (by assumption) ?_
        rotate_left
        · intro w hSw; (try dsimp only at hSw); go_simp; (try with_reducible rfl)
        simp only [Act.put, List.getElem_toArray, List.getElem_cons_zero, List.getElem_cons_succ, List.setIfInBounds_toArray, List.set_cons_zero, List.set_cons_succ]
        refine wpAnyH_take (i := 26) (oi := _) (v := ?_) rfl (by kernel_rfl) (by kernel_rfl) (by kernel_rfl) (fun _ _ _ h => h) (Or.inl ⟨by rfl, ?_⟩) (by assumption) ?_
        rotate_left
        · intro w hSw; (try dsimp only at hSw); go_simp; (try with_reducible rfl)
        simp only [Act.put, List.getElem_toArray, List.getElem_cons_zero, List.getElem_cons_succ, List.setIfInBounds_toArray, List.set_cons_zero, List.set_cons_succ]
        refine wpAnyH_take (i := 27) (oi := _) (v := ?_) rfl (by kernel_rfl) (by kernel_rfl) (by kernel_rfl) (fun _ _ _ h => h) (Or.inl ⟨by rfl, ?_⟩) (by assumption) ?_
        rotate_left
        · intro w hSw; (try dsimp only at hSw); go_simp; (try with_reducible rfl)
        simp only [Act.put, List.getElem_toArray, List.getElem_cons_zero, List.getElem_cons_succ, List.setIfInBounds_toArray, List.set_cons_zero, List.set_cons_succ]
        refine wpAnyH_ready (rs := [24]) (by kernel_rfl) (by simp) ?_
        refine AllReadyH.cons (o := _) rfl (fun K hK => ?_) AllReadyH.nil
        go_simp
        (go_at_call 15; refine (unhide HR _).mono ?_; rintro e w15 ⟨rfl, k15⟩)
        refine hK.out _ _ ?_ (fun hHeld15 => ?_)
        · exact unhide KE _ ((((((B0.drew).andNo k11).andNo k12).andNo k13).andNo k14).andNo k15)
        clear hK K
        refine wpAnyH_take (i := 28) (oi := _) (v := ?_) rfl (by kernel_rfl) (by kernel_rfl) (by kernel_rfl) (fun _ _ _ h => h) (Or.inl ⟨by rfl, ?_⟩) (by assumption) ?_
        rotate_left
        · intro w hSw; (try dsimp only at hSw); go_simp; (try with_reducible rfl)
        simp only [Act.put, List.getElem_toArray, List.getElem_cons_zero, List.getElem_cons_succ, List.setIfInBounds_toArray, List.set_cons_zero, List.set_cons_succ]
        refine wpAnyH_take (i := 29) (oi := _) (v := undef) rfl (by kernel_rfl) (by kernel_rfl) (by kernel_rfl) (fun _ _ _ h => h) (Or.inr ⟨by rfl, rfl⟩) (by assumption) ?_
        simp only [Act.put, List.getElem_toArray, List.getElem_cons_zero, List.getElem_cons_succ, List.setIfInBounds_toArray, List.set_cons_zero, List.set_cons_succ]
        refine wpAnyH_take (i := 30) (oi := _) (v := undef) rfl (by kernel_rfl) (by kernel_rfl) (by kernel_rfl) (fun _ _ _ h => h) (Or.inr ⟨by rfl, rfl⟩) (by assumption) ?_
        simp only [Act.put, List.getElem_toArray, List.getElem_cons_zero, List.getElem_cons_succ, List.setIfInBounds_toArray, List.set_cons_zero, List.set_cons_succ]
        refine wpAnyH_take (i := 31) (oi := _) (v := undef) rfl (by kernel_rfl) (by kernel_rfl) (by kernel_rfl) (fun _ _ _ h => h) (Or.inr ⟨by rfl, rfl⟩) (by assumption) ?_
        simp only [Act.put, List.getElem_toArray, List.getElem_cons_zero, List.getElem_cons_succ, List.setIfInBounds_toArray, List.set_cons_zero, List.set_cons_succ]
        refine wpAnyH_take (i := 32) (oi := _) (v := ?_) rfl (by kernel_rfl) (by kernel_rfl) (by kernel_rfl) (fun _ _ _ h => h) (Or.inl ⟨by rfl, ?_⟩) (by assumption) ?_
        rotate_left
        · intro w hSw; (try dsimp only at hSw); go_simp; (try with_reducible rfl)
        simp only [Act.put, List.getElem_toArray, List.getElem_cons_zero, List.getElem_cons_succ, List.setIfInBounds_toArray, List.set_cons_zero, List.set_cons_succ]
        refine wpAnyH_take (i := 33) (oi := _) (v := ?_) rfl (by kernel_rfl) (by kernel_rfl) (by kernel_rfl) (fun _ _ _ h => h) (Or.inl ⟨by rfl, ?_⟩) (by assumption) ?_
        rotate_left
        · intro w hSw; (try dsimp only at hSw); go_simp; (try with_reducible rfl)
        simp only [Act.put, List.getElem_toArray, List.getElem_cons_zero, List.getElem_cons_succ, List.setIfInBounds_toArray, List.set_cons_zero, List.set_cons_succ]
        refine wpAnyH_take (i := 34) (oi := _) (v := ?_) rfl (by kernel_rfl) (by kernel_rfl) (by kernel_rfl) (fun _ _ _ h => h) (Or.inl ⟨by rfl, ?_⟩) (by assumption) ?_
        rotate_left
        · intro w hSw; (try dsimp only at hSw); go_simp; (try with_reducible rfl)
        simp only [Act.put, List.getElem_toArray, List.getElem_cons_zero, List.getElem_cons_succ, List.setIfInBounds_toArray, List.set_cons_zero, List.set_cons_succ]
        refine wpAnyH_done (by kernel_rfl) ?_ _
        clear hHeld hHeld11 hHeld12 hHeld13 hHeld14 hHeld15 KE
        go_wp2_with fail
        have K8 := (((((B0.drew).andNo k11).andNo k12).andNo k13).andNo k14).andNo k15
        have KA : Chg noBlk wr w15 := by first | exact ((K5.andNo k6).andNo k7).andNo K8 | exact ((K4.andNo k6).andNo k7).andNo K8
        first
          | exact ⟨⟨k + 1, by omega, rfl, (unhide HC).andNo KA, (unhide HO).no KA⟩, by simp [intOf]; omega⟩
          | exact ⟨⟨1, by omega, rfl, (unhide HC).andNo KA, (unhide HO).no KA⟩, by simp [intOf]⟩
    · have i1 : ¬ (k : Int) < 7 := by omega
      go_wp2_with (go_at_call 8; refine (told_any _).mono ?_; rintro e w3 ⟨rfl, k3⟩)
      go_ret
      exact ⟨rfl, ((unhide HK).andNo (unhide HC)).andNo k3⟩
end Go.Proofs.Ytmknjeomkfoidaa
