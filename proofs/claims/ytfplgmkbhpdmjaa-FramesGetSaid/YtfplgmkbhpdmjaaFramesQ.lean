/-
  Frames: contracts of the document's has, number, with, good.
-/
import Derived.Test.YtfplgmkbhpdmjaaFramesN
namespace Go.Proofs.Ytfplgmkbhpdmjaa.Fm
open Go.ChangeShapes Go.WideShapes Go.ChangeAt Go.RowKit
set_option linter.unusedVariables false
attribute [local go_sem] bs_size bs_app bs_cut bs_tl bs_at
/-- where the number of a letter stands -/
def lx (c : Int) : Nat := if c = 69 then 1 else if c = 67 then 2 else if c = 83 then 3 else if c = 84 then 4 else if c = 76 then 5 else if c = 68 then 6 else if c = 82 then 15 else if c = 73 then 26 else if c = 71 then 27 else 28
theorem lx_ways (c : Int) : (c = 69 ∧ lx c = 1) ∨ (c = 67 ∧ lx c = 2) ∨ (c = 83 ∧ lx c = 3) ∨ (c = 84 ∧ lx c = 4) ∨ (c = 76 ∧ lx c = 5) ∨ (c = 68 ∧ lx c = 6) ∨ (c = 82 ∧ lx c = 15) ∨ (c = 73 ∧ lx c = 26) ∨ (c = 71 ∧ lx c = 27) ∨ ((c ≠ 69 ∧ c ≠ 67 ∧ c ≠ 83 ∧ c ≠ 84 ∧ c ≠ 76 ∧ c ≠ 68 ∧ c ≠ 82 ∧ c ≠ 73 ∧ c ≠ 71) ∧ lx c = 28) := by
  unfold lx
  by_cases h69 : c = 69
  · subst h69; simp
  by_cases h67 : c = 67
  · subst h67; simp
  by_cases h83 : c = 83
  · subst h83; simp
  by_cases h84 : c = 84
  · subst h84; simp
  by_cases h76 : c = 76
  · subst h76; simp
  by_cases h68 : c = 68
  · subst h68; simp
  by_cases h82 : c = 82
  · subst h82; simp
  by_cases h73 : c = 73
  · subst h73; simp
  by_cases h71 : c = 71
  · subst h71; simp
  simp [h69, h67, h83, h84, h76, h68, h82, h73, h71]
theorem lx_nix (c : Int) : Nix (lx c) := by
  rcases lx_ways c with ⟨_, h⟩ | ⟨_, h⟩ | ⟨_, h⟩ | ⟨_, h⟩ | ⟨_, h⟩ | ⟨_, h⟩ | ⟨_, h⟩ | ⟨_, h⟩ | ⟨_, h⟩ | ⟨_, h⟩ <;> rw [h] <;> decide
/-- the letters of a kind -/
def hasL (k : Int) : List UInt8 :=
  if k = 1 then [69, 67, 83, 84, 76, 68] else if k = 2 then [67, 83, 84] else if k = 3 then [69, 67, 83, 84, 82] else if k = 4 ∨ k = 12 then [69] else if k = 5 then [69, 73, 71, 72]
  else if k = 6 ∨ k = 9 ∨ k = 10 ∨ k = 11 then [69, 73] else []
/-- their numbers -/
def hix (k : Int) : List Nat := (hasL k).map fun c => lx (c.toNat : Int)
theorem hix_eq (k : Int) : hix k = if k = 4 then [1] else nix k := by
  rcases nix_ways k with ⟨rfl, e⟩ | ⟨rfl, e⟩ | ⟨rfl, e⟩ | ⟨rfl, e⟩ | ⟨rfl, e⟩ | ⟨rfl, e⟩ | ⟨rfl, e⟩ | ⟨rfl, e⟩ | ⟨rfl, e⟩ | ⟨rfl, e⟩ | ⟨⟨h1, h2, h3, h4, h5, h6, h9, h10, h11, h12⟩, e⟩
  all_goals first
    | decide
    | (rw [e]; unfold hix hasL; simp [h1, h2, h3, h4, h5, h6, h9, h10, h11, h12])
theorem has_few (k : Int) : (hasL k).length ≤ 6 := by
  unfold hasL
  split
  · decide
  split
  · decide
  split
  · decide
  split
  · decide
  split
  · decide
  split
  · decide
  · decide
theorem hix_len (k : Int) : (hix k).length = (hasL k).length := by simp [hix]
theorem hix_at {k : Int} {j : Nat} {c : UInt8} (h : (hasL k)[j]? = some c) : (hix k)[j]? = some (lx (c.toNat : Int)) := by simp [hix, h]
set_option maxRecDepth 100000 in
theorem has_any (k : Int) (w : World) : Calls Try.prog 18 #[.int .i64 k] w (Told (str (hasL k)) w) := by
  rcases nix_ways k with ⟨rfl, e⟩ | ⟨rfl, e⟩ | ⟨rfl, e⟩ | ⟨rfl, e⟩ | ⟨rfl, e⟩ | ⟨rfl, e⟩ | ⟨rfl, e⟩ | ⟨rfl, e⟩ | ⟨rfl, e⟩ | ⟨rfl, e⟩ | ⟨⟨h1, h2, h3, h4, h5, h6, h9, h10, h11, h12⟩, e⟩ <;> clear e
  case inr.inr.inr.inr.inr.inr.inr.inr.inr.inr =>
    have d1 : (k == 1) = false := by simpa using h1
    have d2 : (k == 2) = false := by simpa using h2
    have d3 : (k == 3) = false := by simpa using h3
    have d4 : (k == 4) = false := by simpa using h4
    have d5 : (k == 5) = false := by simpa using h5
    have d6 : (k == 6) = false := by simpa using h6
    have d9 : (k == 9) = false := by simpa using h9
    have d10 : (k == 10) = false := by simpa using h10
    have d11 : (k == 11) = false := by simpa using h11
    have d12 : (k == 12) = false := by simpa using h12
    have HE := hide (show hasL k = [] by unfold hasL; simp [h1, h2, h3, h4, h5, h6, h9, h10, h11, h12])
    clear h1 h2 h3 h4 h5 h6 h9 h10 h11 h12
    go_enter Try.func18, Try.ntmps18
    go_wp2_with fail
    go_ret
    exact ⟨by rw [unhide HE]; rfl, rfl⟩
  all_goals
    go_enter Try.func18, Try.ntmps18
    go_wp2_with fail
    go_ret
    exact ⟨rfl, rfl⟩
set_option maxRecDepth 100000 in
theorem number_any (f : FT) (v : Value) (c : Int) (w : World) : Calls Try.prog 42 #[frV f v, .int .u8 c] w (ToldN (.int .i64 (f.n (lx c))) w) := by
  rcases lx_ways c with ⟨rfl, e⟩ | ⟨rfl, e⟩ | ⟨rfl, e⟩ | ⟨rfl, e⟩ | ⟨rfl, e⟩ | ⟨rfl, e⟩ | ⟨rfl, e⟩ | ⟨rfl, e⟩ | ⟨rfl, e⟩ | ⟨⟨h69, h67, h83, h84, h76, h68, h82, h73, h71⟩, e⟩
  case inr.inr.inr.inr.inr.inr.inr.inr.inr =>
    have d69 : (c == 69) = false := by simpa using h69
    have d67 : (c == 67) = false := by simpa using h67
    have d83 : (c == 83) = false := by simpa using h83
    have d84 : (c == 84) = false := by simpa using h84
    have d76 : (c == 76) = false := by simpa using h76
    have d68 : (c == 68) = false := by simpa using h68
    have d82 : (c == 82) = false := by simpa using h82
    have d73 : (c == 73) = false := by simpa using h73
    have d71 : (c == 71) = false := by simpa using h71
    have HE := hide e
    clear e h69 h67 h83 h84 h76 h68 h82 h73 h71
    go_enter Try.func42, Try.ntmps42
    go_wp2_with ((with_reducible show wpList _ _ _ (⟨_, _, _, _, _, none⟩ :: _) _ _); refine wpL_box rfl 33 _ rfl (f.cells v).toArray rfl ?_; intro p w1 e1 k1 g1 z1; have c28 := FrAt.num (f := f) g1 (i := 28) (by decide); clear e1 z1 g1)
    go_ret
    exact ⟨by rw [unhide HE]; rfl, k1⟩
  all_goals
    have HE := hide e
    clear e
    go_enter Try.func42, Try.ntmps42
    go_wp2_with ((with_reducible show wpList _ _ _ (⟨_, _, _, _, _, none⟩ :: _) _ _); refine wpL_box rfl 33 _ rfl (f.cells v).toArray rfl ?_; intro p w1 e1 k1 g1 z1; have c1 := FrAt.num (f := f) g1 (i := 1) (by decide); have c2 := FrAt.num (f := f) g1 (i := 2) (by decide); have c3 := FrAt.num (f := f) g1 (i := 3) (by decide); have c4 := FrAt.num (f := f) g1 (i := 4) (by decide); have c5 := FrAt.num (f := f) g1 (i := 5) (by decide); have c6 := FrAt.num (f := f) g1 (i := 6) (by decide); have c15 := FrAt.num (f := f) g1 (i := 15) (by decide); have c26 := FrAt.num (f := f) g1 (i := 26) (by decide); have c27 := FrAt.num (f := f) g1 (i := 27) (by decide); clear e1 z1 g1)
    go_ret
    exact ⟨by rw [unhide HE]; rfl, k1⟩
set_option maxRecDepth 100000 in
set_option maxHeartbeats 4000000 in
theorem with_any (f : FT) {v : Value} (hv : v.oneCell' = true) (c x : Int) (w : World) : Calls Try.prog 19 #[frV f v, .int .u8 c, .int .i64 x] w (ToldN (frV (f.set (lx c) x) v) w) := by
  rcases lx_ways c with ⟨rfl, e⟩ | ⟨rfl, e⟩ | ⟨rfl, e⟩ | ⟨rfl, e⟩ | ⟨rfl, e⟩ | ⟨rfl, e⟩ | ⟨rfl, e⟩ | ⟨rfl, e⟩ | ⟨rfl, e⟩ | ⟨⟨h69, h67, h83, h84, h76, h68, h82, h73, h71⟩, e⟩
  case inr.inr.inr.inr.inr.inr.inr.inr.inr =>
    have d69 : (c == 69) = false := by simpa using h69
    have d67 : (c == 67) = false := by simpa using h67
    have d83 : (c == 83) = false := by simpa using h83
    have d84 : (c == 84) = false := by simpa using h84
    have d76 : (c == 76) = false := by simpa using h76
    have d68 : (c == 68) = false := by simpa using h68
    have d82 : (c == 82) = false := by simpa using h82
    have d73 : (c == 73) = false := by simpa using h73
    have d71 : (c == 71) = false := by simpa using h71
    have HE := hide e
    clear e h69 h67 h83 h84 h76 h68 h82 h73 h71
    go_enter Try.func19, Try.ntmps19
    go_wp2_with ((with_reducible show wpList _ _ _ (⟨_, _, _, _, _, none⟩ :: _) _ _); first
      | (refine wpL_box rfl 33 _ rfl (f.cells v).toArray rfl ?_; intro p w1 e1 k1 g1 z1; have G1 : FrAt w1 p f v := g1; have E1 := hide (Nat.le_of_eq e1); clear e1 z1 g1)
      | (refine wpL_alloc rfl 33 rfl _ zero_fr ?_; intro q w2 e2 k2 g2 z2; have G2 := G1.no k2; have N12 := hide (Nat.ne_of_gt (Nat.lt_of_lt_of_le G1.lt (Nat.le_of_eq e2))); have E2 := hide (Nat.le_trans k1.size (Nat.le_of_eq e2)); clear e2 z2)
      | (refine wpL_set rfl 3 (.tmp 9) (.tmp 8) rfl p 28 (.int .i64 x) rfl rfl rfl info_int _ _ G2 (fr_size (by omega)) ?_; intro w3 k3 g3 z3; have G3 := fr_set (i := 28) (by decide) g3; clear z3 g3)
      | (refine wpL_load rfl 33 (.tmp 3) rfl p rfl _ _ _ G3 _ Try.underlying33 rfl info_fr ?_)
      | (refine wpL_store rfl 33 (.tmp 6) (.tmp 46) rfl q _ rfl rfl _ _ (k3.at g2 (fun e => unhide N12 e)) info_fr rfl (all_oneCell_toArray (FT.one _ hv)) ?_; intro w4 k4 g4 z4; clear z4))
    refine bodyPost_ret (results_cell_row rfl _ _ q _ _ _ _ rfl g4 Try.underlying33 rfl info_fr) rfl ?_
    exact ⟨by rw [unhide HE], (((k1.andNo k2).past k3 (unhide E1)).past k4 (unhide E2))⟩
  all_goals
    have HE := hide e
    clear e
    go_enter Try.func19, Try.ntmps19
    go_wp2_with ((with_reducible show wpList _ _ _ (⟨_, _, _, _, _, none⟩ :: _) _ _); first
      | (refine wpL_box rfl 33 _ rfl (f.cells v).toArray rfl ?_; intro p w1 e1 k1 g1 z1; have G1 : FrAt w1 p f v := g1; have E1 := hide (Nat.le_of_eq e1); clear e1 z1 g1)
      | (refine wpL_alloc rfl 33 rfl _ zero_fr ?_; intro q w2 e2 k2 g2 z2; have G2 := G1.no k2; have N12 := hide (Nat.ne_of_gt (Nat.lt_of_lt_of_le G1.lt (Nat.le_of_eq e2))); have E2 := hide (Nat.le_trans k1.size (Nat.le_of_eq e2)); clear e2 z2)
      | (refine wpL_set rfl 3 (.tmp 13) (.tmp 12) rfl p 1 (.int .i64 x) rfl rfl rfl info_int _ _ G2 (fr_size (by omega)) ?_; intro w3 k3 g3 z3; have G3 := fr_set (i := 1) (by decide) g3; clear z3 g3)
      | (refine wpL_set rfl 3 (.tmp 17) (.tmp 16) rfl p 2 (.int .i64 x) rfl rfl rfl info_int _ _ G2 (fr_size (by omega)) ?_; intro w3 k3 g3 z3; have G3 := fr_set (i := 2) (by decide) g3; clear z3 g3)
      | (refine wpL_set rfl 3 (.tmp 21) (.tmp 20) rfl p 3 (.int .i64 x) rfl rfl rfl info_int _ _ G2 (fr_size (by omega)) ?_; intro w3 k3 g3 z3; have G3 := fr_set (i := 3) (by decide) g3; clear z3 g3)
      | (refine wpL_set rfl 3 (.tmp 25) (.tmp 24) rfl p 4 (.int .i64 x) rfl rfl rfl info_int _ _ G2 (fr_size (by omega)) ?_; intro w3 k3 g3 z3; have G3 := fr_set (i := 4) (by decide) g3; clear z3 g3)
      | (refine wpL_set rfl 3 (.tmp 29) (.tmp 28) rfl p 5 (.int .i64 x) rfl rfl rfl info_int _ _ G2 (fr_size (by omega)) ?_; intro w3 k3 g3 z3; have G3 := fr_set (i := 5) (by decide) g3; clear z3 g3)
      | (refine wpL_set rfl 3 (.tmp 33) (.tmp 32) rfl p 6 (.int .i64 x) rfl rfl rfl info_int _ _ G2 (fr_size (by omega)) ?_; intro w3 k3 g3 z3; have G3 := fr_set (i := 6) (by decide) g3; clear z3 g3)
      | (refine wpL_set rfl 3 (.tmp 37) (.tmp 36) rfl p 15 (.int .i64 x) rfl rfl rfl info_int _ _ G2 (fr_size (by omega)) ?_; intro w3 k3 g3 z3; have G3 := fr_set (i := 15) (by decide) g3; clear z3 g3)
      | (refine wpL_set rfl 3 (.tmp 41) (.tmp 40) rfl p 26 (.int .i64 x) rfl rfl rfl info_int _ _ G2 (fr_size (by omega)) ?_; intro w3 k3 g3 z3; have G3 := fr_set (i := 26) (by decide) g3; clear z3 g3)
      | (refine wpL_set rfl 3 (.tmp 45) (.tmp 44) rfl p 27 (.int .i64 x) rfl rfl rfl info_int _ _ G2 (fr_size (by omega)) ?_; intro w3 k3 g3 z3; have G3 := fr_set (i := 27) (by decide) g3; clear z3 g3)
      | (refine wpL_load rfl 33 (.tmp 3) rfl p rfl _ _ _ G3 _ Try.underlying33 rfl info_fr ?_)
      | (refine wpL_store rfl 33 (.tmp 6) (.tmp 46) rfl q _ rfl rfl _ _ (k3.at g2 (fun e => unhide N12 e)) info_fr rfl (all_oneCell_toArray (FT.one _ hv)) ?_; intro w4 k4 g4 z4; clear z4))
    refine bodyPost_ret (results_cell_row rfl _ _ q _ _ _ _ rfl g4 Try.underlying33 rfl info_fr) rfl ?_
    exact ⟨by rw [unhide HE], (((k1.andNo k2).past k3 (unhide E1)).past k4 (unhide E2))⟩
/-- may three numbers be? -/
def good3 (a b c : Int) : Bool := mayN a && (mayN b && mayN c)
theorem good3_one (a : Int) : good3 a 0 0 = mayN a := by simp [good3, mayN]
theorem good3_two (a b : Int) : good3 a b 0 = (mayN a && mayN b) := by simp [good3, mayN]
theorem may_ways (a : Int) : (decide (0 ≤ a) = false ∧ mayN a = false) ∨ (decide (0 ≤ a) = true ∧ decide (a ≤ 1099511627776) = false ∧ mayN a = false) ∨ (decide (0 ≤ a) = true ∧ decide (a ≤ 1099511627776) = true ∧ mayN a = true) := by
  unfold mayN
  cases decide (0 ≤ a) <;> cases decide (a ≤ 1099511627776) <;> simp
theorem good_any (a b c : Int) (w : World) : Calls Try.prog 43 #[.int .i64 a, .int .i64 b, .int .i64 c] w (Told (.bool (good3 a b c)) w) := by
  have hw : (decide (0 ≤ a) = false ∧ good3 a b c = false) ∨ (decide (0 ≤ a) = true ∧ decide (a ≤ 1099511627776) = false ∧ good3 a b c = false) ∨ (decide (0 ≤ a) = true ∧ decide (a ≤ 1099511627776) = true ∧ decide (0 ≤ b) = false ∧ good3 a b c = false) ∨ (decide (0 ≤ a) = true ∧ decide (a ≤ 1099511627776) = true ∧ decide (0 ≤ b) = true ∧ decide (b ≤ 1099511627776) = false ∧ good3 a b c = false) ∨
      (decide (0 ≤ a) = true ∧ decide (a ≤ 1099511627776) = true ∧ decide (0 ≤ b) = true ∧ decide (b ≤ 1099511627776) = true ∧ decide (0 ≤ c) = false ∧ good3 a b c = false) ∨ (decide (0 ≤ a) = true ∧ decide (a ≤ 1099511627776) = true ∧ decide (0 ≤ b) = true ∧ decide (b ≤ 1099511627776) = true ∧ decide (0 ≤ c) = true ∧ good3 a b c = decide (c ≤ 1099511627776)) := by
    unfold good3 mayN
    cases decide (0 ≤ a) <;> cases decide (a ≤ 1099511627776) <;> cases decide (0 ≤ b) <;> cases decide (b ≤ 1099511627776) <;> cases decide (0 ≤ c) <;> simp
  rcases hw with ⟨d1, e⟩ | ⟨d1, d2, e⟩ | ⟨d1, d2, d3, e⟩ | ⟨d1, d2, d3, d4, e⟩ | ⟨d1, d2, d3, d4, d5, e⟩ | ⟨d1, d2, d3, d4, d5, e⟩
  all_goals
    rw [e]
    clear e
    go_enter Try.func43, Try.ntmps43
    go_wp2
    go_ret
    exact ⟨rfl, rfl⟩
#print axioms with_any
end Go.Proofs.Ytfplgmkbhpdmjaa.Fm
