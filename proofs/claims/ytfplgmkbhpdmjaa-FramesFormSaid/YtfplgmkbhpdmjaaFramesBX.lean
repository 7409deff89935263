/-
  Texts of this seat, one behind the other.
-/
import Derived.Test.YtfplgmkbhpdmjaaFramesA
import Derived.Test.YtfplgmkbhpdmjaaChainsV
import Derived.Test.YtfplgmkbhpdmjaaOpsF
import Derived.Test.YtfplgmkbhpdmjaaChainsQ
/-
  Frames: a frame where it lies; contracts of isKind, mayBe, numbers.
-/
namespace Go.Proofs.Ytfplgmkbhpdmjaa.Fm
open Go.ChangeShapes Go.WideShapes Go.ChangeAt Go.RowKit
set_option linter.unusedVariables false
attribute [local go_sem] bs_size bs_app bs_cut bs_tl bs_at
/-- a frame as a value -/
abbrev frV (f : FT) (v : Value) : Value := .agg (f.cells v).toArray
/-- a frame in a variable -/
def FrAt (w : World) (p : Nat) (f : FT) (v : Value) : Prop := w.heap[p]? = some (.cells (f.cells v).toArray 33 (0, 0))
theorem zero_fr : (Try.prog.info? 33).bind (·.zero) = some (.agg (fZero.cells (.slice none 0 0)).toArray) := by kernel_rfl
theorem built_fr : Try.prog.built 33 ([] : List (Nat × Value)) = some (fZero.cells (.slice none 0 0)).toArray := by kernel_rfl
theorem info_fr : (Try.prog.info? 33).map (·.size) = some 29 := by kernel_rfl
section
variable {w w' : World} {p : Nat} {f : FT} {v : Value}
theorem FrAt.no (h : FrAt w p f v) (k : Chg noBlk w w') : FrAt w' p f v := k.at h id
theorem FrAt.lt (h : FrAt w p f v) : p < w.heap.size := lt_of_block h
theorem FrAt.num (h : FrAt w p f v) {i : Nat} (hi : Nix i) : w.cell? ⟨p, i, none⟩ = some (.int .i64 (f.n i)) := cellAt h i _ (by simpa using num_at f v hi)
theorem FrAt.c0 (h : FrAt w p f v) : w.cell? ⟨p, 0, none⟩ = some (.int .i64 (f.n 0)) := cellAt h 0 _ rfl
theorem fr_set {i : Nat} {x : Int} (hi : Nix i) (g : w.heap[p]? = some (.cells ((f.cells v).toArray.setIfInBounds i (.int .i64 x)) 33 (0, 0))) : FrAt w p (f.set i x) v := by
  unfold FrAt
  rw [← set_at f v x hi, g]
  simp
theorem chg_one {a c d : World} {b : Nat} (h : Chg noBlk a c) (k : Chg (oneBlk b) c d) : Chg (oneBlk b) a d := (h.no _).trans k fun _ _ e => e
end
theorem isKind_any (x : Int) (w : World) : Calls Try.prog 31 #[.int .i64 x] w (Told (.bool (kindB x)) w) := by
  unfold kindB
  by_cases h1 : 1 ≤ x
  · have d1 : decide (1 ≤ x) = true := decide_eq_true h1
    rw [d1]
    go_enter Try.func31, Try.ntmps31
    go_wp2
    go_ret
    exact ⟨rfl, rfl⟩
  · have d1 : decide (1 ≤ x) = false := decide_eq_false h1
    rw [d1]
    go_enter Try.func31, Try.ntmps31
    go_wp2
    go_ret
    exact ⟨rfl, rfl⟩
theorem mayBe_any (x : Int) (w : World) : Calls Try.prog 32 #[.int .i64 x] w (Told (.bool (mayN x)) w) := by
  unfold mayN
  by_cases h1 : 0 ≤ x
  · have d1 : decide (0 ≤ x) = true := decide_eq_true h1
    rw [d1]
    go_enter Try.func32, Try.ntmps32
    go_wp2
    go_ret
    exact ⟨rfl, rfl⟩
  · have d1 : decide (0 ≤ x) = false := decide_eq_false h1
    rw [d1]
    go_enter Try.func32, Try.ntmps32
    go_wp2
    go_ret
    exact ⟨rfl, rfl⟩
/-- pointers to these cells of b -/
def ptrs (b : Nat) (L : List Nat) : Array Value := (L.map fun j => Value.pointer (some ⟨b, j, none⟩)).toArray
/-- the slice v holds these, in a block from lo on -/
def Ptrs (w : World) (v : Value) (b lo : Nat) (L : List Nat) : Prop := (L = [] ∧ v = .slice none 0 0) ∨ ∃ g, lo ≤ g ∧ v = .slice (some ⟨g, 0, none⟩) L.length L.length ∧ w.heap[g]? = some (.cells (ptrs b L) 64 (0, 0))
/-- told: pointers to these cells of b -/
def PtrsT (b : Nat) (L : List Nat) (w : World) (e : Ending) (w' : World) : Prop := ∃ v, e = .returned v ∧ Chg noBlk w w' ∧ Ptrs w' v b w.heap.size L
theorem ptrs_new {w : World} {b n : Nat} {L : List Nat} (hn : L.length = n) : PtrsT b L w (.returned (.slice (some ⟨w.heap.size, 0, none⟩) n n)) (w.alloc (.cells (ptrs b L) 64)).drew := by
  subst hn
  exact ⟨_, rfl, ((Chg.refl _ w).alloc _).drew, .inr ⟨w.heap.size, Nat.le_refl _, rfl, heap_alloc_new w _⟩⟩
theorem ptrs_one {w : World} {b n : Nat} {L : List Nat} (hn : L.length = n) : PtrsT b L w (.returned (.slice (some ⟨w.heap.size, 0, none⟩) n n)) (w.alloc (.cells (ptrs b L) 64)) := by
  subst hn
  exact ⟨_, rfl, (Chg.refl _ w).alloc _, .inr ⟨w.heap.size, Nat.le_refl _, rfl, heap_alloc_new w _⟩⟩
set_option maxRecDepth 100000 in
theorem numbers_any {w : World} {b : Nat} {k : Int} (hb : w.cell? ⟨b, 0, none⟩ = some (.int .i64 k)) : Calls Try.prog 24 #[.pointer (some ⟨b, 0, none⟩)] w (PtrsT b (nix k) w) := by
  rcases nix_ways k with ⟨rfl, e⟩ | ⟨rfl, e⟩ | ⟨rfl, e⟩ | ⟨rfl, e⟩ | ⟨rfl, e⟩ | ⟨rfl, e⟩ | ⟨rfl, e⟩ | ⟨rfl, e⟩ | ⟨rfl, e⟩ | ⟨rfl, e⟩ | ⟨⟨h1, h2, h3, h4, h5, h6, h9, h10, h11, h12⟩, e⟩ <;> rw [e] <;> clear e
  case inr.inr.inr.inr.inr.inr.inr.inr.inr.inr =>
    have d1 : (k == 1) = false := by simpa using h1
    have d2 : (k == 2) = false := by simpa using h2
    have d3 : (k == 3) = false := by simpa using h3
    have d4 : (k == 4) = false := by simpa using h4
    have d5 : (k == 5) = false := by simpa using h5
    have d6 : (k == 6) = false := by simpa using h6
    have d9 : (k == 9) = false := by simpa using h9
    have d10 : (k == 10) = false := by simpa using h10
    have d11 : (k == 11) = false := by simpa using h11
    have d12 : (k == 12) = false := by simpa using h12
    clear h1 h2 h3 h4 h5 h6 h9 h10 h11 h12
    go_enter Try.func24, Try.ntmps24
    go_wp2_with fail
    go_ret
    exact ⟨_, rfl, Chg.refl _ _, .inl ⟨rfl, rfl⟩⟩
  all_goals
    go_enter Try.func24, Try.ntmps24
    go_wp2_with fail
    try go_region
    go_wp2_with fail
    go_ret
    first
      | exact ptrs_new rfl
      | exact ptrs_one rfl
end Go.Proofs.Ytfplgmkbhpdmjaa.Fm
/-
  Frames: contracts of ownOp, isResult, putResult, putNumbers.
-/
namespace Go.Proofs.Ytfplgmkbhpdmjaa.Fm
open Go.ChangeShapes Go.WideShapes Go.ChangeAt Go.RowKit
set_option linter.unusedVariables false
attribute [local go_sem] bs_size bs_app bs_cut bs_tl bs_at
theorem i64_may {x : Int} (h : mayN x = true) : -9223372036854775808 ≤ x ∧ x ≤ 9223372036854775807 := by have := mayN_yes.1 h; omega
theorem i64_kind {x : Int} (h : kindB x = true) : -9223372036854775808 ≤ x ∧ x ≤ 9223372036854775807 := by have := kindB_yes.1 h; omega
section
variable {w w' : World} {v : Value} {b lo : Nat} {L : List Nat}
theorem Ptrs.form (h : Ptrs w v b lo L) : ∃ ad, v = .slice ad L.length L.length := by
  rcases h with ⟨rfl, rfl⟩ | ⟨g, _, rfl, _⟩
  · exact ⟨none, rfl⟩
  · exact ⟨_, rfl⟩
theorem Ptrs.at {ad : Option Addr} {n c : Nat} (h : Ptrs w (.slice ad n c) b lo L) {j i : Nat} (hi : L[j]? = some i) : ∃ g, ad = some ⟨g, 0, none⟩ ∧ lo ≤ g ∧ w.cell? ⟨g, j, none⟩ = some (.pointer (some ⟨b, i, none⟩)) := by
  rcases h with ⟨rfl, _⟩ | ⟨g, hg, e, hc⟩
  · simp at hi
  · simp only [Value.slice.injEq] at e
    exact ⟨g, e.1, hg, cellAt hc j _ (by simp [ptrs, hi])⟩
theorem Ptrs.no (h : Ptrs w v b lo L) (k : Chg noBlk w w') : Ptrs w' v b lo L := by
  rcases h with h | ⟨g, hg, e, hc⟩
  · exact .inl h
  · exact .inr ⟨g, hg, e, k.at hc id⟩
theorem Ptrs.past {S : Nat → Prop} (h : Ptrs w v b lo L) (k : Chg S w w') (hS : ∀ i, S i → i < lo) : Ptrs w' v b lo L := by
  rcases h with h | ⟨g, hg, e, hc⟩
  · exact .inl h
  · exact .inr ⟨g, hg, e, k.at hc fun q => by have := hS g q; omega⟩
end
set_option maxRecDepth 100000 in
theorem ownOp_any (o : PT) (h1 : o.key.length ≤ 1048576) (h2 : o.val.length ≤ 1048576) (w : World) : Calls Try.prog 25 #[.agg o.cells.toArray] w (ToldN (.agg o.cells.toArray) w) := by
  have HK := hide (clone_n o.key h1)
  have HV := hide (clone_n o.val h2)
  clear h1 h2
  have ta : True := True.intro
  go_enter Try.func25, Try.ntmps25
  go_wp2_with ((with_reducible show wpList _ _ _ (_ :: _) _ _); first
    | (clear ta; refine wpL_box rfl 24 _ rfl o.cells.toArray rfl ?_; intro p w1 e1 k1 g1 z1; have G1 : OpAt w1 p o := g1; have e0 : w.heap.size ≤ p := Nat.le_of_eq e1; clear e1 z1 g1)
    | (refine wpL_alloc rfl 24 rfl pZero.cells.toArray zero_op ?_; intro q w2 e2 k2 g2 z2; have e3 : w.heap.size ≤ q := Nat.le_trans k1.size (Nat.le_of_eq e2); have G2 : OpAt w2 q pZero := g2; have hpq : q ≠ p := Nat.ne_of_gt (Nat.lt_of_lt_of_le G1.lt (Nat.le_of_eq e2)); have G3 := G1.no k2; have B0 : Hold w2 p o w2 := ⟨Chg.refl _ _, G3⟩; clear e2 z2 g2))
  have KE := hide (fun w' (h : Hold w2 p o w') => hold_keep h)
  go_region_held3 (fun w' => Hold w2 p o w' ∧ w'.cell? ⟨p, 1, none⟩ = some (str o.key) ∧ w'.cell? ⟨p, 2, none⟩ = some (str o.val) ∧ w'.frozen? ⟨p, 1, none⟩ = false ∧ w'.frozen? ⟨p, 2, none⟩ = false)
    ((refine unhide KE _ ?_; go_split_ands; first | assumption | exact Hold.drew (by assumption) | exact Hold.drewN (by assumption) _ | exact Hold.andNo (by assumption) (by assumption) | exact Hold.key (by assumption) | exact Hold.val (by assumption)))
    (first | (go_at_call 26; (with_reducible refine (unhide HK _).mono ?_); rintro e w5 ⟨rfl, k5⟩) | (go_at_call 26; (with_reducible refine (unhide HV _).mono ?_); rintro e w6 ⟨rfl, k6⟩))
  have H6 := ((B0.drew.andNo k5).andNo k6).key.val
  generalize (w6.setCell ⟨p, 1, none⟩ (str o.key)).setCell ⟨p, 2, none⟩ (str o.val) = w7 at H6 ⊢
  clear KE k5 k6 B0
  have G7 : OpAt w7 q pZero := H6.chg.at G2 hpq
  go_wp2_with (first
    | ((with_reducible show wpList _ _ _ (_ :: _) _ _); refine wpL_load rfl 24 (.tmp 1) rfl p rfl _ _ _ H6.lies _ Try.underlying24 rfl info_op ?_)
    | ((with_reducible show wpList _ _ _ (_ :: _) _ _); refine wpL_store rfl 24 (.tmp 2) (.tmp 11) rfl q o.cells.toArray rfl rfl _ _ G7 info_op rfl (all_oneCell_toArray (PT.one _)) ?_; intro w8 k8 g8 z8))
  refine bodyPost_ret (results_cell_row rfl _ _ q _ _ _ _ rfl g8 Try.underlying24 rfl info_op) rfl ?_
  exact ⟨rfl, ((k1.andNo k2).past H6.chg e0).past k8 e3⟩
theorem res_ways (r : RT) : (decide (1 ≤ r.code) = false ∧ resB r = false) ∨ (decide (1 ≤ r.code) = true ∧ decide (r.code ≤ 3) = false ∧ resB r = false) ∨ (decide (1 ≤ r.code) = true ∧ decide (r.code ≤ 3) = true ∧ decide ((r.val.length : Int) ≤ 64) = false ∧ resB r = false) ∨
    (decide (1 ≤ r.code) = true ∧ decide (r.code ≤ 3) = true ∧ decide ((r.val.length : Int) ≤ 64) = true ∧ mayN r.ver = false ∧ resB r = false) ∨ (decide (1 ≤ r.code) = true ∧ decide (r.code ≤ 3) = true ∧ decide ((r.val.length : Int) ≤ 64) = true ∧ mayN r.ver = true ∧ resB r = mayN r.pt) := by
  have e : decide (r.val.length ≤ 64) = decide ((r.val.length : Int) ≤ 64) := decide_eq_decide.2 (by omega)
  unfold resB
  rw [e]
  cases decide (1 ≤ r.code) <;> cases decide (r.code ≤ 3) <;> cases decide ((r.val.length : Int) ≤ 64) <;> cases mayN r.ver <;> simp
/-- a result at b -/
def ReAt (w : World) (b : Nat) (r : RT) : Prop := w.heap[b]? = some (.cells r.cells.toArray 26 (0, 0))
theorem info_re : (Try.prog.info? 26).map (·.size) = some 4 := by kernel_rfl
section
variable {w w' : World} {b : Nat} {r : RT}
theorem ReAt.no (h : ReAt w b r) (k : Chg noBlk w w') : ReAt w' b r := k.at h id
theorem ReAt.c0 (h : ReAt w b r) : w.cell? ⟨b, 0, none⟩ = some (.int .i64 r.code) := cellAt h 0 _ rfl
theorem ReAt.c1 (h : ReAt w b r) : w.cell? ⟨b, 1, none⟩ = some (str r.val) := cellAt h 1 _ rfl
theorem ReAt.c2 (h : ReAt w b r) : w.cell? ⟨b, 2, none⟩ = some (.int .i64 r.ver) := cellAt h 2 _ rfl
theorem ReAt.c3 (h : ReAt w b r) : w.cell? ⟨b, 3, none⟩ = some (.int .i64 r.pt) := cellAt h 3 _ rfl
theorem re_keep {w1 : World} (h : ReAt w1 b r) : ∀ w', Chg noBlk w1 w' → Chg noBlk w1 w' ∧ w'.cell? ⟨b, 0, none⟩ = some (.int .i64 r.code) ∧ w'.cell? ⟨b, 1, none⟩ = some (str r.val) ∧ w'.cell? ⟨b, 2, none⟩ = some (.int .i64 r.ver) ∧ w'.cell? ⟨b, 3, none⟩ = some (.int .i64 r.pt) :=
  fun w' k => ⟨k, (h.no k).c0, (h.no k).c1, (h.no k).c2, (h.no k).c3⟩
end
set_option maxRecDepth 100000 in
theorem isResult_any (r : RT) (w : World) : Calls Try.prog 56 #[.agg r.cells.toArray] w (ToldN (.bool (resB r)) w) := by
  have M1 := fun w => mayBe_any r.ver w
  have M2 := fun w => mayBe_any r.pt w
  rcases res_ways r with ⟨d1, hr⟩ | ⟨d1, d2, hr⟩ | ⟨d1, d2, d3, hr⟩ | ⟨d1, d2, d3, d4, hr⟩ | ⟨d1, d2, d3, d4, hr⟩
  all_goals
    rw [hr]
    clear hr
    try rw [d4] at M1
    have H1 := hide M1
    have H2 := hide M2
    clear M1 M2
    go_enter Try.func56, Try.ntmps56
    go_wp2_with (first
      | ((with_reducible show wpList _ _ _ (⟨_, _, _, _, _, none⟩ :: _) _ _); refine wpL_box rfl 26 _ rfl r.cells.toArray rfl ?_; intro p w1 e1 k1 g1 z1; have G1 : ReAt w1 p r := g1; have c0 := G1.c0; have c1 := G1.c1; have c2 := G1.c2; have c3 := G1.c3; clear e1 z1 g1)
      | (go_at_call 32; (with_reducible refine (unhide H1 _).mono ?_); rintro e w3 ⟨rfl, rfl⟩)
      | (go_at_call 32; (with_reducible refine (unhide H2 _).mono ?_); rintro e w3 ⟨rfl, rfl⟩))
    go_ret
    exact ⟨rfl, k1⟩
end Go.Proofs.Ytfplgmkbhpdmjaa.Fm
/-
  Frames: contracts of putResult, putNumbers.
-/
namespace Go.Proofs.Ytfplgmkbhpdmjaa.Fm
open Go.ChangeShapes Go.WideShapes Go.ChangeAt Go.RowKit
set_option linter.unusedVariables false
attribute [local go_sem] bs_size bs_app bs_cut bs_tl bs_at
/-- what is told of a result's bytes -/
def resT (r : RT) : Value := if resB r = true then .tuple #[str (resL r), .bool true] else .tuple #[str [], .bool false]
theorem resT_yes {r : RT} (h : resB r = true) : resT r = .tuple #[str (resL r), .bool true] := if_pos h
theorem resT_no {r : RT} (h : resB r = false) : resT r = .tuple #[str [], .bool false] := if_neg (by simp [h])
set_option maxRecDepth 100000 in
theorem putResult_any (r : RT) (w : World) : Calls Try.prog 48 #[.agg r.cells.toArray] w (ToldN (resT r) w) := by
  have I := fun w => isResult_any r w
  cases hb : resB r
  · rw [hb] at I
    have HI := hide I
    have HE := hide (resT_no hb)
    clear I hb
    go_enter Try.func48, Try.ntmps48
    go_wp2_with (first
      | ((with_reducible show wpList _ _ _ (_ :: _) _ _); first
        | (refine wpL_box rfl 26 _ rfl r.cells.toArray rfl ?_; intro p w1 e1 k1 g1 z1; have G1 : ReAt w1 p r := g1; clear e1 z1 g1)
        | (refine wpL_load rfl 26 (.tmp 1) rfl p rfl _ _ _ G1 _ Try.underlying26 rfl info_re ?_))
      | (go_at_call 56; (with_reducible refine (unhide HI _).mono ?_); rintro e w2 ⟨rfl, k2⟩))
    go_ret2
    exact ⟨by rw [unhide HE]; rfl, k1.andNo k2⟩
  · rw [hb] at I
    have HI := hide I
    have HE := hide (resT_yes hb)
    obtain ⟨q1, q2, q3, q4, q5⟩ := resB_yes.1 hb
    have i1 := int_n r.code (by omega) (by omega)
    have i2 := int_n r.ver (i64_may q4).1 (i64_may q4).2
    have i3 := int_n r.pt (i64_may q5).1 (i64_may q5).2
    have t1 := text_n r.val (by omega)
    have l1 := intL_len r.code
    have l2 := intL_len r.ver
    have l3 := intL_len r.pt
    have l4 := textL_len r.val (by omega)
    have s1 : ¬ 9223372036854775807 < (intL r.code).length + (textL r.val).length := by omega
    have s2 : ¬ 9223372036854775807 < (intL r.code).length + (textL r.val).length + (intL r.ver).length := by omega
    have s3 : ¬ 9223372036854775807 < (intL r.code).length + (textL r.val).length + (intL r.ver).length + (intL r.pt).length := by omega
    have s4 : ¬ 9223372036854775807 < (intL r.code).length + ((textL r.val).length + (intL r.ver).length) + (intL r.pt).length := by omega
    have I1 := hide i1
    have I2 := hide i2
    have I3 := hide i3
    have T1 := hide t1
    clear I hb i1 i2 i3 t1 q1 q2 q3 q4 q5 l1 l2 l3 l4
    go_enter Try.func48, Try.ntmps48
    go_wp2_with (first
      | ((with_reducible show wpList _ _ _ (_ :: _) _ _); first
        | (refine wpL_box rfl 26 _ rfl r.cells.toArray rfl ?_; intro p w1 e1 k1 g1 z1; have G1 : ReAt w1 p r := g1; clear e1 z1 g1)
        | (refine wpL_load rfl 26 (.tmp 1) rfl p rfl _ _ _ G1 _ Try.underlying26 rfl info_re ?_))
      | (go_at_call 56; (with_reducible refine (unhide HI _).mono ?_); rintro e w2 ⟨rfl, k2⟩; have KE := hide (re_keep (G1.no k2)); have B0 := Chg.refl noBlk w2))
    go_region_held3 (fun w' => Chg noBlk w2 w' ∧ w'.cell? ⟨p, 0, none⟩ = some (.int .i64 r.code) ∧ w'.cell? ⟨p, 1, none⟩ = some (str r.val) ∧ w'.cell? ⟨p, 2, none⟩ = some (.int .i64 r.ver) ∧ w'.cell? ⟨p, 3, none⟩ = some (.int .i64 r.pt))
      ((refine unhide KE _ ?_; go_split_ands; first | assumption | exact Chg.drew (by assumption) | exact Chg.drewN (by assumption) _ | exact Chg.andNo (by assumption) (by assumption)))
      (first
        | (go_at_call 45; (with_reducible refine (unhide I1 _).mono ?_); rintro e w3 ⟨rfl, k3⟩)
        | (go_at_call 45; (with_reducible refine (unhide I2 _).mono ?_); rintro e w4 ⟨rfl, k4⟩)
        | (go_at_call 45; (with_reducible refine (unhide I3 _).mono ?_); rintro e w5 ⟨rfl, k5⟩)
        | (go_at_call 62; (with_reducible refine (unhide T1 _).mono ?_); rintro e w6 ⟨rfl, k6⟩))
    rename_i hH
    obtain ⟨K3, c0, c1, c2, c3⟩ := hH
    go_wp2_with fail
    go_ret2
    exact ⟨by rw [unhide HE]; simp [resL], (k1.andNo k2).andNo K3⟩
/-- what is told of what stands ahead -/
def aheadT (f : FT) : Value := if aheadB f = true then .tuple #[str (aheadL f), .bool true] else .tuple #[str [], .bool false]
theorem aheadT_yes {f : FT} (h : aheadB f = true) : aheadT f = .tuple #[str (aheadL f), .bool true] := if_pos h
theorem aheadT_no {f : FT} (h : aheadB f = false) : aheadT f = .tuple #[str [], .bool false] := if_neg (by simp [h])
theorem aheadB_kind {f : FT} (h : kindB (f.n 0) = false) : aheadB f = false := by simp [aheadB, h]
theorem aheadB_num {f : FT} {i : Nat} (hi : i ∈ nix (f.n 0)) (h : mayN (f.n i) = false) : aheadB f = false := by simp [aheadB, numsB_no hi h]
theorem aheadB_all {f : FT} (hk : kindB (f.n 0) = true) (h : ∀ i ∈ nix (f.n 0), mayN (f.n i) = true) : aheadB f = true := by simp [aheadB, hk, numsB_yes.2 h]
theorem all_snoc {p : Nat → Prop} {L : List Nat} {j i : Nat} (hi : L[j]? = some i) (h : ∀ x ∈ L.take j, p x) (hp : p i) : ∀ x ∈ L.take (j + 1), p x := by
  rw [take_snoc hi]
  intro x hx
  rcases List.mem_append.1 hx with hx | hx
  · exact h x hx
  · rw [List.mem_singleton.1 hx]; exact hp
set_option maxRecDepth 100000 in
set_option maxHeartbeats 1000000 in
theorem putNumbers_any (f : FT) {v : Value} (hv : v.oneCell' = true) (w : World) : Calls Try.prog 27 #[frV f v] w (ToldN (aheadT f) w) := by
  have K := fun w => isKind_any (f.n 0) w
  cases hk : kindB (f.n 0)
  · rw [hk] at K
    have HK := hide K
    have HE := hide (aheadT_no (aheadB_kind hk))
    clear K hk hv
    go_enter Try.func27, Try.ntmps27
    go_wp2_with (first
      | ((with_reducible show wpList _ _ _ (_ :: _) _ _); refine wpL_box rfl 33 _ rfl (f.cells v).toArray rfl ?_; intro p w1 e1 k1 g1 z1; have G1 : FrAt w1 p f v := g1; have c0 := G1.c0; clear e1 z1 g1)
      | (go_at_call 31; (with_reducible refine (unhide HK _).mono ?_); rintro e w2 ⟨rfl, rfl⟩))
    go_ret2
    exact ⟨by rw [unhide HE]; rfl, k1⟩
  · rw [hk] at K
    have HK := hide K
    have HI := hide (fun x (h : mayN x = true) w' => int_n x (i64_may h).1 (i64_may h).2 w')
    have H0 := hide (fun w' => int_n (f.n 0) (i64_kind hk).1 (i64_kind hk).2 w')
    have HM := hide (fun x w' => mayBe_any x w')
    have HN := hide (fun (w' : World) (p : Nat) (h : w'.cell? ⟨p, 0, none⟩ = some (.int .i64 (f.n 0))) => numbers_any h)
    have HX := hide (nix_nix (f.n 0))
    have HF := nix_few (f.n 0)
    have HO := hide (fun i (hi : i ∈ nix (f.n 0)) (h : mayN (f.n i) = false) => aheadT_no (aheadB_num hi h))
    have HY := hide (fun (h : ∀ i ∈ nix (f.n 0), mayN (f.n i) = true) => aheadT_yes (aheadB_all hk h))
    have HL := hide (show aheadL f = intL (f.n 0) ++ numsL f.n (nix (f.n 0)) from rfl)
    have l0 := intL_len (f.n 0)
    clear K hk hv
    generalize nix (f.n 0) = L at *
    go_enter Try.func27, Try.ntmps27
    go_wp2_with (first
      | ((with_reducible show wpList _ _ _ (_ :: _) _ _); refine wpL_box rfl 33 _ rfl (f.cells v).toArray rfl ?_; intro p w1 e1 k1 g1 z1; have G1 : FrAt w1 p f v := g1; have c0 := G1.c0; have E1 := hide (G1.lt); clear e1 z1 g1)
      | (go_at_call 31; (with_reducible refine (unhide HK _).mono ?_); rintro e w2 ⟨rfl, rfl⟩)
      | (go_at_call 45; (with_reducible refine (unhide H0 _).mono ?_); rintro e w3 ⟨rfl, k3⟩; have d0 := (G1.no k3).c0)
      | (go_at_call 24; (with_reducible refine (unhide HN _ _ d0).mono ?_); rintro e w4 ⟨s4, rfl, k4, p4⟩; obtain ⟨a4, rfl⟩ := p4.form; have P4 := hide p4; clear p4))
    have K4 := (k1.andNo k3).andNo k4
    have HG := hide ((G1.no k3).no k4)
    clear k1 k3 k4 G1 c0 d0
    go_loopw [2, 15] (fun s i wr => ∃ j : Nat, j ≤ L.length ∧ i = .int .i64 (j : Int) ∧ s = str (intL (f.n 0) ++ numsL f.n (L.take j)) ∧ Hid (∀ x ∈ L.take j, mayN (f.n x) = true) ∧ Chg noBlk w4 wr) (fun s i wr => L.length - (intOf i).toNat)
    case atStart => exact ⟨0, by omega, rfl, by simp [numsL], hide (by simp), Chg.refl _ _⟩
    case round =>
      obtain ⟨j, hj, rfl, rfl, hm, hch⟩ := hrel
      by_cases hlt : j < L.length
      · obtain ⟨i, hi⟩ : ∃ i, L[j]? = some i := ⟨_, List.getElem?_eq_getElem hlt⟩
        obtain ⟨g, rfl, hg, cp⟩ := ((unhide P4).no hch).at hi
        have ci := ((unhide HG).no hch).num (unhide HX i (List.mem_of_getElem? hi))
        have i1 : (0 : Int) ≤ (j : Int) := by omega
        have i2 : (j : Int) < (L.length : Int) := by omega
        have HS := hide (numsL_snoc f.n hi)
        have HI2 := hide hi
        have M := fun w' => unhide HM (f.n i) w'
        clear hi
        cases hb : mayN (f.n i)
        · rw [hb] at M
          have HM1 := hide M
          have HE := hide (unhide HO i (List.mem_of_getElem? (unhide HI2)) hb)
          clear M hb
          go_wp2_with (go_at_call 32; (with_reducible refine (unhide HM1 _).mono ?_); rintro e w5 ⟨rfl, rfl⟩)
          go_ret2
          exact ⟨by rw [unhide HE]; rfl, K4.andNo hch⟩
        · rw [hb] at M
          have HM1 := hide M
          have HI1 := hide (unhide HI (f.n i) hb)
          have HA := hide (all_snoc (p := fun x => mayN (f.n x) = true) (unhide HI2) (unhide hm) hb)
          have l1 := numsL_len f.n (L.take j)
          have l2 := intL_len (f.n i)
          have l3 : (L.take j).length ≤ 6 := by simp; omega
          have s1 : ¬ 9223372036854775807 < (intL (f.n 0)).length + (numsL f.n (L.take j)).length + (intL (f.n i)).length := by omega
          clear M hb l1 l2 l3
          go_wp2_with (first
            | (go_at_call 32; (with_reducible refine (unhide HM1 _).mono ?_); rintro e w5 ⟨rfl, rfl⟩)
            | (go_at_call 45; (with_reducible refine (unhide HI1 _).mono ?_); rintro e w6 ⟨rfl, k6⟩))
          go_roundw
          case rel => exact ⟨j + 1, by omega, by go_num, by rw [unhide HS], unhide (hide HA), hch.andNo k6⟩
          case measure => simp [intOf]; omega
      · obtain rfl : j = L.length := by omega
        have HE := hide (unhide HY (by have := unhide hm; rwa [List.take_length] at this))
        go_wp2_with fail
        go_ret2
        exact ⟨by rw [unhide HE, unhide HL, List.take_length]; rfl, K4.andNo hch⟩
end Go.Proofs.Ytfplgmkbhpdmjaa.Fm
/-
  Frames: contracts of putBehind, Put.
-/
namespace Go.Proofs.Ytfplgmkbhpdmjaa.Fm
open Go.ChangeShapes Go.WideShapes Go.ChangeAt Go.RowKit
set_option linter.unusedVariables false
attribute [local go_sem] bs_size bs_app bs_cut bs_tl bs_at
theorem info_ch : (Try.prog.info? 31).map (·.size) = some 3 := by kernel_rfl
section
variable {w : World} {p : Nat} {f : FT} {v : Value}
theorem op_at {j : Nat} {x : Value} (h : f.op.cells[j]? = some x) : (f.cells v).toArray[7 + j]? = some x := by
  rcases j with _ | _ | _ | _ | j <;> simp_all [PT.cells, FT.cells]
theorem eop_at {j : Nat} {x : Value} (h : f.eop.cells[j]? = some x) : (f.cells v).toArray[19 + j]? = some x := by
  rcases j with _ | _ | _ | _ | j <;> simp_all [PT.cells, FT.cells]
theorem re_at {j : Nat} {x : Value} (h : f.re.cells[j]? = some x) : (f.cells v).toArray[11 + j]? = some x := by
  rcases j with _ | _ | _ | _ | j <;> simp_all [RT.cells, FT.cells]
theorem ch_at {j : Nat} {x : Value} (h : (Ch.chC f.ch v).toList[j]? = some x) : (f.cells v).toArray[23 + j]? = some x := by
  rcases j with _ | _ | _ | j <;> simp_all [FT.cells]
end
/-- what is told of what stands behind -/
def behindT (f : FT) : Value := if behindB f = true then .tuple #[str (behindL f), .bool true] else .tuple #[str [], .bool false]
theorem behindT_yes {f : FT} {l : List UInt8} (h : behindB f = true) (hl : behindL f = l) : behindT f = .tuple #[str l, .bool true] := by unfold behindT; rw [if_pos h, hl]
theorem behindT_no {f : FT} (h : behindB f = false) : behindT f = .tuple #[str [], .bool false] := if_neg (by simp [h])
theorem putT_ways (o : PT) {f : FT} (e1 : behindB f = (chk o == 0)) (e2 : behindL f = rawL o) : ∃ (s : List UInt8) (n : Int) (b : Bool), putT o = .tuple #[str s, .int .i64 n] ∧ (n == 0) = b ∧ behindT f = .tuple #[str s, .bool b] := by
  by_cases h : chk o = 0
  · exact ⟨_, _, true, putT_ok h, rfl, behindT_yes (by rw [e1]; simpa using h) e2⟩
  · exact ⟨_, _, false, putT_no h, by simpa using h, behindT_no (by rw [e1]; simpa using h)⟩
theorem chT_ways (c : Ch.CT) {f : FT} (e1 : behindB f = Ch.good c) (e2 : behindL f = Ch.putL c) : ∃ (s : List UInt8) (n : Int) (b : Bool), Ch.putB c = s ∧ Ch.chk c = n ∧ (n == 0) = b ∧ behindT f = .tuple #[str s, .bool b] := by
  cases h : Ch.good c
  · exact ⟨_, _, false, Ch.putB_no h, Ch.chk_no h, rfl, behindT_no (by rw [e1, h])⟩
  · exact ⟨_, _, true, Ch.putB_yes h, Ch.chk_yes h, rfl, behindT_yes (by rw [e1, h]) e2⟩
set_option maxRecDepth 100000 in
set_option maxHeartbeats 1000000 in
theorem putBehind_any (f : FT) {ad : Option Addr} {cap : Nat} {w : World} (h : Ch.Sl w ad cap f.ch.ms) : Calls Try.prog 28 #[frV f (.slice ad f.ch.ms.length cap)] w (ToldN (behindT f) w) := by
  rcases behind_ways f with ⟨h0, e1, e2⟩ | ⟨h0, e1, e2⟩ | ⟨h0, e1, e2⟩ | ⟨h0, e1, e2⟩ | ⟨⟨n1, n4, n8, n2⟩, e1, e2⟩
  · obtain ⟨s, n, b, q1, q2, q3⟩ := putT_ways f.op e1 e2
    have P := fun w => put_any f.op w
    rw [q1] at P
    rw [q3]
    have HP := hide P
    clear P q1 q3 e1 e2 h
    generalize (Value.slice ad f.ch.ms.length cap) = v
    go_enter Try.func28, Try.ntmps28
    go_wp2_with (first
      | ((with_reducible show wpList _ _ _ (_ :: _) _ _); first
        | (refine wpL_box rfl 33 _ rfl (f.cells v).toArray rfl ?_; intro p w1 e1 k1 g1 z1; have G1 : FrAt w1 p f v := g1; have c0 := h0 ▸ G1.c0; clear e1 z1 g1)
        | (refine wpL_take rfl 24 (.tmp 10) rfl p 7 rfl f.op.cells (f.cells v).toArray _ _ G1 (fun j x => op_at) _ Try.underlying24 rfl info_op ?_))
      | (go_at_call 46; (with_reducible refine (unhide HP _).mono ?_); rintro e w2 ⟨rfl, k2⟩))
    go_ret2
    exact ⟨rfl, k1.andNo k2⟩
  · obtain ⟨s, n, b, q1, q2, q3⟩ := putT_ways f.eop e1 e2
    have P := fun w => put_any f.eop w
    rw [q1] at P
    rw [q3]
    have HP := hide P
    clear P q1 q3 e1 e2 h
    generalize (Value.slice ad f.ch.ms.length cap) = v
    go_enter Try.func28, Try.ntmps28
    go_wp2_with (first
      | ((with_reducible show wpList _ _ _ (_ :: _) _ _); first
        | (refine wpL_box rfl 33 _ rfl (f.cells v).toArray rfl ?_; intro p w1 e1 k1 g1 z1; have G1 : FrAt w1 p f v := g1; have c0 := h0 ▸ G1.c0; clear e1 z1 g1)
        | (refine wpL_take rfl 24 (.tmp 19) rfl p 19 rfl f.eop.cells (f.cells v).toArray _ _ G1 (fun j x => eop_at) _ Try.underlying24 rfl info_op ?_))
      | (go_at_call 46; (with_reducible refine (unhide HP _).mono ?_); rintro e w2 ⟨rfl, k2⟩))
    go_ret2
    exact ⟨rfl, k1.andNo k2⟩
  · obtain ⟨s, n, b, q1, q4, q2, q3⟩ := chT_ways f.ch e1 e2
    have P := fun w' (k : Chg noBlk w w') => Ch.put_any (h.no k)
    rw [q1, q4] at P
    rw [q3]
    have HP := hide P
    have HV : (Value.slice ad f.ch.ms.length cap).oneCell' = true := rfl
    clear P q1 q3 q4 e1 e2 h
    go_enter Try.func28, Try.ntmps28
    go_wp2_with (first
      | ((with_reducible show wpList _ _ _ (_ :: _) _ _); first
        | (refine wpL_box rfl 33 _ rfl (f.cells (.slice ad f.ch.ms.length cap)).toArray rfl ?_; intro p w1 e1 k1 g1 z1; have G1 : FrAt w1 p f (.slice ad f.ch.ms.length cap) := g1; have c0 := h0 ▸ G1.c0; clear e1 z1 g1)
        | (refine wpL_take rfl 31 (.tmp 27) rfl p 23 rfl (Ch.chC f.ch (.slice ad f.ch.ms.length cap)).toList (f.cells (.slice ad f.ch.ms.length cap)).toArray _ _ G1 (fun j x => ch_at) _ Try.underlying31 rfl info_ch ?_))
      | (go_at_call 47; (with_reducible refine (unhide HP _ k1).mono ?_); rintro e w2 ⟨rfl, k2⟩))
    go_ret2
    exact ⟨rfl, k1.andNo k2⟩
  · have HE := hide (show behindT f = resT f.re by unfold behindT resT; rw [e1, e2])
    have HP := hide (fun w => putResult_any f.re w)
    have HR : ∃ s b, resT f.re = .tuple #[str s, .bool b] := by
      unfold resT; split
      · exact ⟨_, _, rfl⟩
      · exact ⟨_, _, rfl⟩
    obtain ⟨s, b, hr⟩ := HR
    rw [hr] at HP HE
    clear e1 e2 h hr
    generalize (Value.slice ad f.ch.ms.length cap) = v
    go_enter Try.func28, Try.ntmps28
    go_wp2_with (first
      | ((with_reducible show wpList _ _ _ (_ :: _) _ _); first
        | (refine wpL_box rfl 33 _ rfl (f.cells v).toArray rfl ?_; intro p w1 e1 k1 g1 z1; have G1 : FrAt w1 p f v := g1; have c0 := h0 ▸ G1.c0; clear e1 z1 g1)
        | (refine wpL_take rfl 26 (.tmp 34) rfl p 11 rfl f.re.cells (f.cells v).toArray _ _ G1 (fun j x => re_at) _ Try.underlying26 rfl info_re ?_))
      | (go_at_call 48; (with_reducible refine (unhide HP _).mono ?_); rintro e w2 ⟨rfl, k2⟩))
    go_ret2
    exact ⟨by rw [unhide HE]; rfl, k1.andNo k2⟩
  · have d1 : (f.n 0 == 1) = false := by simpa using n1
    have d4 : (f.n 0 == 4) = false := by simpa using n4
    have d8 : (f.n 0 == 8) = false := by simpa using n8
    have d2 : (f.n 0 == 2) = false := by simpa using n2
    have HE := hide (behindT_yes e1 e2)
    clear e1 e2 h n1 n4 n8 n2
    generalize (Value.slice ad f.ch.ms.length cap) = v
    go_enter Try.func28, Try.ntmps28
    go_wp2_with ((with_reducible show wpList _ _ _ (_ :: _) _ _); refine wpL_box rfl 33 _ rfl (f.cells v).toArray rfl ?_; intro p w1 e1 k1 g1 z1; have G1 : FrAt w1 p f v := g1; have c0 := G1.c0; clear e1 z1 g1)
    go_ret2
    exact ⟨by rw [unhide HE]; rfl, k1⟩
theorem ok_ways (f : FT) : (aheadB f = false ∧ putF f = [] ∧ errF f = 2) ∨ (aheadB f = true ∧ behindB f = false ∧ putF f = [] ∧ errF f = 2) ∨ (aheadB f = true ∧ behindB f = true ∧ (aheadL f).length ≤ 63 ∧ (behindL f).length ≤ 135 ∧ putF f = aheadL f ++ behindL f ∧ errF f = 0) := by
  cases ha : aheadB f
  · have : okF f = false := by simp [okF, ha]
    exact .inl ⟨rfl, putF_no this⟩
  cases hb : behindB f
  · have : okF f = false := by simp [okF, hb]
    exact .inr (.inl ⟨rfl, rfl, putF_no this⟩)
  · have : okF f = true := by simp [okF, ha, hb]
    exact .inr (.inr ⟨rfl, rfl, aheadL_len f, behindL_len hb, putF_yes this⟩)
set_option maxRecDepth 100000 in
set_option maxHeartbeats 1000000 in
theorem put_any (f : FT) {ad : Option Addr} {cap : Nat} {w : World} (h : Ch.Sl w ad cap f.ch.ms) : Calls Try.prog 12 #[frV f (.slice ad f.ch.ms.length cap)] w (ToldN (.tuple #[str (putF f), .int .i64 (errF f)]) w) := by
  have A := fun w => putNumbers_any f (v := .slice ad f.ch.ms.length cap) rfl w
  have B := fun w' (k : Chg noBlk w w') => putBehind_any f (h.no k)
  clear h
  rcases ok_ways f with ⟨ha, e1, e2⟩ | ⟨ha, hb, e1, e2⟩ | ⟨ha, hb, l1, l2, e1, e2⟩ <;> rw [e1, e2]
  · rw [aheadT_no ha] at A
    have HA := hide A
    clear A B ha e1 e2
    generalize (Value.slice ad f.ch.ms.length cap) = v at *
    go_enter Try.func12, Try.ntmps12
    go_wp2_with (first
      | ((with_reducible show wpList _ _ _ (_ :: _) _ _); first
        | (refine wpL_box rfl 33 _ rfl (f.cells v).toArray rfl ?_; intro p w1 e1 k1 g1 z1; have G1 : FrAt w1 p f v := g1; clear e1 z1 g1)
        | (refine wpL_load rfl 33 (.tmp 1) rfl p rfl (f.cells v).toArray _ _ G1 _ Try.underlying33 rfl info_fr ?_))
      | (go_at_call 27; (with_reducible refine (unhide HA _).mono ?_); rintro e w2 ⟨rfl, k2⟩))
    go_ret2
    exact ⟨rfl, k1.andNo k2⟩
  · rw [aheadT_yes ha] at A
    rw [behindT_no hb] at B
    have HA := hide A
    have HB := hide B
    clear A B ha hb e1 e2
    generalize (Value.slice ad f.ch.ms.length cap) = v at *
    have ta : True := True.intro
    go_enter Try.func12, Try.ntmps12
    go_wp2_with (first
      | ((with_reducible show wpList _ _ _ (_ :: _) _ _); first
        | (refine wpL_box rfl 33 _ rfl (f.cells v).toArray rfl ?_; intro p w1 e1 k1 g1 z1; have G1 : FrAt w1 p f v := g1; clear e1 z1 g1)
        | (clear ta; refine wpL_load rfl 33 (.tmp 1) rfl p rfl (f.cells v).toArray _ _ G1 _ Try.underlying33 rfl info_fr ?_)
        | (refine wpL_load rfl 33 (.tmp 1) rfl p rfl (f.cells v).toArray _ _ (G1.no k2) _ Try.underlying33 rfl info_fr ?_))
      | (go_at_call 27; (with_reducible refine (unhide HA _).mono ?_); rintro e w2 ⟨rfl, k2⟩)
      | (go_at_call 28; (with_reducible refine (unhide HB _ (k1.andNo k2)).mono ?_); rintro e w3 ⟨rfl, k3⟩))
    go_ret2
    exact ⟨rfl, (k1.andNo k2).andNo k3⟩
  · rw [aheadT_yes ha] at A
    rw [behindT_yes hb rfl] at B
    have HA := hide A
    have HB := hide B
    have s1 : ¬ 512 < ((aheadL f).length : Int) + (behindL f).length := by omega
    have s2 : ¬ 9223372036854775807 < (aheadL f).length + (behindL f).length := by omega
    clear A B ha hb e1 e2
    generalize (Value.slice ad f.ch.ms.length cap) = v at *
    have ta : True := True.intro
    go_enter Try.func12, Try.ntmps12
    go_wp2_with (first
      | ((with_reducible show wpList _ _ _ (_ :: _) _ _); first
        | (refine wpL_box rfl 33 _ rfl (f.cells v).toArray rfl ?_; intro p w1 e1 k1 g1 z1; have G1 : FrAt w1 p f v := g1; clear e1 z1 g1)
        | (clear ta; refine wpL_load rfl 33 (.tmp 1) rfl p rfl (f.cells v).toArray _ _ G1 _ Try.underlying33 rfl info_fr ?_)
        | (refine wpL_load rfl 33 (.tmp 1) rfl p rfl (f.cells v).toArray _ _ (G1.no k2) _ Try.underlying33 rfl info_fr ?_))
      | (go_at_call 27; (with_reducible refine (unhide HA _).mono ?_); rintro e w2 ⟨rfl, k2⟩)
      | (go_at_call 28; (with_reducible refine (unhide HB _ (k1.andNo k2)).mono ?_); rintro e w3 ⟨rfl, k3⟩))
    go_ret2
    exact ⟨rfl, (k1.andNo k2).andNo k3⟩
end Go.Proofs.Ytfplgmkbhpdmjaa.Fm
