/-
  Frames: contracts of what the laws share: a frame's bytes; the chapter's frames; what is more than is gone through.
-/
import Derived.Test.YtfplgmkbhpdmjaaFramesL
namespace Go.Proofs.Ytfplgmkbhpdmjaa.Fm
open Go.ChangeShapes Go.WideShapes Go.ChangeAt Go.RowKit
set_option linter.unusedVariables false
attribute [local go_sem] bs_size bs_app bs_cut bs_tl bs_at
set_option maxRecDepth 100000 in
theorem bytes_yes {f : FT} {l : List UInt8} (ho : okF f = true) (hl : rawF f = l) {ad : Option Addr} {cap : Nat} {w : World} (h : Ch.Sl w ad cap f.ch.ms) : Calls Try.prog 14 #[frV f (.slice ad f.ch.ms.length cap), str l] w (ToldN (.bool true) w) := by
  have P := fun w' (k : Chg noBlk w w') => put_any f (h.no k)
  rw [(putF_yes ho).1, (putF_yes ho).2, hl] at P
  have HP := hide P
  have e1 : (l == l) = true := by simp
  clear P h ho hl
  generalize (Value.slice ad f.ch.ms.length cap) = v at *
  go_enter Try.func14, Try.ntmps14
  go_wp2_with (first
    | (go_at_call 12; (with_reducible refine (unhide HP _ k1).mono ?_); rintro e w2 ⟨rfl, k2⟩)
    | ((with_reducible show wpList _ _ _ (⟨_, _, _, _, _, none⟩ :: _) _ _); first
      | (refine wpL_box rfl 33 _ rfl (f.cells v).toArray rfl ?_; intro p w1 e1 k1 g1 z1; have G1 : FrAt w1 p f v := g1; clear e1 z1 g1)
      | (refine wpL_load rfl 33 (.tmp 2) rfl p rfl (f.cells v).toArray _ _ G1 _ Try.underlying33 rfl info_fr ?_)))
  go_ret
  exact ⟨rfl, k1.andNo k2⟩
/-- the chapter's frames -/
def fA : FT := (fZero.set 0 7).set 1 9
def fB : FT := (fZero.set 0 6).set 1 2
def fC : FT := (((fZero.set 0 2).set 3 1).set 4 1).withRe ⟨2, [], 0, 4⟩
theorem okA : okF fA = true ∧ rawF fA = [8] := by decide
theorem okB : okF fB = true ∧ rawF fB = [7, 3, 1] := by decide
theorem okC : okF fC = true ∧ rawF fC = [3, 1, 2, 2, 3, 0, 1, 5] := by decide
theorem built_A : Try.prog.built 33 [(0, .int .i64 7), (1, .int .i64 9)] = some (fA.cells v0).toArray := by kernel_rfl
theorem get_none {l : List UInt8} (hl : l.length ≤ 1000) (h : ∀ d, ¬ IsOf l d) (w : World) : Calls Try.prog 7 #[str l] w (fun e w' => ∃ ad cap, e = .returned (.tuple #[frV fZero (.slice ad 0 cap), .int .i64 10]) ∧ Chg noBlk w w' ∧ Ch.Sl w' ad cap []) :=
  (get_any l hl w).mono fun e w' ⟨f, n, ad, cap, hg, he, hc, sl⟩ => by
    obtain ⟨rfl, rfl⟩ := got_one hg (.inr ⟨h, rfl, rfl⟩)
    exact ⟨ad, cap, he, hc, sl⟩
theorem get_put {l : List UInt8} (hl : l.length ≤ 1000) {f : FT} (h : IsOf l f) (w : World) : Calls Try.prog 7 #[str l] w (fun e w' => ∃ ad cap, e = .returned (.tuple #[frV f (.slice ad f.ch.ms.length cap), .int .i64 0]) ∧ Chg noBlk w w' ∧ Ch.Sl w' ad cap f.ch.ms) :=
  (get_any l hl w).mono fun e w' ⟨g, n, ad, cap, hg, he, hc, sl⟩ => by
    obtain ⟨rfl, rfl⟩ := got_one hg (.inl ⟨h, rfl⟩)
    exact ⟨ad, cap, he, hc, sl⟩
theorem no_nil (d : FT) : ¬ IsOf [] d := fun h => by have := rawF_pos h.ok; rw [h.raw] at this; simp at this
set_option maxRecDepth 100000 in
theorem sent_any (w : World) : Calls Try.prog 6 #[] w (ToldN (.bool true) w) := by
  have ta : True := True.intro
  have HG := hide (fun w => get_none (l := []) (by simp) no_nil w)
  have HA : Hid (∀ w, Calls Try.prog 14 #[.agg #[.int .i64 7, .int .i64 9, .int .i64 0, .int .i64 0, .int .i64 0, .int .i64 0, .int .i64 0, .int .i64 0, .string ⟨#[]⟩, .string ⟨#[]⟩, .int .i64 0, .int .i64 0, .string ⟨#[]⟩, .int .i64 0, .int .i64 0, .int .i64 0, .int .i64 0, .int .i64 0, .int .i64 0, .int .i64 0, .string ⟨#[]⟩, .string ⟨#[]⟩, .int .i64 0, .int .i64 0, .slice none 0 0, .int .i64 0, .int .i64 0, .int .i64 0, .int .i64 0], .string ⟨#[8]⟩] w (ToldN (.bool true) w)) := hide (fun w => bytes_yes (f := fA) (ad := none) (cap := 0) okA.1 okA.2 (sl_none w))
  have HB : Hid (∀ w, Calls Try.prog 14 #[.agg #[.int .i64 6, .int .i64 2, .int .i64 0, .int .i64 0, .int .i64 0, .int .i64 0, .int .i64 0, .int .i64 0, .string ⟨#[]⟩, .string ⟨#[]⟩, .int .i64 0, .int .i64 0, .string ⟨#[]⟩, .int .i64 0, .int .i64 0, .int .i64 0, .int .i64 0, .int .i64 0, .int .i64 0, .int .i64 0, .string ⟨#[]⟩, .string ⟨#[]⟩, .int .i64 0, .int .i64 0, .slice none 0 0, .int .i64 0, .int .i64 0, .int .i64 0, .int .i64 0], .string ⟨#[7, 3, 1]⟩] w (ToldN (.bool true) w)) := hide (fun w => bytes_yes (f := fB) (ad := none) (cap := 0) okB.1 okB.2 (sl_none w))
  have HC : Hid (∀ w, Calls Try.prog 14 #[.agg #[.int .i64 2, .int .i64 0, .int .i64 0, .int .i64 1, .int .i64 1, .int .i64 0, .int .i64 0, .int .i64 0, .string ⟨#[]⟩, .string ⟨#[]⟩, .int .i64 0, .int .i64 2, .string ⟨#[]⟩, .int .i64 0, .int .i64 4, .int .i64 0, .int .i64 0, .int .i64 0, .int .i64 0, .int .i64 0, .string ⟨#[]⟩, .string ⟨#[]⟩, .int .i64 0, .int .i64 0, .slice none 0 0, .int .i64 0, .int .i64 0, .int .i64 0, .int .i64 0], .string ⟨#[3, 1, 2, 2, 3, 0, 1, 5]⟩] w (ToldN (.bool true) w)) := hide (fun w => bytes_yes (f := fC) (ad := none) (cap := 0) okC.1 okC.2 (sl_none w))
  go_enter Try.func6, Try.ntmps6
  go_wp2_with (first
    | (go_at_call 7; (refine (unhide HG _).mono ?_); rintro e w2 ⟨ad, cap, rfl, k2, sl⟩)
    | (go_at_call 14; (with_reducible refine (unhide HA _).mono ?_); rintro e w4 ⟨rfl, k4⟩)
    | (go_at_call 14; (with_reducible refine (unhide HB _).mono ?_); rintro e w5 ⟨rfl, k5⟩)
    | (go_at_call 14; (with_reducible refine (unhide HC _).mono ?_); rintro e w6 ⟨rfl, k6⟩)
    | ((with_reducible show wpList _ _ _ (⟨_, _, _, _, _, none⟩ :: _) _ _); first
      | (refine wpL_alloc rfl 33 rfl _ zero_fr ?_; intro p w1 e1 k1 g1 z1; have G1 : FrAt w1 p fZero v0 := g1; have E1 := hide (Nat.le_trans k2.size (Nat.le_of_eq e1)); clear z1 g1 e1)
      | (refine wpL_store rfl 33 (.tmp 1) (.tmp 5) rfl p (fZero.cells (.slice ad 0 cap)).toArray rfl rfl _ _ G1 info_fr rfl (all_oneCell_toArray (FT.one _ rfl)) ?_; intro w3 k3 g3 z3; clear z3)))
  go_ret
  exact ⟨rfl, ((((k2.andNo k1).past k3 (unhide E1)).andNo k4).andNo k5).andNo k6⟩
#print axioms sent_any
end Go.Proofs.Ytfplgmkbhpdmjaa.Fm
