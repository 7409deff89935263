/-
  Frames: the walk of the law that what is got is put as these.
-/
import Derived.Test.YtfplgmkbhpdmjaaFramesM
import Derived.Deep.QuietTactic
import Derived.BigQuiet
import Derived.Deep.RegionHeld3
namespace Go.Proofs.Ytfplgmkbhpdmjaa.Fm
open Go.ChangeShapes Go.WideShapes Go.ChangeAt Go.RowKit
set_option linter.unusedVariables false
attribute [local go_sem] bs_size bs_app bs_cut bs_tl bs_at
/-- a frame read: met whole -/
def ldFr (x : Value) : Sem Value := Instr.loadAt 33 x
theorem ldFr_pre (x : Value) : Instr.loadAt 33 x = ldFr x := rfl
theorem run_ldFr {w : World} {b : Nat} {f : FT} {v : Value} (h : FrAt w b f v) : (ldFr (.pointer (some ⟨b, 0, none⟩))).run Try.prog w = .ok (frV f v) w :=
  run_loadAt_mid w b 0 33 (f.cells v) _ (fun j u hu => by rw [Nat.zero_add]; exact cellAt h j u (by simpa using hu)) Try.underlying33 rfl info_fr
theorem same_any' {f : FT} {a1 a2 : Option Addr} {c1 c2 : Nat} {w : World} (h1 : Ch.Sl w a1 c1 f.ch.ms) (h2 : Ch.Sl w a2 c2 f.ch.ms) : ∀ w', Chg noBlk w w' → Calls Try.prog 13 #[frV f (.slice a1 f.ch.ms.length c1), frV f (.slice a2 f.ch.ms.length c2)] w' (ToldN (.bool true) w') :=
  fun w' k => same_self f (h1.no k) (h2.no k)
/-- a frame with its cells written out -/
def litZ (v : Value) : Array Value := #[.int .i64 0, .int .i64 0, .int .i64 0, .int .i64 0, .int .i64 0, .int .i64 0, .int .i64 0, .int .i64 0, .string ⟨#[]⟩, .string ⟨#[]⟩, .int .i64 0, .int .i64 0, .string ⟨#[]⟩, .int .i64 0, .int .i64 0, .int .i64 0, .int .i64 0, .int .i64 0, .int .i64 0, .int .i64 0, .string ⟨#[]⟩, .string ⟨#[]⟩, .int .i64 0, .int .i64 0, v, .int .i64 0, .int .i64 0, .int .i64 0, .int .i64 0]
theorem litZ_eq (v : Value) : frV fZero v = .agg (litZ v) := rfl
set_option maxRecDepth 100000 in
theorem form_long (s : List UInt8) (h : 700 < s.length) (w : World) : Calls Try.prog 5 #[str s] w (ToldN (.bool true) w) := by
  have HS := hide (fun w => sent_any w)
  have i1 : (700 : Int) < (s.length : Int) := by omega
  clear h
  go_enter Try.func5, Try.ntmps5
  go_wp2_with (go_at_call 6; (with_reducible refine (unhide HS _).mono ?_); rintro e w2 ⟨rfl, k2⟩)
  go_ret
  exact ⟨rfl, k2⟩
attribute [local go_sem ↓] ldFr_pre in
set_option maxRecDepth 100000 in
theorem form_no (s : List UInt8) (h : ¬ 700 < s.length) (hn : ∀ d, ¬ IsOf s d) (w : World) : Calls Try.prog 5 #[str s] w (ToldN (.bool true) w) := by
  have HS := hide (fun w => sent_any w)
  have HG := hide (fun w => get_none (by omega) hn w)
  have i1 : ¬ (700 : Int) < (s.length : Int) := by omega
  clear h hn
  go_enter Try.func5, Try.ntmps5
  go_wp2_with (first
    | (go_at_call 7; (with_reducible refine (unhide HG _).mono ?_); rintro e w2 ⟨ad, cap, rfl, k2, sl⟩; have HM := hide (show ∀ w', Chg noBlk w2 w' → Calls Try.prog 13 #[frV fZero (.slice ad 0 cap), .agg (litZ v0)] w' (ToldN (.bool true) w') from same_any' (f := fZero) (a1 := ad) (a2 := none) (c1 := cap) (c2 := 0) sl (sl_none _)); clear sl)
    | (go_at_call 6; (with_reducible refine (unhide HS _).mono ?_); rintro e w6 ⟨rfl, k6⟩)
    | (go_at_call 13; (refine (unhide HM _ (unhide KM)).mono ?_); rintro e w5 ⟨rfl, k5⟩)
    | ((with_reducible show wpList _ _ _ (⟨_, _, _, _, _, none⟩ :: _) _ _); first
      | (refine wpL_alloc rfl 33 rfl _ zero_fr ?_; intro p w3 e3 k3 g3 z3; have G3 : FrAt w3 p fZero v0 := g3; have E3 := hide (Nat.le_of_eq e3); clear z3 g3 e3)
      | (refine wpL_store rfl 33 (.tmp 3) (.tmp 12) rfl p (fZero.cells (.slice ad 0 cap)).toArray rfl rfl _ _ G3 info_fr rfl (all_oneCell_toArray (FT.one _ rfl)) ?_; intro w4 k4 g4 z4; have la := run_ldFr (f := fZero) g4; have KM := hide (k3.past k4 (unhide E3)); clear z4)))
  go_ret
  exact ⟨rfl, ((k2.andNo (unhide KM)).andNo k5).andNo k6⟩
theorem small_ok {f : FT} (h : okF f = true) (hp : IsPl f) : Small f := by
  simp only [okF, Bool.and_eq_true] at h
  obtain ⟨_, h⟩ := h
  have z : pZero.key.length ≤ 1000 ∧ pZero.val.length ≤ 1000 ∧ rZero.val.length ≤ 1000 := by decide
  rcases behind_ways f with ⟨k, b1, _⟩ | ⟨k, b1, _⟩ | ⟨k, b1, _⟩ | ⟨k, b1, _⟩ | ⟨⟨k1, k2, k3, k4⟩, b1, _⟩ <;> rw [b1] at h
  · have g := chk_fit.1 (show chk f.op = 0 by simpa using h)
    refine ⟨by have := g.l1; omega, by have := g.l2; omega, ?_, ?_, ?_⟩
    · rw [hp.eop (by omega)]; exact z.1
    · rw [hp.eop (by omega)]; exact z.2.1
    · rw [hp.re (by omega)]; exact z.2.2
  · have g := chk_fit.1 (show chk f.eop = 0 by simpa using h)
    refine ⟨?_, ?_, by have := g.l1; omega, by have := g.l2; omega, ?_⟩
    · rw [hp.op (by omega)]; exact z.1
    · rw [hp.op (by omega)]; exact z.2.1
    · rw [hp.re (by omega)]; exact z.2.2
  · refine ⟨?_, ?_, ?_, ?_, ?_⟩
    · rw [hp.op (by omega)]; exact z.1
    · rw [hp.op (by omega)]; exact z.2.1
    · rw [hp.eop (by omega)]; exact z.1
    · rw [hp.eop (by omega)]; exact z.2.1
    · rw [hp.re (by omega)]; exact z.2.2
  · have g := (resB_yes.1 h).2.2.1
    refine ⟨?_, ?_, ?_, ?_, by omega⟩
    · rw [hp.op (by omega)]; exact z.1
    · rw [hp.op (by omega)]; exact z.2.1
    · rw [hp.eop (by omega)]; exact z.1
    · rw [hp.eop (by omega)]; exact z.2.1
  · refine ⟨?_, ?_, ?_, ?_, ?_⟩
    · rw [hp.op (by omega)]; exact z.1
    · rw [hp.op (by omega)]; exact z.2.1
    · rw [hp.eop (by omega)]; exact z.1
    · rw [hp.eop (by omega)]; exact z.2.1
    · rw [hp.re (by omega)]; exact z.2.2
/-- a plain frame's Plain -/
theorem plain_pl {f : FT} (hp : IsPl f) (hs : Small f) {ad : Option Addr} {cap : Nat} {w : World} (h : Ch.Sl w ad cap f.ch.ms) : Calls Try.prog 11 #[frV f (.slice ad f.ch.ms.length cap)] w (fun e w' => ∃ ad cap, e = .returned (frV f (.slice ad f.ch.ms.length cap)) ∧ Chg noBlk w w' ∧ Ch.Sl w' ad cap f.ch.ms) := by
  have := plain_any f hs h
  unfold PlainT at this
  rw [plain_self hp] at this
  exact this
attribute [local go_sem ↓] ldFr_pre in
set_option maxRecDepth 100000 in
theorem form_yes (s : List UInt8) (h : ¬ 700 < s.length) {f : FT} (hf : IsOf s f) (w : World) : Calls Try.prog 5 #[str s] w (ToldN (.bool true) w) := by
  have HS := hide (fun w => sent_any w)
  have HG := hide (fun w => get_put (by omega) hf w)
  have HF := hide hf
  have i1 : ¬ (700 : Int) < (s.length : Int) := by omega
  clear h hf
  go_enter Try.func5, Try.ntmps5
  go_wp2_with (first
    | (go_at_call 7; (with_reducible refine (unhide HG _).mono ?_); rintro e w2 ⟨ad, cap, rfl, k2, sl⟩; have HL := hide sl; clear sl)
    | ((with_reducible show wpList _ _ _ (⟨_, _, _, _, _, none⟩ :: _) _ _); first
      | (refine wpL_alloc rfl 33 rfl _ zero_fr ?_; intro p w3 e3 k3 g3 z3; have G3 : FrAt w3 p fZero v0 := g3; have E3 := hide (Nat.le_of_eq e3); clear z3 g3 e3)
      | (refine wpL_store rfl 33 (.tmp 3) (.tmp 12) rfl p (f.cells (.slice ad f.ch.ms.length cap)).toArray rfl rfl _ _ G3 info_fr rfl (all_oneCell_toArray (FT.one _ rfl)) ?_; intro w4 k4 g4 z4; have G4 : FrAt w4 p f (.slice ad f.ch.ms.length cap) := g4; have KM := hide (k3.past k4 (unhide E3)); clear z4 g4)))
  have SL := (unhide HL).no (unhide KM)
  have KE := hide (fun w' (k : Chg noBlk w4 w') => (⟨k, SL.no k, run_ldFr (G4.no k)⟩ : Chg noBlk w4 w' ∧ Ch.Sl w' ad cap f.ch.ms ∧ (ldFr (.pointer (some ⟨p, 0, none⟩))).run Try.prog w' = .ok (frV f (.slice ad f.ch.ms.length cap)) w'))
  have B0 := Chg.refl noBlk w4
  have HB := hide (fun (w' : World) (h : Chg noBlk w4 w' ∧ Ch.Sl w' ad cap f.ch.ms ∧ (ldFr (.pointer (some ⟨p, 0, none⟩))).run Try.prog w' = .ok (frV f (.slice ad f.ch.ms.length cap)) w') => bytes_yes (unhide HF).ok (unhide HF).raw h.2.1)
  have HP := hide (fun (w' : World) (h : Chg noBlk w4 w' ∧ Ch.Sl w' ad cap f.ch.ms ∧ (ldFr (.pointer (some ⟨p, 0, none⟩))).run Try.prog w' = .ok (frV f (.slice ad f.ch.ms.length cap)) w') => plain_pl (unhide HF).pl (small_ok (unhide HF).ok (unhide HF).pl) h.2.1)
  have HM := hide (fun (w' : World) a1 c1 (h1 : Ch.Sl w' a1 c1 f.ch.ms) (h : Chg noBlk w4 w' ∧ Ch.Sl w' ad cap f.ch.ms ∧ (ldFr (.pointer (some ⟨p, 0, none⟩))).run Try.prog w' = .ok (frV f (.slice ad f.ch.ms.length cap)) w') => same_self f h1 h.2.1)
  clear HL SL G4
  go_region_held3 (fun w' => Chg noBlk w4 w' ∧ Ch.Sl w' ad cap f.ch.ms ∧ (ldFr (.pointer (some ⟨p, 0, none⟩))).run Try.prog w' = .ok (frV f (.slice ad f.ch.ms.length cap)) w')
    ((refine unhide KE _ ?_; go_split_ands; first | assumption | exact Chg.drew (by assumption) | exact Chg.drewN (by assumption) _ | exact Chg.andNo (by assumption) (by assumption)))
    (first
      | (go_at_call 14; (with_reducible refine (unhide HB _ (by assumption)).mono ?_); rintro e w5 ⟨rfl, k5⟩)
      | (go_at_call 11; (with_reducible refine (unhide HP _ (by assumption)).mono ?_); rintro e w6 ⟨a6, c6, rfl, k6, s6⟩)
      | (go_at_call 13; (with_reducible refine (unhide HM _ _ _ s6 (by assumption)).mono ?_); rintro e w7 ⟨rfl, k7⟩)
      | (go_at_call 6; (with_reducible refine (unhide HS _).mono ?_); rintro e w8 ⟨rfl, k8⟩))
  rename_i hH
  obtain ⟨K8, _, _⟩ := hH
  go_wp2_with fail
  go_ret
  exact ⟨rfl, (k2.andNo (unhide KM)).andNo K8⟩
theorem form_any (s : List UInt8) (w : World) : Calls Try.prog 5 #[str s] w (ToldN (.bool true) w) := by
  by_cases h : 700 < s.length
  · exact form_long s h w
  by_cases hn : ∀ d, ¬ IsOf s d
  · exact form_no s h hn w
  · obtain ⟨f, hf⟩ : ∃ f, IsOf s f := Classical.byContradiction fun q => hn fun d hd => q ⟨d, hd⟩
    exact form_yes s h hf w
#print axioms form_any
end Go.Proofs.Ytfplgmkbhpdmjaa.Fm
