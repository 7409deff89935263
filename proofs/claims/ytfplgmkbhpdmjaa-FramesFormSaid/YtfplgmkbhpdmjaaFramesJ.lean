/-
  Frames: a contract of Get.
-/
import Derived.Test.YtfplgmkbhpdmjaaFramesI
namespace Go.Proofs.Ytfplgmkbhpdmjaa.Fm
open Go.ChangeShapes Go.WideShapes Go.ChangeAt Go.RowKit
set_option linter.unusedVariables false
attribute [local go_sem] bs_size bs_app bs_cut bs_tl bs_at
/-- told: the frame whose bytes these are, of its own, or none -/
def Got (s : List UInt8) (w : World) (e : Ending) (w' : World) : Prop := ∃ f n ad cap, GotOf s f n ∧ e = .returned (.tuple #[frV f (.slice ad f.ch.ms.length cap), .int .i64 n]) ∧ Chg noBlk w w' ∧ Ch.Sl w' ad cap f.ch.ms
theorem sl_past {S : Nat → Prop} {w w' : World} {ad : Option Addr} {cap : Nat} {L : List Ch.MT} (h : Ch.Sl w ad cap L) (k : Chg S w w') (hS : ∀ q, ad = some q → ¬ S q.block) : Ch.Sl w' ad cap L :=
  ⟨fun i x hx => by
    obtain ⟨t, g, off, e, r⟩ := h.rows i x hx
    exact ⟨t, g, off, e, fun j u hu => k.cell (r j u hu) (hS ⟨g, off, none⟩ e)⟩, h.room, h.few, h.nil⟩
section
variable {s X : List UInt8} {w : World} {b : Nat}
theorem num_no (hs : s.length ≤ 1000) (hn : NoA s) (h : FrAt w b fZero v0) : Calls Try.prog 15 #[str s, .pointer (some ⟨b, 0, none⟩)] w (fun e w' => ∃ g rest, e = .returned (.tuple #[str rest, .bool false]) ∧ FrAt w' b g v0 ∧ Chg (oneBlk b) w w') :=
  (getNumbers_any s hs h).mono fun e w' ⟨g, rest, ok, he, hf, hc, ho⟩ => by
    rcases ho with ⟨rfl, h1, h2⟩ | ⟨rfl, _⟩
    · obtain ⟨a1, a2⟩ := h2.all h1
      exact absurd a2 (hn g rest a1)
    · exact ⟨g, rest, he, hf, hc⟩
theorem num_yes (hs : s.length ≤ 1000) {q : FT} (ha : aheadB q = true) (hx : aheadL q ++ X = s) (h : FrAt w b fZero v0) : Calls Try.prog 15 #[str s, .pointer (some ⟨b, 0, none⟩)] w (fun e w' => ∃ g, e = .returned (.tuple #[str X, .bool true]) ∧ FrAt w' b g v0 ∧ Chg (oneBlk b) w w' ∧ St s (q.n 0) (nix (q.n 0)).length g X) :=
  (getNumbers_any s hs h).mono fun e w' ⟨g, rest, ok, he, hf, hc, ho⟩ => by
    rcases ho with ⟨rfl, h1, h2⟩ | ⟨rfl, hn⟩
    · obtain ⟨a1, a2⟩ := h2.all h1
      obtain ⟨e1, _, e3⟩ := ahead_ahead (hx.trans a2.symm) ha a1
      rw [← e3, ← e1] at h2
      rw [← e3] at he
      exact ⟨g, he, hf, hc, h2⟩
    · exact absurd hx (hn q X ha)
end
section
variable {s l : List UInt8} {k : Int} {g : FT} {w : World} {b : Nat}
theorem beh_no (hst : St s k (nix k).length g l) (hk : kindB k = true) (hl : l.length ≤ 1000) (hn : NoB k l) (h : FrAt w b g v0) : Calls Try.prog 16 #[str l, .pointer (some ⟨b, 0, none⟩)] w (fun e w' => ∃ f v, e = .returned (.bool false) ∧ FrAt w' b f v ∧ v.oneCell' = true ∧ Chg (oneBlk b) w w') :=
  (getBehind_any hst hk hl h).mono fun e w' ⟨f, v, ok, he, hf, hv, hc, ho⟩ => by
    rcases ho with ⟨rfl, h1, _⟩ | ⟨rfl, _⟩
    · rcases got_noB hst hk hn with ⟨_, q⟩ | ⟨q, _⟩
      · omega
      · exact absurd h1 (q f)
    · exact ⟨f, v, he, hf, hv, hc⟩
theorem beh_yes (hst : St s k (nix k).length g l) (hk : kindB k = true) (hl : l.length ≤ 1000) (hn : ¬ NoB k l) (h : FrAt w b g v0) : Calls Try.prog 16 #[str l, .pointer (some ⟨b, 0, none⟩)] w (fun e w' => ∃ f ad cap, e = .returned (.bool true) ∧ FrAt w' b f (.slice ad f.ch.ms.length cap) ∧ Chg (oneBlk b) w w' ∧ IsOf s f ∧ Ch.Sl w' ad cap f.ch.ms ∧ ∀ q, ad = some q → q.block ≠ b) :=
  (getBehind_any hst hk hl h).mono fun e w' ⟨f, v, ok, he, hf, hv, hc, ho⟩ => by
    rcases ho with ⟨rfl, h1, ad, cap, rfl, h2, h3⟩ | ⟨rfl, q⟩
    · exact ⟨f, ad, cap, he, hf, hc, h1, h2, h3⟩
    · exact absurd q hn
end
theorem got_zero {s : List UInt8} {w w' : World} (h : GotOf s fZero 10) (k : Chg noBlk w w') : Got s w (.returned (.tuple #[frV fZero v0, .int .i64 10])) w' := ⟨fZero, 10, none, 0, h, rfl, k, sl_none _⟩
set_option maxRecDepth 100000 in
set_option maxHeartbeats 2000000 in
theorem get_any (s : List UInt8) (hs : s.length ≤ 1000) (w : World) : Calls Try.prog 7 #[str s] w (Got s w) := by
  by_cases hl : 512 < s.length
  · have HG := hide (got_long hl)
    have i1 : (512 : Int) < (s.length : Int) := by omega
    clear hl
    have ta : True := True.intro
    go_enter Try.func7, Try.ntmps7
    go_wp2_with ((with_reducible show wpList _ _ _ (⟨_, _, _, _, _, none⟩ :: _) _ _); first
      | (clear ta; refine wpL_alloc rfl 33 rfl _ zero_fr ?_; intro p w1 e1 k1 g1 z1; have G1 : FrAt w1 p fZero v0 := g1; have E1 := hide (show w.heap.size ≤ p from Nat.le_of_eq e1); clear z1 g1 e1)
      | (refine wpL_build rfl 33 #[] rfl _ built_fr ?_)
      | (refine wpL_store rfl 33 (.tmp 2) (.tmp 9) rfl p (fZero.cells v0).toArray rfl rfl _ _ G1 info_fr rfl (all_oneCell_toArray (FT.one _ rfl)) ?_; intro w2 k2 g2 z2; clear z2))
    refine bodyPost_ret (results_row_tmp rfl _ _ p _ _ _ _ rfl g2 Try.underlying33 rfl info_fr) rfl ?_
    exact got_zero (unhide HG) (k1.past k2 (unhide E1))
  have i1 : ¬ (512 : Int) < (s.length : Int) := by omega
  by_cases hA : NoA s
  · have HG := hide (noA_got hA)
    have HN := hide (fun (w : World) (b : Nat) (h : FrAt w b fZero v0) => num_no hs hA h)
    clear hA hs hl
    have ta : True := True.intro
    go_enter Try.func7, Try.ntmps7
    go_wp2_with (first
      | (go_at_call 15; (with_reducible refine (unhide HN _ _ G1).mono ?_); rintro e w2 ⟨g, rest, rfl, G2, k2⟩)
      | ((with_reducible show wpList _ _ _ (⟨_, _, _, _, _, none⟩ :: _) _ _); first
        | (clear ta; refine wpL_alloc rfl 33 rfl _ zero_fr ?_; intro p w1 e1 k1 g1 z1; have G1 : FrAt w1 p fZero v0 := g1; have E1 := hide (show w.heap.size ≤ p from Nat.le_of_eq e1); clear z1 g1 e1)
        | (refine wpL_build rfl 33 #[] rfl _ built_fr ?_)
        | (refine wpL_store rfl 33 (.tmp 2) (.tmp 22) rfl p (fZero.cells v0).toArray rfl rfl _ _ G2 info_fr rfl (all_oneCell_toArray (FT.one _ rfl)) ?_; intro w3 k3 g3 z3; clear z3)))
    refine bodyPost_ret (results_row_tmp rfl _ _ p _ _ _ _ rfl g3 Try.underlying33 rfl info_fr) rfl ?_
    exact got_zero (unhide HG) ((k1.past k2 (unhide E1)).past k3 (unhide E1))
  obtain ⟨q, X, ha, hx⟩ : ∃ q X, aheadB q = true ∧ aheadL q ++ X = s := by
    refine Classical.byContradiction fun h => hA fun q X ha e => h ⟨q, X, ha, e⟩
  have hk := (aheadB_yes.1 ha).1
  have hX : X.length ≤ 1000 := by have := congrArg List.length hx; simp at this; omega
  have HN := hide (fun (w : World) (b : Nat) (h : FrAt w b fZero v0) => num_yes hs ha hx h)
  by_cases hB : NoB (q.n 0) X
  · have HG := hide (fun (g : FT) (h : St s (q.n 0) (nix (q.n 0)).length g X) => got_noB h hk hB)
    have HM := hide (fun (w : World) (b : Nat) (g : FT) (h : St s (q.n 0) (nix (q.n 0)).length g X) (h2 : FrAt w b g v0) => beh_no h hk hX hB h2)
    clear hA hs hl ha hx hk hX hB
    have ta : True := True.intro
    go_enter Try.func7, Try.ntmps7
    go_wp2_with (first
      | (go_at_call 15; (with_reducible refine (unhide HN _ _ G1).mono ?_); rintro e w2 ⟨g, rfl, G2, k2, st⟩; have HS := hide st; clear st)
      | (go_at_call 16; (with_reducible refine (unhide HM _ _ _ (unhide HS) G2).mono ?_); rintro e w3 ⟨f, v, rfl, G3, hv, k3⟩)
      | ((with_reducible show wpList _ _ _ (⟨_, _, _, _, _, none⟩ :: _) _ _); first
        | (clear ta; refine wpL_alloc rfl 33 rfl _ zero_fr ?_; intro p w1 e1 k1 g1 z1; have G1 : FrAt w1 p fZero v0 := g1; have E1 := hide (show w.heap.size ≤ p from Nat.le_of_eq e1); clear z1 g1 e1)
        | (refine wpL_build rfl 33 #[] rfl _ built_fr ?_)
        | (refine wpL_store rfl 33 (.tmp 2) (.tmp 22) rfl p (fZero.cells v0).toArray rfl rfl _ _ G3 info_fr rfl (all_oneCell_toArray (FT.one _ rfl)) ?_; intro w4 k4 g4 z4; clear z4)))
    refine bodyPost_ret (results_row_tmp rfl _ _ p _ _ _ _ rfl g4 Try.underlying33 rfl info_fr) rfl ?_
    exact got_zero (unhide HG _ (unhide HS)) (((k1.past k2 (unhide E1)).past k3 (unhide E1)).past k4 (unhide E1))
  · have HM := hide (fun (w : World) (b : Nat) (g : FT) (h : St s (q.n 0) (nix (q.n 0)).length g X) (h2 : FrAt w b g v0) => beh_yes h hk hX hB h2)
    clear hA hs hl ha hx hk hX hB
    have ta : True := True.intro
    go_enter Try.func7, Try.ntmps7
    go_wp2_with (first
      | (go_at_call 15; (with_reducible refine (unhide HN _ _ G1).mono ?_); rintro e w2 ⟨g, rfl, G2, k2, st⟩; have HS := hide st; clear st)
      | (go_at_call 16; (with_reducible refine (unhide HM _ _ _ (unhide HS) G2).mono ?_); rintro e w3 ⟨f, ad, cap, rfl, G3, k3, io, sl, nb⟩; have HI := hide io; have HL := hide sl; have HB := hide nb; clear io sl nb)
      | ((with_reducible show wpList _ _ _ (⟨_, _, _, _, _, none⟩ :: _) _ _); first
        | (clear ta; refine wpL_alloc rfl 33 rfl _ zero_fr ?_; intro p w1 e1 k1 g1 z1; have G1 : FrAt w1 p fZero v0 := g1; have E1 := hide (show w.heap.size ≤ p from Nat.le_of_eq e1); clear z1 g1 e1)
        | (refine wpL_load rfl 33 (.tmp 2) rfl p rfl (f.cells (.slice ad f.ch.ms.length cap)).toArray _ _ G3 _ Try.underlying33 rfl info_fr ?_)
        | (refine wpL_store rfl 33 (.tmp 2) (.tmp 23) rfl p (f.cells (.slice ad f.ch.ms.length cap)).toArray rfl rfl _ _ G3 info_fr rfl (all_oneCell_toArray (FT.one _ rfl)) ?_; intro w4 k4 g4 z4; clear z4)))
    refine bodyPost_ret (results_row_tmp rfl _ _ p _ _ _ _ rfl g4 Try.underlying33 rfl info_fr) rfl ?_
    exact ⟨f, 0, ad, cap, .inl ⟨unhide HI, rfl⟩, rfl, ((k1.past k2 (unhide E1)).past k3 (unhide E1)).past k4 (unhide E1), sl_past (unhide HL) k4 fun q hq e => unhide HB q hq e⟩
#print axioms get_any
end Go.Proofs.Ytfplgmkbhpdmjaa.Fm
