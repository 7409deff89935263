/-
  Frames: a contract of getNumbers.
-/
import Derived.Test.YtfplgmkbhpdmjaaFramesBX
import Derived.Test.YtfplgmkbhpdmjaaFramesF
namespace Go.Proofs.Ytfplgmkbhpdmjaa.Fm
open Go.ChangeShapes Go.WideShapes Go.ChangeAt Go.RowKit
set_option linter.unusedVariables false
attribute [local go_sem] bs_size bs_app bs_cut bs_tl bs_at
/-- no members -/
abbrev v0 : Value := .slice none 0 0
/-- told: the kind and the numbers taken into the frame at b, and what is behind them -/
def NumT (s : List UInt8) (b : Nat) (w : World) (e : Ending) (w' : World) : Prop := ∃ g rest ok, e = .returned (.tuple #[str rest, .bool ok]) ∧ FrAt w' b g v0 ∧ Chg (oneBlk b) w w' ∧
  ((ok = true ∧ kindB (g.n 0) = true ∧ St s (g.n 0) (nix (g.n 0)).length g rest) ∨ (ok = false ∧ NoA s))
theorem St.len {s rest : List UInt8} {k : Int} {j : Nat} {g : FT} (h : St s k j g rest) : rest.length ≤ s.length := by
  have := congrArg List.length h.raw
  simp at this
  omega
theorem set_num (g : FT) (i : Nat) (x : Int) : (g.set i x).n i = x := by simp [FT.set]
theorem unint_any' {l r : List UInt8} {x : Int} {o : Bool} (hu : unintT l = (x, r, o)) (hl : l.length ≤ 1048576) (w : World) : Calls Try.prog 30 #[str l] w (ToldN (.tuple #[.int .i64 x, str r, .bool o]) w) := by
  have := unint_n l hl w
  rw [hu] at this
  exact this
set_option maxRecDepth 100000 in
set_option maxHeartbeats 2000000 in
theorem getNumbers_any (s : List UInt8) (hs : s.length ≤ 1000) {w : World} {b : Nat} (h : FrAt w b fZero v0) : Calls Try.prog 15 #[str s, .pointer (some ⟨b, 0, none⟩)] w (NumT s b w) := by
  obtain ⟨k, r, o, hu⟩ : ∃ k r o, unintT s = (k, r, o) := ⟨_, _, _, rfl⟩
  have HU := hide (unint_any' hu (by omega))
  have HK := hide (fun w => isKind_any k w)
  have n0 : Nix 0 := by decide
  have G0 := h
  clear h
  have hw : (o = false ∧ NoA s) ∨ (o = true ∧ kindB k = false ∧ NoA s) ∨ (o = true ∧ kindB k = true ∧ St s k 0 (fZero.set 0 k) r) := by
    cases o
    · exact .inl ⟨rfl, noA_kind hu (.inl rfl)⟩
    cases q : kindB k
    · exact .inr (.inl ⟨rfl, rfl, noA_kind hu (.inr q)⟩)
    · exact .inr (.inr ⟨rfl, rfl, st_zero hu⟩)
  clear hu
  rcases hw with ⟨rfl, hno⟩ | ⟨rfl, hk, hno⟩ | ⟨rfl, hk, hst⟩
  · have HN := hide hno
    clear hno
    go_enter Try.func15, Try.ntmps15
    go_wp2_with (first
      | (go_at_call 30; (with_reducible refine (unhide HU _).mono ?_); rintro e w2 ⟨rfl, k2⟩)
      | ((with_reducible show wpList _ _ _ (⟨none, _, _, _, _, none⟩ :: _) _ _); refine wpL_set rfl 3 (.tmp 16) (.tmp 12) rfl b 0 (.int .i64 k) rfl rfl rfl info_int _ _ (G0.no k2) (by rw [List.size_toArray, FT.len]; omega) ?_; intro w3 k3 g3 z3; have G3 := fr_set n0 g3; clear z3 g3))
    go_ret2
    exact ⟨_, _, _, rfl, G3, chg_one k2 k3, .inr ⟨rfl, unhide HN⟩⟩
  · have HN := hide hno
    have K := fun w => unhide HK w
    rw [hk] at K
    have HK1 := hide K
    clear hno K hk
    go_enter Try.func15, Try.ntmps15
    go_wp2_with (first
      | (go_at_call 30; (with_reducible refine (unhide HU _).mono ?_); rintro e w2 ⟨rfl, k2⟩)
      | (go_at_call 31; (with_reducible refine (unhide HK1 _).mono ?_); rintro e w4 ⟨rfl, rfl⟩)
      | ((with_reducible show wpList _ _ _ (⟨none, _, _, _, _, none⟩ :: _) _ _); refine wpL_set rfl 3 (.tmp 16) (.tmp 12) rfl b 0 (.int .i64 k) rfl rfl rfl info_int _ _ (G0.no k2) (by rw [List.size_toArray, FT.len]; omega) ?_; intro w3 k3 g3 z3; have G3 := fr_set n0 g3; have c0 : w3.cell? ⟨b, 0, none⟩ = some (.int .i64 k) := G3.c0; clear z3 g3))
    go_ret2
    exact ⟨_, _, _, rfl, G3, chg_one k2 k3, .inr ⟨rfl, unhide HN⟩⟩
  · have HS := hide hst
    have HN := hide (fun (w' : World) (h : w'.cell? ⟨b, 0, none⟩ = some (.int .i64 k)) => numbers_any h)
    have HM := hide (fun x w' => mayBe_any x w')
    have HX := hide (nix_nix k)
    have HF := nix_few k
    have HT := hide (fun (j : Nat) (i : Nat) (g : FT) (rest r : List UInt8) (x : Int) (h : St s k j g rest) (hi : (nix k)[j]? = some i) (hu : unintT rest = (x, r, true)) (hx : mayN x = true) => h.step hi hu hx)
    have HQ := hide (fun (j : Nat) (i : Nat) (g : FT) (rest r : List UInt8) (x : Int) (o : Bool) (h : St s k j g rest) (hi : (nix k)[j]? = some i) (hu : unintT rest = (x, r, o)) (hx : o = false ∨ mayN x = false) => h.fail hk hi hu hx)
    have K := fun w => unhide HK w
    rw [hk] at K
    have HK1 := hide K
    have HKD := hide hk
    clear hst K hk
    generalize hL : nix k = L at HN HX HF HT HQ
    have HLK : Hid (nix k = L) := hide hL
    clear hL
    go_enter Try.func15, Try.ntmps15
    go_wp2_with (first
      | (go_at_call 30; (with_reducible refine (unhide HU _).mono ?_); rintro e w2 ⟨rfl, k2⟩)
      | (go_at_call 31; (with_reducible refine (unhide HK1 _).mono ?_); rintro e w4 ⟨rfl, rfl⟩)
      | (go_at_call 24; (with_reducible refine (unhide HN _ c0).mono ?_); rintro e w5 ⟨s5, rfl, k5, p5⟩; obtain ⟨a5, rfl⟩ := p5.form; have P5 := hide p5; clear p5)
      | ((with_reducible show wpList _ _ _ (⟨none, _, _, _, _, none⟩ :: _) _ _); refine wpL_set rfl 3 (.tmp 16) (.tmp 12) rfl b 0 (.int .i64 k) rfl rfl rfl info_int _ _ (G0.no k2) (by rw [List.size_toArray, FT.len]; omega) ?_; intro w3 k3 g3 z3; have G3 := fr_set n0 g3; have c0 : w3.cell? ⟨b, 0, none⟩ = some (.int .i64 k) := G3.c0; clear z3 g3))
    have K5 := (chg_one k2 k3).andNo k5
    have HG5 := hide (G3.no k5)
    have HB := hide (G3.lt)
    clear k2 k5 k3 G3 c0 HN HK1 HK HU
    go_loopw [0, 30] (fun u i wr => ∃ (j : Nat) (g : FT) (rest : List UInt8), j ≤ L.length ∧ i = .int .i64 (j : Int) ∧ u = str rest ∧ Hid (St s k j g rest) ∧ FrAt wr b g v0 ∧ Chg (oneBlk b) w5 wr) (fun u i wr => L.length - (intOf i).toNat)
    case atStart => exact ⟨0, _, _, by omega, rfl, rfl, HS, unhide HG5, Chg.refl _ _⟩
    case round =>
      obtain ⟨j, g, rest, hj, rfl, rfl, hst, G, hch⟩ := hrel
      have lr := (unhide hst).len
      by_cases hlt : j < L.length
      · obtain ⟨i, hi⟩ : ∃ i, L[j]? = some i := ⟨_, List.getElem?_eq_getElem hlt⟩
        obtain ⟨gb, rfl, hg, cp⟩ := ((unhide P5).past hch (fun i e => by have e : i = b := e; have := unhide HB; omega)).at hi
        have ni := unhide HX i (List.mem_of_getElem? hi)
        have i1 : (0 : Int) ≤ (j : Int) := by omega
        have i2 : (j : Int) < (L.length : Int) := by omega
        have HI := hide hi
        obtain ⟨x, r', o', hu⟩ : ∃ x r o, unintT rest = (x, r, o) := ⟨_, _, _, rfl⟩
        have HU := hide (unint_any' hu (by omega))
        have hx29 : i < (g.cells v0).toArray.size := by rw [List.size_toArray, FT.len]; rcases ni.ways with h | h | h | h | h | h | h | h | h | h | h | h | h | h <;> omega
        have hw : (o' = false ∧ NoA s) ∨ (o' = true ∧ mayN x = false ∧ NoA s) ∨ (o' = true ∧ mayN x = true ∧ St s k (j + 1) (g.set i x) r') := by
          cases o'
          · exact .inl ⟨rfl, unhide HQ j i g rest r' x _ (unhide hst) hi hu (.inl rfl)⟩
          cases q : mayN x
          · exact .inr (.inl ⟨rfl, rfl, unhide HQ j i g rest r' x _ (unhide hst) hi hu (.inr q)⟩)
          · exact .inr (.inr ⟨rfl, rfl, unhide HT j i g rest r' x (unhide hst) hi hu q⟩)
        clear hu hi
        rcases hw with ⟨rfl, hno⟩ | ⟨rfl, hm, hno⟩ | ⟨rfl, hm, hst2⟩
        · have HN := hide hno
          clear hno
          go_wp2_with (first
            | (go_at_call 30; (with_reducible refine (unhide HU _).mono ?_); rintro e w6 ⟨rfl, k6⟩)
            | ((with_reducible show wpList _ _ _ (⟨none, _, _, _, _, none⟩ :: _) _ _); refine wpL_set rfl 3 (.tmp 41) (.tmp 38) rfl b i (.int .i64 x) rfl rfl rfl info_int _ _ (G.no k6) hx29 ?_; intro w7 k7 g7 z7; have G7 := fr_set ni g7; clear z7 g7))
          go_ret2
          exact ⟨_, _, _, rfl, G7, (K5.trans hch fun _ _ e => e).trans (chg_one k6 k7) fun _ _ e => e, .inr ⟨rfl, unhide HN⟩⟩
        · have HN := hide hno
          have M := fun w => unhide HM x w
          rw [hm] at M
          have HM1 := hide M
          clear hno M hm
          go_wp2_with (first
            | (go_at_call 30; (with_reducible refine (unhide HU _).mono ?_); rintro e w6 ⟨rfl, k6⟩)
            | (go_at_call 32; (with_reducible refine (unhide HM1 _).mono ?_); rintro e w8 ⟨rfl, rfl⟩)
            | ((with_reducible show wpList _ _ _ (⟨none, _, _, _, _, none⟩ :: _) _ _); refine wpL_set rfl 3 (.tmp 41) (.tmp 38) rfl b i (.int .i64 x) rfl rfl rfl info_int _ _ (G.no k6) hx29 ?_; intro w7 k7 g7 z7; have G7 := fr_set ni g7; have c7 : w7.cell? ⟨b, i, none⟩ = some (.int .i64 x) := (G7.num ni).trans (by rw [set_num]); clear z7 g7))
          go_ret2
          exact ⟨_, _, _, rfl, G7, (K5.trans hch fun _ _ e => e).trans (chg_one k6 k7) fun _ _ e => e, .inr ⟨rfl, unhide HN⟩⟩
        · have HS2 := hide hst2
          have M := fun w => unhide HM x w
          rw [hm] at M
          have HM1 := hide M
          clear hst2 M hm
          go_wp2_with (first
            | (go_at_call 30; (with_reducible refine (unhide HU _).mono ?_); rintro e w6 ⟨rfl, k6⟩)
            | (go_at_call 32; (with_reducible refine (unhide HM1 _).mono ?_); rintro e w8 ⟨rfl, rfl⟩)
            | ((with_reducible show wpList _ _ _ (⟨none, _, _, _, _, none⟩ :: _) _ _); refine wpL_set rfl 3 (.tmp 41) (.tmp 38) rfl b i (.int .i64 x) rfl rfl rfl info_int _ _ (G.no k6) hx29 ?_; intro w7 k7 g7 z7; have G7 := fr_set ni g7; have c7 : w7.cell? ⟨b, i, none⟩ = some (.int .i64 x) := (G7.num ni).trans (by rw [set_num]); clear z7 g7))
          go_roundw
          case rel => exact ⟨j + 1, _, _, by omega, by go_num, rfl, HS2, G7, hch.trans (chg_one k6 k7) fun _ _ e => e⟩
          case measure => simp [intOf]; omega
      · obtain rfl : j = L.length := by omega
        go_wp2_with fail
        go_ret2
        have hs2 := unhide hst
        have hk2 := hs2.kind
        refine ⟨_, _, _, rfl, G, K5.trans hch fun _ _ e => e, .inl ⟨rfl, by rw [hk2]; exact unhide HKD, ?_⟩⟩
        rw [hk2, unhide HLK]
        exact hs2
#print axioms getNumbers_any
end Go.Proofs.Ytfplgmkbhpdmjaa.Fm
