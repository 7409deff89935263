/-
  Frames, as plain functions: what bytes tell as a frame.
-/
import Derived.Test.YtfplgmkbhpdmjaaFramesA
namespace Go.Proofs.Ytfplgmkbhpdmjaa.Fm
open Go.ChangeShapes Go.WideShapes Go.ChangeAt Go.RowKit
set_option linter.unusedVariables false
/-! ### what stands ahead -/
theorem may_fits {x : Int} (h : mayN x = true) : -1 ≤ x ∧ x ≤ 1099511627776 := by have := mayN_yes.1 h; omega
theorem kind_fits {x : Int} (h : kindB x = true) : -1 ≤ x ∧ x ≤ 1099511627776 := by have := kindB_yes.1 h; omega
theorem nums_ahead {n m : Nat → Int} : ∀ {L : List Nat} {X Y : List UInt8}, numsL n L ++ X = numsL m L ++ Y → (∀ i ∈ L, mayN (n i) = true) → (∀ i ∈ L, mayN (m i) = true) → (∀ i ∈ L, n i = m i) ∧ X = Y
  | [], _, _, h, _, _ => ⟨by simp, h⟩
  | i :: r, X, Y, h, hn, hm => by
    simp only [numsL, List.append_assoc] at h
    obtain ⟨e, h⟩ := Ch.int_ahead h (may_fits (hn i (by simp))) (may_fits (hm i (by simp)))
    obtain ⟨e2, h⟩ := nums_ahead h (fun j hj => hn j (by simp [hj])) (fun j hj => hm j (by simp [hj]))
    refine ⟨fun j hj => ?_, h⟩
    rcases List.mem_cons.1 hj with rfl | hj
    · exact e
    · exact e2 j hj
theorem text_ahead {a b X Y : List UInt8} (h : textL a ++ X = textL b ++ Y) (ha : a.length ≤ 1048576) (hb : b.length ≤ 1048576) : a = b ∧ X = Y := by
  have e1 := cut_put a X ha
  have e2 := cut_put b Y hb
  rw [h, e2] at e1
  simp only [Prod.mk.injEq] at e1
  exact ⟨e1.1.symm, e1.2.1.symm⟩
theorem res_ahead {r q : RT} {X Y : List UInt8} (h : resL r ++ X = resL q ++ Y) (hr : resB r = true) (hq : resB q = true) : r = q ∧ X = Y := by
  obtain ⟨a1, a2, a3, a4, a5⟩ := resB_yes.1 hr
  obtain ⟨b1, b2, b3, b4, b5⟩ := resB_yes.1 hq
  simp only [resL, List.append_assoc] at h
  obtain ⟨e1, h⟩ := Ch.int_ahead h (by omega) (by omega)
  obtain ⟨e2, h⟩ := text_ahead h (by omega) (by omega)
  obtain ⟨e3, h⟩ := Ch.int_ahead h (may_fits a4) (may_fits b4)
  obtain ⟨e4, hXY⟩ := Ch.int_ahead h (may_fits a5) (may_fits b5)
  clear h
  obtain ⟨c, v, n, t⟩ := r
  obtain ⟨c', v', n', t'⟩ := q
  simp only at e1 e2 e3 e4
  exact ⟨by rw [e1, e2, e3, e4], hXY⟩
theorem op_ahead {o p : PT} {X Y : List UInt8} (h : rawL o ++ X = rawL p ++ Y) (ho : chk o = 0) (hp : chk p = 0) : o = p ∧ X = Y := by
  have e1 := rd_put (chk_fit.1 ho) X
  have e2 := rd_put (chk_fit.1 hp) Y
  rw [h, e2] at e1
  simp only [Option.some.injEq, Prod.mk.injEq] at e1
  exact ⟨e1.1.symm, e1.2.symm⟩
theorem aheadB_yes {f : FT} : aheadB f = true ↔ kindB (f.n 0) = true ∧ ∀ i ∈ nix (f.n 0), mayN (f.n i) = true := by simp [aheadB, numsB_yes]
theorem ahead_ahead {f g : FT} {X Y : List UInt8} (h : aheadL f ++ X = aheadL g ++ Y) (hf : aheadB f = true) (hg : aheadB g = true) : f.n 0 = g.n 0 ∧ (∀ i ∈ nix (f.n 0), f.n i = g.n i) ∧ X = Y := by
  obtain ⟨f1, f2⟩ := aheadB_yes.1 hf
  obtain ⟨g1, g2⟩ := aheadB_yes.1 hg
  simp only [aheadL, List.append_assoc] at h
  obtain ⟨e1, h⟩ := Ch.int_ahead h (kind_fits f1) (kind_fits g1)
  rw [← e1] at h g2
  obtain ⟨e2, h⟩ := nums_ahead h f2 g2
  exact ⟨e1, e2, h⟩
/-! ### plain frames -/
/-- it has what its kind has alone -/
structure IsPl (f : FT) : Prop where
  n : ∀ i, i ≠ 0 → i ∉ nix (f.n 0) → f.n i = 0
  op : f.n 0 ≠ 1 → f.op = pZero
  re : f.n 0 ≠ 2 → f.re = rZero
  eop : f.n 0 ≠ 4 → f.eop = pZero
  ch : f.n 0 ≠ 8 → f.ch = Ch.cZero
def plainF (f : FT) : FT :=
  ⟨fun i => if i = 0 ∨ i ∈ nix (f.n 0) then f.n i else 0, if f.n 0 = 1 then f.op else pZero, if f.n 0 = 2 then f.re else rZero, if f.n 0 = 4 then f.eop else pZero, if f.n 0 = 8 then f.ch else Ch.cZero⟩
theorem plain_zero (f : FT) : (plainF f).n 0 = f.n 0 := by simp [plainF]
theorem plain_num (f : FT) {i : Nat} (h : i ∈ nix (f.n 0)) : (plainF f).n i = f.n i := by simp [plainF, h]
theorem plain_is (f : FT) : IsPl (plainF f) := by
  refine ⟨fun i h1 h2 => ?_, fun h => ?_, fun h => ?_, fun h => ?_, fun h => ?_⟩
  · rw [plain_zero] at h2; simp [plainF, h1, h2]
  all_goals
    rw [plain_zero] at h
    simp [plainF, h]
theorem plain_self {f : FT} (h : IsPl f) : plainF f = f := by
  obtain ⟨n, op, re, eop, ch⟩ := f
  obtain ⟨h1, h2, h3, h4, h5⟩ := h
  simp only at h1 h2 h3 h4 h5
  unfold plainF
  congr 1
  · funext i
    by_cases e : i = 0 ∨ i ∈ nix (n 0)
    · simp [e]
    · simp only [if_neg e]
      rw [h1 i (fun q => e (.inl q)) (fun q => e (.inr q))]
  · by_cases e : n 0 = 1 <;> simp [e, h2]
  · by_cases e : n 0 = 2 <;> simp [e, h3]
  · by_cases e : n 0 = 4 <;> simp [e, h4]
  · by_cases e : n 0 = 8 <;> simp [e, h5]
theorem plain_ahead (f : FT) : aheadB (plainF f) = aheadB f ∧ aheadL (plainF f) = aheadL f := by
  have hn : numsL (plainF f).n (nix (f.n 0)) = numsL f.n (nix (f.n 0)) := numsL_congr fun i hi => plain_num f hi
  have hb : numsB (plainF f).n (nix (f.n 0)) = numsB f.n (nix (f.n 0)) := by
    unfold numsB
    rw [Bool.eq_iff_iff, List.all_eq_true, List.all_eq_true]
    exact ⟨fun h i hi => by rw [← plain_num f hi]; exact h i hi, fun h i hi => by rw [plain_num f hi]; exact h i hi⟩
  unfold aheadB aheadL
  rw [plain_zero, hn, hb]
  exact ⟨rfl, rfl⟩
theorem plain_behind (f : FT) : behindB (plainF f) = behindB f ∧ behindL (plainF f) = behindL f := by
  unfold behindB behindL
  rw [plain_zero]
  by_cases h1 : f.n 0 = 1
  · simp [h1, plainF]
  by_cases h2 : f.n 0 = 4
  · simp [h2, plainF]
  by_cases h3 : f.n 0 = 8
  · simp [h3, plainF]
  by_cases h4 : f.n 0 = 2
  · simp [h4, plainF]
  · simp [h1, h2, h3, h4]
theorem plain_ok (f : FT) : okF (plainF f) = okF f ∧ rawF (plainF f) = rawF f := by
  unfold okF rawF
  rw [(plain_ahead f).1, (plain_ahead f).2, (plain_behind f).1, (plain_behind f).2]
  exact ⟨rfl, rfl⟩
theorem plain_put (f : FT) : putF (plainF f) = putF f ∧ errF (plainF f) = errF f := by
  unfold putF errF
  rw [(plain_ok f).1, (plain_ok f).2]
  exact ⟨rfl, rfl⟩
/-- no frame's bytes stand ahead of another one's -/
theorem raw_ahead {f g : FT} {X Y : List UInt8} (h : rawF f ++ X = rawF g ++ Y) (hf : okF f = true) (hg : okF g = true) (pf : IsPl f) (pg : IsPl g) : f = g ∧ X = Y := by
  simp only [okF, Bool.and_eq_true] at hf hg
  simp only [rawF, List.append_assoc] at h
  obtain ⟨e1, e2, h⟩ := ahead_ahead h hf.1 hg.1
  have en : f.n = g.n := by
    funext i
    by_cases h0 : i = 0
    · subst h0; exact e1
    by_cases hi : i ∈ nix (f.n 0)
    · exact e2 i hi
    · rw [pf.n i h0 hi, pg.n i h0 (by rw [← e1]; exact hi)]
  have hall : f.op = g.op ∧ f.re = g.re ∧ f.eop = g.eop ∧ f.ch = g.ch ∧ X = Y := by
    rcases behind_ways f with ⟨k, b1, b2⟩ | ⟨k, b1, b2⟩ | ⟨k, b1, b2⟩ | ⟨k, b1, b2⟩ | ⟨⟨k1, k2, k3, k4⟩, b1, b2⟩
    · rcases behind_ways g with ⟨k', c1, c2⟩ | ⟨k', c1, c2⟩ | ⟨k', c1, c2⟩ | ⟨k', c1, c2⟩ | ⟨⟨k1, k2, k3, k4⟩, c1, c2⟩ <;> try omega
      rw [b2, c2] at h
      rw [b1] at hf
      rw [c1] at hg
      obtain ⟨e, h⟩ := op_ahead h (by simpa using hf.2) (by simpa using hg.2)
      exact ⟨e, by rw [pf.re (by omega), pg.re (by omega)], by rw [pf.eop (by omega), pg.eop (by omega)], by rw [pf.ch (by omega), pg.ch (by omega)], h⟩
    · rcases behind_ways g with ⟨k', c1, c2⟩ | ⟨k', c1, c2⟩ | ⟨k', c1, c2⟩ | ⟨k', c1, c2⟩ | ⟨⟨k1, k2, k3, k4⟩, c1, c2⟩ <;> try omega
      rw [b2, c2] at h
      rw [b1] at hf
      rw [c1] at hg
      obtain ⟨e, h⟩ := op_ahead h (by simpa using hf.2) (by simpa using hg.2)
      exact ⟨by rw [pf.op (by omega), pg.op (by omega)], by rw [pf.re (by omega), pg.re (by omega)], e, by rw [pf.ch (by omega), pg.ch (by omega)], h⟩
    · rcases behind_ways g with ⟨k', c1, c2⟩ | ⟨k', c1, c2⟩ | ⟨k', c1, c2⟩ | ⟨k', c1, c2⟩ | ⟨⟨k1, k2, k3, k4⟩, c1, c2⟩ <;> try omega
      rw [b2, c2] at h
      rw [b1] at hf
      rw [c1] at hg
      obtain ⟨e, h⟩ := Ch.put_ahead (Ch.good_fits hf.2) (Ch.good_fits hg.2) h
      exact ⟨by rw [pf.op (by omega), pg.op (by omega)], by rw [pf.re (by omega), pg.re (by omega)], by rw [pf.eop (by omega), pg.eop (by omega)], e, h⟩
    · rcases behind_ways g with ⟨k', c1, c2⟩ | ⟨k', c1, c2⟩ | ⟨k', c1, c2⟩ | ⟨k', c1, c2⟩ | ⟨⟨k1, k2, k3, k4⟩, c1, c2⟩ <;> try omega
      rw [b2, c2] at h
      rw [b1] at hf
      rw [c1] at hg
      obtain ⟨e, h⟩ := res_ahead h hf.2 hg.2
      exact ⟨by rw [pf.op (by omega), pg.op (by omega)], e, by rw [pf.eop (by omega), pg.eop (by omega)], by rw [pf.ch (by omega), pg.ch (by omega)], h⟩
    · rcases behind_ways g with ⟨k', c1, c2⟩ | ⟨k', c1, c2⟩ | ⟨k', c1, c2⟩ | ⟨k', c1, c2⟩ | ⟨_, c1, c2⟩ <;> try omega
      rw [b2, c2] at h
      exact ⟨by rw [pf.op k1, pg.op (by omega)], by rw [pf.re k4, pg.re (by omega)], by rw [pf.eop k2, pg.eop (by omega)], by rw [pf.ch k3, pg.ch (by omega)], by simpa using h⟩
  obtain ⟨h1, h2, h3, h4, h5⟩ := hall
  obtain ⟨a, b, c, d, e⟩ := f
  obtain ⟨a', b', c', d', e'⟩ := g
  simp only at en h1 h2 h3 h4
  exact ⟨by rw [en, h1, h2, h3, h4], h5⟩
/-! ### the frame of bytes -/
/-- bytes that are f's -/
structure IsOf (l : List UInt8) (f : FT) : Prop where
  ok : okF f = true
  raw : rawF f = l
  pl : IsPl f
theorem isOf_one {l : List UInt8} {f g : FT} (h : IsOf l f) (k : IsOf l g) : f = g := by
  have e : rawF f ++ [] = rawF g ++ [] := by rw [h.raw, k.raw]
  exact (raw_ahead e h.ok k.ok h.pl k.pl).1
theorem isOf_put {f : FT} (h : okF f = true) : IsOf (rawF f) (plainF f) := ⟨by rw [(plain_ok f).1, h], (plain_ok f).2, plain_is f⟩
theorem isOf_cut {f g : FT} {k : Nat} (h : okF f = true) (hk : k < (rawF f).length) : ¬ IsOf ((rawF f).take k) g := by
  intro h2
  have e : rawF g ++ (rawF f).drop k = rawF (plainF f) ++ [] := by rw [h2.raw, List.take_append_drop, List.append_nil, (plain_ok f).2]
  have := (raw_ahead e h2.ok (by rw [(plain_ok f).1, h]) h2.pl (plain_is f)).2
  have hl := congrArg List.length this
  simp at hl
  omega
theorem isOf_more {f g : FT} {b : UInt8} (h : okF f = true) : ¬ IsOf (rawF f ++ [b]) g := by
  intro h2
  have e : rawF g ++ [] = rawF (plainF f) ++ [b] := by rw [h2.raw, List.append_nil, (plain_ok f).2]
  have := (raw_ahead e h2.ok (by rw [(plain_ok f).1, h]) h2.pl (plain_is f)).2
  cases this
theorem rawF_pos {f : FT} (h : okF f = true) : 0 < (rawF f).length := by
  simp only [okF, Bool.and_eq_true] at h
  have g := kindB_yes.1 (aheadB_yes.1 h.1).1
  have := (numL_len (f.n 0 + 1).toNat (by omega)).2
  unfold rawF aheadL
  rw [intL_in _ (by omega) (by omega)]
  simp
  omega
/-- what is told of bytes as a frame -/
def GotOf (l : List UInt8) (f : FT) (n : Int) : Prop := (IsOf l f ∧ n = 0) ∨ ((∀ g, ¬ IsOf l g) ∧ f = fZero ∧ n = 10)
theorem got_one {l : List UInt8} {c d : FT} {n m : Int} (h : GotOf l c n) (k : GotOf l d m) : c = d ∧ n = m := by
  rcases h with ⟨h1, h2⟩ | ⟨h1, h2, h3⟩ <;> rcases k with ⟨k1, k2⟩ | ⟨k1, k2, k3⟩
  · exact ⟨isOf_one h1 k1, by omega⟩
  · exact absurd h1 (k1 _)
  · exact absurd k1 (h1 _)
  · exact ⟨by rw [h2, k2], by omega⟩
theorem got_long {l : List UInt8} (h : 512 < l.length) : GotOf l fZero 10 := .inr ⟨fun g hg => by have := rawF_len hg.ok; rw [hg.raw] at this; omega, rfl, rfl⟩
/-! ### taken off in order -/
/-- j of a kind's numbers taken -/
structure St (s : List UInt8) (k : Int) (j : Nat) (g : FT) (rest : List UInt8) : Prop where
  kind : g.n 0 = k
  n : ∀ i, i ≠ 0 → i ∉ (nix k).take j → g.n i = 0
  op : g.op = pZero
  re : g.re = rZero
  eop : g.eop = pZero
  ch : g.ch = Ch.cZero
  raw : intL k ++ (numsL g.n ((nix k).take j) ++ rest) = s
  may : ∀ i ∈ (nix k).take j, mayN (g.n i) = true
/-- nothing stands ahead -/
def NoA (s : List UInt8) : Prop := ∀ (h : FT) (X : List UInt8), aheadB h = true → aheadL h ++ X ≠ s
theorem noA_kind {s r : List UInt8} {k : Int} {o : Bool} (hu : unintT s = (k, r, o)) (hx : o = false ∨ kindB k = false) : NoA s := by
  intro h X ha e
  obtain ⟨h1, _⟩ := aheadB_yes.1 ha
  have := unint_put (h.n 0) (numsL h.n (nix (h.n 0)) ++ X) (kind_fits h1).1 (kind_fits h1).2
  rw [show intL (h.n 0) ++ (numsL h.n (nix (h.n 0)) ++ X) = s by rw [← e]; simp [aheadL], hu] at this
  simp only [Prod.mk.injEq] at this
  obtain ⟨e1, _, e3⟩ := this
  rcases hx with q | q
  · rw [e3] at q; cases q
  · rw [e1, h1] at q; cases q
theorem st_zero {s r : List UInt8} {k : Int} (hu : unintT s = (k, r, true)) : St s k 0 (fZero.set 0 k) r :=
  ⟨by simp [FT.set], fun i h _ => by simp [FT.set, h, fZero], rfl, rfl, rfl, rfl, by simpa [numsL] using unint_back hu, by simp⟩
theorem take_not {L : List Nat} (hd : L.Nodup) {j i : Nat} (hi : L[j]? = some i) : i ∉ L.take j := by
  intro h
  obtain ⟨m, hm, e⟩ := List.mem_take_iff_getElem.1 h
  obtain ⟨hj, e2⟩ := List.getElem?_eq_some_iff.1 hi
  exact List.pairwise_iff_getElem.1 hd m j (by omega) hj (by omega) (by rw [e, e2])
section
variable {s rest r : List UInt8} {k x : Int} {j i : Nat} {g : FT} {o : Bool}
theorem St.step (h : St s k j g rest) (hi : (nix k)[j]? = some i) (hu : unintT rest = (x, r, true)) (hx : mayN x = true) : St s k (j + 1) (g.set i x) r := by
  have hmem := List.mem_of_getElem? hi
  have h0 : i ≠ 0 := fun e => nix_zero k (e ▸ hmem)
  have hn := take_not (nix_nodup k) hi
  have hk : ∀ q ∈ (nix k).take j, (g.set i x).n q = g.n q := fun q hq => by
    have : q ≠ i := fun e => hn (e ▸ hq)
    simp [FT.set, this]
  refine ⟨by simp [FT.set, h.kind, Ne.symm h0], fun q hq hq2 => ?_, h.op, h.re, h.eop, h.ch, ?_, ?_⟩
  · rw [take_snoc hi] at hq2
    simp only [List.mem_append, List.mem_singleton, not_or] at hq2
    simp [FT.set, hq2.2, h.n q hq hq2.1]
  · rw [numsL_snoc _ hi, numsL_congr hk, List.append_assoc]
    have : intL ((g.set i x).n i) ++ r = rest := by simp only [FT.set, if_true]; exact unint_back hu
    rw [this, h.raw]
  · exact fun q hq => by
      rw [take_snoc hi] at hq
      rcases List.mem_append.1 hq with hq | hq
      · rw [hk q hq]; exact h.may q hq
      · rw [List.mem_singleton.1 hq]; simpa [FT.set] using hx
theorem St.fail (h : St s k j g rest) (hkind : kindB k = true) (hi : (nix k)[j]? = some i) (hu : unintT rest = (x, r, o)) (hx : o = false ∨ mayN x = false) : NoA s := by
  intro f X ha e
  obtain ⟨f1, f2⟩ := aheadB_yes.1 ha
  have e := e.trans h.raw.symm
  simp only [aheadL, List.append_assoc] at e
  obtain ⟨e1, e⟩ := Ch.int_ahead e (kind_fits f1) (kind_fits hkind)
  rw [e1] at e f2
  have ht : numsL f.n (nix k) = numsL f.n ((nix k).take j) ++ (intL (f.n i) ++ numsL f.n ((nix k).drop (j + 1))) := by
    have : nix k = (nix k).take (j + 1) ++ (nix k).drop (j + 1) := (List.take_append_drop _ _).symm
    conv => lhs; rw [this]
    rw [numsL_app, numsL_snoc _ hi, List.append_assoc]
  rw [ht, List.append_assoc] at e
  obtain ⟨_, e⟩ := nums_ahead e (fun q hq => f2 q (List.mem_of_mem_take hq)) h.may
  have hm := f2 i (List.mem_of_getElem? hi)
  have := unint_put (f.n i) (numsL f.n ((nix k).drop (j + 1)) ++ X) (may_fits hm).1 (may_fits hm).2
  rw [← List.append_assoc, e, hu] at this
  simp only [Prod.mk.injEq] at this
  obtain ⟨e2, _, e3⟩ := this
  rcases hx with q | q
  · rw [e3] at q; cases q
  · rw [e2, hm] at q; cases q
/-- all of them -/
theorem St.all (h : St s k (nix k).length g rest) (hkind : kindB k = true) : aheadB g = true ∧ aheadL g ++ rest = s := by
  obtain ⟨h1, _, _, _, _, _, h2, h3⟩ := h
  rw [List.take_length] at h2 h3
  refine ⟨aheadB_yes.2 ⟨by rw [h1]; exact hkind, by rw [h1]; exact h3⟩, ?_⟩
  unfold aheadL
  rw [h1, List.append_assoc]
  exact h2
end
/-- nothing ahead: no frame's bytes -/
theorem noA_got {s : List UInt8} (h : NoA s) : GotOf s fZero 10 := .inr ⟨fun g hg => by
  have h1 := hg.ok
  simp only [okF, Bool.and_eq_true] at h1
  exact h g (behindL g) h1.1 hg.raw, rfl, rfl⟩
end Go.Proofs.Ytfplgmkbhpdmjaa.Fm
