/-
  Frames, as plain functions: what the document's Get takes bytes for.
-/
import Derived.Test.YtfplgmkbhpdmjaaFramesS
namespace Go.Proofs.Ytfplgmkbhpdmjaa.Fm
open Go.ChangeShapes Go.WideShapes Go.ChangeAt Go.RowKit
set_option linter.unusedVariables false
/-- numbers taken one behind the other -/
def cN : List Nat → FT → List UInt8 → FT × List UInt8
  | [], f, l => (f, l)
  | i :: r, f, l => cN r (f.set i (unintT l).1) (unintT l).2.1
theorem cN_snoc : ∀ (L : List Nat) (i : Nat) (f : FT) (l : List UInt8), cN (L ++ [i]) f l = ((cN L f l).1.set i (unintT (cN L f l).2).1, (unintT (cN L f l).2).2.1)
  | [], i, f, l => rfl
  | j :: r, i, f, l => cN_snoc r i _ _
def FT.over (f : FT) (L : List Nat) (n : Nat → Int) : FT := { f with n := fun j => if j ∈ L then n j else f.n j }
theorem cN_put : ∀ (L : List Nat) (f : FT) (n : Nat → Int) (X : List UInt8), (∀ i ∈ L, mayN (n i) = true) → cN L f (numsL n L ++ X) = (f.over L n, X)
  | [], f, n, X, _ => by simp [cN, numsL, FT.over]
  | i :: r, f, n, X, h => by
    have hi := may_fits (h i (by simp))
    have hu := unint_put (n i) (numsL n r ++ X) hi.1 hi.2
    have ih := cN_put r (f.set i (n i)) n X (fun j hj => h j (by simp [hj]))
    simp only [cN, numsL, List.append_assoc, hu, ih]
    congr 1
    unfold FT.over FT.set
    congr 1
    funext j
    by_cases h1 : j ∈ r
    · simp [h1]
    by_cases h2 : j = i
    · subst h2; simp [h1]
    · simp [h1, h2]
theorem cN_other : ∀ (L : List Nat) (f : FT) (l : List UInt8), (∀ i, i ∉ L → (cN L f l).1.n i = f.n i) ∧ (cN L f l).1.op = f.op ∧ (cN L f l).1.re = f.re ∧ (cN L f l).1.eop = f.eop ∧ (cN L f l).1.ch = f.ch ∧ (cN L f l).2.length ≤ l.length
  | [], f, l => ⟨fun _ _ => rfl, rfl, rfl, rfl, rfl, Nat.le_refl _⟩
  | i :: r, f, l => by
    obtain ⟨a, b, c, d, e, g⟩ := cN_other r (f.set i (unintT l).1) (unintT l).2.1
    refine ⟨fun j hj => ?_, b, c, d, e, Nat.le_trans g (unint_len l)⟩
    simp only [List.mem_cons, not_or] at hj
    simp only [cN]
    rw [a j hj.2]
    simp [FT.set, hj.1]
/-- what the bytes say as a result -/
def resC (l : List UInt8) : RT := ⟨(unintT l).1, (cutT (unintT l).2.1).1, (unintT (cutT (unintT l).2.1).2.1).1, (unintT (unintT (cutT (unintT l).2.1).2.1).2.1).1⟩
theorem resC_put {r : RT} (h : resB r = true) : resC (resL r) = r := by
  have := res_take (l := resL r) h rfl (h1 := rfl) (h2 := rfl) (h3 := rfl) (h4 := rfl)
  exact this.1.symm
/-- what they say as an entry -/
def entN (f : FT) (l : List UInt8) : FT := ((f.set 16 (unintT l).1).set 17 (unintT (unintT l).2.1).1).set 18 (unintT (unintT (unintT l).2.1).2.1).1
def entR (l : List UInt8) : List UInt8 := (unintT (unintT (unintT l).2.1).2.1).2.1
theorem ent_put {a b c : Int} (ha : mayN a = true) (hb : mayN b = true) (hc : mayN c = true) (f : FT) (X : List UInt8) : entN f (intL a ++ (intL b ++ (intL c ++ X))) = ((f.set 16 a).set 17 b).set 18 c ∧ entR (intL a ++ (intL b ++ (intL c ++ X))) = X := by
  have h1 := unint_put a (intL b ++ (intL c ++ X)) (may_fits ha).1 (may_fits ha).2
  have h2 := unint_put b (intL c ++ X) (may_fits hb).1 (may_fits hb).2
  have h3 := unint_put c X (may_fits hc).1 (may_fits hc).2
  unfold entN entR
  rw [h1]
  simp [h2, h3]
/-- what the document takes bytes for -/
def Cand (s : List UInt8) (f : FT) : Prop := ∃ k r0 o f1 r1, unintT s = (k, r0, o) ∧ cN (hix k) (fZero.set 0 k) r0 = (f1, r1) ∧
  ((k = 1 ∧ f = f1.withOp ((getX r1).getD pZero)) ∨ (k = 2 ∧ f = f1.withRe (resC r1)) ∨ (k = 4 ∧ f = (entN f1 r1).withEop ((getX (entR r1)).getD pZero)) ∨ (k = 8 ∧ ∃ c n, Ch.GotOf r1 c n ∧ f = f1.withCh c) ∨ ((k ≠ 1 ∧ k ≠ 2 ∧ k ≠ 4 ∧ k ≠ 8) ∧ f = f1))
theorem hix_sub (k : Int) : ∀ i ∈ hix k, i ∈ nix k := by
  intro i hi
  rw [hix_eq] at hi
  split at hi
  · rename_i h; subst h; simp at hi; subst hi; decide
  · exact hi
theorem ft_eq {f g : FT} (h1 : ∀ i, f.n i = g.n i) (h2 : f.op = g.op) (h3 : f.re = g.re) (h4 : f.eop = g.eop) (h5 : f.ch = g.ch) : f = g := by
  obtain ⟨a, b, c, d, e⟩ := f
  obtain ⟨a', b', c', d', e'⟩ := g
  simp only at h1 h2 h3 h4 h5
  rw [show a = a' from funext h1, h2, h3, h4, h5]
theorem cand_is {s : List UInt8} {f g : FT} (hg : IsOf s g) (hc : Cand s f) : f = g := by
  obtain ⟨k, r0, o, f1, r1, hu, hn, hw⟩ := hc
  have ho := hg.ok
  rw [ok_r, Bool.and_eq_true] at ho
  obtain ⟨hb, hnb⟩ := ho
  have hnb := numsB_yes.1 hnb
  have hk := kind_fits (rb_kind hb)
  have hs := hg.raw
  rw [raw_r] at hs
  have hu2 := unint_put (g.n 0) (numsL g.n (hix (g.n 0)) ++ rL g) hk.1 hk.2
  rw [hs, hu] at hu2
  simp only [Prod.mk.injEq] at hu2
  obtain ⟨rfl, rfl, _⟩ := hu2
  rw [cN_put _ _ _ _ hnb] at hn
  simp only [Prod.mk.injEq] at hn
  obtain ⟨rfl, rfl⟩ := hn
  have hp := hg.pl
  have base : ∀ i, i ∉ hix (g.n 0) → i ∉ nix (g.n 0) → ((fZero.set 0 (g.n 0)).over (hix (g.n 0)) g.n).n i = g.n i := fun i h1 h2 => by
    by_cases h0 : i = 0
    · subst h0; simp [FT.over, FT.set, h1]
    · simp [FT.over, FT.set, h1, h0, fZero, hp.n i h0 h2]
  have bin : ∀ i, i ∈ hix (g.n 0) → ((fZero.set 0 (g.n 0)).over (hix (g.n 0)) g.n).n i = g.n i := fun i h1 => by simp [FT.over, h1]
  have all : g.n 0 ≠ 4 → ∀ i, ((fZero.set 0 (g.n 0)).over (hix (g.n 0)) g.n).n i = g.n i := fun h4 i => by
    by_cases h : i ∈ hix (g.n 0)
    · exact bin i h
    · exact base i h (by rwa [hix_eq, if_neg h4] at h)
  rcases hw with ⟨k1, rfl⟩ | ⟨k1, rfl⟩ | ⟨k1, rfl⟩ | ⟨k1, c, n, hgc, rfl⟩ | ⟨⟨n1, n2, n4, n8⟩, rfl⟩
  · rcases rb_ways g with ⟨q, e1, e2⟩ | ⟨q, e1, e2⟩ | ⟨q, e1, e2⟩ | ⟨q, e1, e2⟩ | ⟨⟨m1, m2, m4, m8⟩, e1, e2⟩ <;> try omega
    rw [e1] at hb
    have hx := Go.Proofs.Ytfplgmkbhpdmjaa.get_put (show chk g.op = 0 by simpa using hb)
    exact ft_eq (all (by omega)) (by rw [e2, hx]; rfl) (by rw [hp.re (by omega)]; rfl) (by rw [hp.eop (by omega)]; rfl) (by rw [hp.ch (by omega)]; rfl)
  · rcases rb_ways g with ⟨q, e1, e2⟩ | ⟨q, e1, e2⟩ | ⟨q, e1, e2⟩ | ⟨q, e1, e2⟩ | ⟨⟨m1, m2, m4, m8⟩, e1, e2⟩ <;> try omega
    rw [e1] at hb
    exact ft_eq (all (by omega)) (by rw [hp.op (by omega)]; rfl) (by rw [e2, resC_put hb]; rfl) (by rw [hp.eop (by omega)]; rfl) (by rw [hp.ch (by omega)]; rfl)
  · rcases rb_ways g with ⟨q, e1, e2⟩ | ⟨q, e1, e2⟩ | ⟨q, e1, e2⟩ | ⟨q, e1, e2⟩ | ⟨⟨m1, m2, m4, m8⟩, e1, e2⟩ <;> try omega
    rw [e1, Bool.and_eq_true] at hb
    obtain ⟨hb1, hb2⟩ := hb
    simp only [good3, Bool.and_eq_true] at hb2
    have hx := Go.Proofs.Ytfplgmkbhpdmjaa.get_put (show chk g.eop = 0 by simpa using hb1)
    rw [e2]
    obtain ⟨p1, p2⟩ := ent_put hb2.1 hb2.2.1 hb2.2.2 ((fZero.set 0 (g.n 0)).over (hix (g.n 0)) g.n) (rawL g.eop)
    rw [p1, p2, hx]
    refine ft_eq (fun i => ?_) (by rw [hp.op (by omega)]; rfl) (by rw [hp.re (by omega)]; rfl) rfl (by rw [hp.ch (by omega)]; rfl)
    by_cases h18 : i = 18
    · subst h18; simp [FT.withEop, FT.set]
    by_cases h17 : i = 17
    · subst h17; simp [FT.withEop, FT.set]
    by_cases h16 : i = 16
    · subst h16; simp [FT.withEop, FT.set]
    have hh : (((((fZero.set 0 (g.n 0)).over (hix (g.n 0)) g.n).set 16 (g.n 16)).set 17 (g.n 17)).set 18 (g.n 18)).withEop ((some g.eop).getD pZero) = ⟨fun j => if j = 18 then g.n 18 else if j = 17 then g.n 17 else if j = 16 then g.n 16 else ((fZero.set 0 (g.n 0)).over (hix (g.n 0)) g.n).n j, pZero, rZero, g.eop, Ch.cZero⟩ := rfl
    rw [hh]
    simp only [h18, h17, h16, if_false]
    by_cases h : i ∈ hix (g.n 0)
    · exact bin i h
    · refine base i h ?_
      rw [k1] at h ⊢
      intro q
      have : i ∈ [1, 16, 17, 18] := q
      simp only [List.mem_cons, List.not_mem_nil, or_false] at this
      rcases this with rfl | rfl | rfl | rfl
      · exact h (by decide)
      all_goals omega
  · rcases rb_ways g with ⟨q, e1, e2⟩ | ⟨q, e1, e2⟩ | ⟨q, e1, e2⟩ | ⟨q, e1, e2⟩ | ⟨⟨m1, m2, m4, m8⟩, e1, e2⟩ <;> try omega
    rw [e1] at hb
    rw [e2] at hgc
    obtain ⟨rfl, _⟩ := Ch.got_one hgc (.inl ⟨⟨hb, rfl⟩, rfl⟩)
    exact ft_eq (all (by omega)) (by rw [hp.op (by omega)]; rfl) (by rw [hp.re (by omega)]; rfl) (by rw [hp.eop (by omega)]; rfl) rfl
  · exact ft_eq (all n4) (by rw [hp.op n1]; rfl) (by rw [hp.re n2]; rfl) (by rw [hp.eop n4]; rfl) (by rw [hp.ch n8]; rfl)
theorem cand_kind {s : List UInt8} {f : FT} (hc : Cand s f) : IsPl f := by
  obtain ⟨k, r0, o, f1, r1, hu, hn, hw⟩ := hc
  obtain ⟨a, b, c, d, e, _⟩ := cN_other (hix k) (fZero.set 0 k) r0
  rw [hn] at a b c d e
  have h0 : 0 ∉ hix k := fun q => nix_zero k (hix_sub k 0 q)
  have k1 : f1.n 0 = k := (a 0 h0).trans (by simp [FT.set])
  have nz : ∀ i, i ≠ 0 → i ∉ nix k → f1.n i = 0 := fun i h1 h2 => (a i (fun q => h2 (hix_sub k i q))).trans (by simp [FT.set, h1, fZero])
  rcases hw with ⟨q, rfl⟩ | ⟨q, rfl⟩ | ⟨q, rfl⟩ | ⟨q, x, n, _, rfl⟩ | ⟨⟨n1, n2, n4, n8⟩, rfl⟩
  · exact ⟨fun i h1 h2 => nz i h1 (by have q2 : i ∉ nix (f1.n 0) := h2; rw [k1] at q2; exact q2), fun h => absurd (k1.trans q) h, fun _ => c, fun _ => d, fun _ => e⟩
  · exact ⟨fun i h1 h2 => nz i h1 (by have q2 : i ∉ nix (f1.n 0) := h2; rw [k1] at q2; exact q2), fun _ => b, fun h => absurd (k1.trans q) h, fun _ => d, fun _ => e⟩
  · have k2 : ((entN f1 r1).withEop ((getX (entR r1)).getD pZero)).n 0 = k := by simp [entN, FT.withEop, FT.set, k1]
    refine ⟨fun i h1 h2 => ?_, fun _ => b, fun _ => c, fun h => absurd (k2.trans q) h, fun _ => e⟩
    rw [k2, q] at h2
    have h3 : i ∉ [1, 16, 17, 18] := h2
    simp only [List.mem_cons, List.not_mem_nil, or_false, not_or] at h3
    have := nz i h1 (by rw [q]; exact h2)
    simp [entN, FT.withEop, FT.set, h3, this]
  · exact ⟨fun i h1 h2 => nz i h1 (by have q2 : i ∉ nix (f1.n 0) := h2; rw [k1] at q2; exact q2), fun _ => b, fun _ => c, fun _ => d, fun h => absurd (k1.trans q) h⟩
  · exact ⟨fun i h1 h2 => nz i h1 (by rwa [k1] at h2), fun _ => b, fun _ => c, fun _ => d, fun _ => e⟩
/-- which way the document goes -/
theorem cand_ways {s : List UInt8} {f : FT} (hc : Cand s f) : ((512 < s.length ∨ errF f ≠ 0 ∨ putF f ≠ s) ∧ GotOf s fZero 10) ∨ (¬ 512 < s.length ∧ errF f = 0 ∧ putF f = s ∧ GotOf s f 0) := by
  by_cases h : IsOf s f
  · refine .inr ⟨?_, (putF_yes h.ok).2, (putF_yes h.ok).1.trans h.raw, .inl ⟨h, rfl⟩⟩
    have := rawF_len h.ok
    rw [h.raw] at this
    omega
  · refine .inl ⟨?_, .inr ⟨fun g hg => h (cand_is hg hc ▸ hg), rfl, rfl⟩⟩
    by_cases h1 : 512 < s.length
    · exact .inl h1
    cases ho : okF f
    · exact .inr (.inl (by rw [(putF_no ho).2]; decide))
    · exact .inr (.inr fun q => h ⟨ho, by rw [← q, (putF_yes ho).1], cand_kind hc⟩)
end Go.Proofs.Ytfplgmkbhpdmjaa.Fm
