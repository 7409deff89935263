/-
  Chains: what bytes tell as a chain, as plain functions.
-/
import Derived.Test.YtfplgmkbhpdmjaaChainsP
namespace Go.Proofs.Ytfplgmkbhpdmjaa.Ch
open Go.ChangeShapes Go.WideShapes Go.ChangeAt Go.RowKit
set_option linter.unusedVariables false
theorem unint_n (l : List UInt8) (hl : l.length ≤ 1048576) (w : World) : Calls Try.prog 30 #[str l] w (ToldN (.tuple #[.int .i64 (unintT l).1, str (unintT l).2.1, .bool (unintT l).2.2]) w) :=
  (unint_any l hl w).mono fun _ _ ⟨a, b⟩ => ⟨a, Chg.ofBelow b⟩
theorem unint_len (l : List UInt8) : (unintT l).2.1.length ≤ l.length := by
  rcases unint_ways l with h | ⟨k, r, h, e, _⟩
  · rw [h]; simp
  · rw [h, ← e]; simp
/-- a number taken off: it, what is behind it, was there one -/
def tkN (l : List UInt8) : Int := (unintT l).1
def tkR (l : List UInt8) : List UInt8 := (unintT l).2.1
def tkO (l : List UInt8) : Bool := (unintT l).2.2
theorem tkR_len (l : List UInt8) : (tkR l).length ≤ l.length := unint_len l
theorem tk_put (k : Int) (X : List UInt8) (h : -1 ≤ k ∧ k ≤ 1099511627776) : tkN (intL k ++ X) = k ∧ tkR (intL k ++ X) = X ∧ tkO (intL k ++ X) = true := by
  unfold tkN tkR tkO
  rw [unint_put k X h.1 h.2]
  exact ⟨rfl, rfl, rfl⟩
theorem tk_back (l : List UInt8) (h : tkO l = true) : intL (tkN l) ++ tkR l = l := by
  unfold tkN tkR
  unfold tkO at h
  rcases unint_ways l with e | ⟨k, r, e, e2, _⟩
  · rw [e] at h; cases h
  · rw [e]; exact e2
theorem tkN_range (l : List UInt8) : -1 ≤ tkN l ∧ tkN l ≤ 1099511627776 := by
  unfold tkN
  rcases unint_ways l with e | ⟨k, r, e, _, h1, h2⟩
  · rw [e]; exact ⟨by decide, by decide⟩
  · rw [e]; exact ⟨h1, h2⟩
/-- so many members taken off -/
def mrun (l : List UInt8) (o : Bool) : Nat → List MT × List UInt8 × Bool
  | 0 => ([], l, o)
  | k + 1 => ((mrun l o k).1 ++ [⟨tkN (mrun l o k).2.1, tkN (tkR (mrun l o k).2.1)⟩], tkR (tkR (mrun l o k).2.1), ((mrun l o k).2.2 && tkO (mrun l o k).2.1) && tkO (tkR (mrun l o k).2.1))
theorem mrun_len (l : List UInt8) (o : Bool) : ∀ k, (mrun l o k).1.length = k
  | 0 => rfl
  | k + 1 => by simp [mrun, mrun_len l o k]
theorem mrun_rest (l : List UInt8) (o : Bool) : ∀ k, (mrun l o k).2.1.length ≤ l.length
  | 0 => Nat.le_refl _
  | k + 1 => Nat.le_trans (tkR_len _) (Nat.le_trans (tkR_len _) (mrun_rest l o k))
theorem mrun_back (l : List UInt8) (o : Bool) : ∀ k, (mrun l o k).2.2 = true → o = true ∧ memsL (mrun l o k).1 ++ (mrun l o k).2.1 = l
  | 0, h => ⟨h, rfl⟩
  | k + 1, h => by
    simp only [mrun, Bool.and_eq_true] at h
    obtain ⟨⟨h1, h2⟩, h3⟩ := h
    obtain ⟨e1, e2⟩ := mrun_back l o k h1
    refine ⟨e1, ?_⟩
    simp only [mrun, memsL_app, memsL, memL, List.append_assoc, List.append_nil]
    rw [tk_back _ h3, tk_back _ h2, e2]
theorem mrun_put (L : List MT) (X : List UInt8) (h : ∀ x ∈ L, (-1 ≤ x.node ∧ x.node ≤ 1099511627776) ∧ (-1 ≤ x.since ∧ x.since ≤ 1099511627776)) : ∀ k, k ≤ L.length → mrun (memsL L ++ X) true k = (L.take k, memsL (L.drop k) ++ X, true)
  | 0, _ => by simp [mrun]
  | k + 1, hk => by
    have ih := mrun_put L X h k (by omega)
    have hx : L[k]? = some (L[k]'(by omega)) := List.getElem?_eq_getElem (by omega)
    have hb := h _ (List.getElem_mem (by omega : k < L.length))
    generalize L[k]'(by omega) = x at *
    have e : memsL (L.drop k) ++ X = intL x.node ++ (intL x.since ++ (memsL (L.drop (k + 1)) ++ X)) := by
      rw [List.drop_eq_getElem_cons (by omega : k < L.length)]
      have : L[k]'(by omega) = x := (List.getElem?_eq_some_iff.1 hx).2
      rw [this]
      simp [memsL, memL]
    obtain ⟨a1, a2, a3⟩ := tk_put x.node (intL x.since ++ (memsL (L.drop (k + 1)) ++ X)) hb.1
    obtain ⟨b1, b2, b3⟩ := tk_put x.since (memsL (L.drop (k + 1)) ++ X) hb.2
    simp only [mrun, ih, e, a1, a2, a3, b1, b2, b3, Bool.and_true]
    have ht : L.take (k + 1) = L.take k ++ [x] := by
      rw [List.take_succ_eq_append_getElem (by omega)]
      have : L[k]'(by omega) = x := (List.getElem?_eq_some_iff.1 hx).2
      rw [this]
    rw [ht]
/-- what is told of bytes as a chain -/
def GotOf (l : List UInt8) (c : CT) (n : Int) : Prop := (IsOf l c ∧ n = 0) ∨ ((∀ d, ¬ IsOf l d) ∧ c = cZero ∧ n = 10)
theorem got_one {l : List UInt8} {c d : CT} {n m : Int} (h : GotOf l c n) (k : GotOf l d m) : c = d ∧ n = m := by
  rcases h with ⟨h1, h2⟩ | ⟨h1, h2, h3⟩ <;> rcases k with ⟨k1, k2⟩ | ⟨k1, k2, k3⟩
  · exact ⟨isOf_one h1 k1, by omega⟩
  · exact absurd h1 (k1 _)
  · exact absurd k1 (h1 _)
  · exact ⟨by rw [h2, k2], by omega⟩
/-! ### taken off in order -/
def gEp (l : List UInt8) : Int := tkN l
def gL1 (l : List UInt8) : List UInt8 := tkR l
def gSize (l : List UInt8) : Int := tkN (gL1 l)
def gL2 (l : List UInt8) : List UInt8 := tkR (gL1 l)
def gO2 (l : List UInt8) : Bool := (true && tkO l) && tkO (gL1 l)
def gK (l : List UInt8) : Nat := (gSize l).toNat
def gRun (l : List UInt8) (k : Nat) : List MT × List UInt8 × Bool := mrun (gL2 l) (gO2 l) k
def gDr (l : List UInt8) : Int := tkN (gRun l (gK l)).2.1
def gL3 (l : List UInt8) : List UInt8 := tkR (gRun l (gK l)).2.1
def gO3 (l : List UInt8) : Bool := (gRun l (gK l)).2.2 && tkO (gRun l (gK l)).2.1
def gC (l : List UInt8) : CT := ⟨gEp l, (gRun l (gK l)).1, gDr l⟩
theorem g_put {l : List UInt8} {d : CT} (h : IsOf l d) : gSize l = d.ms.length ∧ gC l = d ∧ gO3 l = true ∧ gL3 l = [] := by
  obtain ⟨hg, rfl⟩ := h
  have F := good_fits hg
  have hlen : (-1 : Int) ≤ (d.ms.length : Int) ∧ (d.ms.length : Int) ≤ 1099511627776 := ⟨by omega, by have := F.len; omega⟩
  rw [putL_eq]
  obtain ⟨a1, a2, a3⟩ := tk_put d.ep (intL d.ms.length ++ (memsL d.ms ++ intL d.dr)) F.ep
  obtain ⟨b1, b2, b3⟩ := tk_put d.ms.length (memsL d.ms ++ intL d.dr) hlen
  have hr := mrun_put d.ms (intL d.dr) F.mem d.ms.length (Nat.le_refl _)
  rw [List.take_length, List.drop_length] at hr
  obtain ⟨c1, c2, c3⟩ := tk_put d.dr [] F.dr
  rw [List.append_nil] at c1 c2 c3
  simp only [memsL, List.nil_append] at hr
  generalize intL d.ep ++ (intL ↑d.ms.length ++ (memsL d.ms ++ intL d.dr)) = l at *
  have e1 : gL1 l = intL d.ms.length ++ (memsL d.ms ++ intL d.dr) := a2
  have e2 : gSize l = d.ms.length := by unfold gSize; rw [e1]; exact b1
  have e3 : gL2 l = memsL d.ms ++ intL d.dr := by unfold gL2; rw [e1]; exact b2
  have e4 : gO2 l = true := by unfold gO2; rw [e1, a3, b3]; rfl
  have e5 : gRun l (gK l) = (d.ms, intL d.dr, true) := by unfold gRun gK; rw [e2, e3, e4]; exact hr
  refine ⟨e2, ?_, ?_, ?_⟩
  · unfold gC gDr gEp
    rw [e5, a1]
    simp only [c1]
  · unfold gO3
    rw [e5]
    simp only [c3, Bool.and_true]
  · unfold gL3
    rw [e5]
    exact c2
theorem g_back {l : List UInt8} (h3 : gO3 l = true) (h4 : gL3 l = []) (hg : good (gC l) = true) : IsOf l (gC l) := by
  unfold gO3 at h3
  simp only [Bool.and_eq_true] at h3
  obtain ⟨h5, h6⟩ := h3
  have e6 := tk_back _ h6
  obtain ⟨h7, e7⟩ := mrun_back _ _ _ h5
  unfold gO2 at h7
  simp only [Bool.and_eq_true] at h7
  have e8 := tk_back _ h7.2
  have e9 := tk_back _ h7.1.2
  refine ⟨hg, ?_⟩
  have gl := (good_iff.1 hg).len1
  have hk : (gC l).ms.length = gK l := mrun_len _ _ _
  have hs : gSize l = ((gC l).ms.length : Int) := by
    rw [hk] at gl ⊢
    unfold gK at gl ⊢
    omega
  rw [putL_eq, ← hs]
  show intL (tkN l) ++ (intL (tkN (gL1 l)) ++ (memsL (gRun l (gK l)).1 ++ intL (tkN (gRun l (gK l)).2.1))) = l
  have e10 : intL (tkN (gRun l (gK l)).2.1) = (gRun l (gK l)).2.1 := by
    have h4' : tkR (gRun l (gK l)).2.1 = [] := h4
    have := e6
    unfold gRun at this h4' ⊢
    rw [h4', List.append_nil] at this
    exact this
  rw [e10]
  have e7' : memsL (gRun l (gK l)).1 ++ (gRun l (gK l)).2.1 = gL2 l := e7
  rw [e7']
  have e8' : intL (tkN (gL1 l)) ++ gL2 l = gL1 l := e8
  rw [e8']
  exact e9
theorem got_big {l : List UInt8} (h : 6 < gSize l) : GotOf l cZero 10 := by
  refine .inr ⟨fun d hd => ?_, rfl, rfl⟩
  have := (g_put hd).1
  have := (good_fits hd.1).len
  omega
theorem got_no {l : List UInt8} (h : gO3 l = false ∨ gL3 l ≠ [] ∨ good (gC l) = false) : GotOf l cZero 10 := by
  refine .inr ⟨fun d hd => ?_, rfl, rfl⟩
  obtain ⟨_, h2, h3, h4⟩ := g_put hd
  rcases h with h | h | h
  · rw [h3] at h; cases h
  · exact h h4
  · rw [h2, hd.1] at h; cases h
theorem got_yes {l : List UInt8} (h3 : gO3 l = true) (h4 : gL3 l = []) (hg : good (gC l) = true) : GotOf l (gC l) 0 := .inl ⟨g_back h3 h4 hg, rfl⟩
end Go.Proofs.Ytfplgmkbhpdmjaa.Ch
