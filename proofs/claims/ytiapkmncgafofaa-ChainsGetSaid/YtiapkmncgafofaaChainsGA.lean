/-
  Chains: the document's numbers of bytes, as a plain function; what the document's Get tells by them.
-/
import Derived.Test.YtiapkmncgafofaaChainsS
namespace Go.Proofs.Ytiapkmncgafofaa
open Go.ChangeShapes Go.WideShapes Go.ChangeAt Go.RowKit
set_option linter.unusedVariables false
/-- all numbers that stand there, and whether nothing else does -/
inductive Nums : List UInt8 → List Int → Prop
  | nil : Nums [] []
  | cons (l : List UInt8) (L : List Int) : l ≠ [] → tkO l = true → Nums (tkR l) L → Nums l (tkN l :: L)
theorem tk_range {l : List UInt8} (h : tkO l = true) : (-1 ≤ tkN l ∧ tkN l ≤ 1099511627776) ∧ intL (tkN l) ++ tkR l = l := ⟨tkN_range l, tk_back l h⟩
theorem intL_ne (n : Int) (h : -1 ≤ n ∧ n ≤ 1099511627776) : 0 < (intL n).length := by
  rw [intL_in n h.1 h.2]
  exact (numL_len _ (by omega)).2
theorem intL_app_ne {n : Int} {X : List UInt8} (h : -1 ≤ n ∧ n ≤ 1099511627776) : intL n ++ X ≠ [] := by
  intro e
  have h1 := intL_ne n h
  rw [(List.append_eq_nil_iff.1 e).1] at h1
  simp at h1
theorem nums_int {n : Int} {X : List UInt8} {L : List Int} (h : -1 ≤ n ∧ n ≤ 1099511627776) (hL : Nums X L) : Nums (intL n ++ X) (n :: L) := by
  obtain ⟨a, b, c⟩ := tk_put n X h
  have := Nums.cons (intL n ++ X) L (intL_app_ne h) c (by rw [b]; exact hL)
  rwa [a] at this
/-- a chain's numbers -/
def flatM : List MT → List Int
  | [] => []
  | m :: r => m.node :: m.since :: flatM r
theorem flatM_len : ∀ L : List MT, (flatM L).length = 2 * L.length
  | [] => rfl
  | m :: r => by simp [flatM, flatM_len r]; omega
theorem nums_mems : ∀ (L : List MT) {X : List UInt8} {R : List Int}, (∀ x ∈ L, (-1 ≤ x.node ∧ x.node ≤ 1099511627776) ∧ (-1 ≤ x.since ∧ x.since ≤ 1099511627776)) → Nums X R → Nums (memsL L ++ X) (flatM L ++ R)
  | [], _, _, _, h => h
  | m :: r, X, R, hm, h => by
    have ih := nums_mems r (fun x hx => hm x (by simp [hx])) h
    have p := hm m (by simp)
    simp only [memsL, memL, List.append_assoc]
    exact nums_int p.1 (nums_int p.2 ih)
theorem nums_put {c : CT} (h : Fits c) : Nums (putL c) (c.ep :: (c.ms.length : Int) :: (flatM c.ms ++ [c.dr])) := by
  rw [putL_eq]
  have hd : Nums (intL c.dr) [c.dr] := by have := nums_int (X := []) h.dr Nums.nil; rwa [List.append_nil] at this
  exact nums_int h.ep (nums_int ⟨by omega, by have := h.len; omega⟩ (nums_mems c.ms h.mem hd))
theorem nums_one {l : List UInt8} {L M : List Int} (h : Nums l L) (k : Nums l M) : L = M := by
  induction h generalizing M with
  | nil => cases k with
    | nil => rfl
    | cons _ _ h => exact absurd rfl h
  | cons l L h1 h2 h3 ih => cases k with
    | nil => exact absurd rfl h1
    | cons _ M _ _ k3 => rw [ih k3]
/-- members out of numbers, two by two -/
def pairs : List Int → List MT
  | a :: b :: r => ⟨a, b⟩ :: pairs r
  | _ => []
theorem pairs_flat (L : List MT) (d : Int) : pairs (flatM L ++ [d]) = L := by
  induction L with
  | nil => rfl
  | cons m r ih => simp [flatM, pairs, ih]
/-- the chain of numbers -/
def chOf (L : List Int) : CT := ⟨L.headD 0, pairs (L.drop 2), L.getLast?.getD 0⟩
theorem chOf_put (c : CT) : chOf (c.ep :: (c.ms.length : Int) :: (flatM c.ms ++ [c.dr])) = c := by
  unfold chOf
  have e : (c.ep :: (c.ms.length : Int) :: (flatM c.ms ++ [c.dr])).getLast? = some c.dr := by
    rw [← List.cons_append, ← List.cons_append, List.getLast?_concat]
  rw [e]
  show (⟨c.ep, pairs (flatM c.ms ++ [c.dr]), c.dr⟩ : CT) = c
  rw [pairs_flat]
theorem shape_put (c : CT) (h : 1 ≤ c.ms.length) : 5 ≤ (c.ep :: (c.ms.length : Int) :: (flatM c.ms ++ [c.dr])).length ∧ (c.ep :: (c.ms.length : Int) :: (flatM c.ms ++ [c.dr])).length % 2 = 1 := by
  simp [flatM_len]
  omega
/-- by the numbers -/
theorem got_nums {l : List UInt8} {L : List Int} (h : Nums l L) (h1 : ¬ L.length < 5) (h2 : L.length % 2 = 1) (hg : good (chOf L) = true) (hp : putL (chOf L) = l) : GotOf l (chOf L) 0 := .inl ⟨⟨hg, hp⟩, rfl⟩
theorem got_else {l : List UInt8} {L : List Int} (h : Nums l L) (h1 : L.length < 5 ∨ L.length % 2 = 0 ∨ good (chOf L) = false ∨ putL (chOf L) ≠ l) : GotOf l cZero 10 := by
  refine .inr ⟨fun d hd => ?_, rfl, rfl⟩
  obtain ⟨g, rfl⟩ := hd
  have e := nums_one h (nums_put (good_fits g))
  subst e
  have := shape_put d (good_iff.1 g).len1
  rw [chOf_put] at h1
  rcases h1 with h1 | h1 | h1 | h1
  · omega
  · omega
  · rw [g] at h1; cases h1
  · exact h1 rfl
theorem got_bad {l : List UInt8} (h : ∀ L, ¬ Nums l L) : GotOf l cZero 10 := by
  refine .inr ⟨fun d hd => ?_, rfl, rfl⟩
  obtain ⟨g, rfl⟩ := hd
  exact h _ (nums_put (good_fits g))
theorem nums_len {l : List UInt8} {L : List Int} (h : Nums l L) : L.length ≤ l.length := by
  induction h with
  | nil => simp
  | cons l L h1 h2 h3 ih =>
    obtain ⟨r, e⟩ := tk_range h2
    have := intL_ne _ r
    have := congrArg List.length e
    simp at this ⊢
    omega
theorem pairs_len (L : List Int) : (pairs L).length ≤ L.length := by
  match L with
  | [] => simp [pairs]
  | [a] => simp [pairs]
  | a :: b :: r => have := pairs_len r; simp [pairs]; omega
end Go.Proofs.Ytiapkmncgafofaa
