/-
  Frames, as plain functions: a frame's cells, its numbers, what may be, its bytes.
-/
import Derived.Test.YtfplgmkbhpdmjaaOpsE
import Derived.Test.YtfplgmkbhpdmjaaChainsS
namespace Go.Proofs.Ytfplgmkbhpdmjaa.Fm
open Go.ChangeShapes Go.WideShapes Go.ChangeAt Go.RowKit
set_option linter.unusedVariables false
/-- a result -/
structure RT where
  code : Int
  val : List UInt8
  ver : Int
  pt : Int
def rZero : RT := ⟨0, [], 0, 0⟩
def RT.cells (r : RT) : List Value := [.int .i64 r.code, str r.val, .int .i64 r.ver, .int .i64 r.pt]
theorem RT.one (o : RT) : ∀ u ∈ o.cells, u.oneCell' = true := by intro u hu; simp [RT.cells] at hu; rcases hu with rfl | rfl | rfl | rfl <;> rfl
/-- a frame: its numbers by the cells where they stand; its operation, its result, its entry's operation, its chain -/
structure FT where
  n : Nat → Int
  op : PT
  re : RT
  eop : PT
  ch : Ch.CT
def fZero : FT := ⟨fun _ => 0, pZero, rZero, pZero, Ch.cZero⟩
/-- its cells, v being the slice of its members -/
def FT.cells (f : FT) (v : Value) : List Value :=
  [.int .i64 (f.n 0), .int .i64 (f.n 1), .int .i64 (f.n 2), .int .i64 (f.n 3), .int .i64 (f.n 4), .int .i64 (f.n 5), .int .i64 (f.n 6),
   .int .i64 f.op.k, str f.op.key, str f.op.val, .int .i64 f.op.ver,
   .int .i64 f.re.code, str f.re.val, .int .i64 f.re.ver, .int .i64 f.re.pt,
   .int .i64 (f.n 15), .int .i64 (f.n 16), .int .i64 (f.n 17), .int .i64 (f.n 18),
   .int .i64 f.eop.k, str f.eop.key, str f.eop.val, .int .i64 f.eop.ver,
   .int .i64 f.ch.ep, v, .int .i64 f.ch.dr,
   .int .i64 (f.n 26), .int .i64 (f.n 27), .int .i64 (f.n 28)]
theorem FT.len (f : FT) (v : Value) : (f.cells v).length = 29 := rfl
theorem FT.one (f : FT) {v : Value} (h : v.oneCell' = true) : ∀ u ∈ f.cells v, u.oneCell' = true := by
  intro u hu
  simp only [FT.cells, List.mem_cons, List.not_mem_nil, or_false] at hu
  rcases hu with rfl | rfl | rfl | rfl | rfl | rfl | rfl | rfl | rfl | rfl | rfl | rfl | rfl | rfl | rfl | rfl | rfl | rfl | rfl | rfl | rfl | rfl | rfl | rfl | rfl | rfl | rfl | rfl | rfl
  all_goals first | exact h | rfl
/-- the cells where a frame's numbers stand -/
def Nix (i : Nat) : Prop := i ∈ [0, 1, 2, 3, 4, 5, 6, 15, 16, 17, 18, 26, 27, 28]
instance (i : Nat) : Decidable (Nix i) := inferInstanceAs (Decidable (i ∈ _))
theorem Nix.ways {i : Nat} (h : Nix i) : i = 0 ∨ i = 1 ∨ i = 2 ∨ i = 3 ∨ i = 4 ∨ i = 5 ∨ i = 6 ∨ i = 15 ∨ i = 16 ∨ i = 17 ∨ i = 18 ∨ i = 26 ∨ i = 27 ∨ i = 28 := by
  simpa [Nix] using h
theorem num_at (f : FT) (v : Value) {i : Nat} (h : Nix i) : (f.cells v)[i]? = some (.int .i64 (f.n i)) := by
  rcases h.ways with rfl | rfl | rfl | rfl | rfl | rfl | rfl | rfl | rfl | rfl | rfl | rfl | rfl | rfl <;> rfl
/-- with another number -/
def FT.set (f : FT) (i : Nat) (x : Int) : FT := { f with n := fun j => if j = i then x else f.n j }
theorem set_at (f : FT) (v : Value) {i : Nat} (x : Int) (h : Nix i) : (f.cells v).set i (.int .i64 x) = (f.set i x).cells v := by
  rcases h.ways with rfl | rfl | rfl | rfl | rfl | rfl | rfl | rfl | rfl | rfl | rfl | rfl | rfl | rfl <;> simp [FT.cells, FT.set]
/-- which numbers a kind has, in order -/
def nix (k : Int) : List Nat :=
  if k = 1 then [1, 2, 3, 4, 5, 6] else if k = 2 then [2, 3, 4] else if k = 3 then [1, 2, 3, 4, 15] else if k = 4 then [1, 16, 17, 18] else if k = 5 then [1, 26, 27, 28]
  else if k = 6 ∨ k = 9 ∨ k = 10 ∨ k = 11 then [1, 26] else if k = 12 then [1] else []
theorem nix_ways (k : Int) : (k = 1 ∧ nix k = [1, 2, 3, 4, 5, 6]) ∨ (k = 2 ∧ nix k = [2, 3, 4]) ∨ (k = 3 ∧ nix k = [1, 2, 3, 4, 15]) ∨ (k = 4 ∧ nix k = [1, 16, 17, 18]) ∨ (k = 5 ∧ nix k = [1, 26, 27, 28]) ∨
    (k = 6 ∧ nix k = [1, 26]) ∨ (k = 9 ∧ nix k = [1, 26]) ∨ (k = 10 ∧ nix k = [1, 26]) ∨ (k = 11 ∧ nix k = [1, 26]) ∨ (k = 12 ∧ nix k = [1]) ∨
    ((k ≠ 1 ∧ k ≠ 2 ∧ k ≠ 3 ∧ k ≠ 4 ∧ k ≠ 5 ∧ k ≠ 6 ∧ k ≠ 9 ∧ k ≠ 10 ∧ k ≠ 11 ∧ k ≠ 12) ∧ nix k = []) := by
  by_cases h1 : k = 1
  · subst h1; exact .inl ⟨rfl, by decide⟩
  by_cases h2 : k = 2
  · subst h2; exact .inr (.inl ⟨rfl, by decide⟩)
  by_cases h3 : k = 3
  · subst h3; exact .inr (.inr (.inl ⟨rfl, by decide⟩))
  by_cases h4 : k = 4
  · subst h4; exact .inr (.inr (.inr (.inl ⟨rfl, by decide⟩)))
  by_cases h5 : k = 5
  · subst h5; exact .inr (.inr (.inr (.inr (.inl ⟨rfl, by decide⟩))))
  by_cases h6 : k = 6
  · subst h6; exact .inr (.inr (.inr (.inr (.inr (.inl ⟨rfl, by decide⟩)))))
  by_cases h9 : k = 9
  · subst h9; exact .inr (.inr (.inr (.inr (.inr (.inr (.inl ⟨rfl, by decide⟩))))))
  by_cases h10 : k = 10
  · subst h10; exact .inr (.inr (.inr (.inr (.inr (.inr (.inr (.inl ⟨rfl, by decide⟩)))))))
  by_cases h11 : k = 11
  · subst h11; exact .inr (.inr (.inr (.inr (.inr (.inr (.inr (.inr (.inl ⟨rfl, by decide⟩))))))))
  by_cases h12 : k = 12
  · subst h12; exact .inr (.inr (.inr (.inr (.inr (.inr (.inr (.inr (.inr (.inl ⟨rfl, by decide⟩)))))))))
  · exact .inr (.inr (.inr (.inr (.inr (.inr (.inr (.inr (.inr (.inr ⟨⟨h1, h2, h3, h4, h5, h6, h9, h10, h11, h12⟩, by unfold nix; simp [h1, h2, h3, h4, h5, h6, h9, h10, h11, h12]⟩)))))))))
/-- what is so of each kind's numbers -/
theorem nix_all (k : Int) {p : List Nat → Prop} (h1 : p [1, 2, 3, 4, 5, 6]) (h2 : p [2, 3, 4]) (h3 : p [1, 2, 3, 4, 15]) (h4 : p [1, 16, 17, 18]) (h5 : p [1, 26, 27, 28]) (h6 : p [1, 26]) (h7 : p [1]) (h8 : p []) : p (nix k) := by
  rcases nix_ways k with ⟨_, e⟩ | ⟨_, e⟩ | ⟨_, e⟩ | ⟨_, e⟩ | ⟨_, e⟩ | ⟨_, e⟩ | ⟨_, e⟩ | ⟨_, e⟩ | ⟨_, e⟩ | ⟨_, e⟩ | ⟨_, e⟩ <;> rw [e] <;> assumption
theorem nix_nix (k : Int) : ∀ i ∈ nix k, Nix i := by
  refine nix_all k (p := fun L => ∀ i ∈ L, Nix i) ?_ ?_ ?_ ?_ ?_ ?_ ?_ ?_ <;> decide
theorem nix_zero (k : Int) : 0 ∉ nix k := by
  refine nix_all k (p := fun L => 0 ∉ L) ?_ ?_ ?_ ?_ ?_ ?_ ?_ ?_ <;> decide
theorem nix_nodup (k : Int) : (nix k).Nodup := by
  refine nix_all k (p := fun L => L.Nodup) ?_ ?_ ?_ ?_ ?_ ?_ ?_ ?_ <;> decide
theorem nix_few (k : Int) : (nix k).length ≤ 6 := by
  refine nix_all k (p := fun L => L.length ≤ 6) ?_ ?_ ?_ ?_ ?_ ?_ ?_ ?_ <;> decide
/-- may a number be? -/
def mayN (x : Int) : Bool := decide (0 ≤ x) && decide (x ≤ 1099511627776)
theorem mayN_yes {x : Int} : mayN x = true ↔ 0 ≤ x ∧ x ≤ 1099511627776 := by simp [mayN]
theorem mayN_no {x : Int} : mayN x = false ↔ x < 0 ∨ 1099511627776 < x := by rw [Bool.eq_false_iff, ne_eq, mayN_yes]; omega
/-- is it a kind? -/
def kindB (x : Int) : Bool := decide (1 ≤ x) && decide (x ≤ 12)
theorem kindB_yes {x : Int} : kindB x = true ↔ 1 ≤ x ∧ x ≤ 12 := by simp [kindB]
theorem kindB_no {x : Int} : kindB x = false ↔ x < 1 ∨ 12 < x := by rw [Bool.eq_false_iff, ne_eq, kindB_yes]; omega
/-- may a result be? -/
def resB (r : RT) : Bool := decide (1 ≤ r.code) && (decide (r.code ≤ 3) && (decide (r.val.length ≤ 64) && (mayN r.ver && mayN r.pt)))
theorem resB_yes {r : RT} : resB r = true ↔ 1 ≤ r.code ∧ r.code ≤ 3 ∧ r.val.length ≤ 64 ∧ mayN r.ver = true ∧ mayN r.pt = true := by simp [resB]
/-- a result's bytes -/
def resL (r : RT) : List UInt8 := intL r.code ++ (textL r.val ++ (intL r.ver ++ intL r.pt))
theorem resL_len {r : RT} (h : resB r = true) : (resL r).length ≤ 100 := by
  obtain ⟨_, _, h, _, _⟩ := resB_yes.1 h
  have h1 := intL_len r.code
  have h2 := intL_len r.ver
  have h3 := intL_len r.pt
  have h4 := textL_len r.val (by omega)
  simp [resL]; omega
/-- numbers' bytes -/
def numsL (n : Nat → Int) : List Nat → List UInt8
  | [] => []
  | i :: r => intL (n i) ++ numsL n r
theorem numsL_app (n : Nat → Int) (L M : List Nat) : numsL n (L ++ M) = numsL n L ++ numsL n M := by
  induction L with
  | nil => rfl
  | cons i r ih => simp [numsL, ih]
theorem numsL_congr {n m : Nat → Int} : ∀ {L : List Nat}, (∀ i ∈ L, n i = m i) → numsL n L = numsL m L
  | [], _ => rfl
  | i :: r, h => by simp only [numsL]; rw [h i (by simp), numsL_congr fun j hj => h j (by simp [hj])]
theorem take_snoc {L : List Nat} {k i : Nat} (hi : L[k]? = some i) : L.take (k + 1) = L.take k ++ [i] := by
  have hk := (List.getElem?_eq_some_iff.1 hi).1
  rw [List.take_succ_eq_append_getElem hk, (List.getElem?_eq_some_iff.1 hi).2]
theorem numsL_snoc (n : Nat → Int) {L : List Nat} {k i : Nat} (hi : L[k]? = some i) : numsL n (L.take (k + 1)) = numsL n (L.take k) ++ intL (n i) := by
  rw [take_snoc hi, numsL_app]; simp [numsL]
theorem numsL_len (n : Nat → Int) (L : List Nat) : (numsL n L).length ≤ 9 * L.length := by
  induction L with
  | nil => simp [numsL]
  | cons i r ih => have := intL_len (n i); simp [numsL]; omega
/-- may the numbers be? -/
def numsB (n : Nat → Int) (L : List Nat) : Bool := L.all fun i => mayN (n i)
theorem numsB_yes {n : Nat → Int} {L : List Nat} : numsB n L = true ↔ ∀ i ∈ L, mayN (n i) = true := by simp [numsB]
theorem numsB_no {n : Nat → Int} {L : List Nat} {i : Nat} (hi : i ∈ L) (h : mayN (n i) = false) : numsB n L = false := by
  rw [Bool.eq_false_iff, ne_eq, numsB_yes]; intro q; rw [q i hi] at h; cases h
/-- ahead: the kind and the numbers -/
def FT.kind (f : FT) : Int := f.n 0
def aheadB (f : FT) : Bool := kindB (f.n 0) && numsB f.n (nix (f.n 0))
def aheadL (f : FT) : List UInt8 := intL (f.n 0) ++ numsL f.n (nix (f.n 0))
/-- behind -/
def behindB (f : FT) : Bool := if f.n 0 = 1 then chk f.op == 0 else if f.n 0 = 4 then chk f.eop == 0 else if f.n 0 = 8 then Ch.good f.ch else if f.n 0 = 2 then resB f.re else true
def behindL (f : FT) : List UInt8 := if f.n 0 = 1 then rawL f.op else if f.n 0 = 4 then rawL f.eop else if f.n 0 = 8 then Ch.putL f.ch else if f.n 0 = 2 then resL f.re else []
/-- may it be? -/
def okF (f : FT) : Bool := aheadB f && behindB f
/-- its bytes -/
def rawF (f : FT) : List UInt8 := aheadL f ++ behindL f
theorem aheadL_len (f : FT) : (aheadL f).length ≤ 63 := by
  have h1 := intL_len (f.n 0)
  have h2 := numsL_len f.n (nix (f.n 0))
  have h3 := nix_few (f.n 0)
  simp [aheadL]; omega
theorem behind_ways (f : FT) : (f.n 0 = 1 ∧ behindB f = (chk f.op == 0) ∧ behindL f = rawL f.op) ∨ (f.n 0 = 4 ∧ behindB f = (chk f.eop == 0) ∧ behindL f = rawL f.eop) ∨ (f.n 0 = 8 ∧ behindB f = Ch.good f.ch ∧ behindL f = Ch.putL f.ch) ∨
    (f.n 0 = 2 ∧ behindB f = resB f.re ∧ behindL f = resL f.re) ∨ ((f.n 0 ≠ 1 ∧ f.n 0 ≠ 4 ∧ f.n 0 ≠ 8 ∧ f.n 0 ≠ 2) ∧ behindB f = true ∧ behindL f = []) := by
  unfold behindB behindL
  by_cases h1 : f.n 0 = 1
  · exact .inl ⟨h1, by simp [h1], by simp [h1]⟩
  by_cases h2 : f.n 0 = 4
  · exact .inr (.inl ⟨h2, by simp [h2], by simp [h2]⟩)
  by_cases h3 : f.n 0 = 8
  · exact .inr (.inr (.inl ⟨h3, by simp [h3], by simp [h3]⟩))
  by_cases h4 : f.n 0 = 2
  · exact .inr (.inr (.inr (.inl ⟨h4, by simp [h4], by simp [h4]⟩)))
  · exact .inr (.inr (.inr (.inr ⟨⟨h1, h2, h3, h4⟩, by simp [h1, h2, h3, h4], by simp [h1, h2, h3, h4]⟩)))
theorem behindL_len {f : FT} (h : behindB f = true) : (behindL f).length ≤ 135 := by
  rcases behind_ways f with ⟨_, e1, e2⟩ | ⟨_, e1, e2⟩ | ⟨_, e1, e2⟩ | ⟨_, e1, e2⟩ | ⟨_, e1, e2⟩ <;> rw [e1] at h <;> rw [e2]
  · have := raw_len (chk_fit.1 (show chk f.op = 0 by simpa using h)); omega
  · have := raw_len (chk_fit.1 (show chk f.eop = 0 by simpa using h)); omega
  · exact Ch.putL_len _ (Ch.good_fits h).len
  · have := resL_len h; omega
  · simp
theorem rawF_len {f : FT} (h : okF f = true) : (rawF f).length ≤ 198 := by
  simp only [okF, Bool.and_eq_true] at h
  have h1 := aheadL_len f
  have h2 := behindL_len h.2
  simp [rawF]; omega
/-- what is told of its bytes -/
def putF (f : FT) : List UInt8 := if okF f = true then rawF f else []
def errF (f : FT) : Int := if okF f = true then 0 else 2
theorem putF_yes {f : FT} (h : okF f = true) : putF f = rawF f ∧ errF f = 0 := ⟨if_pos h, if_pos h⟩
theorem putF_no {f : FT} (h : okF f = false) : putF f = [] ∧ errF f = 2 := ⟨if_neg (by simp [h]), if_neg (by simp [h])⟩
end Go.Proofs.Ytfplgmkbhpdmjaa.Fm
