/-
  Chains, as plain functions: where a node is, what is wrong with a chain, its ends, what stands beside a node, the next one.
-/
import Derived.Test.YtfplgmkbhpdmjaaRows
import Derived.Test.YtfplgmkbhpdmjaaKitA
import Derived.Test.YtfplgmkbhpdmjaaKitX
namespace Go.Proofs.Ytfplgmkbhpdmjaa.Ch
open Go.ChangeShapes Go.WideShapes Go.ChangeAt Go.RowKit
set_option linter.unusedVariables false
/-- a member -/
structure MT where
  node : Int
  since : Int
deriving DecidableEq
def MT.cells (m : MT) : List Value := [.int .i64 m.node, .int .i64 m.since]
theorem MT.len (m : MT) : m.cells.length = 2 := rfl
theorem MT.one (o : MT) : ∀ u ∈ o.cells, u.oneCell' = true := by intro u hu; simp [MT.cells] at hu; rcases hu with rfl | rfl <;> rfl
/-- a chain -/
structure CT where
  ep : Int
  ms : List MT
  dr : Int
deriving DecidableEq
def mZero : MT := ⟨0, 0⟩
def cZero : CT := ⟨0, [], 0⟩
/-- where a node is; -1: nowhere -/
def pos (n : Int) : List MT → Int
  | [] => -1
  | m :: r => if m.node = n then 0 else if pos n r < 0 then -1 else pos n r + 1
theorem pos_ways (n : Int) : ∀ L : List MT, (pos n L = -1 ∧ ∀ (j : Nat) x, L[j]? = some x → x.node ≠ n) ∨ ∃ (i : Nat) (m : MT), pos n L = (i : Int) ∧ L[i]? = some m ∧ m.node = n ∧ ∀ (j : Nat) x, j < i → L[j]? = some x → x.node ≠ n
  | [] => .inl ⟨rfl, fun j x h => by simp at h⟩
  | m :: r => by
    by_cases h : m.node = n
    · exact .inr ⟨0, m, by simp [pos, h], rfl, h, fun j x hj => by omega⟩
    rcases pos_ways n r with ⟨h1, h2⟩ | ⟨i, y, h1, h2, h3, h4⟩
    · refine .inl ⟨by simp [pos, h, h1], fun j x hj => ?_⟩
      rcases j with _ | j
      · simp at hj
        subst hj
        exact h
      · exact h2 j x (by simpa using hj)
    · refine .inr ⟨i + 1, y, by simp [pos, h, h1]; omega, by simpa using h2, h3, fun j x hj hx => ?_⟩
      rcases j with _ | j
      · simp at hx
        subst hx
        exact h
      · exact h4 j x (by omega) (by simpa using hx)
theorem pos_no {n : Int} {L : List MT} (h : ∀ (j : Nat) x, L[j]? = some x → x.node ≠ n) : pos n L = -1 := by
  rcases pos_ways n L with ⟨h1, _⟩ | ⟨i, m, h1, h2, h3, _⟩
  · exact h1
  · exact absurd h3 (h i m h2)
theorem pos_at {n : Int} {L : List MT} {i : Nat} {m : MT} (hm : L[i]? = some m) (hn : m.node = n) (h : ∀ (j : Nat) x, j < i → L[j]? = some x → x.node ≠ n) : pos n L = (i : Int) := by
  rcases pos_ways n L with ⟨_, h2⟩ | ⟨k, y, h1, h2, h3, h4⟩
  · exact absurd hn (h2 i m hm)
  · rcases Nat.lt_trichotomy i k with hlt | rfl | hlt
    · exact absurd hn (h4 i m hlt hm)
    · exact h1
    · exact absurd h3 (h k y hlt h2)
theorem pos_lo (n : Int) (L : List MT) : -1 ≤ pos n L := by
  rcases pos_ways n L with ⟨h1, _⟩ | ⟨i, m, h1, _⟩ <;> omega
theorem pos_hi (n : Int) (L : List MT) : pos n L < (L.length : Int) := by
  rcases pos_ways n L with ⟨h1, _⟩ | ⟨i, m, h1, h2, _⟩
  · omega
  · have := (List.getElem?_eq_some_iff.1 h2).1
    omega
theorem pos_neg {n : Int} {L : List MT} (h : pos n L < 0) : pos n L = -1 ∧ ∀ (j : Nat) x, L[j]? = some x → x.node ≠ n := by
  rcases pos_ways n L with h1 | ⟨i, m, h1, _⟩
  · exact h1
  · omega
theorem pos_yes {n : Int} {L : List MT} (h : ¬ pos n L < 0) : ∃ (i : Nat) (m : MT), pos n L = (i : Int) ∧ L[i]? = some m ∧ m.node = n ∧ ∀ (j : Nat) x, j < i → L[j]? = some x → x.node ≠ n := by
  rcases pos_ways n L with ⟨h1, _⟩ | h1
  · omega
  · exact h1
/-- may that be a node's number -/
def mayB (n : Int) : Bool := decide (0 ≤ n) && decide (n ≤ 5)
theorem mayB_yes {n : Int} : mayB n = true ↔ 0 ≤ n ∧ n ≤ 5 := by simp [mayB]
theorem mayB_no {n : Int} : mayB n = false ↔ n < 0 ∨ 5 < n := by
  rw [Bool.eq_false_iff, ne_eq, mayB_yes]; omega
/-- may m be the member k -/
def memB (c : CT) (k : Nat) (m : MT) : Bool := mayB m.node && (decide (pos m.node c.ms = (k : Int)) && (decide (1 ≤ m.since) && decide (m.since ≤ c.ep)))
/-- may the chain be -/
def good (c : CT) : Bool := decide (1 ≤ c.ep) && (decide (c.ep ≤ 1099511627776) && (decide (1 ≤ c.ms.length) && (decide (c.ms.length ≤ 6) && (c.ms.zipIdx.all (fun x => memB c x.2 x.1) && (decide (c.dr = -1) || decide (0 ≤ pos c.dr c.ms))))))
theorem memB_yes {c : CT} {k : Nat} {m : MT} : memB c k m = true ↔ (0 ≤ m.node ∧ m.node ≤ 5) ∧ pos m.node c.ms = (k : Int) ∧ 1 ≤ m.since ∧ m.since ≤ c.ep := by
  simp [memB, mayB_yes]
structure Good (c : CT) : Prop where
  ep1 : 1 ≤ c.ep
  ep2 : c.ep ≤ 1099511627776
  len1 : 1 ≤ c.ms.length
  len2 : c.ms.length ≤ 6
  mem : ∀ (k : Nat) m, c.ms[k]? = some m → memB c k m = true
  dr : c.dr = -1 ∨ 0 ≤ pos c.dr c.ms
theorem all_idx {c : CT} : c.ms.zipIdx.all (fun x => memB c x.2 x.1) = true ↔ ∀ (k : Nat) m, c.ms[k]? = some m → memB c k m = true := by
  rw [List.all_eq_true]
  constructor
  · intro h k m hm
    exact h (m, k) (List.mem_zipIdx_iff_getElem?.2 hm)
  · rintro h ⟨m, k⟩ hx
    exact h k m (List.mem_zipIdx_iff_getElem?.1 hx)
theorem good_iff {c : CT} : good c = true ↔ Good c := by
  unfold good
  simp only [Bool.and_eq_true, decide_eq_true_eq, all_idx, Bool.or_eq_true]
  exact ⟨fun ⟨a, b, c, d, e, f⟩ => ⟨a, b, c, d, e, f⟩, fun h => ⟨h.ep1, h.ep2, h.len1, h.len2, h.mem, h.dr⟩⟩
theorem good_no {c : CT} (h : ¬ Good c) : good c = false := by
  rw [Bool.eq_false_iff, ne_eq, good_iff]; exact h
/-- what is wrong with a chain -/
def chk (c : CT) : Int := if good c then 0 else 2
theorem chk_yes {c : CT} (h : good c = true) : chk c = 0 := by simp [chk, h]
theorem chk_no {c : CT} (h : good c = false) : chk c = 2 := by simp [chk, h]
/-- the member of a place -/
def nodeA (c : CT) (i : Int) : Int := if good c = true ∧ 0 ≤ i then (match c.ms[i.toNat]? with | some m => m.node | none => -1) else -1
def stepF (c : CT) (n by_ : Int) : Int := if pos n c.ms < 0 then -1 else nodeA c (pos n c.ms + by_)
def headF (c : CT) : Int := nodeA c 0
def tailF (c : CT) : Int := nodeA c ((c.ms.length : Int) - 1)
def sinceF (c : CT) (n : Int) : Int × Bool := if good c = true ∧ 0 ≤ pos n c.ms then (match c.ms[(pos n c.ms).toNat]? with | some m => m.since | none => 0, true) else (0, false)
/-- why no chain comes behind -/
def nextE (c : CT) : Int := if good c = true ∧ c.ep < 1099511627776 then 0 else 2
def goE (c : CT) (n : Int) : Int := if nextE c = 2 then 2 else if pos n c.ms < 0 then 4 else if c.ms.length = 1 then 72 else 0
def withE (c : CT) (n : Int) : Int := if nextE c = 2 then 2 else if mayB n = false then 2 else if pos n c.ms < 0 then 0 else 62
def drainE (c : CT) (n : Int) : Int := if goE c n = 0 then (if c.dr = -1 then 0 else 62) else goE c n
def withC (c : CT) (n : Int) : CT := ⟨c.ep + 1, c.ms ++ [⟨n, c.ep + 1⟩], c.dr⟩
def woC (c : CT) (n : Int) : CT := ⟨c.ep + 1, c.ms.filter (fun m => decide (m.node ≠ n)), if c.dr = n then -1 else c.dr⟩
def drainC (c : CT) (n : Int) : CT := ⟨c.ep + 1, c.ms, n⟩
def withF (c : CT) (n : Int) : CT := if withE c n = 0 then withC c n else cZero
def woF (c : CT) (n : Int) : CT := if goE c n = 0 then woC c n else cZero
def drainF (c : CT) (n : Int) : CT := if drainE c n = 0 then drainC c n else cZero
end Go.Proofs.Ytfplgmkbhpdmjaa.Ch
