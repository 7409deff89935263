/-
  Logs, as plain functions: entries, what they lead to, what is wrong with one as the next one; the last one of a client; which log begins another one.
-/
import Derived.Test.YtfffgegdcgfakaaKvA
namespace Go.Proofs.Ytfffgegdcgfakaa
open Go.ChangeShapes Go.WideShapes Go.ChangeAt Go.RowKit
set_option linter.unusedVariables false
deriving instance DecidableEq for PT
deriving instance DecidableEq for RT
/-- an entry -/
structure ET where
  idx : Int
  cl : Int
  seq : Int
  op : PT
deriving DecidableEq
def ET.cells (e : ET) : List Value := [.int .i64 e.idx, .int .i64 e.cl, .int .i64 e.seq, .int .i64 e.op.k, str e.op.key, str e.op.val, .int .i64 e.op.ver]
theorem ET.one (o : ET) : ∀ u ∈ o.cells, u.oneCell' = true := by intro u hu; simp [ET.cells] at hu; rcases hu with rfl | rfl | rfl | rfl | rfl | rfl | rfl <;> rfl
/-- none: zero -/
def eZero : ET := ⟨0, 0, 0, pZero⟩
/-- the keys behind the first k entries -/
def cellsN (E : List ET) : Nat → List KV
  | 0 => []
  | k + 1 => match E[k]? with
    | some e => appL (cellsN E k) ((k : Int) + 1) e.op
    | none => cellsN E k
/-- what became of the entry k -/
def resN (E : List ET) (k : Nat) : RT := match E[k]? with
  | some e => appR (cellsN E k) ((k : Int) + 1) e.op
  | none => rZero
/-- of the first k ones -/
def ress (E : List ET) (k : Nat) : List RT := (List.range k).map (resN E)
theorem cellsN_succ {E : List ET} {k : Nat} {e : ET} (h : E[k]? = some e) : cellsN E (k + 1) = appL (cellsN E k) ((k : Int) + 1) e.op := by
  show (match E[k]? with | some e => appL (cellsN E k) ((k : Int) + 1) e.op | none => cellsN E k) = _
  rw [h]
theorem resN_at {E : List ET} {k : Nat} {e : ET} (h : E[k]? = some e) : resN E k = appR (cellsN E k) ((k : Int) + 1) e.op := by
  unfold resN
  rw [h]
theorem cellsN_len (E : List ET) : ∀ k, (cellsN E k).length ≤ k
  | 0 => Nat.le_refl _
  | k + 1 => by
    have ih := cellsN_len E k
    show (match E[k]? with | some e => appL (cellsN E k) ((k : Int) + 1) e.op | none => cellsN E k).length ≤ _
    split
    · exact Nat.le_trans (appL_len _ _ _) (by omega)
    · omega
theorem ress_len (E : List ET) (k : Nat) : (ress E k).length = k := by simp [ress]
theorem ress_succ (E : List ET) (k : Nat) : ress E (k + 1) = ress E k ++ [resN E k] := by simp [ress, List.range_succ]
theorem ress_get {E : List ET} {k i : Nat} (h : i < k) : (ress E k)[i]? = some (resN E i) := by simp [ress, h]
theorem app_get {E : List ET} {e : ET} {i : Nat} (h : i < E.length) : (E ++ [e])[i]? = E[i]? := List.getElem?_append_left h
theorem app_last (E : List ET) (e : ET) : (E ++ [e])[E.length]? = some e := by simp
theorem cellsN_app (E : List ET) (e : ET) : ∀ k, k ≤ E.length → cellsN (E ++ [e]) k = cellsN E k
  | 0, _ => rfl
  | k + 1, h => by
    have ih := cellsN_app E e k (by omega)
    rw [cellsN, cellsN, ih, app_get (by omega)]
theorem resN_app (E : List ET) (e : ET) {k : Nat} (h : k < E.length) : resN (E ++ [e]) k = resN E k := by
  unfold resN
  rw [app_get h, cellsN_app E e k (by omega)]
theorem ress_app (E : List ET) (e : ET) {k : Nat} (h : k ≤ E.length) : ress (E ++ [e]) k = ress E k := by
  unfold ress
  refine List.map_congr_left fun i hi => resN_app E e ?_
  have := List.mem_range.1 hi
  omega
theorem cells_all (E : List ET) (e : ET) : cellsN (E ++ [e]) (E.length + 1) = appL (cellsN E E.length) ((E.length : Int) + 1) e.op := by
  rw [cellsN_succ (app_last E e), cellsN_app E e _ (Nat.le_refl _)]
theorem resN_all (E : List ET) (e : ET) : resN (E ++ [e]) E.length = appR (cellsN E E.length) ((E.length : Int) + 1) e.op := by
  rw [resN_at (app_last E e), cellsN_app E e _ (Nat.le_refl _)]
theorem ress_all (E : List ET) (e : ET) : ress (E ++ [e]) (E.length + 1) = ress E E.length ++ [appR (cellsN E E.length) ((E.length : Int) + 1) e.op] := by
  rw [ress_succ, ress_app E e (Nat.le_refl _), resN_all]
/-- the index of a client's last entry among the first k -/
def lastN (E : List ET) (c : Int) : Nat → Nat
  | 0 => 0
  | k + 1 => if (E[k]?).map (·.cl) = some c then k + 1 else lastN E c k
theorem lastN_le (E : List ET) (c : Int) : ∀ k, lastN E c k ≤ k
  | 0 => Nat.le_refl _
  | k + 1 => by
    have ih := lastN_le E c k
    unfold lastN
    split
    · omega
    · omega
theorem lastN_hit {E : List ET} {c : Int} {k : Nat} {e : ET} (h : E[k]? = some e) (hc : e.cl = c) : lastN E c (k + 1) = k + 1 := by
  unfold lastN
  rw [if_pos (by rw [h, ← hc]; rfl)]
theorem lastN_miss {E : List ET} {c : Int} {k : Nat} {e : ET} (h : E[k]? = some e) (hc : e.cl ≠ c) : lastN E c (k + 1) = lastN E c k := by
  rw [lastN, if_neg (by rw [h]; simpa using hc)]
theorem lastN_app (E : List ET) (e : ET) (c : Int) : ∀ k, k ≤ E.length → lastN (E ++ [e]) c k = lastN E c k
  | 0, _ => rfl
  | k + 1, h => by
    have ih := lastN_app E e c k (by omega)
    rw [lastN, lastN, ih, app_get (by omega)]
theorem lastN_all (E : List ET) (e : ET) (c : Int) : lastN (E ++ [e]) c (E.length + 1) = if e.cl = c then E.length + 1 else lastN E c E.length := by
  by_cases h : e.cl = c
  · rw [if_pos h, lastN_hit (app_last E e) h]
  · rw [if_neg h, lastN_miss (app_last E e) h, lastN_app E e c _ (Nat.le_refl _)]
theorem lastN_of (E : List ET) (c : Int) : ∀ k, k ≤ E.length → (lastN E c k = 0 ∧ ∀ i e, i < k → E[i]? = some e → e.cl ≠ c) ∨ ∃ j e, lastN E c k = j + 1 ∧ j < k ∧ E[j]? = some e ∧ e.cl = c ∧ ∀ i f, j < i → i < k → E[i]? = some f → f.cl ≠ c
  | 0, _ => .inl ⟨rfl, fun i e h => by omega⟩
  | k + 1, h => by
    obtain ⟨e, he⟩ : ∃ e, E[k]? = some e := ⟨_, List.getElem?_eq_getElem (by omega)⟩
    by_cases hc : e.cl = c
    · exact .inr ⟨k, e, lastN_hit he hc, by omega, he, hc, fun i f h1 h2 => by omega⟩
    · rw [lastN_miss he hc]
      rcases lastN_of E c k (by omega) with ⟨h1, h2⟩ | ⟨j, f, h1, h2, h3, h4, h5⟩
      · refine .inl ⟨h1, fun i g hi hg => ?_⟩
        by_cases hik : i = k
        · subst hik
          rw [he] at hg
          cases hg
          exact hc
        · exact h2 i g (by omega) hg
      · refine .inr ⟨j, f, h1, by omega, h3, h4, fun i g hi hk hg => ?_⟩
        by_cases hik : i = k
        · subst hik
          rw [he] at hg
          cases hg
          exact hc
        · exact h5 i g hi (by omega) hg
/-- the Seq and the Index of a client's last entry -/
def seqL (E : List ET) (c : Int) : Int := if lastN E c E.length = 0 then 0 else match E[lastN E c E.length - 1]? with
  | some e => e.seq
  | none => 0
theorem seqL_zero {E : List ET} {c : Int} (h : lastN E c E.length = 0) : seqL E c = 0 := by unfold seqL; rw [if_pos h]
theorem seqL_at {E : List ET} {c : Int} {j : Nat} {e : ET} (h : lastN E c E.length = j + 1) (he : E[j]? = some e) : seqL E c = e.seq := by
  unfold seqL
  rw [h, if_neg (by omega), Nat.add_sub_cancel, he]
/-- may it be an entry at all? -/
def argB (e : ET) : Bool := decide (e.cl < 0) || decide (5 < e.cl) || decide (e.seq < 1) || decide (chk e.op ≠ 0) || decide (e.op.k = 1)
theorem argB_no {e : ET} : argB e = false ↔ 0 ≤ e.cl ∧ e.cl ≤ 5 ∧ 1 ≤ e.seq ∧ chk e.op = 0 ∧ e.op.k ≠ 1 := by
  unfold argB
  simp only [Bool.or_eq_false_iff, decide_eq_false_iff_not]
  omega
/-- what is wrong with an entry, as the next one -/
def lchk (E : List ET) (e : ET) : Int := if argB e = true then 2 else if 4096 ≤ E.length then 60 else if e.idx ≠ (E.length : Int) + 1 then 70 else if e.seq ≤ seqL E e.cl then 71 else 0
/-- the six ways -/
theorem lchk_ways (E : List ET) (e : ET) :
    (argB e = true ∧ lchk E e = 2) ∨
    (argB e = false ∧ 4096 ≤ E.length ∧ lchk E e = 60) ∨
    (argB e = false ∧ E.length < 4096 ∧ e.idx ≠ (E.length : Int) + 1 ∧ lchk E e = 70) ∨
    (argB e = false ∧ E.length < 4096 ∧ e.idx = (E.length : Int) + 1 ∧ e.seq ≤ seqL E e.cl ∧ lchk E e = 71) ∨
    (argB e = false ∧ E.length < 4096 ∧ e.idx = (E.length : Int) + 1 ∧ seqL E e.cl < e.seq ∧ lchk E e = 0) := by
  unfold lchk
  cases argB e
  · refine .inr ?_
    by_cases h1 : 4096 ≤ E.length
    · exact .inl ⟨rfl, h1, by simp [h1]⟩
    refine .inr ?_
    by_cases h2 : e.idx = (E.length : Int) + 1
    · refine .inr ?_
      by_cases h3 : e.seq ≤ seqL E e.cl
      · exact .inl ⟨rfl, by omega, h2, h3, by simp [h1, h2, h3]⟩
      · exact .inr ⟨rfl, by omega, h2, by omega, by simp [h1, h2, h3]⟩
    · exact .inl ⟨rfl, by omega, h2, by simp [h1, h2]⟩
  · exact .inl ⟨rfl, rfl⟩
theorem lchk_ok {E : List ET} {e : ET} (h : lchk E e = 0) : (0 ≤ e.cl ∧ e.cl ≤ 5 ∧ 1 ≤ e.seq ∧ chk e.op = 0 ∧ e.op.k ≠ 1) ∧ E.length < 4096 ∧ e.idx = (E.length : Int) + 1 ∧ seqL E e.cl < e.seq := by
  rcases lchk_ways E e with ⟨_, k⟩ | ⟨_, _, k⟩ | ⟨_, _, _, k⟩ | ⟨_, _, _, _, k⟩ | ⟨a, b, c, d, _⟩
  · omega
  · omega
  · omega
  · omega
  · exact ⟨argB_no.1 a, b, c, d⟩
/-- a log's entries -/
structure Fit (E : List ET) : Prop where
  few : E.length ≤ 4096
  ok : ∀ (i : Nat) e, E[i]? = some e → e.idx = (i : Int) + 1 ∧ 0 ≤ e.cl ∧ e.cl ≤ 5 ∧ 1 ≤ e.seq ∧ chk e.op = 0 ∧ e.op.k ≠ 1
  rise : ∀ (i j : Nat) e f, i < j → E[i]? = some e → E[j]? = some f → e.cl = f.cl → e.seq < f.seq
theorem fit_nil : Fit [] := ⟨by simp, by simp, by simp⟩
theorem Fit.last {E : List ET} (h : Fit E) {i : Nat} {e : ET} {c : Int} (he : E[i]? = some e) (hc : e.cl = c) : e.seq ≤ seqL E c := by
  have hi := (List.getElem?_eq_some_iff.1 he).1
  rcases lastN_of E c E.length (Nat.le_refl _) with ⟨_, h2⟩ | ⟨j, f, h1, h2, h3, h4, h5⟩
  · exact absurd hc (h2 i e hi he)
  · rw [seqL_at h1 h3]
    by_cases hij : i < j
    · exact Int.le_of_lt (h.rise i j e f hij he h3 (by rw [hc, h4]))
    · by_cases hij : i = j
      · subst hij
        rw [he] at h3
        cases h3
        omega
      · exact absurd hc (h5 i e (by omega) hi he)
theorem Fit.app {E : List ET} (h : Fit E) {e : ET} (he : lchk E e = 0) : Fit (E ++ [e]) := by
  obtain ⟨h1, h2, h3, h4⟩ := lchk_ok he
  refine ⟨by simp; omega, fun i f hf => ?_, fun i j f g hij hf hg hc => ?_⟩
  · by_cases hi : i < E.length
    · rw [app_get hi] at hf
      exact h.ok i f hf
    · have hl := (List.getElem?_eq_some_iff.1 hf).1
      simp at hl
      obtain rfl : i = E.length := by omega
      rw [app_last] at hf
      cases hf
      exact ⟨h3, h1⟩
  · by_cases hj : j < E.length
    · rw [app_get hj] at hg
      rw [app_get (by omega)] at hf
      exact h.rise i j f g hij hf hg hc
    · have hl := (List.getElem?_eq_some_iff.1 hg).1
      simp at hl
      obtain rfl : j = E.length := by omega
      rw [app_last] at hg
      cases hg
      rw [app_get (by omega)] at hf
      have := h.last hf hc
      omega
theorem Fit.none {E : List ET} (h : Fit E) {c : Int} (hc : c < 0 ∨ 5 < c) : lastN E c E.length = 0 := by
  rcases lastN_of E c E.length (Nat.le_refl _) with ⟨h1, _⟩ | ⟨j, f, h1, h2, h3, h4, h5⟩
  · exact h1
  · have := h.ok j f h3
    omega
/-- is one the beginning of the other one? -/
def begB (E F : List ET) : Bool := decide (E.length ≤ F.length) && decide (E = F.take E.length)
theorem begB_self (E : List ET) : begB E E = true := by unfold begB; simp
theorem begB_app (E : List ET) (e : ET) : begB E (E ++ [e]) = true := by unfold begB; simp
theorem begB_long {E F : List ET} (h : F.length < E.length) : begB E F = false := by
  have : ¬ E.length ≤ F.length := by omega
  unfold begB; simp [this]
theorem begB_short {E F : List ET} (h : E.length ≤ F.length) : begB E F = decide (E = F.take E.length) := by unfold begB; simp [h]
theorem begB_same {E F : List ET} (h : E.length = F.length) : begB E F = decide (E = F) := by
  rw [begB_short (by omega), h, List.take_length]
end Go.Proofs.Ytfffgegdcgfakaa
