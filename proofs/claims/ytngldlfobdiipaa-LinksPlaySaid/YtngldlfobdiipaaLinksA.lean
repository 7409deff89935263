/-
  Links, as plain functions: a mail; what a pair has; sent, taken out; which pairs have mail.
-/
import Derived.Test.YtngldlfobdiipaaKitN
import Derived.Test.YtngldlfobdiipaaKitA
namespace Go.Proofs.Ytngldlfobdiipaa.Lk
open Go.ChangeShapes Go.WideShapes Go.ChangeAt Go.RowKit
set_option linter.unusedVariables false
/-- a mail -/
structure ML where
  fr : Int
  to : Int
  txt : List UInt8
def ML.cells (m : ML) : List Value := [.int .i64 m.fr, .int .i64 m.to, str m.txt]
theorem ML.len (m : ML) : m.cells.length = 3 := rfl
theorem ML.one (m : ML) : ∀ u ∈ m.cells, u.oneCell' = true := by intro u hu; simp [ML.cells] at hu; rcases hu with rfl | rfl | rfl <;> rfl
/-- none: zero -/
def mZero : ML := ⟨0, 0, []⟩
/-- is it that pair's? -/
def isP (a b : Int) (m : ML) : Bool := m.fr == a && m.to == b
theorem isP_yes {a b : Int} {m : ML} : isP a b m = true ↔ m.fr = a ∧ m.to = b := by unfold isP; simp
theorem isP_no {a b : Int} {m : ML} : isP a b m = false ↔ ¬ (m.fr = a ∧ m.to = b) := by rw [← isP_yes]; simp
/-- a pair's texts -/
def sel (L : List ML) (a b : Int) : List (List UInt8) := (L.filter (isP a b)).map (·.txt)
theorem sel_nil (a b : Int) : sel [] a b = [] := rfl
theorem sel_cons_hit {m : ML} {a b : Int} (r : List ML) (h : isP a b m = true) : sel (m :: r) a b = m.txt :: sel r a b := by unfold sel; rw [List.filter_cons_of_pos h]; rfl
theorem sel_cons_miss {m : ML} {a b : Int} (r : List ML) (h : isP a b m = false) : sel (m :: r) a b = sel r a b := by unfold sel; rw [List.filter_cons_of_neg (by simp [h])]
theorem sel_app (L M : List ML) (a b : Int) : sel (L ++ M) a b = sel L a b ++ sel M a b := by unfold sel; simp
theorem sel_snoc_hit {m : ML} {a b : Int} (L : List ML) (h : isP a b m = true) : sel (L ++ [m]) a b = sel L a b ++ [m.txt] := by rw [sel_app, sel_cons_hit _ h, sel_nil]
theorem sel_snoc_miss {m : ML} {a b : Int} (L : List ML) (h : isP a b m = false) : sel (L ++ [m]) a b = sel L a b := by rw [sel_app, sel_cons_miss _ h, sel_nil, List.append_nil]
theorem sel_len (L : List ML) (a b : Int) : (sel L a b).length ≤ L.length := by unfold sel; rw [List.length_map]; exact List.length_filter_le _ _
theorem sel_mem {L : List ML} {a b : Int} (h : sel L a b ≠ []) : ∃ m ∈ L, m.fr = a ∧ m.to = b := by
  unfold sel at h
  obtain ⟨m, hm⟩ := List.exists_mem_of_ne_nil _ (fun e => h (by rw [e]; rfl) : L.filter (isP a b) ≠ [])
  obtain ⟨h1, h2⟩ := List.mem_filter.1 hm
  exact ⟨m, h1, isP_yes.1 h2⟩
theorem sel_ne {L : List ML} {m : ML} (h : m ∈ L) : sel L m.fr m.to ≠ [] := by
  unfold sel
  intro e
  have := List.map_eq_nil_iff.1 e
  have h2 : m ∈ L.filter (isP m.fr m.to) := List.mem_filter.2 ⟨h, isP_yes.2 ⟨rfl, rfl⟩⟩
  rw [this] at h2
  cases h2
/-- is it an address? -/
def isA (n : Int) : Bool := (decide (0 ≤ n) && decide (n < 6)) || n == 16 || (decide (32 ≤ n) && decide (n < 38))
theorem isA_yes {n : Int} : isA n = true ↔ (0 ≤ n ∧ n ≤ 5) ∨ n = 16 ∨ (32 ≤ n ∧ n ≤ 37) := by
  unfold isA
  simp only [Bool.or_eq_true, Bool.and_eq_true, decide_eq_true_eq, beq_iff_eq]
  omega
theorem isA_no {n : Int} (h : isA n = false) : ¬ ((0 ≤ n ∧ n ≤ 5) ∨ n = 16 ∨ (32 ≤ n ∧ n ≤ 37)) := by rw [← isA_yes, h]; simp
/-- what sending tells -/
def snd (cap : Nat) (L : List ML) (m : ML) : Int :=
  if (!isA m.fr || !isA m.to || m.fr == m.to) = true then 2 else if 512 < m.txt.length then 3 else if cap ≤ (sel L m.fr m.to).length then 60 else 0
/-- what stands there behind it -/
def sndL (cap : Nat) (L : List ML) (m : ML) : List ML := if snd cap L m = 0 then L ++ [m] else L
theorem snd_arg {cap : Nat} {L : List ML} {m : ML} (h : (!isA m.fr || !isA m.to || m.fr == m.to) = true) : snd cap L m = 2 := by unfold snd; rw [if_pos h]
theorem snd_long {cap : Nat} {L : List ML} {m : ML} (h : (!isA m.fr || !isA m.to || m.fr == m.to) = false) (h2 : 512 < m.txt.length) : snd cap L m = 3 := by unfold snd; rw [if_neg (by simp [h]), if_pos h2]
theorem snd_full {cap : Nat} {L : List ML} {m : ML} (h : (!isA m.fr || !isA m.to || m.fr == m.to) = false) (h2 : ¬ 512 < m.txt.length) (h3 : cap ≤ (sel L m.fr m.to).length) : snd cap L m = 60 := by unfold snd; rw [if_neg (by simp [h]), if_neg h2, if_pos h3]
theorem snd_ok {cap : Nat} {L : List ML} {m : ML} (h : (!isA m.fr || !isA m.to || m.fr == m.to) = false) (h2 : ¬ 512 < m.txt.length) (h3 : ¬ cap ≤ (sel L m.fr m.to).length) : snd cap L m = 0 := by unfold snd; rw [if_neg (by simp [h]), if_neg h2, if_neg h3]
theorem sndL_ok {cap : Nat} {L : List ML} {m : ML} (h : snd cap L m = 0) : sndL cap L m = L ++ [m] := by unfold sndL; rw [if_pos h]
theorem sndL_no {cap : Nat} {L : List ML} {m : ML} (h : snd cap L m ≠ 0) : sndL cap L m = L := by unfold sndL; rw [if_neg h]
/-- is there such a one? -/
def hasN (T : List (List UInt8)) (i : Int) : Bool := decide (0 ≤ i) && decide (i < (T.length : Int))
theorem hasN_yes {T : List (List UInt8)} {i : Int} : hasN T i = true ↔ 0 ≤ i ∧ i < (T.length : Int) := by unfold hasN; simp
theorem hasN_no {T : List (List UInt8)} {i : Int} : hasN T i = false ↔ i < 0 ∨ (T.length : Int) ≤ i := by
  unfold hasN
  simp only [Bool.and_eq_false_iff, decide_eq_false_iff_not]
  omega
/-- the mail of that number -/
def fndM (L : List ML) (a b i : Int) : ML := if hasN (sel L a b) i then ⟨a, b, (sel L a b).getD i.toNat []⟩ else mZero
def fndE (L : List ML) (a b i : Int) : Int := if hasN (sel L a b) i then 0 else 4
/-- without the i-th one of a pair -/
def rmv (a b : Int) : Nat → List ML → List ML
  | _, [] => []
  | i, m :: r => if isP a b m then (match i with | 0 => r | i + 1 => m :: rmv a b i r) else m :: rmv a b i r
theorem rmv_hit0 {m : ML} {a b : Int} (r : List ML) (h : isP a b m = true) : rmv a b 0 (m :: r) = r := by simp [rmv, h]
theorem rmv_hit {m : ML} {a b : Int} (i : Nat) (r : List ML) (h : isP a b m = true) : rmv a b (i + 1) (m :: r) = m :: rmv a b i r := by simp [rmv, h]
theorem rmv_miss {m : ML} {a b : Int} (i : Nat) (r : List ML) (h : isP a b m = false) : rmv a b i (m :: r) = m :: rmv a b i r := by simp [rmv, h]
theorem sel_rmv (a b : Int) : ∀ (L : List ML) (i : Nat), sel (rmv a b i L) a b = (sel L a b).eraseIdx i
  | [], i => by simp [rmv, sel_nil]
  | m :: r, i => by
    cases h : isP a b m
    · rw [rmv_miss i r h, sel_cons_miss _ h, sel_cons_miss _ h, sel_rmv a b r i]
    · cases i with
      | zero => rw [rmv_hit0 r h, sel_cons_hit _ h]; rfl
      | succ i => rw [rmv_hit i r h, sel_cons_hit _ h, sel_cons_hit _ h, sel_rmv a b r i]; rfl
theorem sel_rmv_other {a b c d : Int} (hne : ¬ (c = a ∧ d = b)) : ∀ (L : List ML) (i : Nat), sel (rmv a b i L) c d = sel L c d
  | [], i => by simp [rmv]
  | m :: r, i => by
    cases h : isP a b m
    · rw [rmv_miss i r h]
      cases h2 : isP c d m
      · rw [sel_cons_miss _ h2, sel_cons_miss _ h2, sel_rmv_other hne r i]
      · rw [sel_cons_hit _ h2, sel_cons_hit _ h2, sel_rmv_other hne r i]
    · have h2 : isP c d m = false := by
        rw [isP_no]
        intro e
        have := isP_yes.1 h
        exact hne ⟨by omega, by omega⟩
      cases i with
      | zero => rw [rmv_hit0 r h, sel_cons_miss _ h2]
      | succ i => rw [rmv_hit i r h, sel_cons_miss _ h2, sel_cons_miss _ h2, sel_rmv_other hne r i]
theorem rmv_mem {a b : Int} {x : ML} : ∀ {L : List ML} {i : Nat}, x ∈ rmv a b i L → x ∈ L
  | [], i, h => by simp [rmv] at h
  | m :: r, i, h => by
    cases hp : isP a b m
    · rw [rmv_miss i r hp] at h
      rcases List.mem_cons.1 h with e | h
      · exact e ▸ List.mem_cons_self
      · exact List.mem_cons_of_mem _ (rmv_mem h)
    · cases i with
      | zero => rw [rmv_hit0 r hp] at h; exact List.mem_cons_of_mem _ h
      | succ i =>
        rw [rmv_hit i r hp] at h
        rcases List.mem_cons.1 h with e | h
        · exact e ▸ List.mem_cons_self
        · exact List.mem_cons_of_mem _ (rmv_mem h)
theorem rmv_len (a b : Int) : ∀ (L : List ML) (i : Nat), (rmv a b i L).length ≤ L.length
  | [], i => by simp [rmv]
  | m :: r, i => by
    cases hp : isP a b m
    · rw [rmv_miss i r hp]; have := rmv_len a b r i; simp; omega
    · cases i with
      | zero => rw [rmv_hit0 r hp]; simp
      | succ i => rw [rmv_hit i r hp]; have := rmv_len a b r i; simp; omega
/-- what stands there behind a taking out -/
def dlv (L : List ML) (a b i : Int) : List ML := if hasN (sel L a b) i then rmv a b i.toNat L else L
/-- what is told of a doubling, what stands there behind it -/
def dblE (cap : Nat) (L : List ML) (a b i : Int) : Int := if hasN (sel L a b) i then snd cap L (fndM L a b i) else 4
def dblL (cap : Nat) (L : List ML) (a b i : Int) : List ML := if hasN (sel L a b) i then sndL cap L (fndM L a b i) else L
/-- mail that may be: its addresses, its length -/
def ML.fit (m : ML) : Prop := isA m.fr = true ∧ isA m.to = true ∧ m.fr ≠ m.to ∧ m.txt.length ≤ 512
/-- all mail may be, and no pair has more than the capacity -/
def Fit (cap : Nat) (L : List ML) : Prop := (∀ m ∈ L, m.fit) ∧ ∀ a b, (sel L a b).length ≤ cap
theorem fit_nil (cap : Nat) : Fit cap [] := ⟨by simp, fun a b => by simp [sel_nil]⟩
theorem fit_snd {cap : Nat} {L : List ML} (m : ML) (h : Fit cap L) : Fit cap (sndL cap L m) := by
  by_cases h1 : (!isA m.fr || !isA m.to || m.fr == m.to) = true
  · rw [sndL_no (by rw [snd_arg h1]; omega)]; exact h
  have h1 : (!isA m.fr || !isA m.to || m.fr == m.to) = false := by simpa using h1
  by_cases h2 : 512 < m.txt.length
  · rw [sndL_no (by rw [snd_long h1 h2]; omega)]; exact h
  by_cases h3 : cap ≤ (sel L m.fr m.to).length
  · rw [sndL_no (by rw [snd_full h1 h2 h3]; omega)]; exact h
  rw [sndL_ok (snd_ok h1 h2 h3)]
  simp only [Bool.or_eq_false_iff, Bool.not_eq_false', beq_eq_false_iff_ne] at h1
  refine ⟨fun x hx => ?_, fun a b => ?_⟩
  · rcases List.mem_append.1 hx with hx | hx
    · exact h.1 x hx
    · obtain rfl := List.mem_singleton.1 hx
      exact ⟨h1.1.1, h1.1.2, h1.2, by omega⟩
  · cases hp : isP a b m
    · rw [sel_snoc_miss L hp]; exact h.2 a b
    · obtain ⟨e1, e2⟩ := isP_yes.1 hp
      subst e1; subst e2
      rw [sel_snoc_hit L hp]; simp; omega
theorem fit_rmv {cap : Nat} {L : List ML} (a b : Int) (i : Nat) (h : Fit cap L) : Fit cap (rmv a b i L) := by
  refine ⟨fun x hx => h.1 x (rmv_mem hx), fun c d => ?_⟩
  by_cases e : c = a ∧ d = b
  · obtain ⟨rfl, rfl⟩ := e
    rw [sel_rmv]
    exact Nat.le_trans (List.length_eraseIdx_le _ _) (h.2 c d)
  · rw [sel_rmv_other e]; exact h.2 c d
theorem fit_dlv {cap : Nat} {L : List ML} (a b i : Int) (h : Fit cap L) : Fit cap (dlv L a b i) := by
  unfold dlv
  split
  · exact fit_rmv a b _ h
  · exact h
theorem fit_dbl {cap : Nat} {L : List ML} (a b i : Int) (h : Fit cap L) : Fit cap (dblL cap L a b i) := by
  unfold dblL
  split
  · exact fit_snd _ h
  · exact h
theorem snd_len (cap : Nat) (L : List ML) (m : ML) : (sndL cap L m).length ≤ L.length + 1 := by unfold sndL; split <;> simp
theorem dlv_len (L : List ML) (a b i : Int) : (dlv L a b i).length ≤ L.length := by
  unfold dlv
  split
  · exact rmv_len a b L _
  · omega
theorem dbl_len (cap : Nat) (L : List ML) (a b i : Int) : (dblL cap L a b i).length ≤ L.length + 1 := by
  unfold dblL
  split
  · exact snd_len cap L _
  · omega
end Go.Proofs.Ytngldlfobdiipaa.Lk
