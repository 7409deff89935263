/-
  Links: what is sent is delivered once: plain; what is wanted, in an array of four.
-/
import Derived.Test.YtngldlfobdiipaaLinksM
import Derived.Test.YtngldlfobdiipaaLinksP
import Derived.Test.YtngldlfobdiipaaKitI
namespace Go.Proofs.Ytngldlfobdiipaa.Lk
open Go.ChangeShapes Go.WideShapes Go.ChangeAt Go.RowKit
set_option linter.unusedVariables false
/-- all is sent by 5, to one of four -/
def Mails (L : List ML) : Prop := ∀ m ∈ L, m.fr = 5 ∧ 0 ≤ m.to ∧ m.to < 4
theorem mails_nil : Mails [] := fun m h => by cases h
theorem mails_app {L : List ML} (h : Mails L) {n : Nat} (hn : n < 4) (t : List UInt8) : Mails (L ++ [⟨5, n, t⟩]) := fun m hm => by
  rcases List.mem_append.1 hm with hm | hm
  · exact h m hm
  · obtain rfl := List.mem_singleton.1 hm
    exact ⟨rfl, Int.natCast_nonneg n, by show (n : Int) < 4; omega⟩
theorem mails_rmv {L : List ML} (h : Mails L) (a b : Int) (i : Nat) : Mails (rmv a b i L) := fun m hm => h m (rmv_mem hm)
/-- a node's texts -/
abbrev tx (L : List ML) (n : Nat) : List (List UInt8) := sel L 5 n
theorem mails_len {L : List ML} (h : Mails L) : L.length = (tx L 0).length + (tx L 1).length + (tx L 2).length + (tx L 3).length := by
  have := sum_all (L := L) (ps := [(5, 0), (5, 1), (5, 2), (5, 3)]) (by decide) (fun m hm => by
    obtain ⟨h1, h2, h3⟩ := h m hm
    rw [h1]
    have : m.to = 0 ∨ m.to = 1 ∨ m.to = 2 ∨ m.to = 3 := by omega
    rcases this with e | e | e | e <;> rw [e] <;> simp)
  rw [← this]
  simp only [List.map_cons, List.map_nil, List.sum_cons, List.sum_nil]
  show (tx L 0).length + ((tx L 1).length + ((tx L 2).length + ((tx L 3).length + 0))) = _
  omega
theorem mails_none {L : List ML} (h : Mails L) (h0 : ∀ n : Nat, n < 4 → tx L n = []) : L = [] := by
  have e := mails_len h
  rw [h0 0 (by omega), h0 1 (by omega), h0 2 (by omega), h0 3 (by omega)] at e
  exact List.eq_nil_of_length_eq_zero e
theorem isA5 : isA 5 = true := by rfl
theorem isAn {n : Nat} (h : n < 4) : isA (n : Int) = true := isA_yes.2 (.inl ⟨by omega, by omega⟩)
theorem wfI5 : wfI 5 := wfI_of (by omega)
theorem wfIn {n : Nat} (h : n < 4) : wfI (n : Int) := wfI_of (by omega)
theorem arg5 {n : Nat} (h : n < 4) (t : List UInt8) : (!isA (⟨5, n, t⟩ : ML).fr || !isA (⟨5, n, t⟩ : ML).to || (⟨5, n, t⟩ : ML).fr == (⟨5, n, t⟩ : ML).to) = false := by
  have h1 : isA (⟨5, n, t⟩ : ML).fr = true := isA5
  have h2 : isA (⟨5, n, t⟩ : ML).to = true := isAn h
  have h3 : ((⟨5, n, t⟩ : ML).fr == (⟨5, n, t⟩ : ML).to) = false := beq_eq_false_iff_ne.2 (by show (5 : Int) ≠ n; omega)
  rw [h1, h2, h3]
  rfl
theorem snd5_ok {L : List ML} {n : Nat} (hn : n < 4) {t : List UInt8} (ht : t.length ≤ 512) (hl : (tx L n).length < 64) : snd 64 L ⟨5, n, t⟩ = 0 ∧ sndL 64 L ⟨5, n, t⟩ = L ++ [⟨5, n, t⟩] := by
  have e := snd_ok (cap := 64) (L := L) (arg5 hn t) (by show ¬ 512 < t.length; omega) (by show ¬ 64 ≤ (tx L n).length; omega)
  exact ⟨e, sndL_ok e⟩
theorem snd5_full {L : List ML} {n : Nat} (hn : n < 4) {t : List UInt8} (ht : t.length ≤ 512) (hl : 64 ≤ (tx L n).length) : snd 64 L ⟨5, n, t⟩ = 60 ∧ sndL 64 L ⟨5, n, t⟩ = L := by
  have e := snd_full (cap := 64) (L := L) (arg5 hn t) (by show ¬ 512 < t.length; omega) (by show 64 ≤ (tx L n).length; omega)
  exact ⟨e, sndL_no (by rw [e]; omega)⟩
theorem tx_app {L : List ML} (n : Nat) (t : List UInt8) : tx (L ++ [⟨5, n, t⟩]) n = tx L n ++ [t] := sel_snoc_hit L (isP_yes.2 ⟨rfl, rfl⟩)
theorem tx_other {L : List ML} {n k : Nat} (h : k ≠ n) (t : List UInt8) : tx (L ++ [⟨5, n, t⟩]) k = tx L k := sel_snoc_miss L (isP_no.2 fun e => h (by have : (n : Int) = k := e.2; omega))
theorem has5 {L : List ML} {n : Nat} (h : tx L n ≠ []) : hasN (sel L 5 n) 0 = true := hasN_yes.2 ⟨by omega, by have := List.length_pos_iff.2 h; show (0 : Int) < ((tx L n).length : Int); omega⟩
theorem drop5 {L : List ML} {n : Nat} (h : tx L n ≠ []) : fndE L 5 n 0 = 0 ∧ dlv L 5 n 0 = rmv 5 n 0 L := by
  unfold fndE dlv
  rw [has5 h]
  exact ⟨rfl, rfl⟩
theorem find5 {L : List ML} {n : Nat} {t : List UInt8} {r : List (List UInt8)} (h : tx L n = t :: r) : fndM L 5 n 0 = ⟨5, n, t⟩ := by
  unfold fndM
  rw [has5 (by rw [h]; simp)]
  have e : sel L 5 n = t :: r := h
  rw [e]
  rfl
theorem dbl5 {L : List ML} {n : Nat} (hn : n < 4) {t : List UInt8} {r : List (List UInt8)} (h : tx L n = t :: r) (ht : t.length ≤ 512) (hl : (tx L n).length < 64) : dblE 64 L 5 n 0 = 0 ∧ dblL 64 L 5 n 0 = L ++ [⟨5, n, t⟩] := by
  unfold dblE dblL
  rw [has5 (by rw [h]; simp), find5 h]
  exact snd5_ok hn ht hl
theorem tx_rmv {L : List ML} {n : Nat} : tx (rmv 5 n 0 L) n = (tx L n).eraseIdx 0 := sel_rmv 5 n L 0
theorem tx_rmv_other {L : List ML} {n k : Nat} (h : k ≠ n) : tx (rmv 5 n 0 L) k = tx L k := sel_rmv_other (fun e => h (by have := e.2; omega)) L 0
theorem fit_head {L : List ML} {cap n : Nat} (h : Fit cap L) {t : List UInt8} {r : List (List UInt8)} (ht : tx L n = t :: r) : t.length ≤ 512 := by
  have : t ∈ sel L 5 n := by
    have e : sel L 5 n = t :: r := ht
    rw [e]; simp
  unfold sel at this
  obtain ⟨m, hm, rfl⟩ := List.mem_map.1 this
  exact (h.1 m (List.mem_filter.1 hm).1).2.2.2
/-! ### what is wanted -/
/-- four slices' cells -/
def wtC (hv : Nat → Value) : Array Value := #[hv 0, hv 1, hv 2, hv 3]
theorem wt_at (hv : Nat → Value) {n : Nat} (h : n < 4) : (wtC hv)[n]? = some (hv n) := by
  rcases n with _ | _ | _ | _ | n
  · rfl
  · rfl
  · rfl
  · rfl
  · omega
def nset (hv : Nat → Value) (n : Nat) (v : Value) : Nat → Value := fun k => if k = n then v else hv k
theorem nset_same (hv : Nat → Value) (n : Nat) (v : Value) : nset hv n v n = v := if_pos rfl
theorem nset_other (hv : Nat → Value) {n k : Nat} (v : Value) (h : k ≠ n) : nset hv n v k = hv k := if_neg h
theorem wt_set (hv : Nat → Value) {n : Nat} (h : n < 4) (v : Value) : (wtC hv).setIfInBounds n v = wtC (nset hv n v) := by
  rcases n with _ | _ | _ | _ | n
  · rfl
  · rfl
  · rfl
  · rfl
  · omega
/-- wanted: each node's texts, in slices that no links have -/
structure WantAt (w : World) (S : Nat → Prop) (wb : Nat) (hv : Nat → Value) (T : Nat → List (List UInt8)) : Prop where
  blk : w.heap[wb]? = some (.cells (wtC hv) 54 (0, 0))
  out : ¬ S wb
  row : ∀ n, n < 4 → Reads w 1 (hv n) (T n).length (flatC txC (T n))
  own : ∀ n, n < 4 → ∀ g, (hv n).ownBlock = some g → ¬ S g ∧ g ≠ wb ∧ g < w.heap.size
section
variable {w w' : World} {S S' : Nat → Prop} {wb : Nat} {hv : Nat → Value} {T T' : Nat → List (List UInt8)}
theorem WantAt.lt (h : WantAt w S wb hv T) : wb < w.heap.size := lt_of_block h.blk
theorem WantAt.no (h : WantAt w S wb hv T) (k : Chg noBlk w w') : WantAt w' S wb hv T := ⟨k.at h.blk id, h.out, fun n hn => (h.row n hn).kept k fun _ _ _ => id, fun n hn g hg => ⟨(h.own n hn g hg).1, (h.own n hn g hg).2.1, k.lt (h.own n hn g hg).2.2⟩⟩
/-- the links have turned -/
theorem WantAt.step (h : WantAt w S wb hv T) (k : Chg S w w') (g : Grew S w S' w') : WantAt w' S' wb hv T :=
  ⟨k.at h.blk h.out, g.out h.out h.lt, fun n hn => (h.row n hn).kept k fun i hi _ => (h.own n hn i hi).1, fun n hn i hi => ⟨g.out (h.own n hn i hi).1 (h.own n hn i hi).2.2, (h.own n hn i hi).2.1, k.lt (h.own n hn i hi).2.2⟩⟩
/-- one of them written -/
theorem WantAt.put (h : WantAt w S wb hv T) {n : Nat} (hn : n < 4) {v : Value} {t : List (List UInt8)} (k : Chg (oneBlk wb) w w') (hb : w'.heap[wb]? = some (.cells ((wtC hv).setIfInBounds n v) 54 (0, 0))) (hr : Reads w 1 v t.length (flatC txC t)) (ho : ∀ g, v.ownBlock = some g → ¬ S g ∧ g ≠ wb ∧ g < w.heap.size)
    (hT : T' n = t) (hT' : ∀ k, k ≠ n → T' k = T k) : WantAt w' S wb (nset hv n v) T' := by
  refine ⟨by rw [wt_set hv hn] at hb; exact hb, h.out, fun m hm => ?_, fun m hm g hg => ?_⟩
  · by_cases e : m = n
    · subst e
      rw [nset_same, hT]
      exact hr.kept k fun i hi _ e => (ho i hi).2.1 e
    · rw [nset_other hv v e, hT' m e]
      exact (h.row m hm).kept k fun i hi _ e => (h.own m hm i hi).2.1 e
  · by_cases e : m = n
    · subst e
      rw [nset_same] at hg
      exact ⟨(ho g hg).1, (ho g hg).2.1, k.lt (ho g hg).2.2⟩
    · rw [nset_other hv v e] at hg
      exact ⟨(h.own m hm g hg).1, (h.own m hm g hg).2.1, k.lt (h.own m hm g hg).2.2⟩
theorem WantAt.cell (h : WantAt w S wb hv T) {n : Nat} (hn : n < 4) : w.cell? ⟨wb, n, none⟩ = some (hv n) := cellAt h.blk n _ (wt_at hv hn)
end
theorem reads_form {w : World} {v : Value} {T : List (List UInt8)} (h : Reads w 1 v T.length (flatC txC T)) : ∃ ad cap, v = .slice ad T.length cap ∧ T.length ≤ cap ∧ ∀ (j : Nat) t, T[j]? = some t → ∃ a, ad = some a ∧ w.cell? (a.add j) = some (str t) := by
  obtain ⟨h1, h2, h3⟩ := h
  rcases h3 with ⟨rfl, hz⟩ | ⟨ad, cap, rfl, hle, hc⟩
  · refine ⟨none, 0, by rw [hz], by omega, fun j t hj => ?_⟩
    have := (List.getElem?_eq_some_iff.1 hj).1
    omega
  · refine ⟨some ad, cap, rfl, hle, fun j t hj => ⟨ad, rfl, ?_⟩⟩
    have := flatC_get (c := txC) txC_len hj (j := 0) (by omega)
    rw [Nat.mul_one, Nat.add_zero] at this
    exact hc j _ (by rw [this]; rfl)
theorem zero_want : (Try.prog.info? 54).bind (·.zero) = some (.agg (wtC fun _ => nilS)) := by kernel_rfl
theorem want_nil {w : World} {S : Nat → Prop} {wb : Nat} (hb : w.heap[wb]? = some (.cells (wtC fun _ => nilS) 54 (0, 0))) (ho : ¬ S wb) : WantAt w S wb (fun _ => nilS) (fun _ => []) :=
  ⟨hb, ho, fun n hn => Reads.nil w 1, fun n hn g hg => by cases hg⟩
end Go.Proofs.Ytngldlfobdiipaa.Lk
