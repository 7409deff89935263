/-
  Chains: a chain's bytes, and what chain bytes are, as plain functions.
-/
import Derived.Test.YtfplgmkbhpdmjaaChainsE
import Derived.Test.YtfplgmkbhpdmjaaCodecX
namespace Go.Proofs.Ytfplgmkbhpdmjaa.Ch
open Go.ChangeShapes Go.WideShapes Go.ChangeAt Go.RowKit
set_option linter.unusedVariables false
theorem int_n (n : Int) (h : -9223372036854775808 ≤ n ∧ n ≤ 9223372036854775807) (w : World) : Calls Try.prog 45 #[.int .i64 n] w (ToldN (str (intL n)) w) :=
  (int_any n h.1 h.2 w).mono fun _ _ ⟨a, b⟩ => ⟨a, Chg.ofBelow b⟩
theorem rint_n (n : Int) (h : -9223372036854775808 ≤ n ∧ n ≤ 9223372036854775807) (w : World) : Calls Try.prog 41 #[.int .i64 n] w (ToldN (str (intL n)) w) :=
  (rint_any n h.1 h.2 w).mono fun _ _ ⟨a, b⟩ => ⟨a, Chg.ofBelow b⟩
theorem intL_len (n : Int) : (intL n).length ≤ 9 := by
  unfold intL
  split
  · simp
  · exact (numL_len _ (by omega)).1
theorem unint_ways (l : List UInt8) : unintT l = (0, [], false) ∨ ∃ k r, unintT l = (k, r, true) ∧ intL k ++ r = l ∧ -1 ≤ k ∧ k ≤ 1099511627776 := by
  cases h : readL l with
  | none => exact .inl (unintT_none h)
  | some x =>
    obtain ⟨n, r⟩ := x
    by_cases hn : (n : Int) > 1099511627777
    · exact .inl (unintT_big h hn)
    · refine .inr ⟨_, _, unintT_some h hn, ?_, by omega, by omega⟩
      rw [intL_in _ (by omega) (by omega), show ((n : Int) - 1 + 1).toNat = n by omega]
      exact (put_read l n r h).1
theorem unint_put (k : Int) (X : List UInt8) (h0 : -1 ≤ k) (h1 : k ≤ 1099511627776) : unintT (intL k ++ X) = (k, X, true) := by
  have e := read_put (k + 1).toNat X (by omega)
  rw [intL_in _ h0 h1, unintT_some e (by omega)]
  congr 1; omega
/-- a member's bytes -/
def memL (m : MT) : List UInt8 := intL m.node ++ intL m.since
/-- members' bytes -/
def memsL : List MT → List UInt8
  | [] => []
  | m :: r => memL m ++ memsL r
theorem memsL_app (L M : List MT) : memsL (L ++ M) = memsL L ++ memsL M := by
  induction L with
  | nil => rfl
  | cons m r ih => simp [memsL, ih]
theorem memsL_snoc {L : List MT} {k : Nat} {x : MT} (hx : L[k]? = some x) : memsL (L.take (k + 1)) = memsL (L.take k) ++ memL x := by
  have hk := (List.getElem?_eq_some_iff.1 hx).1
  rw [List.take_succ_eq_append_getElem hk, memsL_app, (List.getElem?_eq_some_iff.1 hx).2]
  simp [memsL]
theorem memL_len (m : MT) : (memL m).length ≤ 18 := by
  have h1 := intL_len m.node
  have h2 := intL_len m.since
  simp [memL]
  omega
theorem memsL_len (L : List MT) : (memsL L).length ≤ 18 * L.length := by
  induction L with
  | nil => simp [memsL]
  | cons m r ih =>
    have := memL_len m
    simp [memsL]
    omega
/-- ahead of the first k members, and they -/
def headL (c : CT) (k : Nat) : List UInt8 := intL c.ep ++ intL c.ms.length ++ memsL (c.ms.take k)
/-- a chain's bytes -/
def putL (c : CT) : List UInt8 := headL c c.ms.length ++ intL c.dr
def putB (c : CT) : List UInt8 := if good c then putL c else []
theorem putB_yes {c : CT} (h : good c = true) : putB c = putL c := if_pos h
theorem putB_no {c : CT} (h : good c = false) : putB c = [] := if_neg (by simp [h])
theorem headL_len (c : CT) (k : Nat) (h : c.ms.length ≤ 6) : (headL c k).length ≤ 126 := by
  have h1 := intL_len c.ep
  have h2 := intL_len c.ms.length
  have h3 := memsL_len (c.ms.take k)
  rw [List.length_take] at h3
  simp [headL]
  omega
theorem putL_len (c : CT) (h : c.ms.length ≤ 6) : (putL c).length ≤ 135 := by
  have h1 := headL_len c c.ms.length h
  have h2 := intL_len c.dr
  simp [putL]
  omega
theorem putL_eq (c : CT) : putL c = intL c.ep ++ (intL c.ms.length ++ (memsL c.ms ++ intL c.dr)) := by
  simp [putL, headL]
/-- numbers that have bytes -/
structure Fits (c : CT) : Prop where
  ep : -1 ≤ c.ep ∧ c.ep ≤ 1099511627776
  len : c.ms.length ≤ 6
  mem : ∀ x ∈ c.ms, (-1 ≤ x.node ∧ x.node ≤ 1099511627776) ∧ (-1 ≤ x.since ∧ x.since ≤ 1099511627776)
  dr : -1 ≤ c.dr ∧ c.dr ≤ 1099511627776
theorem good_fits {c : CT} (g : good c = true) : Fits c := by
  have g := good_iff.1 g
  have hm : ∀ x ∈ c.ms, (0 ≤ x.node ∧ x.node ≤ 5) ∧ 1 ≤ x.since ∧ x.since ≤ c.ep := fun x hx => by
    obtain ⟨k, hk⟩ := List.mem_iff_getElem?.1 hx
    have := memB_yes.1 (g.mem k x hk)
    exact ⟨this.1, this.2.2⟩
  refine ⟨⟨by have := g.ep1; omega, g.ep2⟩, g.len2, fun x hx => ?_, ?_⟩
  · have := hm x hx
    have := g.ep2
    omega
  · rcases g.dr with h | h
    · omega
    · obtain ⟨i, m, _, hx, hn, _⟩ := pos_yes (show ¬ pos c.dr c.ms < 0 by omega)
      have := hm m (List.mem_of_getElem? hx)
      omega
/-! ### what stands ahead -/
theorem int_ahead {a b : Int} {X Y : List UInt8} (h : intL a ++ X = intL b ++ Y) (ha : -1 ≤ a ∧ a ≤ 1099511627776) (hb : -1 ≤ b ∧ b ≤ 1099511627776) : a = b ∧ X = Y := by
  have e1 := unint_put a X ha.1 ha.2
  have e2 := unint_put b Y hb.1 hb.2
  rw [h, e2] at e1
  simp only [Prod.mk.injEq] at e1
  exact ⟨e1.1.symm, e1.2.1.symm⟩
theorem mems_ahead : ∀ (L M : List MT) {X Y : List UInt8}, memsL L ++ X = memsL M ++ Y → L.length = M.length → (∀ x ∈ L, (-1 ≤ x.node ∧ x.node ≤ 1099511627776) ∧ (-1 ≤ x.since ∧ x.since ≤ 1099511627776)) → (∀ x ∈ M, (-1 ≤ x.node ∧ x.node ≤ 1099511627776) ∧ (-1 ≤ x.since ∧ x.since ≤ 1099511627776)) → L = M ∧ X = Y
  | [], [], X, Y, h, _, _, _ => ⟨rfl, h⟩
  | [], _ :: _, _, _, _, hl, _, _ => by simp at hl
  | _ :: _, [], _, _, _, hl, _, _ => by simp at hl
  | x :: L, y :: M, X, Y, h, hl, h1, h2 => by
    simp only [memsL, memL, List.append_assoc] at h
    have p := h1 x (by simp)
    have q := h2 y (by simp)
    obtain ⟨e1, h⟩ := int_ahead h p.1 q.1
    obtain ⟨e2, h⟩ := int_ahead h p.2 q.2
    obtain ⟨e3, e4⟩ := mems_ahead L M h (by simpa using hl) (fun z hz => h1 z (by simp [hz])) (fun z hz => h2 z (by simp [hz]))
    obtain ⟨a, b⟩ := x
    obtain ⟨a', b'⟩ := y
    simp only at e1 e2
    subst e1
    subst e2
    exact ⟨by rw [e3], e4⟩
/-- no chain's bytes stand ahead of another one's -/
theorem put_ahead {c d : CT} {X Y : List UInt8} (hc : Fits c) (hd : Fits d) (h : putL c ++ X = putL d ++ Y) : c = d ∧ X = Y := by
  rw [putL_eq, putL_eq] at h
  simp only [List.append_assoc] at h
  obtain ⟨e1, h⟩ := int_ahead h hc.ep hd.ep
  obtain ⟨e2, h⟩ := int_ahead h (by have := hc.len; omega) (by have := hd.len; omega)
  obtain ⟨e3, h⟩ := mems_ahead _ _ h (by omega) hc.mem hd.mem
  obtain ⟨e4, hXY⟩ := int_ahead h hc.dr hd.dr
  clear h
  obtain ⟨a, b, f⟩ := c
  obtain ⟨a', b', f'⟩ := d
  simp only at e1 e3 e4
  exact ⟨by rw [e1, e3, e4], hXY⟩
/-! ### the chain of bytes -/
/-- bytes that are c's -/
def IsOf (l : List UInt8) (c : CT) : Prop := good c = true ∧ putL c = l
theorem isOf_one {l : List UInt8} {c d : CT} (h : IsOf l c) (k : IsOf l d) : c = d := by
  have e : putL c ++ [] = putL d ++ [] := by rw [h.2, k.2]
  exact (put_ahead (good_fits h.1) (good_fits k.1) e).1
theorem isOf_cut {c d : CT} {k : Nat} (h : good c = true) (hk : k < (putL c).length) : ¬ IsOf ((putL c).take k) d := by
  intro h2
  have e : putL d ++ (putL c).drop k = putL c ++ [] := by rw [h2.2, List.take_append_drop, List.append_nil]
  have := (put_ahead (good_fits h2.1) (good_fits h) e).2
  have hl := congrArg List.length this
  simp at hl
  omega
theorem isOf_more {c d : CT} {b : UInt8} (h : good c = true) : ¬ IsOf (putL c ++ [b]) d := by
  intro h2
  have e : putL d ++ [] = putL c ++ [b] := by rw [h2.2, List.append_nil]
  have := (put_ahead (good_fits h2.1) (good_fits h) e).2
  cases this
theorem putL_pos (c : CT) (h : good c = true) : 0 < (putL c).length := by
  rw [putL_eq]
  have g := good_fits h
  have := (numL_len (c.ep + 1).toNat (by have := g.ep; omega)).2
  rw [intL_in _ g.ep.1 g.ep.2]
  simp
  omega
end Go.Proofs.Ytfplgmkbhpdmjaa.Ch
