/-
  Chains: a slice of members where it lies; contracts of mayBe, place, Check.
-/
import Derived.Test.YtfplgmkbhpdmjaaChainsA
import Derived.Test.YtfplgmkbhpdmjaaKitX
import Derived.StillTailTactics
namespace Go.Proofs.Ytfplgmkbhpdmjaa.Ch
open Go.ChangeShapes Go.WideShapes Go.ChangeAt Go.RowKit
set_option linter.unusedVariables false
/-- a slice that has these members -/
structure Sl (w : World) (ad : Option Addr) (cap : Nat) (L : List MT) : Prop where
  rows : RowsIn MT.cells (fun _ => True) 2 w ad L
  room : L.length ≤ cap
  few : L.length ≤ 100
  nil : ad = none → cap = 0
section
variable {w w' : World} {ad : Option Addr} {cap : Nat} {L : List MT}
theorem Sl.no (h : Sl w ad cap L) (k : Chg noBlk w w') : Sl w' ad cap L := ⟨rows_no h.rows k, h.room, h.few, h.nil⟩
theorem Sl.at (h : Sl w ad cap L) {i : Nat} {x : MT} (hx : L[i]? = some x) : ∃ g off, ad = some ⟨g, off, none⟩ ∧ w.cell? ⟨g, off + i * 2, none⟩ = some (.int .i64 x.node) ∧ w.cell? ⟨g, off + i * 2 + 1, none⟩ = some (.int .i64 x.since) := by
  obtain ⟨_, g, off, e, r⟩ := h.rows i x hx
  exact ⟨g, off, e, r 0 _ rfl, r 1 _ rfl⟩
theorem Sl.reads (h : Sl w ad cap L) : Reads w 2 (.slice ad L.length cap) L.length (flatC MT.cells L) := by
  refine ⟨flatC_length MT.len L, flatC_one MT.one L, ?_⟩
  cases ad with
  | none =>
    have hc := h.nil rfl
    have hl : L = [] := List.eq_nil_of_length_eq_zero (by have := h.room; omega)
    subst hl
    subst hc
    exact .inl ⟨rfl, rfl⟩
  | some a =>
    refine .inr ⟨a, cap, rfl, h.room, fun j u hu => ?_⟩
    have hj : j < L.length * 2 := by have := (List.getElem?_eq_some_iff.1 hu).1; rwa [flatC_length MT.len] at this
    obtain ⟨x, hx⟩ : ∃ x, L[j / 2]? = some x := ⟨_, List.getElem?_eq_getElem (by omega)⟩
    obtain ⟨_, g, off, e, r⟩ := h.rows (j / 2) x hx
    obtain rfl : a = ⟨g, off, none⟩ := Option.some.inj e
    have e2 := flatC_get MT.len hx (j := j % 2) (by omega)
    rw [show j / 2 * 2 + j % 2 = j by omega, hu] at e2
    have := r (j % 2) u e2.symm
    rwa [Addr.add_mid, show off + j = off + j / 2 * 2 + j % 2 by omega]
theorem sl_own {e : TypeId} {v : Value} (h : OwnL w e MT.cells 2 v L) (hf : L.length ≤ 100) : ∃ ad cap, v = .slice ad L.length cap ∧ Sl w ad cap L := by
  rcases h.2 with ⟨rfl, hz⟩ | ⟨g, cap, cur, rfl, hbase, hb, r1, r2, r3, r4⟩
  · have : L = [] := List.eq_nil_of_length_eq_zero hz
    subst this
    exact ⟨none, 0, rfl, fun i a h => by simp at h, by simp, by simp, fun _ => rfl⟩
  · refine ⟨some ⟨g, 0, none⟩, cap, rfl, fun i x hx => ⟨trivial, g, 0, rfl, fun j u hu => ?_⟩, r1, hf, fun h => by cases h⟩
    have hj : j < 2 := (List.getElem?_eq_some_iff.1 hu).1
    have e := flatC_get MT.len hx hj
    rw [hu] at e
    have := World.ownsRow.cells h (g := g) rfl (i * 2 + j) u e
    rwa [Addr.add_mid, ← Nat.add_assoc] at this
end
theorem mayBe_any (c : Int) (w : World) : Calls Try.prog 65 #[.int .i64 c] w (Told (.bool (mayB c)) w) := by
  have e : mayB c = (decide (0 ≤ c) && decide (c < 6)) := by unfold mayB; congr 1; exact decide_eq_decide.2 (by omega)
  rw [e]
  by_cases h1 : 0 ≤ c
  · have d1 : decide (0 ≤ c) = true := decide_eq_true h1
    rw [d1]
    clear e
    go_enter Try.func65, Try.ntmps65
    go_wp2
    go_ret
    exact ⟨rfl, rfl⟩
  · have d1 : decide (0 ≤ c) = false := decide_eq_false h1
    rw [d1]
    clear e
    go_enter Try.func65, Try.ntmps65
    go_wp2
    go_ret
    exact ⟨rfl, rfl⟩
set_option maxRecDepth 100000 in
theorem here_any (x s n : Int) (q : Nat) (b : Bool) (hb : (x == n) = b) (w : World) (hq : w.cell? ⟨q, 0, none⟩ = some (.int .i64 n)) : Calls Try.prog 71 #[.agg #[.int .i64 x, .int .i64 s], .pointer (some ⟨q, 0, none⟩)] w (ToldN (.bool b) w) := by
  have HQ := hide (fun w' (k : Chg noBlk w w') => k.cell hq id)
  clear hq
  go_enter Try.func71, Try.ntmps71
  go_wp2_with ((with_reducible show wpList _ _ _ (_ :: _) _ _); refine wpL_box rfl 61 _ rfl _ (by rfl) ?_; intro p w1 e1 k1 g1 z1; have c0 : w1.cell? ⟨p, 0, none⟩ = some (.int .i64 x) := cellAt g1 0 _ rfl; have c1 := unhide HQ _ k1; clear e1 z1)
  go_ret
  exact ⟨rfl, k1⟩
set_option maxRecDepth 100000 in
theorem index_any {w : World} {ad : Option Addr} {cap : Nat} {L : List MT} {q : Nat} {n : Int} (h : Sl w ad cap L) (hq : w.cell? ⟨q, 0, none⟩ = some (.int .i64 n)) :
    Calls Try.prog 70 #[.slice ad L.length cap, .func (.func 71) #[] #[.pointer (some ⟨q, 0, none⟩)]] w (ToldN (.int .i64 (pos n L)) w) := by
  have HQ := hide (fun w' (k : Chg noBlk w w') => k.cell hq id)
  have HL := hide (fun w' (k : Chg noBlk w w') => h.no k)
  have hf := h.few
  clear hq h
  go_enter Try.func70, Try.ntmps70
  go_wp2
  go_loopw [8] (fun i wr => ∃ k : Nat, k ≤ L.length ∧ i = .int .i64 (k : Int) ∧ (∀ (j : Nat) x, j < k → L[j]? = some x → x.node ≠ n) ∧ Chg noBlk w wr) (fun i wr => L.length - (intOf i).toNat)
  case atStart => exact ⟨0, by omega, rfl, fun j x hj => by omega, Chg.refl _ _⟩
  case round =>
    obtain ⟨k, hk, rfl, hno, hch⟩ := hrel
    have HN := hide hno
    clear hno
    by_cases hlt : k < L.length
    · obtain ⟨x, hx⟩ : ∃ x, L[k]? = some x := ⟨_, List.getElem?_eq_getElem hlt⟩
      obtain ⟨g, off, rfl, c0, c1⟩ := (unhide HL _ hch).at hx
      have HX := hide hx
      have i1 : (0 : Int) ≤ (k : Int) := by omega
      have i2 : (k : Int) < (L.length : Int) := by omega
      clear hx
      have HC := hide (fun w' (k : Chg noBlk w w') => k.cell (unhide HQ _ (Chg.refl _ _)) id)
      by_cases hn : x.node = n
      · have hb : (x.node == n) = true := by simp [hn]
        have HH := hide (here_any x.node x.since n q true hb wr (unhide HQ _ hch))
        have HE := hide (pos_at (unhide HX) hn (unhide HN))
        clear hb hn HC
        go_wp2_with (go_at_call 71; (with_reducible refine (unhide HH).mono ?_); rintro e w2 ⟨rfl, k2⟩)
        go_ret
        exact ⟨ret_int (unhide HE).symm, hch.andNo k2⟩
      · have hb : (x.node == n) = false := by simp [hn]
        have HH := hide (here_any x.node x.since n q false hb wr (unhide HQ _ hch))
        have HE := hide (show ∀ (j : Nat) y, j < k + 1 → L[j]? = some y → y.node ≠ n from fun j y hj hy => by
          by_cases e : j = k
          · subst e
            rw [unhide HX] at hy
            cases hy
            exact hn
          · exact unhide HN j y (by omega) hy)
        clear hb hn HC
        go_wp2_with (go_at_call 71; (with_reducible refine (unhide HH).mono ?_); rintro e w2 ⟨rfl, k2⟩)
        go_roundw
        case rel => exact ⟨k + 1, by omega, by go_num, unhide HE, hch.andNo k2⟩
        case measure => simp [intOf]; omega
    · obtain rfl : k = L.length := by omega
      have HE := hide (pos_no (n := n) (L := L) fun j x hx => unhide HN j x (List.getElem?_eq_some_iff.1 hx).1 hx)
      go_wp2
      go_ret
      exact ⟨ret_int (unhide HE).symm, hch⟩
set_option maxRecDepth 100000 in
theorem place_any {w : World} {ad : Option Addr} {cap : Nat} {L : List MT} (h : Sl w ad cap L) (n : Int) :
    Calls Try.prog 66 #[.slice ad L.length cap, .int .i64 n] w (ToldN (.int .i64 (pos n L)) w) := by
  have hmf : ∀ (fn : Fn) (first cap : Array Value) (w : World), (Instr.makeFunc fn first cap).run Try.prog w = .ok (.func fn first cap) w := fun _ _ _ _ => rfl
  have HL := hide (fun w' (k : Chg noBlk w w') q hq => index_any (w := w') (q := q) (n := n) (h.no k) hq)
  clear h
  go_enter Try.func66, Try.ntmps66
  go_wp2_with (first
    | ((with_reducible show wpList _ _ _ (_ :: _) _ _); refine wpL_box1 rfl 3 _ rfl (.int .i64 n) (by rfl) rfl ?_; intro p w1 e1 k1 g1 z1; have c0 : w1.cell? ⟨p, 0, none⟩ = some (.int .i64 n) := cellAt g1 0 _ rfl; clear e1 z1)
    | (go_at_call 70; (with_reducible refine (unhide HL _ k1 _ c0).mono ?_); rintro e w2 ⟨rfl, k2⟩))
  go_ret
  exact ⟨rfl, k1.andNo k2⟩
#print axioms place_any
end Go.Proofs.Ytfplgmkbhpdmjaa.Ch
