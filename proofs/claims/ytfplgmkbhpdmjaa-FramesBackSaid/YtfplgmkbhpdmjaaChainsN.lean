/-
  Chains: contracts of slices.Equal, Same, the document's Same.
-/
import Derived.Test.YtfplgmkbhpdmjaaChainsE
import Derived.Deep.QuietTactic
import Derived.BigQuiet
namespace Go.Proofs.Ytfplgmkbhpdmjaa.Ch
open Go.ChangeShapes Go.WideShapes Go.ChangeAt Go.RowKit
set_option linter.unusedVariables false
/-- told: v, and nothing was but drawn -/
def ToldQ (v : Value) (w : World) (e : Ending) (w' : World) : Prop := e = .returned v ∧ ∃ m, w' = w.drewN m
def eqMb (a b : MT) : Bool := decide (a = b)
theorem eqMb_self (a : MT) : eqMb a a = true := by unfold eqMb; simp
theorem eq_mem (i c i' c' : Int) (w : World) : (Op.equalIn 10000 61 (.agg #[.int .i64 i, .int .i64 c]) (.agg #[.int .i64 i', .int .i64 c'])).run Try.prog w = .ok (eqMb ⟨i, c⟩ ⟨i', c'⟩) w := by
  rw [run_equalIn_struct w 9999 _ _ _ Try.underlying61 (by kernel_rfl)]
  have e : eqMb ⟨i, c⟩ ⟨i', c'⟩ = decide (i = i' ∧ c = c') := by
    unfold eqMb
    congr 1
    simp
  rw [e]
  by_cases h1 : i = i' <;> by_cases h2 : c = c' <;> simp [go_sem, Op.eqFields, h1, h2]
theorem mems_same {E F : List MT} (hl : E.length = F.length) (h : ∀ j, j < E.length → E[j]? = F[j]?) : decide (E = F) = true := by
  refine decide_eq_true (List.ext_getElem? fun i => ?_)
  by_cases hi : i < E.length
  · exact h i hi
  · rw [List.getElem?_eq_none (by omega), List.getElem?_eq_none (by omega)]
theorem mems_not {E F : List MT} {k : Nat} {x y : MT} (hx : E[k]? = some x) (hy : F[k]? = some y) (h : eqMb x y = false) : decide (E = F) = false := by
  refine decide_eq_false fun e => ?_
  subst e
  rw [hx] at hy
  cases hy
  rw [eqMb_self] at h
  cases h
attribute [local go_sem ↓] eq_mem
set_option maxRecDepth 100000 in
set_option maxHeartbeats 1000000 in
theorem equal_any {w : World} {ad1 ad2 : Option Addr} {E F : List MT} {cap1 cap2 : Nat} (h1 : Sl w ad1 cap1 E) (h2 : Sl w ad2 cap2 F) :
    Calls Try.prog 49 #[.slice ad1 E.length cap1, .slice ad2 F.length cap2] w (ToldQ (.bool (decide (E = F))) w) := by
  have hn := h1.few
  by_cases hl : E.length = F.length
  · have d1 : ((E.length : Int) != (F.length : Int)) = false := by rw [hl]; simp
    have HL := hide hl
    have H1 := hide h1.rows
    have H2 := hide h2.rows
    clear h1 h2 hl
    go_enter Try.func49, Try.ntmps49
    go_wp2
    go_loopw [13] (fun i wr => ∃ (k m : Nat), k ≤ E.length ∧ i = .int .i64 (k : Int) ∧ (∀ j, j < k → E[j]? = F[j]?) ∧ wr = w.drewN m) (fun i wr => E.length - (intOf i).toNat)
    case atStart => exact ⟨0, 0, by omega, rfl, fun j hj => by omega, rfl⟩
    case round =>
      obtain ⟨k, m, hk, rfl, hg, rfl⟩ := hrel
      have HG := hide hg
      clear hg
      by_cases hlt : k < E.length
      · have d2 : decide (k < E.length) = true := by simpa using hlt
        obtain ⟨x, hx⟩ : ∃ x, E[k]? = some x := ⟨_, List.getElem?_eq_getElem hlt⟩
        obtain ⟨y, hy⟩ : ∃ y, F[k]? = some y := ⟨_, List.getElem?_eq_getElem (by have := unhide HL; omega)⟩
        obtain ⟨_, g1, o1, rfl, r1⟩ := unhide H1 k x hx
        obtain ⟨_, g2, o2, rfl, r2⟩ := unhide H2 k y hy
        have i1 : (0 : Int) ≤ (k : Int) := by omega
        have i2 : (k : Int) < (E.length : Int) := by omega
        have i3 : (k : Int) < (F.length : Int) := by have := unhide HL; omega
        have HX := hide hx
        have HY := hide hy
        obtain ⟨a1, a2⟩ := x
        obtain ⟨c1, c2⟩ := y
        have x0 : w.cell? ⟨g1, o1 + k * 2, none⟩ = _ := r1 0 _ rfl
        have x1 : w.cell? ⟨g1, o1 + k * 2 + 1, none⟩ = _ := r1 1 _ rfl
        have y0 : w.cell? ⟨g2, o2 + k * 2, none⟩ = _ := r2 0 _ rfl
        have y1 : w.cell? ⟨g2, o2 + k * 2 + 1, none⟩ = _ := r2 1 _ rfl
        clear r1 r2 hx hy
        cases hq : eqMb ⟨a1, a2⟩ ⟨c1, c2⟩
        · have HE := hide (mems_not (unhide HX) (unhide HY) hq)
          clear HX HY
          go_wp2
          go_quiet (fail)
          go_wp2_with fail
          go_ret
          exact ⟨by rw [unhide HE]; rfl, _, World.drewN_drewN _ _ _⟩
        · have HE := hide (of_decide_eq_true (show decide ((⟨a1, a2⟩ : MT) = ⟨c1, c2⟩) = true from hq))
          go_wp2
          go_quiet (fail)
          go_wp2_with fail
          go_roundw
          case rel =>
            refine ⟨k + 1, m + nq, by omega, by go_num, fun j hj => ?_, rfl⟩
            by_cases e : j = k
            · subst e
              rw [unhide HX, unhide HY, unhide HE]
            · exact unhide HG j (by omega)
          case measure => simp [intOf]; omega
      · obtain rfl : k = E.length := by omega
        have HE := hide (mems_same (unhide HL) (unhide HG))
        go_wp2
        go_ret
        exact ⟨by rw [unhide HE]; rfl, m, rfl⟩
  · have d1 : ((E.length : Int) != (F.length : Int)) = true := by simp; omega
    have HE := hide (show decide (E = F) = false from decide_eq_false fun e => hl (by rw [e]))
    clear h1 h2 hl
    go_enter Try.func49, Try.ntmps49
    go_wp2
    go_ret
    exact ⟨by rw [unhide HE]; rfl, 0, rfl⟩
/-- are two chains the same -/
def sameB (a b : CT) : Bool := decide (a = b)
theorem same_ways (a b : CT) : ((a.ep == b.ep) = false ∧ (a.ep != b.ep) = true ∧ sameB a b = false) ∨ ((a.ep == b.ep) = true ∧ (a.ep != b.ep) = false ∧ (a.dr == b.dr) = false ∧ (a.dr != b.dr) = true ∧ sameB a b = false) ∨ ((a.ep == b.ep) = true ∧ (a.ep != b.ep) = false ∧ (a.dr == b.dr) = true ∧ (a.dr != b.dr) = false ∧ sameB a b = decide (a.ms = b.ms)) := by
  obtain ⟨e, m, d⟩ := a
  obtain ⟨e', m', d'⟩ := b
  unfold sameB
  by_cases h1 : e = e'
  · by_cases h2 : d = d'
    · subst h1
      subst h2
      exact .inr (.inr ⟨by simp, by simp, by simp, by simp, by simp⟩)
    · subst h1
      exact .inr (.inl ⟨by simp, by simp, by simp [h2], by simp [h2], by simp [h2]⟩)
  · exact .inl ⟨by simp [h1], by simp [h1], by simp [h1]⟩
section
variable {w : World} {ad ad2 : Option Addr} {cap cap2 : Nat} {c d : CT}
set_option maxRecDepth 100000 in
theorem same_any (h : Sl w ad cap c.ms) (h2 : Sl w ad2 cap2 d.ms) : Calls Try.prog 29 #[chV c (.slice ad c.ms.length cap), chV d (.slice ad2 d.ms.length cap2)] w (ToldN (.bool (sameB c d)) w) := by
  have HQ := hide (fun w' (k : Chg noBlk w w') => equal_any (h.no k) (h2.no k))
  have ta : True := True.intro
  clear h h2
  rcases same_ways c d with ⟨q1, q2, q⟩ | ⟨q1, q2, q3, q4, q⟩ | ⟨q1, q2, q3, q4, q⟩
  all_goals
    rw [q]
    clear q
    go_enter Try.func29, Try.ntmps29
    go_wp2_with (first
      | (go_at_call 49; (with_reducible refine (unhide HQ _ (k1.andNo k2)).mono ?_); rintro e w3 ⟨rfl, m, rfl⟩)
      | ((with_reducible show wpList _ _ _ (_ :: _) _ _); first
        | (clear ta; refine wpL_box rfl 31 (.tmp 0) rfl (chC c (.slice ad c.ms.length cap)) (by rfl) ?_; intro p w1 e1 k1 g1 z1; have G1 : ChAt w1 p c (.slice ad c.ms.length cap) := g1; clear e1 z1 g1)
        | (refine wpL_box rfl 31 (.tmp 1) rfl (chC d (.slice ad2 d.ms.length cap2)) (by rfl) ?_; intro p2 w2 e2 k2 g2 z2; have G2 : ChAt w2 p2 d (.slice ad2 d.ms.length cap2) := g2; have c0 := (G1.no k2).c0; have c1 := (G1.no k2).c1; have c2 := (G1.no k2).c2; have d0 := G2.c0; have d1 := G2.c1; have d2 := G2.c2; clear e2 z2 g2 G1 G2)))
    go_ret
  · exact ⟨rfl, k1.andNo k2⟩
  · exact ⟨rfl, k1.andNo k2⟩
  · exact ⟨rfl, (k1.andNo k2).drewN _⟩
end
end Go.Proofs.Ytfplgmkbhpdmjaa.Ch
