/-
  Chains: a chain where it lies; contracts of Check.
-/
import Derived.Test.YtfplgmkbhpdmjaaChainsB
import Derived.Maps.RangeWalk
namespace Go.Proofs.Ytfplgmkbhpdmjaa.Ch
open Go.ChangeShapes Go.WideShapes Go.ChangeAt Go.RowKit
set_option linter.unusedVariables false
theorem zero_mem : (Try.prog.info? 61).bind (·.zero) = some (.agg mZero.cells.toArray) := by kernel_rfl
theorem info_mem : (Try.prog.info? 61).map (·.size) = some 2 := by kernel_rfl
theorem infx_mem : (Try.prog.info? 61).map (fun i => (i.zero, i.size, i.bytes)) = some (some (.agg mZero.cells.toArray), 2, 16) := by kernel_rfl
/-- a chain's three cells -/
abbrev chC (c : CT) (v : Value) : Array Value := #[.int .i64 c.ep, v, .int .i64 c.dr]
abbrev chV (c : CT) (v : Value) : Value := .agg (chC c v)
/-- a chain in a variable -/
def ChAt (w : World) (p : Nat) (c : CT) (v : Value) : Prop := w.heap[p]? = some (.cells (chC c v) 31 (0, 0))
section
variable {w w' : World} {p : Nat} {c : CT} {v : Value}
theorem ChAt.no (h : ChAt w p c v) (k : Chg noBlk w w') : ChAt w' p c v := k.at h id
theorem ChAt.lt (h : ChAt w p c v) : p < w.heap.size := lt_of_block h
theorem ChAt.c0 (h : ChAt w p c v) : w.cell? ⟨p, 0, none⟩ = some (.int .i64 c.ep) := cellAt h 0 _ rfl
theorem ChAt.c1 (h : ChAt w p c v) : w.cell? ⟨p, 1, none⟩ = some v := cellAt h 1 _ rfl
theorem ChAt.c2 (h : ChAt w p c v) : w.cell? ⟨p, 2, none⟩ = some (.int .i64 c.dr) := cellAt h 2 _ rfl
end
theorem good_ep1 {c : CT} (h : c.ep < 1) : chk c = 2 := chk_no (good_no fun g => by have := g.ep1; omega)
theorem good_ep2 {c : CT} (h : ¬ c.ep ≤ 1099511627776) : chk c = 2 := chk_no (good_no fun g => h g.ep2)
theorem good_len1 {c : CT} (h : c.ms.length < 1) : chk c = 2 := chk_no (good_no fun g => by have := g.len1; omega)
theorem good_len2 {c : CT} (h : ¬ c.ms.length ≤ 6) : chk c = 2 := chk_no (good_no fun g => h g.len2)
theorem good_mem {c : CT} {k : Nat} {x : MT} (hx : c.ms[k]? = some x) (h : memB c k x = false) : chk c = 2 := chk_no (good_no fun g => by have := g.mem k x hx; rw [h] at this; cases this)
theorem good_dr {c : CT} (h : c.dr ≠ -1) (h' : pos c.dr c.ms < 0) : chk c = 2 := chk_no (good_no fun g => by have := g.dr; omega)
theorem good_all {c : CT} (h1 : 1 ≤ c.ep) (h2 : c.ep ≤ 1099511627776) (h3 : 1 ≤ c.ms.length) (h4 : c.ms.length ≤ 6) (h5 : ∀ (k : Nat) m, c.ms[k]? = some m → memB c k m = true) (h6 : c.dr = -1 ∨ 0 ≤ pos c.dr c.ms) : chk c = 0 := chk_yes (good_iff.2 ⟨h1, h2, h3, h4, h5, h6⟩)
theorem chg_far {a b c : World} {S : Nat → Prop} (h : Chg noBlk a b) (k : Chg S b c) (hS : ∀ i, S i → a.heap.size ≤ i) : Chg noBlk a c := h.trans k fun i hi e => by have := hS i e; omega
theorem mem_ways (c : CT) (k : Nat) (x : MT) : (mayB x.node = false ∧ memB c k x = false) ∨ (mayB x.node = true ∧ (pos x.node c.ms != (k : Int)) = true ∧ memB c k x = false) ∨ (mayB x.node = true ∧ (pos x.node c.ms != (k : Int)) = false ∧ x.since < 1 ∧ memB c k x = false) ∨
    (mayB x.node = true ∧ (pos x.node c.ms != (k : Int)) = false ∧ ¬ x.since < 1 ∧ c.ep < x.since ∧ memB c k x = false) ∨ (mayB x.node = true ∧ (pos x.node c.ms != (k : Int)) = false ∧ ¬ x.since < 1 ∧ ¬ c.ep < x.since ∧ memB c k x = true) := by
  cases h1 : mayB x.node
  · exact .inl ⟨rfl, by simp [memB, h1]⟩
  by_cases h2 : pos x.node c.ms = (k : Int)
  · by_cases h3 : x.since < 1
    · exact .inr (.inr (.inl ⟨rfl, by simp [h2], h3, by simp [memB, h1, h2]; omega⟩))
    by_cases h4 : c.ep < x.since
    · exact .inr (.inr (.inr (.inl ⟨rfl, by simp [h2], h3, h4, by simp [memB, h1, h2]; omega⟩)))
    · exact .inr (.inr (.inr (.inr ⟨rfl, by simp [h2], h3, h4, by simp [memB, h1, h2]; omega⟩)))
  · exact .inr (.inl ⟨rfl, by simp [h2], by simp [memB, h1, h2]⟩)
/-- what a member leads to -/
def Leads (c : CT) (k : Nat) : Bool → Prop
  | false => chk c = 2
  | true => ∀ (j : Nat) x, j < k + 1 → c.ms[j]? = some x → memB c j x = true
theorem leads_no {c : CT} {k : Nat} (h : Leads c k false) : 2 = chk c := h.symm
theorem leads_yes {c : CT} {k : Nat} (h : Leads c k true) : ∀ (j : Nat) x, j < k + 1 → c.ms[j]? = some x → memB c j x = true := h
theorem leads {c : CT} {k : Nat} {x : MT} {b : Bool} (hx : c.ms[k]? = some x) (hn : ∀ (j : Nat) x, j < k → c.ms[j]? = some x → memB c j x = true) (h : memB c k x = b) : Leads c k b := by
  cases b
  · exact good_mem hx h
  · intro j y hj hy
    by_cases e : j = k
    · subst e
      rw [hx] at hy
      cases hy
      exact h
    · exact hn j y (by omega) hy
set_option maxRecDepth 100000 in
set_option maxHeartbeats 1000000 in
theorem check_in {w : World} {ad : Option Addr} {cap : Nat} {c : CT} (h : Sl w ad cap c.ms) (h1 : 1 ≤ c.ep) (h2 : c.ep ≤ 1099511627776) (h3 : 1 ≤ c.ms.length) (h4 : c.ms.length ≤ 6) :
    Calls Try.prog 54 #[chV c (.slice ad c.ms.length cap)] w (ToldN (.int .i64 (chk c)) w) := by
  have HL := hide (fun w' (k : Chg noBlk w w') => h.no k)
  have HP := hide (fun w' (k : Chg noBlk w w') n => place_any (h.no k) n)
  have n1 : ¬ c.ep < 1 := by omega
  have i3 : (1 : Int) ≤ (c.ms.length : Int) := by omega
  have i4 : (c.ms.length : Int) ≤ 6 := by omega
  have ta : True := True.intro
  clear h
  go_enter Try.func54, Try.ntmps54
  go_wp2_with ((with_reducible show wpList _ _ _ (_ :: _) _ _); clear ta; refine wpL_box rfl 31 _ rfl (chC c (.slice ad c.ms.length cap)) (by rfl) ?_; intro p w1 e1 k1 g1 z1; have G1 : ChAt w1 p c (.slice ad c.ms.length cap) := g1; have c0 := G1.c0; have c1 := G1.c1; have HZ := hide z1; have HE := hide e1; clear e1 z1 g1)
  have HG := hide G1
  clear G1 c0 c1
  go_loopw [28] (fun i wr => ∃ k : Nat, k ≤ c.ms.length ∧ i = .int .i64 (k : Int) ∧ (∀ (j : Nat) x, j < k → c.ms[j]? = some x → memB c j x = true) ∧ Chg noBlk w1 wr) (fun i wr => c.ms.length - (intOf i).toNat)
  case atStart => exact ⟨0, by omega, rfl, fun j x hj => by omega, Chg.refl _ _⟩
  case round =>
    obtain ⟨k, hk, rfl, hno, hch⟩ := hrel
    have HN := hide hno
    clear hno
    have G := (unhide HG).no hch
    have c0 := G.c0
    have c1 := G.c1
    have c2 := G.c2
    have HR := hide G
    clear G
    by_cases hlt : k < c.ms.length
    · obtain ⟨x, hx⟩ : ∃ x, c.ms[k]? = some x := ⟨_, List.getElem?_eq_getElem hlt⟩
      obtain ⟨g, off, rfl, m0, m1⟩ := (unhide HL _ (k1.andNo hch)).at hx
      have HX := hide hx
      have i1 : (0 : Int) ≤ (k : Int) := by omega
      have i2 : (k : Int) < (c.ms.length : Int) := by omega
      have HW := fun b => hide (leads (b := b) hx (unhide HN))
      clear hx
      have tb : True := True.intro
      rcases mem_ways c k x with ⟨q1, q⟩ | ⟨q1, q2, q⟩ | ⟨q1, q2, q3, q⟩ | ⟨q1, q2, q3, q4, q⟩ | ⟨q1, q2, q3, q4, q⟩
      all_goals
        have Q := hide (unhide (HW _) q)
        clear HW q
        go_wp2_with (first
          | (go_at_call 65; (with_reducible refine (mayBe_any _ _).mono ?_); rintro e w4 ⟨rfl, rfl⟩)
          | (go_at_call 66; (with_reducible refine (unhide HP _ (k1.andNo K3) _).mono ?_); rintro e w5 ⟨rfl, k5⟩; have d0 : w5.cell? ⟨b, 0, none⟩ = some (.int .i64 x.node) := cellAt (k5.at g3 id) 0 _ rfl; have d1 : w5.cell? ⟨b, 1, none⟩ = some (.int .i64 x.since) := cellAt (k5.at g3 id) 1 _ rfl; have d2 := ((unhide HG).no (K3.andNo k5)).c0)
          | ((with_reducible show wpList _ _ _ (_ :: _) _ _); first
            | (clear tb; refine wpL_alloc rfl 61 rfl _ zero_mem ?_; intro b w2 e2 k2 g2 z2; have E2 := hide (show w1.heap.size ≤ b from Nat.le_trans hch.size (Nat.le_of_eq e2)); clear e2 z2)
            | (refine wpL_store rfl 61 (.tmp 4) (.tmp 32) rfl b x.cells.toArray rfl (by rfl) _ _ g2 info_mem rfl (all_oneCell_toArray (MT.one _)) ?_; intro w3 k3 g3 z3; have K3 := (hch.andNo k2).past k3 (unhide E2); have d0 : w3.cell? ⟨b, 0, none⟩ = some (.int .i64 x.node) := cellAt g3 0 _ rfl; have d1 : w3.cell? ⟨b, 1, none⟩ = some (.int .i64 x.since) := cellAt g3 1 _ rfl; have d2 := ((unhide HG).no K3).c0; have d3 := ((unhide HG).no K3).c1; clear z3)))
      all_goals first
        | (go_ret; exact ⟨ret_int (leads_no (unhide Q)), k1.andNo (K3.andNo ‹_›)⟩)
        | (go_ret; exact ⟨ret_int (leads_no (unhide Q)), k1.andNo K3⟩)
        | skip
      go_roundw
      case rel => exact ⟨k + 1, by omega, by go_num, leads_yes (unhide Q), K3.andNo k5⟩
      case measure => simp [intOf]; omega
    · obtain rfl : k = c.ms.length := by omega
      have HA := hide (show ∀ (j : Nat) m, c.ms[j]? = some m → memB c j m = true from fun j m hm => unhide HN j m (List.getElem?_eq_some_iff.1 hm).1 hm)
      by_cases q1 : c.dr = -1
      · have d1 : (c.dr != -1) = false := by simp [q1]
        have Q := hide (good_all h1 h2 h3 h4 (unhide HA) (.inl q1))
        clear q1
        go_wp2
        go_ret
        exact ⟨ret_int (unhide Q).symm, k1.andNo hch⟩
      · have d1 : (c.dr != -1) = true := by simp [q1]
        by_cases q2 : pos c.dr c.ms < 0
        · have Q := hide (good_dr q1 q2)
          clear q1
          go_wp2_with (go_at_call 66; (with_reducible refine (unhide HP _ (k1.andNo hch) _).mono ?_); rintro e w5 ⟨rfl, k5⟩)
          go_ret
          exact ⟨ret_int (unhide Q).symm, k1.andNo (hch.andNo k5)⟩
        · have Q := hide (good_all h1 h2 h3 h4 (unhide HA) (.inr (by omega)))
          clear q1
          go_wp2_with (go_at_call 66; (with_reducible refine (unhide HP _ (k1.andNo hch) _).mono ?_); rintro e w5 ⟨rfl, k5⟩)
          go_ret
          exact ⟨ret_int (unhide Q).symm, k1.andNo (hch.andNo k5)⟩
set_option maxRecDepth 100000 in
theorem check_out {w : World} (c : CT) (ad : Option Addr) (cap : Nat) (h : c.ep < 1 ∨ (¬ c.ep < 1 ∧ 1099511627776 < c.ep) ∨ (¬ c.ep < 1 ∧ ¬ 1099511627776 < c.ep ∧ (c.ms.length : Int) < 1) ∨ (¬ c.ep < 1 ∧ ¬ 1099511627776 < c.ep ∧ ¬ (c.ms.length : Int) < 1 ∧ 6 < (c.ms.length : Int))) :
    Calls Try.prog 54 #[chV c (.slice ad c.ms.length cap)] w (ToldN (.int .i64 (chk c)) w) := by
  have Q := hide (show chk c = 2 by
    rcases h with q | ⟨_, q⟩ | ⟨_, _, q⟩ | ⟨_, _, _, q⟩
    · exact good_ep1 q
    · exact good_ep2 (by omega)
    · exact good_len1 (by omega)
    · exact good_len2 (by omega))
  rcases h with q | ⟨q1, q⟩ | ⟨q1, q2, q⟩ | ⟨q1, q2, q3, q⟩
  all_goals
    go_enter Try.func54, Try.ntmps54
    go_wp2_with ((with_reducible show wpList _ _ _ (_ :: _) _ _); refine wpL_box rfl 31 _ rfl (chC c (.slice ad c.ms.length cap)) (by rfl) ?_; intro p w1 e1 k1 g1 z1; have G1 : ChAt w1 p c (.slice ad c.ms.length cap) := g1; have c0 := G1.c0; have c1 := G1.c1; clear e1 z1 g1)
    go_ret
    exact ⟨ret_int (unhide Q).symm, k1⟩
theorem check_any {w : World} {ad : Option Addr} {cap : Nat} {c : CT} (h : Sl w ad cap c.ms) : Calls Try.prog 54 #[chV c (.slice ad c.ms.length cap)] w (ToldN (.int .i64 (chk c)) w) := by
  by_cases h1 : c.ep < 1
  · exact check_out c ad cap (.inl h1)
  by_cases h2 : 1099511627776 < c.ep
  · exact check_out c ad cap (.inr (.inl ⟨h1, h2⟩))
  by_cases h3 : (c.ms.length : Int) < 1
  · exact check_out c ad cap (.inr (.inr (.inl ⟨h1, h2, h3⟩)))
  by_cases h4 : 6 < (c.ms.length : Int)
  · exact check_out c ad cap (.inr (.inr (.inr ⟨h1, h2, h3, h4⟩)))
  · exact check_in h (by omega) (by omega) (by omega) (by omega)
#print axioms check_any
end Go.Proofs.Ytfplgmkbhpdmjaa.Ch
