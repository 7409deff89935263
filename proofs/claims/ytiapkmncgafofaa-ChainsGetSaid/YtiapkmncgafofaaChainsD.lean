/-
  Chains: contracts of nodeAt, Head, Tail, Next, Prev, Since.
-/
import Derived.Test.YtiapkmncgafofaaChainsC
import Derived.Deep.RegionHeld3
namespace Go.Proofs.Ytiapkmncgafofaa
open Go.ChangeShapes Go.WideShapes Go.ChangeAt Go.RowKit
set_option linter.unusedVariables false
theorem info_ch : (Try.prog.info? 24).map (·.size) = some 3 := by kernel_rfl
theorem zero_ch : (Try.prog.info? 24).bind (·.zero) = some (.agg (chC cZero (.slice none 0 0))) := by kernel_rfl
theorem nodeA_bad {c : CT} (h : good c = false) (i : Int) : nodeA c i = -1 := by unfold nodeA; rw [if_neg (by simp [h])]
theorem nodeA_lo {c : CT} {i : Int} (h : i < 0) : nodeA c i = -1 := by unfold nodeA; rw [if_neg (by omega)]
theorem nodeA_hi {c : CT} {i : Int} (h : (c.ms.length : Int) ≤ i) : nodeA c i = -1 := by
  unfold nodeA
  rw [List.getElem?_eq_none (by omega)]
  split <;> rfl
theorem nodeA_at {c : CT} {k : Nat} {x : MT} (h : good c = true) (hx : c.ms[k]? = some x) : nodeA c (k : Int) = x.node := by
  unfold nodeA
  rw [if_pos ⟨h, by omega⟩, Int.toNat_natCast, hx]
section
variable {w : World} {ad : Option Addr} {cap : Nat} {c : CT}
theorem check_yes (h : Sl w ad cap c.ms) (g : good c = true) : Calls Try.prog 13 #[chV c (.slice ad c.ms.length cap)] w (ToldN (.int .i64 0) w) := by
  have := check_any h
  rwa [chk_yes g] at this
theorem check_no (h : Sl w ad cap c.ms) (g : good c = false) : Calls Try.prog 13 #[chV c (.slice ad c.ms.length cap)] w (ToldN (.int .i64 2) w) := by
  have := check_any h
  rwa [chk_no g] at this
set_option maxRecDepth 100000 in
theorem nodeAt_any (h : Sl w ad cap c.ms) (i : Int) : Calls Try.prog 47 #[chV c (.slice ad c.ms.length cap), .int .i64 i] w (ToldN (.int .i64 (nodeA c i)) w) := by
  have HL := hide (fun w' (k : Chg noBlk w w') => h.no k)
  cases hg : good c
  · have HC := hide (fun w' (k : Chg noBlk w w') => check_no (h.no k) hg)
    have HE := hide (nodeA_bad hg i)
    clear h hg
    go_enter Try.func47, Try.ntmps47
    go_wp2_with (first
      | (go_at_call 13; (with_reducible refine (unhide HC _ k1).mono ?_); rintro e w2 ⟨rfl, k2⟩)
      | ((with_reducible show wpList _ _ _ (_ :: _) _ _); first
        | (refine wpL_box rfl 24 _ rfl (chC c (.slice ad c.ms.length cap)) (by rfl) ?_; intro p w1 e1 k1 g1 z1; have G1 : ChAt w1 p c (.slice ad c.ms.length cap) := g1; clear e1 z1 g1)
        | (refine wpL_load rfl 24 (.tmp 2) rfl p rfl (chC c (.slice ad c.ms.length cap)) _ _ G1 _ Try.underlying24 rfl info_ch ?_)))
    go_ret
    exact ⟨ret_int (unhide HE).symm, k1.andNo k2⟩
  have HC := hide (fun w' (k : Chg noBlk w w') => check_yes (h.no k) hg)
  have hw : (i < 0 ∧ nodeA c i = -1) ∨ (¬ i < 0 ∧ (c.ms.length : Int) ≤ i ∧ nodeA c i = -1) ∨ ∃ (k : Nat) (x : MT), i = (k : Int) ∧ k < c.ms.length ∧ c.ms[k]? = some x ∧ nodeA c i = x.node := by
    by_cases h1 : i < 0
    · exact .inl ⟨h1, nodeA_lo h1⟩
    by_cases h2 : (c.ms.length : Int) ≤ i
    · exact .inr (.inl ⟨h1, h2, nodeA_hi h2⟩)
    · obtain ⟨k, rfl⟩ := Int.eq_ofNat_of_zero_le (show 0 ≤ i by omega)
      exact .inr (.inr ⟨k, _, rfl, by omega, List.getElem?_eq_getElem (by omega), nodeA_at hg (List.getElem?_eq_getElem (by omega))⟩)
  have hf := h.few
  clear h hg
  rcases hw with ⟨q1, q⟩ | ⟨q1, q2, q⟩ | ⟨k, x, rfl, q1, hx, q⟩
  · have HE := hide q
    clear q
    go_enter Try.func47, Try.ntmps47
    go_wp2_with (first
      | (go_at_call 13; (with_reducible refine (unhide HC _ k1).mono ?_); rintro e w2 ⟨rfl, k2⟩)
      | ((with_reducible show wpList _ _ _ (_ :: _) _ _); first
        | (refine wpL_box rfl 24 _ rfl (chC c (.slice ad c.ms.length cap)) (by rfl) ?_; intro p w1 e1 k1 g1 z1; have G1 : ChAt w1 p c (.slice ad c.ms.length cap) := g1; clear e1 z1 g1)
        | (refine wpL_load rfl 24 (.tmp 2) rfl p rfl (chC c (.slice ad c.ms.length cap)) _ _ G1 _ Try.underlying24 rfl info_ch ?_)))
    go_ret
    exact ⟨ret_int (unhide HE).symm, k1.andNo k2⟩
  · have HE := hide q
    clear q
    go_enter Try.func47, Try.ntmps47
    go_wp2_with (first
      | (go_at_call 13; (with_reducible refine (unhide HC _ k1).mono ?_); rintro e w2 ⟨rfl, k2⟩; have c1 := (G1.no k2).c1)
      | ((with_reducible show wpList _ _ _ (_ :: _) _ _); first
        | (refine wpL_box rfl 24 _ rfl (chC c (.slice ad c.ms.length cap)) (by rfl) ?_; intro p w1 e1 k1 g1 z1; have G1 : ChAt w1 p c (.slice ad c.ms.length cap) := g1; clear e1 z1 g1)
        | (refine wpL_load rfl 24 (.tmp 2) rfl p rfl (chC c (.slice ad c.ms.length cap)) _ _ G1 _ Try.underlying24 rfl info_ch ?_)))
    go_ret
    exact ⟨ret_int (unhide HE).symm, k1.andNo k2⟩
  · have HE := hide q
    have HX := hide hx
    have i1 : (0 : Int) ≤ (k : Int) := by omega
    have i2 : (k : Int) < (c.ms.length : Int) := by omega
    obtain ⟨g, off, rfl, _, _⟩ := (unhide HL _ (Chg.refl _ _)).at hx
    have HM := hide (fun w' (k : Chg noBlk w w') => by
      obtain ⟨g', off', e, m0, m1⟩ := (unhide HL _ k).at (unhide HX)
      cases e
      exact m0)
    clear q hx
    go_enter Try.func47, Try.ntmps47
    go_wp2_with (first
      | (go_at_call 13; (with_reducible refine (unhide HC _ k1).mono ?_); rintro e w2 ⟨rfl, k2⟩; have c1 := (G1.no k2).c1; have m0 := unhide HM _ (k1.andNo k2))
      | ((with_reducible show wpList _ _ _ (_ :: _) _ _); first
        | (refine wpL_box rfl 24 _ rfl (chC c (.slice (some ⟨g, off, none⟩) c.ms.length cap)) (by rfl) ?_; intro p w1 e1 k1 g1 z1; have G1 : ChAt w1 p c (.slice (some ⟨g, off, none⟩) c.ms.length cap) := g1; clear e1 z1 g1)
        | (refine wpL_load rfl 24 (.tmp 2) rfl p rfl (chC c (.slice (some ⟨g, off, none⟩) c.ms.length cap)) _ _ G1 _ Try.underlying24 rfl info_ch ?_)))
    go_ret
    exact ⟨ret_int (unhide HE).symm, k1.andNo k2⟩
end
end Go.Proofs.Ytiapkmncgafofaa
