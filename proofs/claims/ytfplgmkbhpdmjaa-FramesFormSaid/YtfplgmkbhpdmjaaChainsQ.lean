/-
  Chains: contracts of Put, of the document's Put.
-/
import Derived.Test.YtfplgmkbhpdmjaaChainsP
import Derived.Test.YtfplgmkbhpdmjaaChainsF
import Derived.Deep.RegionHeld3
namespace Go.Proofs.Ytfplgmkbhpdmjaa.Ch
open Go.ChangeShapes Go.WideShapes Go.ChangeAt Go.RowKit
set_option linter.unusedVariables false
attribute [local go_sem] bs_size bs_app bs_cut bs_tl bs_at
def I64 (n : Int) : Prop := -9223372036854775808 ≤ n ∧ n ≤ 9223372036854775807
theorem i64_of {n : Int} (h : -1 ≤ n ∧ n ≤ 1099511627776) : I64 n := ⟨by omega, by omega⟩
theorem headL_zero (c : CT) : headL c 0 = intL c.ep ++ intL c.ms.length := by simp [headL, memsL]
theorem headL_succ {c : CT} {k : Nat} {x : MT} (hx : c.ms[k]? = some x) : headL c (k + 1) = headL c k ++ (intL x.node ++ intL x.since) := by
  unfold headL
  rw [memsL_snoc hx]
  simp [memL]
/-- a member's two cells, kept -/
theorem mem_keep {w1 : World} {b : Nat} {x : MT} (h : w1.heap[b]? = some (.cells x.cells.toArray 61 (0, 0))) : ∀ w', Chg noBlk w1 w' → Chg noBlk w1 w' ∧ w'.cell? ⟨b, 0, none⟩ = some (.int .i64 x.node) ∧ w'.cell? ⟨b, 1, none⟩ = some (.int .i64 x.since) :=
  fun w' k => ⟨k, cellAt (k.at h id) 0 _ rfl, cellAt (k.at h id) 1 _ rfl⟩
section
variable {w : World} {ad : Option Addr} {cap : Nat} {c : CT}
set_option maxRecDepth 100000 in
theorem put_no (h : Sl w ad cap c.ms) (g : good c = false) : Calls Try.prog 47 #[chV c (.slice ad c.ms.length cap)] w (ToldN (.tuple #[str (putB c), .int .i64 (chk c)]) w) := by
  rw [putB_no g, chk_no g]
  have HC := hide (fun w' (k : Chg noBlk w w') => check_no (h.no k) g)
  clear h g
  go_enter Try.func47, Try.ntmps47
  go_wp2_with (first
    | (go_at_call 54; (with_reducible refine (unhide HC _ k1).mono ?_); rintro e w2 ⟨rfl, k2⟩)
    | ((with_reducible show wpList _ _ _ (_ :: _) _ _); first
      | (refine wpL_box rfl 31 _ rfl (chC c (.slice ad c.ms.length cap)) (by rfl) ?_; intro p w1 e1 k1 g1 z1; have G1 : ChAt w1 p c (.slice ad c.ms.length cap) := g1; clear e1 z1 g1)
      | (refine wpL_load rfl 31 (.tmp 1) rfl p rfl (chC c (.slice ad c.ms.length cap)) _ _ G1 _ Try.underlying31 rfl info_ch ?_)))
  go_ret2
  exact ⟨rfl, k1.andNo k2⟩
set_option maxRecDepth 100000 in
set_option maxHeartbeats 1000000 in
theorem put_yes (h : Sl w ad cap c.ms) (g : good c = true) : Calls Try.prog 47 #[chV c (.slice ad c.ms.length cap)] w (ToldN (.tuple #[str (putB c), .int .i64 (chk c)]) w) := by
  rw [putB_yes g, chk_yes g]
  have F := good_fits g
  have HC := hide (fun w' (k : Chg noBlk w w') => check_yes (h.no k) g)
  have HL := hide (fun w' (k : Chg noBlk w w') => h.no k)
  have HI := hide (fun n (hn : I64 n) w' => int_n n hn w')
  have b1 := i64_of F.ep
  have b2 : I64 (c.ms.length : Int) := i64_of ⟨by omega, by have := F.len; omega⟩
  have b3 := i64_of F.dr
  have l1 := intL_len c.ep
  have l2 := intL_len c.ms.length
  have l3 := intL_len c.dr
  have l4 := F.len
  have s1 : ¬ 9223372036854775807 < (intL c.ep).length + (intL c.ms.length).length := by omega
  have HF := hide F
  have ta : True := True.intro
  clear h g F
  go_enter Try.func47, Try.ntmps47
  go_wp2_with (first
    | (go_at_call 54; (with_reducible refine (unhide HC _ k1).mono ?_); rintro e w2 ⟨rfl, k2⟩; have G2 := G1.no k2)
    | ((with_reducible show wpList _ _ _ (_ :: _) _ _); first
      | (refine wpL_box rfl 31 _ rfl (chC c (.slice ad c.ms.length cap)) (by rfl) ?_; intro p w1 e1 k1 g1 z1; have G1 : ChAt w1 p c (.slice ad c.ms.length cap) := g1; clear e1 z1 g1)
      | (refine wpL_load rfl 31 (.tmp 1) rfl p rfl (chC c (.slice ad c.ms.length cap)) _ _ G1 _ Try.underlying31 rfl info_ch ?_)))
  have KE := hide (ch_keep G2)
  have HG := hide G2
  have B0 := Chg.refl noBlk w2
  clear G1 G2
  go_region_held3 (fun w' => Chg noBlk w2 w' ∧ w'.cell? ⟨p, 0, none⟩ = some (.int .i64 c.ep) ∧ w'.cell? ⟨p, 1, none⟩ = some (.slice ad c.ms.length cap) ∧ w'.cell? ⟨p, 2, none⟩ = some (.int .i64 c.dr))
    ((refine unhide KE _ ?_; go_split_ands; first | assumption | exact Chg.drew (by assumption) | exact Chg.drewN (by assumption) _ | exact Chg.andNo (by assumption) (by assumption)))
    (first
      | (go_at_call 45; (with_reducible refine (unhide HI _ (by assumption) _).mono ?_); rintro e w3 ⟨rfl, k3⟩))
  rename_i hH
  obtain ⟨K3, c0, c1, c2⟩ := hH
  clear KE k3 B0 s1
  go_wp2_with fail
  clear c0 c1 c2
  go_loopw [5, 24] (fun s i wr => ∃ k : Nat, k ≤ c.ms.length ∧ i = .int .i64 (k : Int) ∧ s = str (headL c k) ∧ Chg noBlk w2 wr) (fun s i wr => c.ms.length - (intOf i).toNat)
  case atStart => exact ⟨0, by omega, rfl, by rw [headL_zero], K3⟩
  case round =>
    obtain ⟨k, hk, rfl, rfl, hch⟩ := hrel
    have lh := headL_len c k l4
    by_cases hlt : k < c.ms.length
    · obtain ⟨x, hx⟩ : ∃ x, c.ms[k]? = some x := ⟨_, List.getElem?_eq_getElem hlt⟩
      obtain ⟨g, off, rfl, m0, m1⟩ := (unhide HL _ ((k1.andNo k2).andNo hch)).at hx
      have i1 : (0 : Int) ≤ (k : Int) := by omega
      have i2 : (k : Int) < (c.ms.length : Int) := by omega
      have hm := (unhide HF).mem x (List.mem_of_getElem? hx)
      have n1 := i64_of hm.1
      have n2 := i64_of hm.2
      have HX := hide (headL_succ hx)
      have l5 := intL_len x.node
      have l6 := intL_len x.since
      have s2 : ¬ 9223372036854775807 < (intL x.node).length + (intL x.since).length := by omega
      have s3 : ¬ 9223372036854775807 < (headL c k).length + ((intL x.node).length + (intL x.since).length) := by omega
      clear hx hm
      have tb : True := True.intro
      go_wp2_with ((with_reducible show wpList _ _ _ (_ :: _) _ _); first
        | (clear tb; refine wpL_alloc rfl 61 rfl _ zero_mem ?_; intro b w4 e4 k4 g4 z4; have E4 := hide (show w2.heap.size ≤ b from Nat.le_trans hch.size (Nat.le_of_eq e4)); clear e4 z4)
        | (refine wpL_store rfl 61 (.tmp 7) (.tmp 27) rfl b x.cells.toArray rfl (by rfl) _ _ g4 info_mem rfl (all_oneCell_toArray (MT.one _)) ?_; intro w5 k5 g5 z5; have K5 := (hch.andNo k4).past k5 (unhide E4); have KM := hide (mem_keep g5); clear z5))
      have B1 := Chg.refl noBlk w5
      go_region_held3 (fun w' => Chg noBlk w5 w' ∧ w'.cell? ⟨b, 0, none⟩ = some (.int .i64 x.node) ∧ w'.cell? ⟨b, 1, none⟩ = some (.int .i64 x.since))
        ((refine unhide KM _ ?_; go_split_ands; first | assumption | exact Chg.drew (by assumption) | exact Chg.drewN (by assumption) _ | exact Chg.andNo (by assumption) (by assumption)))
        (first
          | (go_at_call 45; (with_reducible refine (unhide HI _ (by assumption) _).mono ?_); rintro e w6 ⟨rfl, k6⟩))
      rename_i hH
      obtain ⟨K6, _, _⟩ := hH
      go_wp2_with fail
      go_roundw
      case rel => exact ⟨k + 1, by omega, by go_num, by rw [unhide HX], K5.andNo K6⟩
      case measure => simp [intOf]; omega
    · obtain rfl : k = c.ms.length := by omega
      have s4 : ¬ 9223372036854775807 < (headL c c.ms.length).length + (intL c.dr).length := by omega
      have d2 := ((unhide HG).no hch).c2
      go_wp2_with (go_at_call 45; (with_reducible refine (unhide HI _ (by assumption) _).mono ?_); rintro e w6 ⟨rfl, k6⟩)
      go_ret2
      exact ⟨rfl, ((k1.andNo k2).andNo hch).andNo k6⟩
theorem put_any (h : Sl w ad cap c.ms) : Calls Try.prog 47 #[chV c (.slice ad c.ms.length cap)] w (ToldN (.tuple #[str (putB c), .int .i64 (chk c)]) w) := by
  cases g : good c
  · exact put_no h g
  · exact put_yes h g
end
#print axioms put_any
end Go.Proofs.Ytfplgmkbhpdmjaa.Ch
