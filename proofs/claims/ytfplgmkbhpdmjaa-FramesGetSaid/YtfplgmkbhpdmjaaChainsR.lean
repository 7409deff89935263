/-
  Chains: a contract of the document's Put.
-/
import Derived.Test.YtfplgmkbhpdmjaaChainsQ
namespace Go.Proofs.Ytfplgmkbhpdmjaa.Ch
open Go.ChangeShapes Go.WideShapes Go.ChangeAt Go.RowKit
set_option linter.unusedVariables false
attribute [local go_sem] bs_size bs_app bs_cut bs_tl bs_at
section
variable {w : World} {ad : Option Addr} {cap : Nat} {c : CT}
set_option maxRecDepth 100000 in
theorem rput_no (h : Sl w ad cap c.ms) (g : good c = false) : Calls Try.prog 39 #[chV c (.slice ad c.ms.length cap)] w (ToldN (.tuple #[str (putB c), .int .i64 (chk c)]) w) := by
  rw [putB_no g, chk_no g]
  have HC := hide (fun w' (k : Chg noBlk w w') => rcheck_no (h.no k) g)
  clear h g
  go_enter Try.func39, Try.ntmps39
  go_wp2_with (first
    | (go_at_call 60; (with_reducible refine (unhide HC _ k1).mono ?_); rintro e w2 ⟨rfl, k2⟩)
    | ((with_reducible show wpList _ _ _ (_ :: _) _ _); first
      | (refine wpL_box rfl 31 _ rfl (chC c (.slice ad c.ms.length cap)) (by rfl) ?_; intro p w1 e1 k1 g1 z1; have G1 : ChAt w1 p c (.slice ad c.ms.length cap) := g1; clear e1 z1 g1)
      | (refine wpL_load rfl 31 (.tmp 1) rfl p rfl (chC c (.slice ad c.ms.length cap)) _ _ G1 _ Try.underlying31 rfl info_ch ?_)))
  go_ret2
  exact ⟨rfl, k1.andNo k2⟩
set_option maxRecDepth 100000 in
set_option maxHeartbeats 1000000 in
theorem rput_yes (h : Sl w ad cap c.ms) (g : good c = true) : Calls Try.prog 39 #[chV c (.slice ad c.ms.length cap)] w (ToldN (.tuple #[str (putB c), .int .i64 (chk c)]) w) := by
  rw [putB_yes g, chk_yes g]
  have F := good_fits g
  have HC := hide (fun w' (k : Chg noBlk w w') => rcheck_yes (h.no k) g)
  have HL := hide (fun w' (k : Chg noBlk w w') => h.no k)
  have HI := hide (fun n (hn : I64 n) w' => rint_n n hn w')
  have b1 := i64_of F.ep
  have b2 : I64 (c.ms.length : Int) := i64_of ⟨by omega, by have := F.len; omega⟩
  have b3 := i64_of F.dr
  have l1 := intL_len c.ep
  have l2 := intL_len c.ms.length
  have l3 := intL_len c.dr
  have l4 := F.len
  have s1 : ¬ 9223372036854775807 < (intL c.ep).length + (intL c.ms.length).length := by omega
  have HF := hide F
  have ta : True := True.intro
  clear h g F
  go_enter Try.func39, Try.ntmps39
  go_wp2_with (first
    | (go_at_call 60; (with_reducible refine (unhide HC _ k1).mono ?_); rintro e w2 ⟨rfl, k2⟩; have G2 := G1.no k2)
    | ((with_reducible show wpList _ _ _ (_ :: _) _ _); first
      | (refine wpL_box rfl 31 _ rfl (chC c (.slice ad c.ms.length cap)) (by rfl) ?_; intro p w1 e1 k1 g1 z1; have G1 : ChAt w1 p c (.slice ad c.ms.length cap) := g1; clear e1 z1 g1)
      | (refine wpL_load rfl 31 (.tmp 1) rfl p rfl (chC c (.slice ad c.ms.length cap)) _ _ G1 _ Try.underlying31 rfl info_ch ?_)))
  have KE := hide (ch_keep G2)
  have HG := hide G2
  have B0 := Chg.refl noBlk w2
  clear G1 G2
  go_region_held3 (fun w' => Chg noBlk w2 w' ∧ w'.cell? ⟨p, 0, none⟩ = some (.int .i64 c.ep) ∧ w'.cell? ⟨p, 1, none⟩ = some (.slice ad c.ms.length cap) ∧ w'.cell? ⟨p, 2, none⟩ = some (.int .i64 c.dr))
    ((refine unhide KE _ ?_; go_split_ands; first | assumption | exact Chg.drew (by assumption) | exact Chg.drewN (by assumption) _ | exact Chg.andNo (by assumption) (by assumption)))
    (first
      | (go_at_call 41; (with_reducible refine (unhide HI _ (by assumption) _).mono ?_); rintro e w3 ⟨rfl, k3⟩))
  rename_i hH
  obtain ⟨K3, c0, c1, c2⟩ := hH
  clear KE k3 B0 s1
  go_wp2_with fail
  clear c0 c1 c2
  go_loopw [4, 5] (fun s i wr => ∃ k : Nat, k ≤ c.ms.length ∧ i = .int .i64 (k : Int) ∧ s = str (headL c k) ∧ Chg noBlk w2 wr) (fun s i wr => c.ms.length - (intOf i).toNat)
  case atStart => exact ⟨0, by omega, rfl, by rw [headL_zero], K3⟩
  case round =>
    obtain ⟨k, hk, rfl, rfl, hch⟩ := hrel
    have lh := headL_len c k l4
    have d1 := ((unhide HG).no hch).c1
    by_cases hlt : k < c.ms.length
    · obtain ⟨x, hx⟩ : ∃ x, c.ms[k]? = some x := ⟨_, List.getElem?_eq_getElem hlt⟩
      obtain ⟨g, off, rfl, m0, m1⟩ := (unhide HL _ ((k1.andNo k2).andNo hch)).at hx
      have i1 : (0 : Int) ≤ (k : Int) := by omega
      have i2 : (k : Int) < (c.ms.length : Int) := by omega
      have hm := (unhide HF).mem x (List.mem_of_getElem? hx)
      have n1 := i64_of hm.1
      have n2 := i64_of hm.2
      have HX := hide (headL_succ hx)
      have l5 := intL_len x.node
      have l6 := intL_len x.since
      have s2 : ¬ 9223372036854775807 < (headL c k).length + (intL x.node).length := by omega
      have s3 : ¬ 9223372036854775807 < (headL c k).length + (intL x.node).length + (intL x.since).length := by omega
      have HXX := hide hx
      have KM := hide (fun w' (K : Chg noBlk wr w') => by
        obtain ⟨g', off', e, n0, n1⟩ := (unhide HL _ (((k1.andNo k2).andNo hch).andNo K)).at (unhide HXX)
        cases e
        exact (⟨K, ((unhide HG).no (hch.andNo K)).c1, n0, n1⟩ : Chg noBlk wr w' ∧ w'.cell? ⟨p, 1, none⟩ = some (.slice (some ⟨g, off, none⟩) c.ms.length cap) ∧ w'.cell? ⟨g, off + k * 2, none⟩ = some (.int .i64 x.node) ∧ w'.cell? ⟨g, off + k * 2 + 1, none⟩ = some (.int .i64 x.since)))
      clear hx hm
      go_wp2
      have B1 := Chg.refl noBlk wr
      go_region_held3 (fun w' => Chg noBlk wr w' ∧ w'.cell? ⟨p, 1, none⟩ = some (.slice (some ⟨g, off, none⟩) c.ms.length cap) ∧ w'.cell? ⟨g, off + k * 2, none⟩ = some (.int .i64 x.node) ∧ w'.cell? ⟨g, off + k * 2 + 1, none⟩ = some (.int .i64 x.since))
        ((refine unhide KM _ ?_; go_split_ands; first | assumption | exact Chg.drew (by assumption) | exact Chg.drewN (by assumption) _ | exact Chg.andNo (by assumption) (by assumption)))
        (first
          | (go_at_call 41; (with_reducible refine (unhide HI _ (by assumption) _).mono ?_); rintro e w6 ⟨rfl, k6⟩))
      rename_i hH
      obtain ⟨K6, _, _, _⟩ := hH
      go_wp2_with fail
      go_roundw
      case rel => exact ⟨k + 1, by omega, by go_num, by rw [unhide HX], hch.andNo K6⟩
      case measure => simp [intOf]; omega
    · obtain rfl : k = c.ms.length := by omega
      have s4 : ¬ 9223372036854775807 < (headL c c.ms.length).length + (intL c.dr).length := by omega
      have d2 := ((unhide HG).no hch).c2
      go_wp2_with (go_at_call 41; (with_reducible refine (unhide HI _ (by assumption) _).mono ?_); rintro e w6 ⟨rfl, k6⟩)
      go_ret2
      exact ⟨rfl, ((k1.andNo k2).andNo hch).andNo k6⟩
theorem rput_any (h : Sl w ad cap c.ms) : Calls Try.prog 39 #[chV c (.slice ad c.ms.length cap)] w (ToldN (.tuple #[str (putB c), .int .i64 (chk c)]) w) := by
  cases g : good c
  · exact rput_no h g
  · exact rput_yes h g
end
#print axioms rput_any
end Go.Proofs.Ytfplgmkbhpdmjaa.Ch
