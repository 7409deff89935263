/-
  Chains: the walk of the law that a chain leads there and back, and that the next one may be.
-/
import Derived.Test.YtiapkmncgafofaaChainsX
import Derived.Test.YtiapkmncgafofaaChainsY
import Derived.Test.YtiapkmncgafofaaChainsZ
import Derived.Deep.DeepCutAuto
import Derived.Maps.RangeWalk
namespace Go.Proofs.Ytiapkmncgafofaa
open Go.ChangeShapes Go.WideShapes Go.ChangeAt Go.RowKit
set_option linter.unusedVariables false
theorem i64_and7 (n : Int) : bits .and .i64 n 7 = n % 8 := by
  have h3 : (BitVec.ofInt 64 7).toNat = 2 ^ 3 - 1 := by decide
  have key : (BitVec.ofInt 64 n &&& BitVec.ofInt 64 7).toNat = (n % ((2 ^ 64 : Nat) : Int)).toNat % 2 ^ 3 := by
    rw [BitVec.toNat_and, BitVec.toNat_ofInt, h3, Nat.and_two_pow_sub_one_eq_mod]
  show IntKind.i64.wrap ((BitVec.ofInt 64 n &&& BitVec.ofInt 64 7).toNat : Nat) = n % 8
  rw [key, IntKind.wrap_i64]
  omega
theorem wo_len (c : CT) (n : Int) : (woF c n).ms.length ≤ c.ms.length := by
  unfold woF
  split
  · exact List.length_filter_le _ _
  · exact Nat.zero_le _
theorem drain_len (c : CT) (n : Int) : (drainF c n).ms.length ≤ c.ms.length := by
  unfold drainF
  split
  · exact Nat.le_refl _
  · exact Nat.zero_le _
theorem drain_go (c : CT) (n : Int) (h : goE c n ≠ 0) : drainE c n ≠ 0 := fun e => h (drainE_of e).1
theorem own_ne {w : World} {v : Value} {L : List MT} {q : Nat} {cs : Array Value} (h : OwnL w 37 MT.cells 2 v L) (hq : w.heap[q]? = some (.cells cs 24 (0, 0))) : ∀ g, v.ownBlock = some g → ¬ oneBlk q g := fun g hg e => by
  obtain ⟨cur, hb⟩ := h.block hg
  exact ne_type hb hq (by decide) e
/-- the member that stands at a place, and the one ahead -/
def kA (c : CT) (j : Nat) : Int := match c.ms[j]? with | some x => x.node | none => -1
def lA (c : CT) : Nat → Int
  | 0 => -1
  | j + 1 => kA c j
theorem kA_at {c : CT} {j : Nat} {x : MT} (h : c.ms[j]? = some x) : kA c j = x.node := by unfold kA; rw [h]
theorem kA_end {c : CT} {j : Nat} (h : c.ms.length ≤ j) : kA c j = -1 := by unfold kA; rw [List.getElem?_eq_none h]
theorem head_kA {c : CT} (g : good c = true) : headF c = kA c 0 := by
  have := (good_iff.1 g).len1
  have hx : c.ms[0]? = some (c.ms[0]'(by omega)) := List.getElem?_eq_getElem (by omega)
  rw [head_at g hx, kA_at hx]
theorem next_kA {c : CT} (g : good c = true) {j : Nat} (h : j < c.ms.length) : stepF c (kA c j) 1 = kA c (j + 1) := by
  have hx : c.ms[j]? = some (c.ms[j]'h) := List.getElem?_eq_getElem h
  rw [kA_at hx]
  by_cases h2 : j + 1 < c.ms.length
  · have hy : c.ms[j + 1]? = some (c.ms[j + 1]'h2) := List.getElem?_eq_getElem h2
    rw [next_at g hx hy, kA_at hy]
  · rw [next_end g hx (by omega), kA_end (by omega)]
theorem prev_kA {c : CT} (g : good c = true) {j : Nat} (h : j < c.ms.length) : stepF c (kA c j) (-1) = lA c j := by
  have hx : c.ms[j]? = some (c.ms[j]'h) := List.getElem?_eq_getElem h
  rw [kA_at hx]
  cases j with
  | zero => rw [prev_end g hx]; rfl
  | succ i =>
    have hy : c.ms[i]? = some (c.ms[i]'(by omega)) := List.getElem?_eq_getElem (by omega)
    rw [prev_at g hy hx]
    show _ = kA c i
    rw [kA_at hy]
theorem kA_pos {c : CT} (g : good c = true) {j : Nat} (h : j < c.ms.length) : 0 ≤ kA c j := by
  have hx : c.ms[j]? = some (c.ms[j]'h) := List.getElem?_eq_getElem h
  rw [kA_at hx]
  exact ((goodN.1 g).mem _ (List.mem_of_getElem? hx)).1.1
theorem tail_lA {c : CT} (g : good c = true) : tailF c = lA c c.ms.length := by
  have h1 := (good_iff.1 g).len1
  obtain ⟨m, hm⟩ : ∃ m, c.ms.length = m + 1 := ⟨c.ms.length - 1, by omega⟩
  obtain ⟨x, hx⟩ : ∃ x, c.ms[m]? = some x := ⟨_, List.getElem?_eq_getElem (by omega)⟩
  have : tailF c = nodeA c (m : Int) := by unfold tailF; rw [hm]; congr 1; omega
  rw [this, nodeA_at g hx, hm]
  show _ = kA c m
  rw [kA_at hx]
section
variable {w : World} {ad : Option Addr} {cap : Nat} {c : CT}
set_option maxRecDepth 100000 in
theorem ends_great (n : Int) (h : greatB c = true) : Calls Try.prog 7 #[chV c (.slice ad c.ms.length cap), .int .i64 n] w (ToldN (.bool true) w) := by
  have G := fun w => great_any c ad cap w
  rw [h] at G
  have HG := hide G
  clear G h
  go_enter Try.func7, Try.ntmps7
  go_wp2_with (first
    | (go_at_call 8; (with_reducible refine (unhide HG _).mono ?_); rintro e w2 ⟨rfl, k2⟩)
    | (go_at_call 9; (with_reducible refine (linked_any _).mono ?_); rintro e w3 ⟨rfl, k3⟩)
    | ((with_reducible show wpList _ _ _ (_ :: _) _ _); first
      | (refine wpL_box rfl 24 (.tmp 0) rfl (chC c (.slice ad c.ms.length cap)) (by rfl) ?_; intro p w1 e1 k1 g1 z1; have G1 : ChAt w1 p c (.slice ad c.ms.length cap) := g1; clear e1 z1 g1)
      | (refine wpL_load rfl 24 (.tmp 2) rfl p rfl (chC c (.slice ad c.ms.length cap)) _ _ G1 _ Try.underlying24 rfl info_ch ?_)))
  go_ret
  exact ⟨rfl, (k1.andNo k2).andNo k3⟩
set_option maxRecDepth 100000 in
theorem ends_bad (hs : Sl w ad cap c.ms) (n : Int) (h : greatB c = false) (g : good c = false) : Calls Try.prog 7 #[chV c (.slice ad c.ms.length cap), .int .i64 n] w (ToldN (.bool true) w) := by
  have G := fun w => great_any c ad cap w
  rw [h] at G
  have HG := hide G
  have HC := hide (fun w' (k : Chg noBlk w w') => check_no (hs.no k) g)
  clear G h hs g
  go_enter Try.func7, Try.ntmps7
  go_wp2_with (first
    | (go_at_call 8; (with_reducible refine (unhide HG _).mono ?_); rintro e w2 ⟨rfl, k2⟩; have x0 := (G1.no k2).c0; have x1 := (G1.no k2).c1; have x2 := (G1.no k2).c2)
    | (go_at_call 13; (with_reducible refine (unhide HC _ (k1.andNo k2)).mono ?_); rintro e w4 ⟨rfl, k4⟩)
    | (go_at_call 9; (with_reducible refine (linked_any _).mono ?_); rintro e w3 ⟨rfl, k3⟩)
    | ((with_reducible show wpList _ _ _ (_ :: _) _ _); first
      | (refine wpL_box rfl 24 (.tmp 0) rfl (chC c (.slice ad c.ms.length cap)) (by rfl) ?_; intro p w1 e1 k1 g1 z1; have G1 : ChAt w1 p c (.slice ad c.ms.length cap) := g1; clear e1 z1 g1)
      | (refine wpL_load rfl 24 (.tmp 2) rfl p rfl (chC c (.slice ad c.ms.length cap)) _ _ G1 _ Try.underlying24 rfl info_ch ?_)))
  go_ret
  exact ⟨rfl, ((k1.andNo k2).andNo k4).andNo k3⟩
set_option maxRecDepth 100000 in
set_option maxHeartbeats 4000000 in
theorem ends_good (hs : Sl w ad cap c.ms) (n : Int) (h : greatB c = false) (g : good c = true) : Calls Try.prog 7 #[chV c (.slice ad c.ms.length cap), .int .i64 n] w (ToldN (.bool true) w) := by
  have G := fun w => great_any c ad cap w
  rw [h] at G
  have HG := hide G
  have HC := hide (fun w' (k : Chg noBlk w w') => check_yes (hs.no k) g)
  have HH := hide (fun w' (k : Chg noBlk w w') => by have := head_any (hs.no k); rw [head_kA g] at this; exact this)
  have HT := hide (fun w' (k : Chg noBlk w w') => by have := tail_any (hs.no k); rw [tail_lA g] at this; exact this)
  have HN := hide (fun w' (k : Chg noBlk w w') j (hj : j < c.ms.length) => by have := next_any (hs.no k) (kA c j); rw [next_kA g hj] at this; exact this)
  have HP := hide (fun w' (k : Chg noBlk w w') j (hj : j < c.ms.length) => by have := prev_any (hs.no k) (kA c j); rw [prev_kA g hj] at this; exact this)
  have HK := hide (fun j (hj : j < c.ms.length) => kA_pos g hj)
  have l6 := (good_iff.1 g).len2
  have HGG := hide g
  have HS := hide hs
  clear G h hs g
  go_enter Try.func7, Try.ntmps7
  go_wp2_with (first
    | (go_at_call 8; (with_reducible refine (unhide HG _).mono ?_); rintro e w2 ⟨rfl, k2⟩; have x0 := (G1.no k2).c0; have x1 := (G1.no k2).c1; have x2 := (G1.no k2).c2)
    | (go_at_call 13; (with_reducible refine (unhide HC _ (k1.andNo k2)).mono ?_); rintro e w3 ⟨rfl, k3⟩; clear x0 x1 x2; have G3 := (G1.no k2).no k3)
    | (go_at_call 25; (with_reducible refine (unhide HH _ ((k1.andNo k2).andNo k3)).mono ?_); rintro e w4 ⟨rfl, k4⟩; have G4 := hide (G3.no k4))
    | ((with_reducible show wpList _ _ _ (_ :: _) _ _); first
      | (refine wpL_box rfl 24 (.tmp 0) rfl (chC c (.slice ad c.ms.length cap)) (by rfl) ?_; intro p w1 e1 k1 g1 z1; have G1 : ChAt w1 p c (.slice ad c.ms.length cap) := g1; clear e1 z1 g1)
      | (refine wpL_load rfl 24 (.tmp 2) rfl p rfl (chC c (.slice ad c.ms.length cap)) _ _ (by assumption) _ Try.underlying24 rfl info_ch ?_)))
  have K4 := ((k1.andNo k2).andNo k3).andNo k4
  clear G1 G3 k1 k2 k3 k4
  go_loopw [5, 6, 7] (fun a b d wr => ∃ j : Nat, j ≤ c.ms.length ∧ a = .int .i64 (j : Int) ∧ b = .int .i64 (lA c j) ∧ d = .int .i64 (kA c j) ∧ Chg noBlk w4 wr) (fun a b d wr => c.ms.length - (intOf a).toNat)
  case atStart => exact ⟨0, by omega, rfl, rfl, rfl, Chg.refl _ _⟩
  case round =>
    obtain ⟨j, hj, rfl, rfl, rfl, hch⟩ := hrel
    have G := hide ((unhide G4).no hch)
    have y1 := (unhide G).c1
    have KW := K4.andNo hch
    by_cases hlt : j < c.ms.length
    · have p1 := unhide HK j hlt
      have p2 : (j : Int) ≤ (c.ms.length : Int) := by omega
      go_wp2_with (first
        | (go_at_call 27; (with_reducible refine (unhide HP _ KW j hlt).mono ?_); rintro e w5 ⟨rfl, k5⟩)
        | (go_at_call 26; (with_reducible refine (unhide HN _ (KW.andNo k5) j hlt).mono ?_); rintro e w6 ⟨rfl, k6⟩)
        | ((with_reducible show wpList _ _ _ (_ :: _) _ _); first
          | (refine wpL_load rfl 24 (.tmp 2) rfl p rfl (chC c (.slice ad c.ms.length cap)) _ _ (unhide G) _ Try.underlying24 rfl info_ch ?_)
          | (refine wpL_load rfl 24 (.tmp 2) rfl p rfl (chC c (.slice ad c.ms.length cap)) _ _ ((unhide G).no k5) _ Try.underlying24 rfl info_ch ?_)))
      go_roundw
      case rel => exact ⟨j + 1, by omega, by go_num, rfl, rfl, (hch.andNo k5).andNo k6⟩
      case measure => simp [intOf]; omega
    · obtain rfl : j = c.ms.length := by omega
      have p1 : kA c c.ms.length < 0 := by rw [kA_end (Nat.le_refl _)]; decide
      have y0 := (unhide G).c0
      have y2 := (unhide G).c2
      have hb := i64_and7 n
      have hb1 : 0 ≤ n % 8 := Int.emod_nonneg _ (by decide)
      have hb2 : n % 8 < 8 := Int.emod_lt_of_pos _ (by decide)
      generalize n % 8 = m at *
      have HW := hide (fun w' (k : Chg noBlk w w') => with_any ((unhide HS).no k) m)
      obtain ⟨D, hD⟩ : ∃ D, withF c m = D := ⟨_, rfl⟩
      obtain ⟨E, hE⟩ : ∃ E, withE c m = E := ⟨_, rfl⟩
      rw [hD, hE] at HW
      have hDl : D.ms.length ≤ 100 := by
        rw [← hD]
        unfold withF
        split
        · show (c.ms ++ [_]).length ≤ 100
          simp
          omega
        · show (0 : Nat) ≤ 100
          omega
      have HD := hide hD
      have HE := hide hE
      clear hD hE
      go_upto_if 70 with (first
        | (go_at_call 28; (with_reducible refine (unhide HT _ KW).mono ?_); rintro e w5 ⟨rfl, k5⟩; have K5 := hch.andNo k5)
        | (go_at_call 17; (with_reducible refine (unhide HW _ (K4.andNo K5)).mono ?_); rintro e w6 ⟨v6, rfl, k6, o6, f6⟩; obtain ⟨a6, c6, rfl, s6⟩ := sl_own o6 hDl)
        | ((with_reducible show wpList _ _ _ (_ :: _) _ _); first
          | (refine wpL_load rfl 24 (.tmp 2) rfl p rfl (chC c (.slice ad c.ms.length cap)) _ _ ((unhide G4).no K5) _ Try.underlying24 rfl info_ch ?_)
          | (refine wpL_alloc rfl 24 rfl _ zero_ch ?_; intro q8 w7 e7 k7 g7 z7)
          | (refine wpL_store rfl 24 (.tmp 8) (.tmp 67) rfl q8 (chC D (.slice a6 D.ms.length c6)) rfl (by rfl) _ _ g7 info_ch rfl (all_oneCell_toArray (one_chC o6.one)) ?_; intro w8 k8 g8 z8)))
      have J8 : Chg noBlk w6 w8 := k7.past k8 (Nat.le_of_eq e7)
      have K8 := (K5.andNo k6).andNo J8
      have HDD := hide (fun w' (k : Chg noBlk w8 w') => And.intro (show ChAt w' q8 D (.slice a6 D.ms.length c6) from k.at g8 id) ((s6.no J8).no k))
      have HB := hide (fun w' (k : Chg noBlk w8 w') => And.intro ((unhide G4).no (K8.andNo k)) ((unhide HS).no ((K4.andNo K8).andNo k)))
      have KW8 := hide (K4.andNo K8)
      clear y0 y1 y2 k5 k6 e7 k7 g7 z7 k8 g8 z8 o6 f6 s6 J8 KW hch hb hj hlt p1 G K5
      go_cut [] (fun wx => Chg noBlk w8 wx)
      case first =>
        by_cases hE0 : E = 0
        · subst hE0
          have hW0 := unhide HE
          have fD : D = withC c m := by rw [← unhide HD]; unfold withF; rw [if_pos hW0]
          have gD : good D = true := by rw [fD]; exact good_with hW0
          have eD : D.ep = c.ep + 1 := by rw [fD]; rfl
          have be := (withE_of hW0).2.1
          have be1 := (good_iff.1 (unhide HGG)).ep1
          have H1 := hide (fun w' (k : Chg noBlk w8 w') => (by have := since_any (unhide HDD _ k).2 m; rw [show sinceF D m = (c.ep + 1, true) by rw [fD]; exact since_with hW0] at this; exact this : Calls Try.prog 29 #[chV D (.slice a6 D.ms.length c6), .int .i64 m] w' (ToldN (.tuple #[.int .i64 (c.ep + 1), .bool true]) w')))
          have H2 := hide (fun w' (k : Chg noBlk w8 w') => without_any (unhide HDD _ k).2 m)
          have H3 := hide (fun w' (k : Chg noBlk w8 w') => check_yes (unhide HDD _ k).2 gD)
          have H4 := hide (fun w' (k : Chg noBlk w8 w') => (by have := tail_any (unhide HDD _ k).2; rw [show tailF D = m by rw [fD]; exact tail_with hW0] at this; exact this : Calls Try.prog 28 #[chV D (.slice a6 D.ms.length c6)] w' (ToldN (.int .i64 m) w')))
          have hsum : IntKind.i64.wrap (c.ep + 1) = c.ep + 1 := IntWalk.i64_in _ (by omega)
          have hx2 : (D.ep != c.ep + 1) = false := by simp [eD]
          have hx3 : (c.ep + 1 != D.ep) = false := by simp [eD]
          obtain ⟨F, hF⟩ : ∃ F, woF D m = F := ⟨_, rfl⟩
          obtain ⟨g, hg⟩ : ∃ g, goE D m = g := ⟨_, rfl⟩
          rw [hF, hg] at H2
          have HeD := hide eD
          have lD : D.ep ≤ 1099511627776 := by omega
          have N8 := (unhide HDD _ (Chg.refl _ _)).1
          by_cases he : c.ep + 1 < 1099511627776
          · have w0 := wo_with hW0 he
            rw [← fD, hF, hg] at w0
            obtain ⟨rfl, rfl⟩ := w0
            have l8 : D.ep < 1099511627776 := by omega
            have H6 := H2
            have H5 := hide (fun w' (a : Option Addr) (cp : Nat) (k : Chg noBlk w8 w') (h : Sl w' a cp c.ms) => (by have := same_any (c := ⟨c.ep, c.ms, c.dr⟩) h (unhide HB _ k).2; rw [show sameB ⟨c.ep, c.ms, c.dr⟩ c = true from decide_eq_true rfl] at this; exact this : Calls Try.prog 15 #[.agg #[.int .i64 c.ep, .slice a c.ms.length cp, .int .i64 c.dr], chV c (.slice ad c.ms.length cap)] w' (ToldN (.bool true) w')))
            clear H2 hF hg eD fD gD hW0
            go_wp2_with (first
              | (go_at_call 29; (with_reducible refine (unhide H1 _ (Chg.refl _ _)).mono ?_); rintro e w9 ⟨rfl, k9⟩; have N9 := (unhide HDD _ k9).1)
              | (go_at_call 19; (with_reducible refine (unhide H6 _ k9).mono ?_); rintro e w10 ⟨v10, rfl, k10, o10, f10⟩; obtain ⟨a10, c10, rfl, s10⟩ := sl_own (L := c.ms) o10 (unhide HS).few)
              | (go_at_call 13; (with_reducible refine (unhide H3 _ J12).mono ?_); rintro e w13 ⟨rfl, k13⟩; obtain ⟨x0, x1, x2⟩ := three_at (unhide HDD _ (J12.andNo k13)).1; have y0 := (unhide HB _ (J12.andNo k13)).1.c0)
              | (go_at_call 28; (with_reducible refine (unhide H4 _ (J12.andNo k13)).mono ?_); rintro e w14 ⟨rfl, k14⟩; clear x0 x1 x2 y0; obtain ⟨x0, x1, x2⟩ := three_at (unhide HDD _ ((J12.andNo k13).andNo k14)).1; have y0 := (unhide HB _ ((J12.andNo k13).andNo k14)).1.c0; have g14 := (k13.andNo k14).at g12 id)
              | (go_at_call 15; (with_reducible refine (unhide H5 _ _ _ J15 S15).mono ?_); rintro e w16 ⟨rfl, k16⟩)
              | ((with_reducible show wpList _ _ _ (_ :: _) _ _); first
                | (refine wpL_load rfl 24 (.tmp 8) rfl q8 rfl (chC D (.slice a6 D.ms.length c6)) _ _ (by assumption) _ Try.underlying24 rfl info_ch ?_)
                | (refine wpL_alloc rfl 24 rfl _ zero_ch ?_; intro q12 w11 e11 k11 g11 z11)
                | (refine wpL_store rfl 24 (.tmp 12) (.tmp 81) rfl q12 (chC ⟨c.ep + 2, c.ms, c.dr⟩ (.slice a10 c.ms.length c10)) rfl (by rfl) _ _ g11 info_ch rfl (all_oneCell_toArray (one_chC (c := ⟨c.ep + 2, c.ms, c.dr⟩) rfl)) ?_; intro w12 k12 g12 z12; have j12 : Chg noBlk w10 w12 := k11.past k12 (Nat.le_of_eq e11); have J12 := (k9.andNo k10).andNo j12; have N12 := (unhide HDD _ J12).1; have Q12 := hide (show w8.heap.size ≤ q12 from Nat.le_trans (k9.andNo k10).size (Nat.le_of_eq e11)); clear e11 z11 g11 z12)
                | (refine wpL_set rfl 3 (.tmp 112) (.tmp 111) rfl q12 0 (.int .i64 c.ep) rfl (by rfl) rfl (by kernel_rfl) _ _ g14 (by simp) ?_; intro w15 k15 g15 z15; have J15 := ((J12.andNo k13).andNo k14).past k15 (unhide Q12); clear x0 x1 x2 y0; obtain ⟨x0, x1, x2⟩ := three_at (unhide HDD _ J15).1; obtain ⟨y0, y1, y2⟩ := three_at (unhide HB _ J15).1; obtain ⟨u0, u1, u2⟩ := three_at (show w15.heap[q12]? = some (.cells #[.int .i64 c.ep, .slice a10 c.ms.length c10, .int .i64 c.dr] 24 (0, 0)) from g15); have o14 := OwnL.no o10 ((j12.andNo k13).andNo k14); have S15 := sl_of (OwnL.kept o14 k15 (own_ne o14 g14)) (unhide HS).few rfl)))
            go_meet
            case rel => exact J15.andNo k16
          · have w0 := wo_top hW0 he
            rw [← fD, hF, hg] at w0
            obtain ⟨rfl, rfl⟩ := w0
            have l8 : decide (D.ep < 1099511627776) = false := decide_eq_false (by omega)
            clear he
            have H6 := hide (fun w' (k : Chg noBlk w8 w') => (unhide H2 w' k).mono fun x w'' hx => (newCE_open hx (by decide) : ∃ ad cap, x = .returned (.tuple #[.agg #[.int .i64 0, .slice ad 0 cap, .int .i64 0], .int .i64 2]) ∧ Chg noBlk w' w'' ∧ Sl w'' ad cap []))
            clear H2 hF hg eD fD gD hW0
            go_wp2_with (first
              | (go_at_call 29; (with_reducible refine (unhide H1 _ (Chg.refl _ _)).mono ?_); rintro e w9 ⟨rfl, k9⟩; have N9 := (unhide HDD _ k9).1)
              | (go_at_call 19; (with_reducible refine (unhide H6 _ k9).mono ?_); rintro e w10 ⟨a10, c10, rfl, k10, s10⟩)
              | (go_at_call 13; (with_reducible refine (unhide H3 _ J12).mono ?_); rintro e w13 ⟨rfl, k13⟩; obtain ⟨x0, x1, x2⟩ := three_at (unhide HDD _ (J12.andNo k13)).1; have y0 := (unhide HB _ (J12.andNo k13)).1.c0)
              | (go_at_call 28; (with_reducible refine (unhide H4 _ (J12.andNo k13)).mono ?_); rintro e w14 ⟨rfl, k14⟩; clear x0 x1 x2 y0; obtain ⟨x0, x1, x2⟩ := three_at (unhide HDD _ ((J12.andNo k13).andNo k14)).1; have y0 := (unhide HB _ ((J12.andNo k13).andNo k14)).1.c0; have g14 := (k13.andNo k14).at g12 id)
              | ((with_reducible show wpList _ _ _ (_ :: _) _ _); first
                | (refine wpL_load rfl 24 (.tmp 8) rfl q8 rfl (chC D (.slice a6 D.ms.length c6)) _ _ (by assumption) _ Try.underlying24 rfl info_ch ?_)
                | (refine wpL_alloc rfl 24 rfl _ zero_ch ?_; intro q12 w11 e11 k11 g11 z11)
                | (refine wpL_store rfl 24 (.tmp 12) (.tmp 81) rfl q12 #[.int .i64 0, .slice a10 0 c10, .int .i64 0] rfl (by rfl) _ _ g11 info_ch rfl (three_one _ _ _ rfl) ?_; intro w12 k12 g12 z12; have j12 : Chg noBlk w10 w12 := k11.past k12 (Nat.le_of_eq e11); have J12 := (k9.andNo k10).andNo j12; have N12 := (unhide HDD _ J12).1; have Q12 := hide (show w8.heap.size ≤ q12 from Nat.le_trans (k9.andNo k10).size (Nat.le_of_eq e11)); clear e11 z11 g11 z12)
                | (refine wpL_set rfl 3 (.tmp 112) (.tmp 111) rfl q12 0 (.int .i64 c.ep) rfl (by rfl) rfl (by kernel_rfl) _ _ g14 (by simp) ?_; intro w15 k15 g15 z15; have J15 := ((J12.andNo k13).andNo k14).past k15 (unhide Q12); clear x0 x1 x2 y0; obtain ⟨x0, x1, x2⟩ := three_at (unhide HDD _ J15).1; obtain ⟨y0, y1, y2⟩ := three_at (unhide HB _ J15).1; obtain ⟨u0, u1, u2⟩ := three_at (show w15.heap[q12]? = some (.cells #[.int .i64 c.ep, .slice a10 0 c10, .int .i64 0] 24 (0, 0)) from g15))))
            go_meet
            case rel => exact J15
        · have d1 : (E == 0) = false := beq_eq_false_iff_ne.2 hE0
          go_wp2_with fail
          go_meet
          case rel => exact Chg.refl _ _
      case rest =>
        have HBB := hide (fun w' (k : Chg noBlk wc w') => unhide HB _ (hcut.andNo k))
        have O := fun w' (k : Chg noBlk wc w') => without_any (unhide HBB w' k).2 m
        have R := fun w' (k : Chg noBlk wc w') => drain_any (unhide HBB w' k).2 m
        have fF := since_wo c m
        have fB := fun h => good_wo (c := c) (n := m) h
        have fC := fun h => good_drain (c := c) (n := m) h
        have fl := wo_len c m
        have fm := drain_len c m
        have fE := drain_go c m
        have be1 := (good_iff.1 (unhide HGG)).ep1
        have be2 := (good_iff.1 (unhide HGG)).ep2
        have bl1 := (good_iff.1 (unhide HGG)).len1
        generalize woF c m = F at *
        generalize drainF c m = H at *
        generalize goE c m = g at *
        generalize drainE c m = i at *
        have lF : F.ms.length ≤ 100 := by omega
        have lH : H.ms.length ≤ 100 := by omega
        have HSI := hide (fun w' (a : Option Addr) (cp : Nat) (h : Sl w' a cp F.ms) => (by have := since_any h m; rw [fF] at this; exact this : Calls Try.prog 29 #[chV F (.slice a F.ms.length cp), .int .i64 m] w' (ToldN (.tuple #[.int .i64 (sinceF F m).1, .bool false]) w')))
        generalize (sinceF F m).1 = sn at *
        have hsum : IntKind.i64.wrap (c.ep + 1) = c.ep + 1 := IntWalk.i64_in _ (by omega)
        have HO := hide O
        have HR := hide R
        clear O R fF fl fm HE HD HW
        by_cases hg : g = 0
        · subst hg
          obtain ⟨b1, b2, b3⟩ := fB rfl
          have HCF := hide (fun w' (a : Option Addr) (cp : Nat) (h : Sl w' a cp F.ms) => check_yes h b1)
          have n1 : (F.ep != c.ep + 1) = false := by simp [b2]
          have n2 : ((F.ms.length : Int) != (c.ms.length : Int) - 1) = false := by simp; omega
          by_cases hi : i = 0
          · subst hi
            obtain ⟨b4, b5, b6⟩ := fC rfl
            have HCH := hide (fun w' (a : Option Addr) (cp : Nat) (h : Sl w' a cp H.ms) => check_yes h b4)
            have n3 : (H.dr != m) = false := by simp [b5]
            have n4 : (H.ep != c.ep + 1) = false := by simp [b6]
            clear b1 b2 b3 b4 b5 b6 fB fC fE
            go_wp2_with (first
              | (go_at_call 19; (with_reducible refine (unhide HO _ (Chg.refl _ _)).mono ?_); rintro e w20 ⟨v20, rfl, k20, o20, f20⟩; obtain ⟨a20, c20, rfl, s20⟩ := sl_own o20 lF)
              | (go_at_call 21; (with_reducible refine (unhide HR _ J22).mono ?_); rintro e w23 ⟨v23, rfl, k23, o23, f23⟩; obtain ⟨a23, c23, rfl, s23⟩ := sl_own o23 lH)
              | (go_at_call 13; (with_reducible refine (unhide HCH _ _ _ (unhide HQ _ k26).2).mono ?_); rintro e w27 ⟨rfl, k27⟩; clear u0 u1 u2 y0 y1 y2; obtain ⟨u0, u1, u2⟩ := three_at (unhide HQ _ (k26.andNo k27)).1; obtain ⟨y0, y1, y2⟩ := three_at (unhide HBB _ (((J22.andNo J25).andNo k26).andNo k27)).1)
              | (go_at_call 13; (with_reducible refine (unhide HCF _ _ _ (unhide HF _ J25).2).mono ?_); rintro e w26 ⟨rfl, k26⟩; clear x0 x1 x2; obtain ⟨x0, x1, x2⟩ := three_at (unhide HF _ (J25.andNo k26)).1; obtain ⟨y0, y1, y2⟩ := three_at (unhide HBB _ ((J22.andNo J25).andNo k26)).1; obtain ⟨u0, u1, u2⟩ := three_at (unhide HQ _ k26).1)
              | (go_at_call 29; (with_reducible refine (unhide HSI _ _ _ (unhide HF _ ((J25.andNo k26).andNo k27)).2).mono ?_); rintro e w28 ⟨rfl, k28⟩)
              | (go_at_call 9; (with_reducible refine (linked_any _).mono ?_); rintro e w29 ⟨rfl, k29⟩)
              | ((with_reducible show wpList _ _ _ (⟨_, _, _, _, _, none⟩ :: _) _ _); first
                | (refine wpL_load rfl 24 (.tmp 2) rfl p rfl (chC c (.slice ad c.ms.length cap)) _ _ (by first | exact (unhide HBB _ J22).1 | exact (unhide HBB _ (Chg.refl _ _)).1) _ Try.underlying24 rfl info_ch ?_)
                | (refine wpL_load rfl 24 (.tmp 14) rfl q14 rfl (chC F (.slice a20 F.ms.length c20)) _ _ (unhide HF _ ((J25.andNo k26).andNo k27)).1 _ Try.underlying24 rfl info_ch ?_)
                | (have tk := k23; refine wpL_alloc rfl 24 rfl _ zero_ch ?_; intro q16 w24 e24 k24 g24 z24)
                | (refine wpL_alloc rfl 24 rfl _ zero_ch ?_; intro q14 w21 e21 k21 g21 z21)
                | (refine wpL_store rfl 24 (.tmp 14) (.tmp 130) rfl q14 (chC F (.slice a20 F.ms.length c20)) rfl (by rfl) _ _ g21 info_ch rfl (all_oneCell_toArray (one_chC o20.one)) ?_; intro w22 k22 g22 z22; have j22 : Chg noBlk w20 w22 := k21.past k22 (Nat.le_of_eq e21); have J22 := k20.andNo j22; have HF := hide (fun w' (k : Chg noBlk w22 w') => And.intro (show ChAt w' q14 F (.slice a20 F.ms.length c20) from k.at g22 id) ((s20.no j22).no k)); clear e21 g21 z21 z22 k21 k22)
                | (refine wpL_store rfl 24 (.tmp 16) (.tmp 136) rfl q16 (chC H (.slice a23 H.ms.length c23)) rfl (by rfl) _ _ g24 info_ch rfl (all_oneCell_toArray (one_chC o23.one)) ?_; intro w25 k25 g25 z25; have j25 : Chg noBlk w23 w25 := k24.past k25 (Nat.le_of_eq e24); have J25 := k23.andNo j25; have HQ := hide (fun w' (k : Chg noBlk w25 w') => And.intro (show ChAt w' q16 H (.slice a23 H.ms.length c23) from k.at g25 id) ((s23.no j25).no k)); clear e24 g24 z24 z25 k24 k25; obtain ⟨x0, x1, x2⟩ := three_at (unhide HF _ J25).1)))
            go_ret
            exact ⟨rfl, (((unhide KW8).andNo hcut).andNo (((J22.andNo J25).andNo k26).andNo k27)).andNo (k28.andNo k29)⟩
          · have n3 : (i == 0) = false := beq_eq_false_iff_ne.2 hi
            clear b1 b2 b3 fB fC fE hi
            go_wp2_with (first
              | (go_at_call 19; (with_reducible refine (unhide HO _ (Chg.refl _ _)).mono ?_); rintro e w20 ⟨v20, rfl, k20, o20, f20⟩; obtain ⟨a20, c20, rfl, s20⟩ := sl_own o20 lF)
              | (go_at_call 21; (with_reducible refine (unhide HR _ J22).mono ?_); rintro e w23 ⟨v23, rfl, k23, o23, f23⟩; obtain ⟨a23, c23, rfl, s23⟩ := sl_own o23 lH)
              | (go_at_call 13; (with_reducible refine (unhide HCF _ _ _ (unhide HF _ J25).2).mono ?_); rintro e w26 ⟨rfl, k26⟩; clear x0 x1 x2; obtain ⟨x0, x1, x2⟩ := three_at (unhide HF _ (J25.andNo k26)).1; obtain ⟨y0, y1, y2⟩ := three_at (unhide HBB _ ((J22.andNo J25).andNo k26)).1)
              | (go_at_call 29; (with_reducible refine (unhide HSI _ _ _ (unhide HF _ (J25.andNo k26)).2).mono ?_); rintro e w28 ⟨rfl, k28⟩)
              | (go_at_call 9; (with_reducible refine (linked_any _).mono ?_); rintro e w29 ⟨rfl, k29⟩)
              | ((with_reducible show wpList _ _ _ (⟨_, _, _, _, _, none⟩ :: _) _ _); first
                | (refine wpL_load rfl 24 (.tmp 2) rfl p rfl (chC c (.slice ad c.ms.length cap)) _ _ (by first | exact (unhide HBB _ J22).1 | exact (unhide HBB _ (Chg.refl _ _)).1) _ Try.underlying24 rfl info_ch ?_)
                | (refine wpL_load rfl 24 (.tmp 14) rfl q14 rfl (chC F (.slice a20 F.ms.length c20)) _ _ (unhide HF _ (J25.andNo k26)).1 _ Try.underlying24 rfl info_ch ?_)
                | (have tk := k23; refine wpL_alloc rfl 24 rfl _ zero_ch ?_; intro q16 w24 e24 k24 g24 z24)
                | (refine wpL_alloc rfl 24 rfl _ zero_ch ?_; intro q14 w21 e21 k21 g21 z21)
                | (refine wpL_store rfl 24 (.tmp 14) (.tmp 130) rfl q14 (chC F (.slice a20 F.ms.length c20)) rfl (by rfl) _ _ g21 info_ch rfl (all_oneCell_toArray (one_chC o20.one)) ?_; intro w22 k22 g22 z22; have j22 : Chg noBlk w20 w22 := k21.past k22 (Nat.le_of_eq e21); have J22 := k20.andNo j22; have HF := hide (fun w' (k : Chg noBlk w22 w') => And.intro (show ChAt w' q14 F (.slice a20 F.ms.length c20) from k.at g22 id) ((s20.no j22).no k)); clear e21 g21 z21 z22 k21 k22)
                | (refine wpL_store rfl 24 (.tmp 16) (.tmp 136) rfl q16 (chC H (.slice a23 H.ms.length c23)) rfl (by rfl) _ _ g24 info_ch rfl (all_oneCell_toArray (one_chC o23.one)) ?_; intro w25 k25 g25 z25; have j25 : Chg noBlk w23 w25 := k24.past k25 (Nat.le_of_eq e24); have J25 := k23.andNo j25; have HQ := hide (fun w' (k : Chg noBlk w25 w') => And.intro (show ChAt w' q16 H (.slice a23 H.ms.length c23) from k.at g25 id) ((s23.no j25).no k)); clear e24 g24 z24 z25 k24 k25; obtain ⟨x0, x1, x2⟩ := three_at (unhide HF _ J25).1)))
            go_ret
            exact ⟨rfl, (((unhide KW8).andNo hcut).andNo ((J22.andNo J25).andNo k26)).andNo (k28.andNo k29)⟩
        · have n1 : (g == 0) = false := beq_eq_false_iff_ne.2 hg
          have n3 : (i == 0) = false := beq_eq_false_iff_ne.2 (fE hg)
          clear fB fC fE hg
          go_wp2_with (first
            | (go_at_call 19; (with_reducible refine (unhide HO _ (Chg.refl _ _)).mono ?_); rintro e w20 ⟨v20, rfl, k20, o20, f20⟩; obtain ⟨a20, c20, rfl, s20⟩ := sl_own o20 lF)
            | (go_at_call 21; (with_reducible refine (unhide HR _ J22).mono ?_); rintro e w23 ⟨v23, rfl, k23, o23, f23⟩; obtain ⟨a23, c23, rfl, s23⟩ := sl_own o23 lH)
            | (go_at_call 29; (with_reducible refine (unhide HSI _ _ _ (unhide HF _ J25).2).mono ?_); rintro e w28 ⟨rfl, k28⟩)
            | (go_at_call 9; (with_reducible refine (linked_any _).mono ?_); rintro e w29 ⟨rfl, k29⟩)
            | ((with_reducible show wpList _ _ _ (⟨_, _, _, _, _, none⟩ :: _) _ _); first
              | (refine wpL_load rfl 24 (.tmp 2) rfl p rfl (chC c (.slice ad c.ms.length cap)) _ _ (by first | exact (unhide HBB _ J22).1 | exact (unhide HBB _ (Chg.refl _ _)).1) _ Try.underlying24 rfl info_ch ?_)
              | (refine wpL_load rfl 24 (.tmp 14) rfl q14 rfl (chC F (.slice a20 F.ms.length c20)) _ _ (unhide HF _ J25).1 _ Try.underlying24 rfl info_ch ?_)
              | (have tk := k23; refine wpL_alloc rfl 24 rfl _ zero_ch ?_; intro q16 w24 e24 k24 g24 z24)
              | (refine wpL_alloc rfl 24 rfl _ zero_ch ?_; intro q14 w21 e21 k21 g21 z21)
              | (refine wpL_store rfl 24 (.tmp 14) (.tmp 130) rfl q14 (chC F (.slice a20 F.ms.length c20)) rfl (by rfl) _ _ g21 info_ch rfl (all_oneCell_toArray (one_chC o20.one)) ?_; intro w22 k22 g22 z22; have j22 : Chg noBlk w20 w22 := k21.past k22 (Nat.le_of_eq e21); have J22 := k20.andNo j22; have HF := hide (fun w' (k : Chg noBlk w22 w') => And.intro (show ChAt w' q14 F (.slice a20 F.ms.length c20) from k.at g22 id) ((s20.no j22).no k)); clear e21 g21 z21 z22 k21 k22)
              | (refine wpL_store rfl 24 (.tmp 16) (.tmp 136) rfl q16 (chC H (.slice a23 H.ms.length c23)) rfl (by rfl) _ _ g24 info_ch rfl (all_oneCell_toArray (one_chC o23.one)) ?_; intro w25 k25 g25 z25; have j25 : Chg noBlk w23 w25 := k24.past k25 (Nat.le_of_eq e24); have J25 := k23.andNo j25; have HQ := hide (fun w' (k : Chg noBlk w25 w') => And.intro (show ChAt w' q16 H (.slice a23 H.ms.length c23) from k.at g25 id) ((s23.no j25).no k)); clear e24 g24 z24 z25 k24 k25)))
          go_ret
          exact ⟨rfl, (((unhide KW8).andNo hcut).andNo (J22.andNo J25)).andNo (k28.andNo k29)⟩
end
theorem endslaw_any {w : World} {ad : Option Addr} {cap : Nat} {c : CT} (hs : Sl0 w ad cap c.ms) (n : Int) : Calls Try.prog 7 #[chV c (.slice ad c.ms.length cap), .int .i64 n] w (ToldN (.bool true) w) := by
  cases h : greatB c
  · have hl := greatB_no h
    cases g : good c
    · exact ends_bad (hs.sl (by omega)) n h g
    · exact ends_good (hs.sl (by omega)) n h g
  · exact ends_great n h
#print axioms endslaw_any
end Go.Proofs.Ytiapkmncgafofaa
