/-
  Chains: the walk of the law that the next epoch's chain is the document's.
-/
import Derived.Test.YtiapkmncgafofaaChainsX
import Derived.Test.YtiapkmncgafofaaChainsRC
import Derived.Test.YtiapkmncgafofaaChainsZ
import Derived.Maps.RangeWalk
import Derived.Deep.DeepCutAuto
namespace Go.Proofs.Ytiapkmncgafofaa
open Go.ChangeShapes Go.WideShapes Go.ChangeAt Go.RowKit
set_option linter.unusedVariables false
theorem wo_len (c : CT) (n : Int) : (woF c n).ms.length ≤ c.ms.length := by
  unfold woF
  split
  · exact List.length_filter_le _ _
  · exact Nat.zero_le _
theorem drain_len (c : CT) (n : Int) : (drainF c n).ms.length ≤ c.ms.length := by
  unfold drainF
  split
  · exact Nat.le_refl _
  · exact Nat.zero_le _
theorem own_ne {w : World} {v : Value} {L : List MT} {q : Nat} {cs : Array Value} (h : OwnL w 37 MT.cells 2 v L) (hq : w.heap[q]? = some (.cells cs 24 (0, 0))) : ∀ g, v.ownBlock = some g → ¬ oneBlk q g := fun g hg e => by
  obtain ⟨cur, hb⟩ := h.block hg
  exact ne_type hb hq (by decide) e
theorem sameB_self (c : CT) : sameB c c = true := decide_eq_true rfl
/-- a chain in a variable, whole, in its cells, and its members -/
structure ObjAt (w : World) (p : Nat) (F : CT) (a : Option Addr) (cp : Nat) : Prop where
  c3 : w.cell? ⟨p, 0, none⟩ = some (.int .i64 F.ep) ∧ w.cell? ⟨p, 1, none⟩ = some (.slice a F.ms.length cp) ∧ w.cell? ⟨p, 2, none⟩ = some (.int .i64 F.dr)
  sl : Sl w a cp F.ms
  at_ : w.heap[p]? = some (.cells (chC F (.slice a F.ms.length cp)) 24 (0, 0))
/-- where the members of what was told are overwritten -/
structure XSt (w0 w : World) (a : Option Addr) (n p : Nat) (cs : Array Value) : Prop where
  chg : Chg noBlk w0 w
  ch : w.heap[p]? = some (.cells cs 24 (0, 0))
  blk : n = 0 ∨ ∃ g cur, a = some ⟨g, 0, none⟩ ∧ w.heap[g]? = some (.cells cur 37 (0, 0)) ∧ n * 2 ≤ cur.size ∧ w0.heap.size ≤ g
theorem XSt.start {w0 w wz : World} {F : CT} {a : Option Addr} {cp p : Nat} (h : OwnL w 37 MT.cells 2 (.slice a F.ms.length cp) F.ms) (f : ∀ g, (Value.slice a F.ms.length cp).ownBlock = some g → w0.heap.size ≤ g) (k : Chg noBlk w wz) (k0 : Chg noBlk w0 wz) {cs : Array Value} (hp : wz.heap[p]? = some (.cells cs 24 (0, 0))) : XSt w0 wz a F.ms.length p cs := by
  refine ⟨k0, hp, ?_⟩
  rcases (OwnL.no h k).2 with ⟨_, h0⟩ | ⟨g, cap, cur, e, _, hb, r1, r2, r3, r4⟩
  · exact .inl h0
  · injection e with e1 e2 e3
    subst e1
    exact .inr ⟨g, cur, rfl, hb, by omega, f g rfl⟩
theorem XSt.step {w0 w w' : World} {a : Option Addr} {n p g i : Nat} {cs cur : Array Value} {vs : List Value} (h : XSt w0 w a n p cs) (ha : a = some ⟨g, 0, none⟩) (hb : w.heap[g]? = some (.cells cur 37 (0, 0))) (hg : w0.heap.size ≤ g) (hn : n * 2 ≤ cur.size) (ho : i * 2 + vs.length ≤ cur.size) (k : Chg (oneBlk g) w w') (hk : w'.heap[g]? = some (.cells (laidIn cur (i * 2) vs) 37 (0, 0))) : XSt w0 w' a n p cs := by
  refine ⟨h.chg.past k hg, k.at h.ch (fun e => ne_type h.ch hb (by decide) e), .inr ⟨g, _, ha, hk, ?_, hg⟩⟩
  unfold laidIn
  simp
  omega
section
variable {w : World} {ad : Option Addr} {cap : Nat} {c : CT}
set_option maxRecDepth 100000 in
theorem move_great (n : Int) (h : greatB c = true) : Calls Try.prog 4 #[chV c (.slice ad c.ms.length cap), .int .i64 n] w (ToldN (.bool true) w) := by
  have G := fun w => great_any c ad cap w
  rw [h] at G
  have HG := hide G
  clear G h
  go_enter Try.func4, Try.ntmps4
  go_wp2_with (first
    | (go_at_call 8; (with_reducible refine (unhide HG _).mono ?_); rintro e w2 ⟨rfl, k2⟩)
    | (go_at_call 9; (with_reducible refine (linked_any _).mono ?_); rintro e w3 ⟨rfl, k3⟩)
    | ((with_reducible show wpList _ _ _ (⟨_, _, _, _, _, none⟩ :: _) _ _); first
      | (refine wpL_box rfl 24 (.tmp 0) rfl (chC c (.slice ad c.ms.length cap)) (by rfl) ?_; intro p w1 e1 k1 g1 z1; have G1 : ChAt w1 p c (.slice ad c.ms.length cap) := g1; clear e1 z1 g1)
      | (refine wpL_load rfl 24 (.tmp 2) rfl p rfl (chC c (.slice ad c.ms.length cap)) _ _ G1 _ Try.underlying24 rfl info_ch ?_)))
  go_ret
  exact ⟨rfl, (k1.andNo k2).andNo k3⟩
set_option maxRecDepth 100000 in
set_option maxHeartbeats 4000000 in
theorem move_in (hs : Sl w ad cap c.ms) (n : Int) (h : greatB c = false) : Calls Try.prog 4 #[chV c (.slice ad c.ms.length cap), .int .i64 n] w (ToldN (.bool true) w) := by
  have G := fun w => great_any c ad cap w
  rw [h] at G
  have HG := hide G
  have hl := greatB_no h
  have HS := hide (fun w' (k : Chg noBlk w w') => hs.no k)
  have HRD := hide (fun w' (k : Chg noBlk w w') => (hs.no k).reads)
  have m1 : c.ms.length ≤ maxLen := by unfold maxLen; omega
  have m3 : c.ms.length * 16 ≤ 140737488355328 := by omega
  have hf : c.ms.length ≤ 100 := by omega
  clear G h hs
  go_enter Try.func4, Try.ntmps4
  go_wp2_with (first
    | (go_at_call 8; (with_reducible refine (unhide HG _).mono ?_); rintro e w2 ⟨rfl, k2⟩; have G2 := G1.no k2; have K2 := k1.andNo k2)
    | ((with_reducible show wpList _ _ _ (⟨_, _, _, _, _, none⟩ :: _) _ _); first
      | (refine wpL_box rfl 24 (.tmp 0) rfl (chC c (.slice ad c.ms.length cap)) (by rfl) ?_; intro p w1 e1 k1 g1 z1; have G1 : ChAt w1 p c (.slice ad c.ms.length cap) := g1; clear e1 z1 g1)
      | (refine wpL_load rfl 24 (.tmp 2) rfl p rfl (chC c (.slice ad c.ms.length cap)) _ _ (by first | exact G2 | exact G1) _ Try.underlying24 rfl info_ch ?_)
      | (refine wpL_alloc rfl 24 rfl _ zero_ch ?_; intro p0 w3 e3 k3 g3 z3)
      | (refine wpL_store rfl 24 (.tmp 5) (.tmp 24) rfl p0 (chC c (.slice ad c.ms.length cap)) rfl (by rfl) _ _ g3 info_ch rfl (all_oneCell_toArray (one_chC rfl)) ?_; intro w4 k4 g4 z4; have q4 : Chg noBlk w2 w4 := k3.past k4 (Nat.le_of_eq e3); have y1 := (G2.no q4).c1; have l2 := Nat.le_of_eq e3)
      | (refine wpL_clone rfl (.tmp 26) 22 rfl 37 (.agg mZero.cells.toArray) 2 16 Try.underlying22 infx_mem rfl (by decide) (.slice ad c.ms.length cap) c.ms.length (flatC MT.cells c.ms) (by rfl) (unhide HRD _ (K2.andNo q4)) m1 m3 ?_; intro v5 w5 k5 o5 f5 n5; have O5 : OwnL w5 37 MT.cells 2 v5 c.ms := ownL_of o5 rfl rfl; have g5 := k5.at g4 id)
      | (refine wpL_set rfl 22 (.tmp 28) (.tmp 27) rfl p0 1 v5 rfl (by rfl) n5 (by kernel_rfl) _ _ g5 (by simp) ?_; intro w6 k6 g6 z6)))
  have O6 := OwnL.kept O5 k6 (own_ne O5 g5)
  obtain ⟨a0, c0, rfl, S6⟩ := sl_own O6 hf
  have Q6 : Chg noBlk w2 w6 := (q4.andNo k5).past k6 l2
  have P6 : ChAt w6 p0 c (.slice a0 c.ms.length c0) := g6
  have KW := K2.andNo Q6
  have HOW0 := hide (fun w' (k : Chg noBlk w6 w') => And.intro (P6.no k) (S6.no k))
  have HB0 := hide (fun w' (k : Chg noBlk w6 w') => And.intro ((G2.no Q6).no k) (unhide HS _ (KW.andNo k)))
  clear k1 k2 K2 k3 k4 k5 k6 e3 g3 g4 g5 g6 z3 z4 z6 o5 f5 n5 O5 O6 S6 Q6 P6 q4 y1 l2 G1 G2 HRD m1 m3
  go_loopw [6] (fun a wr => ∃ j : Nat, j ≤ 9 ∧ a = .int .i64 ((j : Int) - 1) ∧ Chg noBlk w6 wr) (fun a wr => (8 - intOf a).toNat)
  case atStart => exact ⟨0, by omega, rfl, Chg.refl _ _⟩
  case round =>
    obtain ⟨wo, rfl⟩ : ∃ wo : World, wo = wr := ⟨_, rfl⟩
    obtain ⟨j, hj, rfl, hch⟩ := hrel
    have KX := KW.andNo hch
    have HOW := hide (fun w' (k : Chg noBlk wo w') => unhide HOW0 w' (hch.andNo k))
    have HB := hide (fun w' (k : Chg noBlk wo w') => unhide HB0 w' (hch.andNo k))
    by_cases hlt : j < 9
    · have i1 : (j : Int) - 1 < 8 := by omega
      obtain ⟨m, hm⟩ : ∃ m : Int, m = if j = 8 then n else (j : Int) - 1 := ⟨_, rfl⟩
      have lF1 : (withF c m).ms.length ≤ 100 := by
        unfold withF
        split
        · show (c.ms ++ [_]).length ≤ 100
          simp
          omega
        · show (0 : Nat) ≤ 100
          omega
      have lF2 : (woF c m).ms.length ≤ 100 := by have := wo_len c m; omega
      have lF3 : (drainF c m).ms.length ≤ 100 := by have := drain_len c m; omega
      have H1 := fun w' (a : Option Addr) (cp : Nat) (h : Sl w' a cp c.ms) => with_any h m
      have H2 := fun w' (a : Option Addr) (cp : Nat) (h : Sl w' a cp c.ms) => rwith_any h m
      have H3 := fun w' (a : Option Addr) (cp : Nat) (h : Sl w' a cp c.ms) => without_any h m
      have H4 := fun w' (a : Option Addr) (cp : Nat) (h : Sl w' a cp c.ms) => rwithout_any h m
      have H5 := fun w' (a : Option Addr) (cp : Nat) (h : Sl w' a cp c.ms) => drain_any h m
      have H6 := fun w' (a : Option Addr) (cp : Nat) (h : Sl w' a cp c.ms) => rdrain_any h m
      generalize withF c m = F1 at *
      generalize withE c m = E1 at *
      generalize woF c m = F2 at *
      generalize goE c m = E2 at *
      generalize drainF c m = F3 at *
      generalize drainE c m = E3 at *
      have H1 := hide H1
      have H2 := hide H2
      have H3 := hide H3
      have H4 := hide H4
      have H5 := hide H5
      have H6 := hide H6
      go_upto_if 35 with fail
      go_cut [7] (fun x wx => x = .int .i64 m ∧ wo = wx)
      case first =>
        by_cases h8 : j = 8
        · have d8 : ((j : Int) - 1 == 7) = true := beq_iff_eq.2 (by omega)
          rw [if_pos h8] at hm
          subst hm
          go_wp2_with fail
          go_meet
          case rel => exact ⟨rfl, rfl⟩
        · have d8 : ((j : Int) - 1 == 7) = false := beq_eq_false_iff_ne.2 (by omega)
          rw [if_neg h8] at hm
          subst hm
          go_wp2_with fail
          go_meet
          case rel => exact ⟨rfl, rfl⟩
      case rest =>
        obtain ⟨rfl, rfl⟩ := hcut
        clear hm
        go_wp2_with (first
          | (go_at_call 17; (with_reducible refine (unhide H1 _ _ _ (unhide HOW _ (Chg.refl _ _)).2).mono ?_); rintro e wa1 ⟨v1, rfl, ka1, o1, f1⟩; obtain ⟨a1, c1, rfl, s1⟩ := sl_own o1 lF1)
          | (go_at_call 18; (with_reducible refine (unhide H2 _ _ _ (unhide HB _ K1).2).mono ?_); rintro e wa2 ⟨v2, rfl, ka2, o2, f2⟩; obtain ⟨a2, c2, rfl, s2⟩ := sl_own o2 lF1)
          | (go_at_call 19; (with_reducible refine (unhide H3 _ _ _ (unhide HOW _ K2).2).mono ?_); rintro e wa3 ⟨v3, rfl, ka3, o3, f3⟩; obtain ⟨a3, c3, rfl, s3⟩ := sl_own o3 lF2)
          | (go_at_call 20; (with_reducible refine (unhide H4 _ _ _ (unhide HB _ K3).2).mono ?_); rintro e wa4 ⟨v4, rfl, ka4, o4, f4⟩; obtain ⟨a4, c4, rfl, s4⟩ := sl_own o4 lF2)
          | (go_at_call 21; (with_reducible refine (unhide H5 _ _ _ (unhide HOW _ K4).2).mono ?_); rintro e wa5 ⟨v5, rfl, ka5, o5, f5⟩; obtain ⟨a5, c5, rfl, s5⟩ := sl_own o5 lF3)
          | (go_at_call 22; (with_reducible refine (unhide H6 _ _ _ (unhide HB _ K5).2).mono ?_); rintro e wa6 ⟨v6, rfl, ka6, o6, f6⟩; obtain ⟨a6, c6, rfl, s6⟩ := sl_own o6 lF3)
          | (go_at_call 16; (with_reducible refine (rsame_any (c := F1) (d := F1) (unhide X1 _ (kk1_6)).2 (unhide X2 _ kk2_6).2).mono ?_); rintro e w28 ⟨rfl, k28⟩; rw [sameB_self]; obtain ⟨x0, x1, x2⟩ := (unhide X3 _ (kk3_6.andNo k28)).1; obtain ⟨y0, y1, y2⟩ := (unhide X4 _ (kk4_6.andNo k28)).1)
          | (go_at_call 16; (with_reducible refine (rsame_any (c := F2) (d := F2) (unhide X3 _ (kk3_6.andNo k28)).2 (unhide X4 _ (kk4_6.andNo k28)).2).mono ?_); rintro e w29 ⟨rfl, k29⟩; rw [sameB_self]; clear x0 x1 x2 y0 y1 y2; obtain ⟨x0, x1, x2⟩ := (unhide X5 _ ((kk5_6.andNo k28).andNo k29)).1; obtain ⟨y0, y1, y2⟩ := (unhide X6 _ (k28.andNo k29)).1)
          | (go_at_call 16; (with_reducible refine (rsame_any (c := F3) (d := F3) (unhide X5 _ ((kk5_6.andNo k28).andNo k29)).2 (unhide X6 _ (k28.andNo k29)).2).mono ?_); rintro e w30 ⟨rfl, k30⟩; rw [sameB_self]; clear x0 x1 x2 y0 y1 y2)
          | ((with_reducible show wpList _ _ _ (⟨_, _, _, _, _, none⟩ :: _) _ _); first
            | (refine wpL_load rfl 24 (.tmp 5) rfl p0 rfl (chC c (.slice a0 c.ms.length c0)) _ _ (by first | exact (unhide HOW _ K4).1 | exact (unhide HOW _ K2).1 | exact (unhide HOW _ (Chg.refl _ _)).1) _ Try.underlying24 rfl info_ch ?_)
            | (refine wpL_load rfl 24 (.tmp 2) rfl p rfl (chC c (.slice ad c.ms.length cap)) _ _ (by first | exact (unhide HB _ K5).1 | exact (unhide HB _ K3).1 | exact (unhide HB _ K1).1) _ Try.underlying24 rfl info_ch ?_)
            | (refine wpL_load rfl 24 (.tmp 8) rfl p1 rfl (chC F1 (.slice a1 F1.ms.length c1)) _ _ (unhide X1 _ kk1_6).3 _ Try.underlying24 rfl info_ch ?_)
            | (refine wpL_load rfl 24 (.tmp 10) rfl p2 rfl (chC F1 (.slice a2 F1.ms.length c2)) _ _ (unhide X2 _ kk2_6).3 _ Try.underlying24 rfl info_ch ?_)
            | (have tk := ka6; refine wpL_alloc rfl 24 rfl _ zero_ch ?_; intro p6 wb6 eb6 kb6 gb6 zb6; clear tk)
            | (have tk := ka5; refine wpL_alloc rfl 24 rfl _ zero_ch ?_; intro p5 wb5 eb5 kb5 gb5 zb5; clear tk)
            | (have tk := ka4; refine wpL_alloc rfl 24 rfl _ zero_ch ?_; intro p4 wb4 eb4 kb4 gb4 zb4; clear tk)
            | (have tk := ka3; refine wpL_alloc rfl 24 rfl _ zero_ch ?_; intro p3 wb3 eb3 kb3 gb3 zb3; clear tk)
            | (have tk := ka2; refine wpL_alloc rfl 24 rfl _ zero_ch ?_; intro p2 wb2 eb2 kb2 gb2 zb2; clear tk)
            | (have tk := ka1; refine wpL_alloc rfl 24 rfl _ zero_ch ?_; intro p1 wb1 eb1 kb1 gb1 zb1; clear tk)
            | (refine wpL_store rfl 24 (.tmp 8) (.tmp 41) rfl p1 (chC F1 (.slice a1 F1.ms.length c1)) rfl (by rfl) _ _ gb1 info_ch rfl (all_oneCell_toArray (one_chC o1.one)) ?_; intro wc1 kc1 gc1 zc1; have jj : Chg noBlk wa1 wc1 := kb1.past kc1 (Nat.le_of_eq eb1); have J1 := ka1.andNo jj; have K1 := J1; have X1 := hide (fun w' (k : Chg noBlk wc1 w') => (⟨three_at (k.at gc1 id), (s1.no jj).no k, k.at gc1 id⟩ : ObjAt w' p1 F1 a1 c1)); clear jj ka1 kb1 kc1 gb1 eb1 zb1 zc1)
            | (refine wpL_store rfl 24 (.tmp 10) (.tmp 47) rfl p2 (chC F1 (.slice a2 F1.ms.length c2)) rfl (by rfl) _ _ gb2 info_ch rfl (all_oneCell_toArray (one_chC o2.one)) ?_; intro wc2 kc2 gc2 zc2; have jj : Chg noBlk wa2 wc2 := kb2.past kc2 (Nat.le_of_eq eb2); have J2 := ka2.andNo jj; have K2 := (K1.andNo J2); have X2 := hide (fun w' (k : Chg noBlk wc2 w') => (⟨three_at (k.at gc2 id), (s2.no jj).no k, k.at gc2 id⟩ : ObjAt w' p2 F1 a2 c2)); have kk1_2 := J2; clear jj ka2 kb2 kc2 gb2 eb2 zb2 zc2)
            | (refine wpL_store rfl 24 (.tmp 12) (.tmp 53) rfl p3 (chC F2 (.slice a3 F2.ms.length c3)) rfl (by rfl) _ _ gb3 info_ch rfl (all_oneCell_toArray (one_chC o3.one)) ?_; intro wc3 kc3 gc3 zc3; have jj : Chg noBlk wa3 wc3 := kb3.past kc3 (Nat.le_of_eq eb3); have J3 := ka3.andNo jj; have K3 := (K2.andNo J3); have X3 := hide (fun w' (k : Chg noBlk wc3 w') => (⟨three_at (k.at gc3 id), (s3.no jj).no k, k.at gc3 id⟩ : ObjAt w' p3 F2 a3 c3)); have kk1_3 := kk1_2.andNo J3; have kk2_3 := J3; clear jj ka3 kb3 kc3 gb3 eb3 zb3 zc3)
            | (refine wpL_store rfl 24 (.tmp 14) (.tmp 59) rfl p4 (chC F2 (.slice a4 F2.ms.length c4)) rfl (by rfl) _ _ gb4 info_ch rfl (all_oneCell_toArray (one_chC o4.one)) ?_; intro wc4 kc4 gc4 zc4; have jj : Chg noBlk wa4 wc4 := kb4.past kc4 (Nat.le_of_eq eb4); have J4 := ka4.andNo jj; have K4 := (K3.andNo J4); have X4 := hide (fun w' (k : Chg noBlk wc4 w') => (⟨three_at (k.at gc4 id), (s4.no jj).no k, k.at gc4 id⟩ : ObjAt w' p4 F2 a4 c4)); have kk1_4 := kk1_3.andNo J4; have kk2_4 := kk2_3.andNo J4; have kk3_4 := J4; clear jj ka4 kb4 kc4 gb4 eb4 zb4 zc4)
            | (refine wpL_store rfl 24 (.tmp 16) (.tmp 65) rfl p5 (chC F3 (.slice a5 F3.ms.length c5)) rfl (by rfl) _ _ gb5 info_ch rfl (all_oneCell_toArray (one_chC o5.one)) ?_; intro wc5 kc5 gc5 zc5; have jj : Chg noBlk wa5 wc5 := kb5.past kc5 (Nat.le_of_eq eb5); have J5 := ka5.andNo jj; have K5 := (K4.andNo J5); have X5 := hide (fun w' (k : Chg noBlk wc5 w') => (⟨three_at (k.at gc5 id), (s5.no jj).no k, k.at gc5 id⟩ : ObjAt w' p5 F3 a5 c5)); have kk1_5 := kk1_4.andNo J5; have kk2_5 := kk2_4.andNo J5; have kk3_5 := kk3_4.andNo J5; have kk4_5 := J5; have OX5 := hide (And.intro (OwnL.no o5 jj) f5); clear jj ka5 kb5 kc5 gb5 eb5 zb5 zc5)
            | (refine wpL_store rfl 24 (.tmp 18) (.tmp 71) rfl p6 (chC F3 (.slice a6 F3.ms.length c6)) rfl (by rfl) _ _ gb6 info_ch rfl (all_oneCell_toArray (one_chC o6.one)) ?_; intro wc6 kc6 gc6 zc6; have jj : Chg noBlk wa6 wc6 := kb6.past kc6 (Nat.le_of_eq eb6); have J6 := ka6.andNo jj; have K6 := (K5.andNo J6); have X6 := hide (fun w' (k : Chg noBlk wc6 w') => (⟨three_at (k.at gc6 id), (s6.no jj).no k, k.at gc6 id⟩ : ObjAt w' p6 F3 a6 c6)); have kk1_6 := kk1_5.andNo J6; have kk2_6 := kk2_5.andNo J6; have kk3_6 := kk3_5.andNo J6; have kk4_6 := kk4_5.andNo J6; have kk5_6 := J6; clear jj ka6 kb6 kc6 gb6 eb6 zb6 zc6)))
        have KE := K6.andNo ((k28.andNo k29).andNo k30)
        have XS := hide (XSt.start (w0 := wo) (unhide OX5).1 (fun g hg => by have := (unhide OX5).2 g hg; have := K4.size; omega) (kk5_6.andNo ((k28.andNo k29).andNo k30)) KE (unhide X5 _ (kk5_6.andNo ((k28.andNo k29).andNo k30))).at_)
        have lf := lF3
        clear X1 X2 X3 X4 X5 X6 OX5 K1 K2 K3 K4 K5 K6 J1 J2 J3 J4 J5 J6 kk1_2 kk1_3 kk1_4 kk1_5 kk1_6 kk2_3 kk2_4 kk2_5 kk2_6 kk3_4 kk3_5 kk3_6 kk4_5 kk4_6 kk5_6 k28 k29 k30 KE s1 s2 s3 s4 s5 s6 H1 H2 H3 H4 H5 H6
        go_loopw [20] (fun a wr => ∃ i : Nat, i ≤ F3.ms.length ∧ a = .int .i64 (i : Int) ∧ XSt wo wr a5 F3.ms.length p5 (chC F3 (.slice a5 F3.ms.length c5))) (fun a wr => F3.ms.length - (intOf a).toNat)
        case atStart => exact ⟨0, by omega, rfl, unhide XS⟩
        case round =>
          clear XS
          obtain ⟨i, hi, rfl, hx⟩ := hrel
          have z1 : wr.cell? ⟨p5, 1, none⟩ = some (.slice a5 F3.ms.length c5) := cellAt hx.ch 1 _ rfl
          by_cases hlt2 : i < F3.ms.length
          · rcases hx.blk with h0 | ⟨g, cur, hga, hb, hn, hg⟩
            · omega
            have j1 : (0 : Int) ≤ (i : Int) := by omega
            have j2 : (i : Int) < (F3.ms.length : Int) := by omega
            have HX := hide hx
            have HA := hide hga
            have hlo : i * 2 + ([Value.int .i64 99, Value.int .i64 0] : List Value).length ≤ cur.size := by show i * 2 + 2 ≤ cur.size; omega
            rw [hga] at z1
            clear hx hga
            go_wp2_with ((with_reducible show wpList _ _ _ (⟨_, _, _, _, _, none⟩ :: _) _ _); refine wpL_put rfl 37 (.tmp 115) (.tmp 114) rfl g (i * 2) [.int .i64 99, .int .i64 0] rfl (by rfl) _ _ hb hlo info_mem (MT.one ⟨99, 0⟩) ?_; intro wq kq gq zq)
            go_roundw
            case rel => exact ⟨i + 1, by omega, by go_num, (unhide HX).step (unhide HA) hb hg hn hlo kq gq⟩
            case measure => simp [intOf]; omega
          · obtain rfl : i = F3.ms.length := by omega
            have HO := hide (unhide HOW _ hx.chg)
            have HBB := hide (unhide HB _ hx.chg)
            have kx := hx.chg
            clear hx
            go_wp2_with (first
              | (go_at_call 16; (with_reducible refine (rsame_any (c := c) (d := c) (unhide HO).2 (unhide HBB).2).mono ?_); rintro e w40 ⟨rfl, k40⟩; rw [sameB_self])
              | ((with_reducible show wpList _ _ _ (⟨_, _, _, _, _, none⟩ :: _) _ _); first
                | (refine wpL_load rfl 24 (.tmp 5) rfl p0 rfl (chC c (.slice a0 c.ms.length c0)) _ _ (unhide HO).1 _ Try.underlying24 rfl info_ch ?_)
                | (refine wpL_load rfl 24 (.tmp 2) rfl p rfl (chC c (.slice ad c.ms.length cap)) _ _ (unhide HBB).1 _ Try.underlying24 rfl info_ch ?_)))
            go_roundw
            case rel => exact ⟨j + 1, by omega, by go_num, (hch.andNo kx).andNo k40⟩
            case measure => simp [intOf]; omega
    · obtain rfl : j = 9 := by omega
      have i1 : ¬ ((9 : Nat) : Int) - 1 < 8 := by omega
      go_wp2_with (go_at_call 9; (with_reducible refine (linked_any _).mono ?_); rintro e w9 ⟨rfl, k9⟩)
      go_ret
      exact ⟨rfl, KX.andNo k9⟩
end
theorem movelaw_any {w : World} {ad : Option Addr} {cap : Nat} {c : CT} (hs : Sl0 w ad cap c.ms) (n : Int) : Calls Try.prog 4 #[chV c (.slice ad c.ms.length cap), .int .i64 n] w (ToldN (.bool true) w) := by
  cases h : greatB c
  · have hl := greatB_no h
    exact move_in (hs.sl (by omega)) n h
  · exact move_great n h
#print axioms movelaw_any
end Go.Proofs.Ytiapkmncgafofaa
