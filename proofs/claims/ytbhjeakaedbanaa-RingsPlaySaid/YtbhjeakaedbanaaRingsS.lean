/-
  Rings: whatever is done with one: the acts one by one.
-/
import Derived.Test.YtbhjeakaedbanaaRingsR
namespace Go.Proofs.Ytbhjeakaedbanaa
open Go.ChangeShapes Go.WideShapes Go.ChangeAt Go.RowKit
set_option linter.unusedVariables false
attribute [local go_sem ↓] ldFr_pre stFr_pre
set_option maxRecDepth 100000 in
set_option maxHeartbeats 40000000 in
theorem play_in (cap : Nat) (hc1 : 1 ≤ cap) (hc2 : cap ≤ 64) (ad : Option Addr) (l : List AT) (lcap : Nat) (w : World) (hl : l.length ≤ 9223372036854775807) (h : Acts w ad l) (hg' : greatB l 200 = false) :
    Calls Try.prog 3 #[.int .i64 (cap : Int), .slice ad l.length lcap] w (ToldB true w) := by
  have GC := hide (great_any ad l lcap 200 w hl (by omega) h.1)
  have HA := hide h
  have HG := hide hg'
  clear h
  have NN := hide (fun w => new_yes cap hc1 hc2 w)
  have RN := hide (fun w => rnew_yes cap hc1 hc2 w)
  go_enter Try.func3, Try.ntmps3
  go_wp2_with (first
    | (go_at_call 6; refine (unhide GC).mono ?_; rintro e w1 ⟨rfl, k1⟩)
    | (go_at_call 8; refine (unhide NN _).mono ?_; rintro e w2 ⟨p, S1, rfl, n1, R1, k2⟩)
    | (go_at_call 9; refine (unhide RN _).mono ?_; rintro e w3 ⟨q, T1, rfl, n2, Q1, k3⟩))
  have B1 : Both w w3 S1 T1 p q cap [] := ⟨R1.keptNo k3, Q1, by simp, fun j hj => by have := n1 j hj; have := k1.size; omega, fun j hj => by have := n2 j hj; have := k1.size; have := k2.size; omega, fun j hs ht => by have := R1.lt j hs; have := n2 j ht; omega, (k1.andNo k2).andNo k3⟩
  have HB1 := hide B1
  clear B1 R1 Q1 n1 n2 k1 k2 k3 GC NN RN hg'
  go_loopw [9] (fun i wr => PlayAt w p q cap l.length i wr) (fun i wr => l.length - (intOf i).toNat)
  case atStart => exact ⟨0, S1, T1, [], by omega, rfl, unhide HB1⟩
  case round =>
    clear HB1
    obtain ⟨k, S, T, L, hk, rfl, hB⟩ := hrel
    have HB := hide hB
    clear hB
    by_cases hlt : k < l.length
    · have d1 : decide (k < l.length) = true := by simpa using hlt
      obtain ⟨a, ha⟩ : ∃ a, l[k]? = some a := ⟨_, List.getElem?_eq_getElem hlt⟩
      obtain ⟨ht, bb, off, rfl, hrng⟩ := (unhide HA).1 k a ha
      have hok := (unhide HA).2 k a ha
      have hn10 : a.n ≤ 10 := by
        rcases not_big (unhide HG) ha with h | h
        · exact h
        · exact absurd hok.mem h
      have i1 : (0 : Int) ≤ (k : Int) := by omega
      have i2 : (k : Int) < (l.length : Int) := by omega
      have hl31 := AT.len ht
      have hr1 := range_kept hrng (unhide HB).kept
      have HOK := hide hok
      clear ha hok ht hrng
      go_upto_region 13 with (first
        | (refine wpList_load_mid rfl 44 (.tmp 57) rfl bb (off + k * 31) rfl a.cells _ hr1 Try.underlying44 rfl (by rw [size_act, hl31]) ?_)
        | (have tk := g2; clear tk; refine wpL_alloc rfl 42 rfl _ zero_fr ?_; intro x3 w6 e6 k6 g3 z6; replace g1 := k6.at g1 id; replace g2 := k6.at g2 id)
        | (refine wpL_alloc rfl 42 rfl _ zero_fr ?_; intro x2 w5 e5 k5 g2 z5; replace g1 := k5.at g1 id)
        | (refine wpL_alloc rfl 44 rfl _ zero_act ?_; intro x1 w4 e4 k4 g1 z4)
        | (refine wpL_store rfl 44 (.tmp 10) (.tmp 58) rfl x1 a.cells.toArray rfl rfl _ _ g1 (by rw [size_act]; simp [hl31]) (by simp [hl31, zeroAct, zeroFr]) (AT.one (unhide HOK).ty) ?_; intro w7 k7 g1 z7)
        | (refine wpL_build (o := _) rfl 42 #[] rfl zeroFr.toArray build_fr ?_)
        | (refine wpL_store rfl 42 (.tmp 11) (.tmp 59) rfl x2 zeroFr.toArray rfl rfl _ _ g2 (by rw [size_fr]; rfl) rfl zero_one ?_; intro w8 k8 g2 z8; replace g1 := k8.at g1 (by show ¬ (_ = _); omega); replace g3 := k8.at g3 (by show ¬ (_ = _); omega))
        | (refine wpL_store rfl 42 (.tmp 12) (.tmp 60) rfl x3 zeroFr.toArray rfl rfl _ _ g3 (by rw [size_fr]; rfl) rfl zero_one ?_; intro w9 k9 g3 z9; replace g1 := k9.at g1 (by show ¬ (_ = _); omega); replace g2 := k9.at g2 (by show ¬ (_ = _); omega)))
      have sw := (unhide HB).kept.size
      have o1 := (unhide HB).out (x := x1) (by omega)
      have o2 := (unhide HB).out (x := x2) (by omega)
      have o3 := (unhide HB).out (x := x3) (by omega)
      have B9 := (((((((unhide HB).no k4).one k7 o1 (by omega)).no k5).no k6).one k8 o2 (by omega)).one k9 o3 (by omega))
      have HB9 := hide B9
      have ck := cellAt g1 0 (.int .u8 a.k) (by rfl)
      have y1 : x1 < w9.heap.size := by omega
      have y2 : x2 < w9.heap.size := by omega
      have y3 : x3 < w9.heap.size := by omega
      have x12 : x1 ≠ x2 := by omega
      have x13 : x1 ≠ x3 := by omega
      have x23 : x2 ≠ x3 := by omega
      have v2 : w.heap.size ≤ x2 := by omega
      have v3 : w.heap.size ≤ x3 := by omega
      have G1 := hide g1
      have G2 := hide g2
      have G3 := hide g3
      have hL64 : L.length ≤ 64 := by have := (unhide HB9).r.full; omega
      have k0 := (unhide HOK).k0
      have ai := (unhide HOK).i0
      clear B9 hr1 k4 k5 k6 k7 k8 k9 g1 g2 g3 e4 e5 e6 z4 z5 z6 z7 z8 z9 HB sw
      by_cases e4 : a.k % 10 = 4
      · have t4 : (a.k % 10 == 4) = true := by simp [e4]
        have E4 := hide e4
        clear e4
        obtain ⟨f, hpf⟩ : ∃ f, f = (popL L).1 := ⟨_, rfl⟩
        obtain ⟨ok, hpk⟩ : ∃ ok, ok = (popL L).2.1 := ⟨_, rfl⟩
        obtain ⟨L', hpl⟩ : ∃ L', L' = (popL L).2.2 := ⟨_, rfl⟩
        have o : f.Ok := by rw [hpf]; exact popL_ok (unhide HB9).r.ok
        have ty : f.Ty := by rw [hpf]; exact popL_ty (unhide HB9).ty
        have hsub : ∀ g, g ∈ L' → g ∈ L := fun g hg => by rw [hpl] at hg; exact popL_sub hg
        have CP := hide (show Calls Try.prog 10 #[p] w9 (GotR S p cap f ok L' w9) by rw [hpf, hpk, hpl]; exact got_pop (unhide HB9).r)
        have Hq1 := hide hpf
        have Hq2 := hide hpk
        have Hq3 := hide hpl
        have HSB := hide hsub
        clear hpf hpk hpl hsub
        go_upto_region 40 with (first
          | (go_at_call 10; refine (unhide CP).mono ?_; rintro e w10 ⟨c1, rfl, f1, k10, R10⟩; have h1 := f1.reads.is29 o; have g2 := k10.at (unhide G2) o2.1)
          | (refine wpL_store rfl 42 (.tmp 11) (.tmp 100) rfl x2 c1.toArray rfl rfl _ _ g2 (by rw [size_fr, h1.1]) (by rw [h1.1]; rfl) h1.2 ?_; intro w11 k11 g2 z11; have R11 := hide (R10.kept k11 fun i hi e => o2.1 (by rw [← show i = x2 from e]; exact hi)); have Q11 := hide (((unhide HB9).q.kept k10 fun i hi hs => (unhide HB9).apart i hs hi).kept k11 fun i hi e => o2.2 (by rw [← show i = x2 from e]; exact hi)); have CQ := hide (show Calls Try.prog 11 #[q] w11 (GotQ T q cap f ok L' w11) by rw [unhide Hq1, unhide Hq2, unhide Hq3]; exact got_rpop (unhide Q11) (by omega)); have g3 := k11.at (k10.at (unhide G3) o3.1) (Ne.symm x23))
          | (go_at_call 11; refine (unhide CQ).mono ?_; rintro e w12 ⟨c2, rfl, f2, k12, Q12⟩; have h2 := f2.reads.is29 o; replace g3 := k12.at g3 o3.2; replace g2 := k12.at g2 o2.2)
          | (refine wpL_store rfl 42 (.tmp 12) (.tmp 105) rfl x3 c2.toArray rfl rfl _ _ g3 (by rw [size_fr, h2.1]) (by rw [h2.1]; rfl) h2.2 ?_; intro w13 k13 g3 z13; replace g2 := k13.at g2 x23))
        have hlt9 := (unhide HB9).q.lt
        have hls9 := (unhide HB9).r.lt
        have HBx := hide ((unhide HB9).mk2 ((((unhide R11).kept k12 fun i hi ht => (unhide HB9).apart i hi ht)).kept k13 fun i hi e => o3.1 (by rw [← show i = x3 from e]; exact hi)) (Q12.kept k13 fun i hi e => o3.2 (by rw [← show i = x3 from e]; exact hi)) (fun g hg => (unhide HB9).ty g (unhide HSB g hg)) (unhide HB9).newS (unhide HB9).newT (unhide HB9).apart
          (((((unhide HB9).kept.trans k10 fun i hi hs => by have := (unhide HB9).newS i hs; omega).trans k11 fun i hi e => by have e : i = x2 := e; omega).trans k12 fun i hi ht => by have := (unhide HB9).newT i ht; omega).trans k13 fun i hi e => by have e : i = x3 := e; omega))
        have FA := hide ((((f1.far k11 fun i hi e => by have e : i = x2 := e; omega).far k12 fun i hi ht => by have := hlt9 i ht; omega).far k13 fun i hi e => by have e : i = x3 := e; omega).reads)
        have FB := hide ((f2.kept k13 fun i _ hi e => o3.2 (by rw [← show i = x3 from e]; exact hi)).reads)
        clear k10 k11 k12 k13 f1 f2 R10 R11 Q11 Q12 hlt9 hls9 CP CQ z11 z13
        have la := ld_at g2 h1
        have lb := ld_at g3 h2
        have CS := hide (same_any c1 c2 f o ty _ (unhide FA) (unhide FB))
        clear g2 g3
        go_wp2_with (first
          | (go_at_call 19; refine (unhide CS).mono ?_; rintro e wY ⟨rfl, kY⟩; have CL := hide (alike_any _ _ _ _ _ _ wY ((unhide HBx).no kY).r ((unhide HBx).no kY).q (unhide HBx).ty))
          | (go_at_call 20; refine (unhide CL).mono ?_; rintro e wZ ⟨rfl, kZ⟩))
        go_roundw
        case rel => exact ⟨k + 1, _, _, _, by omega, by go_num, ((unhide HBx).no kY).no kZ⟩
        case measure => simp [intOf]; omega
      by_cases e5 : a.k % 10 = 5
      · have t5 : (a.k % 10 == 5) = true := by simp [e5]
        have E5 := hide e5
        clear e5
        have n4 : (a.k % 10 == 4) = false := by simp; have := unhide E5; omega
        obtain ⟨f, hpf⟩ : ∃ f, f = (popL L).1 := ⟨_, rfl⟩
        obtain ⟨ok, hpk⟩ : ∃ ok, ok = (popL L).2.1 := ⟨_, rfl⟩
        obtain ⟨L', hpl⟩ : ∃ L', L' = (popL L).2.2 := ⟨_, rfl⟩
        have o : f.Ok := by rw [hpf]; exact popL_ok (unhide HB9).r.ok
        have ty : f.Ty := by rw [hpf]; exact popL_ty (unhide HB9).ty
        have hsub : ∀ g, g ∈ L' → g ∈ L := fun g hg => by rw [hpl] at hg; exact popL_sub hg
        have CP := hide (show Calls Try.prog 10 #[p] w9 (GotR S p cap f ok L' w9) by rw [hpf, hpk, hpl]; exact got_pop (unhide HB9).r)
        have Hq1 := hide hpf
        have Hq2 := hide hpk
        have Hq3 := hide hpl
        have HSB := hide hsub
        clear hpf hpk hpl hsub
        go_upto_region 40 with (first
          | (go_at_call 10; refine (unhide CP).mono ?_; rintro e w10 ⟨c1, rfl, f1, k10, R10⟩; have h1 := f1.reads.is29 o; have g2 := k10.at (unhide G2) o2.1)
          | (refine wpL_store rfl 42 (.tmp 11) (.tmp 100) rfl x2 c1.toArray rfl rfl _ _ g2 (by rw [size_fr, h1.1]) (by rw [h1.1]; rfl) h1.2 ?_; intro w11 k11 g2 z11; have R11 := hide (R10.kept k11 fun i hi e => o2.1 (by rw [← show i = x2 from e]; exact hi)); have Q11 := hide (((unhide HB9).q.kept k10 fun i hi hs => (unhide HB9).apart i hs hi).kept k11 fun i hi e => o2.2 (by rw [← show i = x2 from e]; exact hi)); have CQ := hide (show Calls Try.prog 11 #[q] w11 (GotQ T q cap f ok L' w11) by rw [unhide Hq1, unhide Hq2, unhide Hq3]; exact got_rpop (unhide Q11) (by omega)); have g3 := k11.at (k10.at (unhide G3) o3.1) (Ne.symm x23))
          | (go_at_call 11; refine (unhide CQ).mono ?_; rintro e w12 ⟨c2, rfl, f2, k12, Q12⟩; have h2 := f2.reads.is29 o; replace g3 := k12.at g3 o3.2; replace g2 := k12.at g2 o2.2)
          | (refine wpL_store rfl 42 (.tmp 12) (.tmp 105) rfl x3 c2.toArray rfl rfl _ _ g3 (by rw [size_fr, h2.1]) (by rw [h2.1]; rfl) h2.2 ?_; intro w13 k13 g3 z13; replace g2 := k13.at g2 x23))
        have hlt9 := (unhide HB9).q.lt
        have hls9 := (unhide HB9).r.lt
        have HBx := hide ((unhide HB9).mk2 ((((unhide R11).kept k12 fun i hi ht => (unhide HB9).apart i hi ht)).kept k13 fun i hi e => o3.1 (by rw [← show i = x3 from e]; exact hi)) (Q12.kept k13 fun i hi e => o3.2 (by rw [← show i = x3 from e]; exact hi)) (fun g hg => (unhide HB9).ty g (unhide HSB g hg)) (unhide HB9).newS (unhide HB9).newT (unhide HB9).apart
          (((((unhide HB9).kept.trans k10 fun i hi hs => by have := (unhide HB9).newS i hs; omega).trans k11 fun i hi e => by have e : i = x2 := e; omega).trans k12 fun i hi ht => by have := (unhide HB9).newT i ht; omega).trans k13 fun i hi e => by have e : i = x3 := e; omega))
        have FA := hide ((((f1.far k11 fun i hi e => by have e : i = x2 := e; omega).far k12 fun i hi ht => by have := hlt9 i ht; omega).far k13 fun i hi e => by have e : i = x3 := e; omega).reads)
        have FB := hide ((f2.kept k13 fun i _ hi e => o3.2 (by rw [← show i = x3 from e]; exact hi)).reads)
        clear k10 k11 k12 k13 f1 f2 R10 R11 Q11 Q12 hlt9 hls9 CP CQ z11 z13
        have la := ld_at g2 h1
        have lb := ld_at g3 h2
        have CS := hide (same_any c1 c2 f o ty _ (unhide FA) (unhide FB))
        clear g2 g3
        go_wp2_with (first
          | (go_at_call 19; refine (unhide CS).mono ?_; rintro e wY ⟨rfl, kY⟩; have CL := hide (alike_any _ _ _ _ _ _ wY ((unhide HBx).no kY).r ((unhide HBx).no kY).q (unhide HBx).ty))
          | (go_at_call 20; refine (unhide CL).mono ?_; rintro e wZ ⟨rfl, kZ⟩))
        go_roundw
        case rel => exact ⟨k + 1, _, _, _, by omega, by go_num, ((unhide HBx).no kY).no kZ⟩
        case measure => simp [intOf]; omega
      by_cases e6 : a.k % 10 = 6
      · have t6 : (a.k % 10 == 6) = true := by simp [e6]
        have E6 := hide e6
        clear e6
        have n4 : (a.k % 10 == 4) = false := by simp; have := unhide E6; omega
        have n5 : (a.k % 10 == 5) = false := by simp; have := unhide E6; omega
        obtain ⟨f, hpf⟩ : ∃ f, f = (pick L 0).1 := ⟨_, rfl⟩
        obtain ⟨ok, hpk⟩ : ∃ ok, ok = (pick L 0).2 := ⟨_, rfl⟩
        obtain ⟨L', hpl⟩ : ∃ L', L' = L := ⟨_, rfl⟩
        have o : f.Ok := by rw [hpf]; exact pick_ok (unhide HB9).r.ok 0
        have ty : f.Ty := by rw [hpf]; exact pick_ty (unhide HB9).ty 0
        have hsub : ∀ g, g ∈ L' → g ∈ L := fun g hg => by rw [hpl] at hg; exact hg
        have CP := hide (show Calls Try.prog 12 #[p] w9 (GotR S p cap f ok L' w9) by rw [hpf, hpk, hpl]; exact got_front (unhide HB9).r)
        have Hq1 := hide hpf
        have Hq2 := hide hpk
        have Hq3 := hide hpl
        have HSB := hide hsub
        clear hpf hpk hpl hsub
        go_upto_region 40 with (first
          | (go_at_call 12; refine (unhide CP).mono ?_; rintro e w10 ⟨c1, rfl, f1, k10, R10⟩; have h1 := f1.reads.is29 o; have g2 := k10.at (unhide G2) o2.1)
          | (refine wpL_store rfl 42 (.tmp 11) (.tmp 112) rfl x2 c1.toArray rfl rfl _ _ g2 (by rw [size_fr, h1.1]) (by rw [h1.1]; rfl) h1.2 ?_; intro w11 k11 g2 z11; have R11 := hide (R10.kept k11 fun i hi e => o2.1 (by rw [← show i = x2 from e]; exact hi)); have Q11 := hide (((unhide HB9).q.kept k10 fun i hi hs => (unhide HB9).apart i hs hi).kept k11 fun i hi e => o2.2 (by rw [← show i = x2 from e]; exact hi)); have CQ := hide (show Calls Try.prog 13 #[q, .int .i64 0] w11 (GotQ T q cap f ok L' w11) by rw [unhide Hq1, unhide Hq2, unhide Hq3]; exact got_rat (unhide Q11) (by omega) 0); have g3 := k11.at (k10.at (unhide G3) o3.1) (Ne.symm x23))
          | (go_at_call 13; refine (unhide CQ).mono ?_; rintro e w12 ⟨c2, rfl, f2, k12, Q12⟩; have h2 := f2.reads.is29 o; replace g3 := k12.at g3 o3.2; replace g2 := k12.at g2 o2.2)
          | (refine wpL_store rfl 42 (.tmp 12) (.tmp 117) rfl x3 c2.toArray rfl rfl _ _ g3 (by rw [size_fr, h2.1]) (by rw [h2.1]; rfl) h2.2 ?_; intro w13 k13 g3 z13; replace g2 := k13.at g2 x23))
        have hlt9 := (unhide HB9).q.lt
        have hls9 := (unhide HB9).r.lt
        have HBx := hide ((unhide HB9).mk2 ((((unhide R11).kept k12 fun i hi ht => (unhide HB9).apart i hi ht)).kept k13 fun i hi e => o3.1 (by rw [← show i = x3 from e]; exact hi)) (Q12.kept k13 fun i hi e => o3.2 (by rw [← show i = x3 from e]; exact hi)) (fun g hg => (unhide HB9).ty g (unhide HSB g hg)) (unhide HB9).newS (unhide HB9).newT (unhide HB9).apart
          (((((unhide HB9).kept.trans k10 fun i hi hs => by have := (unhide HB9).newS i hs; omega).trans k11 fun i hi e => by have e : i = x2 := e; omega).trans k12 fun i hi ht => by have := (unhide HB9).newT i ht; omega).trans k13 fun i hi e => by have e : i = x3 := e; omega))
        have FA := hide ((((f1.far k11 fun i hi e => by have e : i = x2 := e; omega).far k12 fun i hi ht => by have := hlt9 i ht; omega).far k13 fun i hi e => by have e : i = x3 := e; omega).reads)
        have FB := hide ((f2.kept k13 fun i _ hi e => o3.2 (by rw [← show i = x3 from e]; exact hi)).reads)
        clear k10 k11 k12 k13 f1 f2 R10 R11 Q11 Q12 hlt9 hls9 CP CQ z11 z13
        have la := ld_at g2 h1
        have lb := ld_at g3 h2
        have CS := hide (same_any c1 c2 f o ty _ (unhide FA) (unhide FB))
        clear g2 g3
        go_wp2_with (first
          | (go_at_call 19; refine (unhide CS).mono ?_; rintro e wY ⟨rfl, kY⟩; have CL := hide (alike_any _ _ _ _ _ _ wY ((unhide HBx).no kY).r ((unhide HBx).no kY).q (unhide HBx).ty))
          | (go_at_call 20; refine (unhide CL).mono ?_; rintro e wZ ⟨rfl, kZ⟩))
        go_roundw
        case rel => exact ⟨k + 1, _, _, _, by omega, by go_num, ((unhide HBx).no kY).no kZ⟩
        case measure => simp [intOf]; omega
      by_cases e7 : a.k % 10 = 7
      · have t7 : (a.k % 10 == 7) = true := by simp [e7]
        have E7 := hide e7
        clear e7
        have n4 : (a.k % 10 == 4) = false := by simp; have := unhide E7; omega
        have n5 : (a.k % 10 == 5) = false := by simp; have := unhide E7; omega
        have n6 : (a.k % 10 == 6) = false := by simp; have := unhide E7; omega
        have ci := cellAt (unhide G1) 30 (.int .i64 a.i) (by simp only [AT.cells, List.getElem?_toArray, List.getElem?_cons_succ]; rw [List.getElem?_append_right (by rw [(unhide HOK).ty.len]; omega), (unhide HOK).ty.len]; rfl)
        obtain ⟨f, hpf⟩ : ∃ f, f = (pick L a.i).1 := ⟨_, rfl⟩
        obtain ⟨ok, hpk⟩ : ∃ ok, ok = (pick L a.i).2 := ⟨_, rfl⟩
        obtain ⟨L', hpl⟩ : ∃ L', L' = L := ⟨_, rfl⟩
        have o : f.Ok := by rw [hpf]; exact pick_ok (unhide HB9).r.ok a.i
        have ty : f.Ty := by rw [hpf]; exact pick_ty (unhide HB9).ty a.i
        have hsub : ∀ g, g ∈ L' → g ∈ L := fun g hg => by rw [hpl] at hg; exact hg
        have CP := hide (show Calls Try.prog 14 #[p, .int .i64 a.i] w9 (GotR S p cap f ok L' w9) by rw [hpf, hpk, hpl]; exact got_at (unhide HB9).r a.i)
        have Hq1 := hide hpf
        have Hq2 := hide hpk
        have Hq3 := hide hpl
        have HSB := hide hsub
        clear hpf hpk hpl hsub
        go_upto_region 40 with (first
          | (go_at_call 14; refine (unhide CP).mono ?_; rintro e w10 ⟨c1, rfl, f1, k10, R10⟩; have h1 := f1.reads.is29 o; have g2 := k10.at (unhide G2) o2.1)
          | (refine wpL_store rfl 42 (.tmp 11) (.tmp 126) rfl x2 c1.toArray rfl rfl _ _ g2 (by rw [size_fr, h1.1]) (by rw [h1.1]; rfl) h1.2 ?_; intro w11 k11 g2 z11; have R11 := hide (R10.kept k11 fun i hi e => o2.1 (by rw [← show i = x2 from e]; exact hi)); have Q11 := hide (((unhide HB9).q.kept k10 fun i hi hs => (unhide HB9).apart i hs hi).kept k11 fun i hi e => o2.2 (by rw [← show i = x2 from e]; exact hi)); have CQ := hide (show Calls Try.prog 13 #[q, .int .i64 a.i] w11 (GotQ T q cap f ok L' w11) by rw [unhide Hq1, unhide Hq2, unhide Hq3]; exact got_rat (unhide Q11) (by omega) a.i); have g3 := k11.at (k10.at (unhide G3) o3.1) (Ne.symm x23); have cj := k11.cell (k10.cell ci o1.1) x12; clear ci)
          | (go_at_call 13; refine (unhide CQ).mono ?_; rintro e w12 ⟨c2, rfl, f2, k12, Q12⟩; have h2 := f2.reads.is29 o; replace g3 := k12.at g3 o3.2; replace g2 := k12.at g2 o2.2)
          | (refine wpL_store rfl 42 (.tmp 12) (.tmp 133) rfl x3 c2.toArray rfl rfl _ _ g3 (by rw [size_fr, h2.1]) (by rw [h2.1]; rfl) h2.2 ?_; intro w13 k13 g3 z13; replace g2 := k13.at g2 x23))
        have hlt9 := (unhide HB9).q.lt
        have hls9 := (unhide HB9).r.lt
        have HBx := hide ((unhide HB9).mk2 ((((unhide R11).kept k12 fun i hi ht => (unhide HB9).apart i hi ht)).kept k13 fun i hi e => o3.1 (by rw [← show i = x3 from e]; exact hi)) (Q12.kept k13 fun i hi e => o3.2 (by rw [← show i = x3 from e]; exact hi)) (fun g hg => (unhide HB9).ty g (unhide HSB g hg)) (unhide HB9).newS (unhide HB9).newT (unhide HB9).apart
          (((((unhide HB9).kept.trans k10 fun i hi hs => by have := (unhide HB9).newS i hs; omega).trans k11 fun i hi e => by have e : i = x2 := e; omega).trans k12 fun i hi ht => by have := (unhide HB9).newT i ht; omega).trans k13 fun i hi e => by have e : i = x3 := e; omega))
        have FA := hide ((((f1.far k11 fun i hi e => by have e : i = x2 := e; omega).far k12 fun i hi ht => by have := hlt9 i ht; omega).far k13 fun i hi e => by have e : i = x3 := e; omega).reads)
        have FB := hide ((f2.kept k13 fun i _ hi e => o3.2 (by rw [← show i = x3 from e]; exact hi)).reads)
        clear k10 k11 k12 k13 f1 f2 R10 R11 Q11 Q12 hlt9 hls9 CP CQ z11 z13 cj
        have la := ld_at g2 h1
        have lb := ld_at g3 h2
        have CS := hide (same_any c1 c2 f o ty _ (unhide FA) (unhide FB))
        clear g2 g3
        go_wp2_with (first
          | (go_at_call 19; refine (unhide CS).mono ?_; rintro e wY ⟨rfl, kY⟩; have CL := hide (alike_any _ _ _ _ _ _ wY ((unhide HBx).no kY).r ((unhide HBx).no kY).q (unhide HBx).ty))
          | (go_at_call 20; refine (unhide CL).mono ?_; rintro e wZ ⟨rfl, kZ⟩))
        go_roundw
        case rel => exact ⟨k + 1, _, _, _, by omega, by go_num, ((unhide HBx).no kY).no kZ⟩
        case measure => simp [intOf]; omega
      by_cases e8 : a.k % 10 = 8
      · have t8 : (a.k % 10 == 8) = true := by simp [e8]
        have E8 := hide e8
        clear e8
        have n4 : (a.k % 10 == 4) = false := by simp; have := unhide E8; omega
        have n5 : (a.k % 10 == 5) = false := by simp; have := unhide E8; omega
        have n6 : (a.k % 10 == 6) = false := by simp; have := unhide E8; omega
        have n7 : (a.k % 10 == 7) = false := by simp; have := unhide E8; omega
        have CC := hide (ring_clear (unhide HB9).r)
        obtain ⟨bq, sq, rfl, htq, hgq⟩ := refq_at (unhide HB9).q
        have nbq : ¬ S bq := fun hs => (unhide HB9).apart _ hs htq
        go_upto_region 40 with (first
          | (go_at_call 15; refine (unhide CC).mono ?_; rintro e w10 ⟨rfl, k10, R10⟩; have hgq2 := k10.at hgq nbq)
          | (refine wpL_set rfl 48 (.tmp 141) (.const (.slice none 0 0)) rfl bq 1 (.slice none 0 0) rfl rfl rfl size_slf _ _ hgq2 (by simp) ?_; intro w11 k11 gq z11))
        have g2 := k11.at (k10.at (unhide G2) o2.1) (fun e => o2.2 (by rw [show x2 = bq from e]; exact htq))
        have g3 := k11.at (k10.at (unhide G3) o3.1) (fun e => o3.2 (by rw [show x3 = bq from e]; exact htq))
        have Q11 := refq_clear ((unhide HB9).q.kept k10 fun i hi hs => (unhide HB9).apart i hs hi) k11 (by rw [gq]; rfl)
        have HBx := hide ((unhide HB9).mk2 (R10.kept k11 fun i hi e => nbq (by rw [← show i = bq from e]; exact hi)) Q11 (by simp) (unhide HB9).newS (unhide HB9).newT (unhide HB9).apart
          (((unhide HB9).kept.trans k10 fun i hi hs => by have := (unhide HB9).newS i hs; omega).trans k11 fun i hi e => by have e : i = bq := e; have := (unhide HB9).newT bq htq; omega))
        clear CC hgq hgq2 k10 k11 R10 Q11 gq z11
        obtain ⟨c1, hc1⟩ : ∃ c1, c1 = zeroFr := ⟨_, rfl⟩
        have h1 : Is29 c1.toArray := by rw [hc1]; exact zero_is
        obtain ⟨f, hzf⟩ : ∃ f, f = zeroF := ⟨_, rfl⟩
        have o : f.Ok := by rw [hzf]; exact zeroF_ok
        have ty : f.Ty := by rw [hzf]; exact zeroF_ty
        have FA := hide (zero_frr g2 hc1 hzf)
        have FB := FA
        rw [← hc1] at g2 g3
        clear hc1 hzf
        have la := ld_at g2 h1
        have lb := ld_at g3 h1
        have CS := hide (same_any c1 c1 f o ty _ (unhide FA) (unhide FB))
        clear g2 g3
        go_wp2_with (first
          | (go_at_call 19; refine (unhide CS).mono ?_; rintro e wY ⟨rfl, kY⟩; have CL := hide (alike_any _ _ _ _ _ _ wY ((unhide HBx).no kY).r ((unhide HBx).no kY).q (unhide HBx).ty))
          | (go_at_call 20; refine (unhide CL).mono ?_; rintro e wZ ⟨rfl, kZ⟩))
        go_roundw
        case rel => exact ⟨k + 1, _, _, _, by omega, by go_num, ((unhide HBx).no kY).no kZ⟩
        case measure => simp [intOf]; omega
      by_cases e9 : a.k % 10 = 9
      · have t9 : (a.k % 10 == 9) = true := by simp [e9]
        have E9 := hide e9
        clear e9
        have n4 : (a.k % 10 == 4) = false := by simp; have := unhide E9; omega
        have n5 : (a.k % 10 == 5) = false := by simp; have := unhide E9; omega
        have n6 : (a.k % 10 == 6) = false := by simp; have := unhide E9; omega
        have n7 : (a.k % 10 == 7) = false := by simp; have := unhide E9; omega
        have n8 : (a.k % 10 == 8) = false := by simp; have := unhide E9; omega
        have CY := hide (ring_copy (unhide HB9).r)
        have oa := AT.f_ok (unhide HOK) hn10
        have hxr := (unhide HOK).fr.kept oa (unhide HB9).kept (fun _ _ _ _ _ => id)
        have hrx : w9.rangeAt x1 (0 + 1) a.c := range_fr (fun j v hv => cellAt (unhide G1) (0 + j) v (by rw [Nat.zero_add]; simpa using hv)) (unhide HOK).ty
        have HXR := hide hxr
        have HRX := hide hrx
        clear hxr hrx
        have OLD := hide (fun s i (hs : a.c[24]? = some s) (hi : s.ownBlock = some i) (hn : 0 < a.f.n) => fr_old (unhide HOK).fr oa hs hi hn)
        have sw9 := (unhide HB9).kept.size
        go_upto_region 40 with (first
          | (go_at_call 16; refine (unhide CY).mono ?_; rintro e w10 ⟨p2, S2, rfl, n2, R2, k10⟩; have la := run_ldFr (range_kept (unhide HRX) k10) (unhide HOK).ty.len; have CU := hide (any_push R2 oa ((unhide HXR).kept oa k10 (fun _ _ _ _ _ => id)) (fun s i hs hi hn h2 => by have := unhide OLD s i hs hi hn; have := n2 i h2; omega)); have HN2 := hide n2; clear n2)
          | (go_at_call 17; refine (unhide CU).mono ?_; rintro e w11 ⟨bu, S3, L3, rfl, k11, gr11, R3⟩; clear la; have CP := hide (any_pop R3); have GR := hide gr11; clear gr11)
          | (go_at_call 10; refine (unhide CP).mono ?_; rintro e w12 ⟨c9, b9, L4, rfl, k12, R4⟩; have CK := hide (ring_clear R4))
          | (go_at_call 15; refine (unhide CK).mono ?_; rintro e w13 ⟨rfl, k13, R5⟩))
        have S3n : ∀ i, S3 i → w9.heap.size ≤ i := fun i hi => by
          rcases (unhide GR i hi).1 with h | h
          · exact unhide HN2 i h
          · have := k10.size; omega
        have K13 : Chg noBlk w9 w13 := ((k10.trans k11 fun i hi h => by have := unhide HN2 i h; omega).trans k12 fun i hi h => by have := S3n i h; omega).trans k13 fun i hi h => by have := S3n i h; omega
        have HBx := hide ((unhide HB9).no K13)
        have g2 := K13.at (unhide G2) id
        have g3 := K13.at (unhide G3) id
        clear CY CU CP CK k10 k11 k12 k13 R2 R3 R4 R5 S3n K13 sw9
        obtain ⟨c1, hc1⟩ : ∃ c1, c1 = zeroFr := ⟨_, rfl⟩
        have h1 : Is29 c1.toArray := by rw [hc1]; exact zero_is
        obtain ⟨f, hzf⟩ : ∃ f, f = zeroF := ⟨_, rfl⟩
        have o : f.Ok := by rw [hzf]; exact zeroF_ok
        have ty : f.Ty := by rw [hzf]; exact zeroF_ty
        have FA := hide (zero_frr g2 hc1 hzf)
        have FB := FA
        rw [← hc1] at g2 g3
        clear hc1 hzf
        have la := ld_at g2 h1
        have lb := ld_at g3 h1
        have CS := hide (same_any c1 c1 f o ty _ (unhide FA) (unhide FB))
        clear g2 g3
        go_wp2_with (first
          | (go_at_call 19; refine (unhide CS).mono ?_; rintro e wY ⟨rfl, kY⟩; have CL := hide (alike_any _ _ _ _ _ _ wY ((unhide HBx).no kY).r ((unhide HBx).no kY).q (unhide HBx).ty))
          | (go_at_call 20; refine (unhide CL).mono ?_; rintro e wZ ⟨rfl, kZ⟩))
        go_roundw
        case rel => exact ⟨k + 1, _, _, _, by omega, by go_num, ((unhide HBx).no kY).no kZ⟩
        case measure => simp [intOf]; omega
      have t4 : (a.k % 10 == 4) = false := by simp; omega
      have t5 : (a.k % 10 == 5) = false := by simp; omega
      have t6 : (a.k % 10 == 6) = false := by simp; omega
      have t7 : (a.k % 10 == 7) = false := by simp; omega
      have t8 : (a.k % 10 == 8) = false := by simp; omega
      have t9 : (a.k % 10 == 9) = false := by simp; omega
      obtain ⟨am, cm24, e24⟩ := (unhide HOK).mem
      have oa := AT.f_ok (unhide HOK) hn10
      have ta := AT.f_ty (unhide HOK)
      have hl29 := (unhide HOK).ty.len
      have ia : Is29 a.c.toArray := is29 hl29 (unhide HOK).ty.one
      have sw9 := (unhide HB9).kept.size
      have hrx : w9.rangeAt x1 (0 + 1) a.c := range_fr (fun j v hv => cellAt (unhide G1) (0 + j) v (by rw [Nat.zero_add]; simpa using hv)) (unhide HOK).ty
      have hc25 : a.cells.toArray[25]? = some (.slice am a.n cm24) := by simp only [AT.cells, List.getElem?_toArray, List.getElem?_cons_succ]; rw [List.getElem?_append_left (by omega)]; exact e24
      have hread : Reads w9 2 (.slice am a.n cm24) a.n a.xs := by
        obtain ⟨u, hu, _, hr⟩ := (unhide HOK).fr.kept oa (unhide HB9).kept (fun _ _ _ _ _ => id)
        have : u = .slice am a.n cm24 := by
          have h : (a.f.c.set 24 u)[24]? = some u := by simp [oa.len]
          rw [← hu, e24] at h; simpa using h.symm
        rw [← this]; exact hr
      have OLD := hide (fun s i (hs : a.c[24]? = some s) (hi : s.ownBlock = some i) (hn : 0 < a.f.n) => fr_old (unhide HOK).fr oa hs hi hn)
      have la := run_ldFr hrx hl29
      have HRX := hide hrx
      have HC25 := hide hc25
      have HRD := hide hread
      have hset : ∀ s', (a.c.toArray.setIfInBounds 24 s') = (a.c.set 24 s').toArray := fun s' => by simp
      have HS := hide hset
      have HE24 := hide e24
      clear hrx hc25 hread hset e24
      go_upto_region 16 with (first
        | (refine wpL_alloc rfl 42 rfl _ zero_fr ?_; intro x4 w10 e10 k10 g4 z10; have g1 := k10.at (unhide G1) id)
        | (refine wpL_store rfl 42 (.tmp 16) (.tmp 65) rfl x4 a.c.toArray rfl rfl _ _ g4 (by rw [size_fr, ia.1]) (by rw [ia.1]; rfl) ia.2 ?_; intro w11 k11 g4 z11; replace g1 := k11.at g1 (by show ¬ (_ = _); omega); clear la; have RD := ((unhide HRD).kept k10 fun _ _ _ => id).kept k11 (fun i hi hn e => by have e : i = x4 := e; have := unhide OLD _ i (unhide HE24) hi hn; omega))
        | (refine wpL_get rfl 38 (.tmp 68) rfl x1 25 rfl _ _ _ g1 _ Try.underlying38 rfl (.slice am a.n cm24) (unhide HC25) ?_)
        | (refine wpL_clone rfl (.tmp 69) 38 rfl 54 _ 2 16 Try.underlying38 info_mb rfl (by decide) (.slice am a.n cm24) a.n a.xs rfl RD (by unfold maxLen; omega) (by omega) ?_; intro v1 w12 k12 q12 f12 u12; replace g1 := k12.at g1 id; replace g4 := k12.at g4 id)
        | (refine wpL_set rfl 38 (.tmp 72) (.tmp 70) rfl x4 24 v1 rfl rfl u12 size_sl _ _ g4 (by simp [hl29]) ?_; intro w13 k13 g4 z13; replace g1 := k13.at g1 (by show ¬ (_ = _); omega)))
      rw [unhide HS] at g4
      obtain ⟨co, hco⟩ : ∃ co, co = a.c.set 24 v1 := ⟨_, rfl⟩
      rw [← hco] at g4
      have y4 : w9.heap.size ≤ x4 := by omega
      have y4' : x4 < w11.heap.size := by omega
      have o4 := (unhide HB9).out (x := x4) y4
      have s12 := k12.size
      have s13 := k13.size
      have K13 : Chg noBlk w9 w13 := ((k10.trans k11 fun i hi e => by have e : i = x4 := e; omega).andNo k12).trans k13 fun i hi e => by have e : i = x4 := e; omega
      have B13 := ((((unhide HB9).no k10).one k11 o4 (by omega)).no k12).one k13 o4 (by omega)
      have hh := (holds_own q12 (unhide HRD).2.1).kept k13 fun i _ hi e => by have := f12 i hi; have e : i = x4 := e; omega
      have FO : FrR w13 co a.f := ⟨v1, by rw [hco]; simp [AT.f, frOf, List.set_set], u12, hh.reads⟩
      have hcl : co.toArray[24]? = some v1 := by rw [hco]; simp [hl29]
      have i29 := FO.is29 oa
      have CU := hide (got_push B13.r oa FO (fun s i hs hi hn h => by
        have : s = v1 := by rw [← List.getElem?_toArray, hcl] at hs; simpa using hs.symm
        rw [this] at hi
        have := f12 i hi
        have := (unhide HB9).r.lt i h
        omega))
      have HB13 := hide B13
      have HHH := hide hh
      have HF12 := hide f12
      have HF13 := hide (fun k (hk : v1.ownBlock = some k) => (show k < w13.heap.size by have := (q12.lt k hk).2; omega))
      have HCL := hide hcl
      have HK13 := hide K13
      have w9w11 : w9.heap.size ≤ w11.heap.size := by omega
      clear hco k10 k11 k12 k13 q12 f12 RD hh FO hcl K13 B13 g1 e10 z10 z11 z13
      go_upto_region 17 with (first
        | (refine wpL_load rfl 42 (.tmp 16) rfl x4 rfl _ _ _ g4 _ Try.underlying42 rfl (by rw [size_fr, i29.1]) ?_)
        | (go_at_call 17; refine (unhide CU).mono ?_; rintro e w14 ⟨S', rfl, k14, gr14, R14⟩))
      have hrg : w14.rangeAt x1 (0 + 1) a.c := fun j v hv => k14.cell (range_kept (unhide HRX) (unhide HK13) j v hv) o1.1
      have la := run_ldFr hrg hl29
      have FX := ((unhide HOK).fr.kept oa (unhide HB13).kept (fun _ _ _ _ _ => id)).kept oa k14 (fun s i hs hi hn h => by have := unhide OLD s i hs hi hn; have := (unhide HB13).newS i h; omega)
      have Q14 := (unhide HB13).q.kept k14 fun i hi h => (unhide HB13).apart i h hi
      have CV := hide (got_rpush Q14 (unhide HB13).r.full.1 hc2 oa FX)
      have HR14 := hide R14
      have HG14 := hide gr14
      have HK14 := hide k14
      clear hrg FX Q14 R14 gr14 k14 CU
      go_upto_region 18 with (first
        | (go_at_call 18; refine (unhide CV).mono ?_; rintro e w15 ⟨T', rfl, k15, gr15, Q15⟩))
      have S1c : ∀ j, S' j → (S j ∨ w13.heap.size ≤ j) ∧ j < w14.heap.size := fun j hj => unhide HG14 j hj
      have T1c : ∀ j, T' j → (T j ∨ w14.heap.size ≤ j) ∧ j < w15.heap.size := fun j hj => gr15 j hj
      have ltS := (unhide HB9).r.lt
      have ltT := (unhide HB9).q.lt
      have z913 := (unhide HK13).size
      have z1314 := (unhide HK14).size
      have z011 := (unhide HB13).kept.size
      have apT : ∀ j, S' j → ¬ T j := fun j hs ht => by
        rcases (S1c j hs).1 with h | h
        · exact (unhide HB9).apart j h ht
        · have := ltT j ht; omega
      have HB15 := hide ((unhide HB13).mk2 ((unhide HR14).kept k15 fun i hi h => apT i hi h) Q15 (fun g hg => by
          rcases pushL_mem hg with h | h
          · exact (unhide HB9).ty g h
          · rw [h]; exact ta) (fun j hj => by
          rcases (S1c j hj).1 with h | h
          · exact (unhide HB9).newS j h
          · omega) (fun j hj => by
          rcases (T1c j hj).1 with h | h
          · exact (unhide HB9).newT j h
          · omega) (fun j hs ht => by
          rcases (T1c j ht).1 with h | h
          · exact apT j hs h
          · have := (S1c j hs).2; omega)
        (((unhide HB13).kept.trans (unhide HK14) fun i hi h => by have := (unhide HB9).newS i h; omega).trans k15 fun i hi h => by have := (unhide HB9).newT i h; omega))
      have gg2 := hide (k15.at ((unhide HK14).at ((unhide HK13).at (unhide G2) id) o2.1) o2.2)
      have gg3 := hide (k15.at ((unhide HK14).at ((unhide HK13).at (unhide G3) id) o3.1) o3.2)
      have gg4 := hide (k15.at ((unhide HK14).at g4 o4.1) o4.2)
      have h15 := ((unhide HHH).kept (unhide HK14) fun i _ hi h => by have := unhide HF12 i hi; have := ltS i h; omega).kept k15 fun i _ hi h => by have := unhide HF12 i hi; have := ltT i h; omega
      obtain ⟨ga, gc, rfl, hga⟩ : ∃ ga gc, v1 = .slice ga a.n gc ∧ (∀ m, m < a.n → ∃ g off, ga = some ⟨g, off, none⟩ ∧ w15.there g off (a.n * 2) ∧ Out S' T' g ∧ w.heap.size ≤ g ∧ g ≠ x4 ∧ g ≠ x2 ∧ g ≠ x3) := by
        rcases h15.2.2 with ⟨h, h0⟩ | ⟨g, off, gc, h, hS, _, _, hcell⟩
        · exact ⟨none, 0, by rw [h, h0], fun m hm => by omega⟩
        · have hg := unhide HF12 g hS
          have hg13 : g < w13.heap.size := unhide HF13 g hS
          refine ⟨_, gc, h, fun m hm => ⟨g, off, rfl, fun j hj => ?_, ⟨fun hs => ?_, fun ht => ?_⟩, by omega, by omega, by omega, by omega⟩⟩
          · have hj2 : j < a.xs.length := by have := h15.1; omega
            obtain ⟨e1, e2⟩ := hcell j _ (List.getElem?_eq_getElem hj2)
            exact ⟨by rw [e1]; rfl, e2⟩
          · rcases (S1c g hs).1 with h | h
            · have := ltS g h; omega
            · omega
          · rcases (T1c g ht).1 with h | h
            · have := ltT g h; omega
            · omega
      have HGA := hide hga
      obtain ⟨LL, hLL⟩ : ∃ LL, LL = pushL cap L a.f := ⟨_, rfl⟩
      rw [← hLL] at HB15
      clear hLL hga h15 S1c T1c ltS ltT z913 z1314 z011 apT k15 gr15 Q15 CV la g4 HR14 HG14 HK14 HHH
      go_wp2_with fail
      go_loopw [17] (fun i wi => ∃ m : Nat, m ≤ a.n ∧ i = .int .i64 (m : Int) ∧ Both w wi S' T' p q cap LL ∧ wi.heap[x4]? = some (.cells co.toArray 42 (0, 0)) ∧ wi.heap[x2]? = some (.cells zeroFr.toArray 42 (0, 0)) ∧ wi.heap[x3]? = some (.cells zeroFr.toArray 42 (0, 0)) ∧ (∀ g off, ga = some ⟨g, off, none⟩ → w15.there g off (a.n * 2) → wi.there g off (a.n * 2))) (fun i wi => a.n - (intOf i).toNat)
      case atStart => exact ⟨0, by omega, rfl, unhide HB15, unhide gg4, unhide gg2, unhide gg3, fun g off _ h => h⟩
      case round =>
        obtain ⟨m, hm, rfl, bi, gi4, gi2, gi3, ti⟩ := hrel
        have c24 := cellAt gi4 24 _ (unhide HCL)
        have BI := hide bi
        have GI4 := hide gi4
        have GI2 := hide gi2
        have GI3 := hide gi3
        have TI := hide ti
        clear bi gi4 gi2 gi3 ti
        by_cases hmn : m < a.n
        · obtain ⟨g, off, rfl, hth, og, wg, ng4, ng2, ng3⟩ := unhide HGA m hmn
          have hth2 : World.there _ g (off + m * 2) 2 := fun j hj => by have := unhide TI g off rfl hth (m * 2 + j) (by omega); rwa [← Nat.add_assoc] at this
          have d2 : decide (m < a.n) = true := by simpa using hmn
          have j1 : (0 : Int) ≤ (m : Int) := by omega
          have j2 : (m : Int) < (a.n : Int) := by omega
          clear hth
          go_wp2_with (first
            | (refine wpL_build rfl 54 #[(0, .const (.int .i64 98))] (by rfl) #[.int .i64 98, .int .i64 0] (by exact built_mb 98) ?_)
            | (refine wpL_store_mid rfl 54 (.tmp 93) (.tmp 92) rfl g (off + m * 2) #[.int .i64 98, .int .i64 0] rfl rfl hth2 size_mb mb_one' ?_; intro wj kj tj))
          go_roundw
          case rel => exact ⟨m + 1, by omega, by go_num, (unhide BI).one kj og wg, kj.at (unhide GI4) (Ne.symm ng4), kj.at (unhide GI2) (Ne.symm ng2), kj.at (unhide GI3) (Ne.symm ng3), fun g' off' h h' => tj _ _ _ (unhide TI g' off' h h')⟩
          case measure => simp [intOf]; omega
        · have d2 : decide (m < a.n) = false := by simpa using hmn
          have HBx := BI
          have g2 := unhide GI2
          have g3 := unhide GI3

          obtain ⟨c1, hc1⟩ : ∃ c1, c1 = zeroFr := ⟨_, rfl⟩
          have h1 : Is29 c1.toArray := by rw [hc1]; exact zero_is
          obtain ⟨f, hzf⟩ : ∃ f, f = zeroF := ⟨_, rfl⟩
          have o : f.Ok := by rw [hzf]; exact zeroF_ok
          have ty : f.Ty := by rw [hzf]; exact zeroF_ty
          have FA := hide (zero_frr g2 hc1 hzf)
          have FB := FA
          rw [← hc1] at g2 g3
          clear hc1 hzf
          have la := ld_at g2 h1
          have lb := ld_at g3 h1
          have CS := hide (same_any c1 c1 f o ty _ (unhide FA) (unhide FB))
          clear g2 g3
          go_wp2_with (first
            | (go_at_call 19; refine (unhide CS).mono ?_; rintro e wY ⟨rfl, kY⟩; have CL := hide (alike_any _ _ _ _ _ _ wY ((unhide HBx).no kY).r ((unhide HBx).no kY).q (unhide HBx).ty))
            | (go_at_call 20; refine (unhide CL).mono ?_; rintro e wZ ⟨rfl, kZ⟩))
          go_roundw
          case rel => exact ⟨k + 1, _, _, _, by omega, by go_num, ((unhide HBx).no kY).no kZ⟩
          case measure => simp [intOf]; omega
    · have hkl : k = l.length := by omega
      have d1 : decide (k < l.length) = false := by simpa using hlt
      have CY := hide (ring_copy (unhide HB).r)
      clear hkl
      go_wp2_with (first
        | (go_at_call 16; refine (unhide CY).mono ?_; rintro e w10 ⟨p2, S2, rfl, n2, R2, k10⟩; have CL := hide (alike_any _ _ _ _ _ _ w10 R2 ((unhide HB).q.keptNo k10) (unhide HB).ty))
        | (go_at_call 20; refine (unhide CL).mono ?_; rintro e w11 ⟨rfl, k11⟩)
        | (go_at_call 7; refine (ringed_any _).mono ?_; rintro e w12 ⟨rfl, k12⟩))
      go_ret
      exact ⟨rfl, (((unhide HB).kept.andNo k10).andNo k11).andNo k12⟩
end Go.Proofs.Ytbhjeakaedbanaa
