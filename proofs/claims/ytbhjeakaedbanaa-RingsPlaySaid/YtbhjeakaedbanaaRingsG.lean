/-
  The chapter's ring.
-/
import Derived.Test.YtbhjeakaedbanaaRingsF
import Derived.Deep.DeepCutAuto
namespace Go.Proofs.Ytbhjeakaedbanaa
open Go.ChangeShapes Go.WideShapes Go.ChangeAt Go.RowKit
set_option linter.unusedVariables false
attribute [local go_sem ↓] ldFr_pre stFr_pre
/-- a variable that holds a frame is read whole -/
theorem ld_at {w : World} {a : Nat} {c : List Value} {t : TypeId} {fr : Nat × Nat} (h : w.heap[a]? = some (.cells c.toArray t fr)) (hc : Is29 c.toArray) : (ldFr (.pointer (some ⟨a, 0, none⟩))).run Try.prog w = .ok (.agg c.toArray) w :=
  run_ldFr (fun j v hv => cellAt h (0 + j) v (by rw [Nat.zero_add]; simpa using hv)) (by simpa using hc.1)
theorem new_two (w : World) : Calls Try.prog 8 #[.int .i64 2] w (MadeR 2 w) := new_yes 2 (by decide) (by decide) w
theorem tell_one {w : World} {S : Nat → Prop} {p : Value} {cap : Nat} {L : List Fr} {f : Fr} (h : Ring w S p cap L) (hf : L[1]? = some f) : Calls Try.prog 14 #[p, .int .i64 1] w (ToldF f w) := ring_tell h 1 hf
theorem tell_zero {w : World} {S : Nat → Prop} {p : Value} {cap : Nat} {L : List Fr} {f : Fr} (h : Ring w S p cap L) (hf : L[0]? = some f) : Calls Try.prog 14 #[p, .int .i64 0] w (ToldF f w) := ring_tell h 0 hf
set_option maxRecDepth 100000 in
set_option maxHeartbeats 400000 in
theorem ringed_any (w : World) : Calls Try.prog 7 #[] w (ToldB true w) := by
  go_enter Try.func7, Try.ntmps7
  go_upto_region 3 with (first
    | (go_at_call 8; refine (new_two _).mono ?_; rintro e w1 ⟨p, S1, rfl, n1, R1, k1⟩)
    | (refine wpL_build (by rfl) 42 #[(3, .const (.int .i64 1))] (by rfl) (seqFr 1).toArray (by exact built_seq 1) ?_)
    | (refine wpL_build (by rfl) 42 #[(3, .const (.int .i64 2))] (by rfl) (seqFr 2).toArray (by exact built_seq 2) ?_)
    | (refine wpL_build (by rfl) 42 #[(3, .const (.int .i64 3))] (by rfl) (seqFr 3).toArray (by exact built_seq 3) ?_)
    | (have tk := gb; clear tk; refine wpL_alloc rfl 42 rfl _ zero_fr ?_; intro c w4 e4 k4 gc z4; replace ga := k4.at ga id; replace gb := k4.at gb id)
    | (have tk := ga; clear tk; refine wpL_alloc rfl 42 rfl _ zero_fr ?_; intro b w3 e3 k3 gb z3; replace ga := k3.at ga id)
    | (refine wpL_alloc rfl 42 rfl _ zero_fr ?_; intro a w2 e2 k2 ga z2)
    | (refine wpL_store rfl 42 (.tmp 3) (.tmp 18) rfl a (seqFr 1).toArray rfl rfl _ _ ga (by rw [size_fr]; rfl) rfl (seq_is 1).2 ?_; intro w5 k5 ga z5; replace gb := k5.at gb (by show ¬ (_ = _); omega); replace gc := k5.at gc (by show ¬ (_ = _); omega))
    | (refine wpL_store rfl 42 (.tmp 4) (.tmp 19) rfl b (seqFr 2).toArray rfl rfl _ _ gb (by rw [size_fr]; rfl) rfl (seq_is 2).2 ?_; intro w6 k6 gb z6; replace ga := k6.at ga (by show ¬ (_ = _); omega); replace gc := k6.at gc (by show ¬ (_ = _); omega))
    | (refine wpL_store rfl 42 (.tmp 5) (.tmp 20) rfl c (seqFr 3).toArray rfl rfl _ _ gc (by rw [size_fr]; rfl) rfl (seq_is 3).2 ?_; intro w7 k7 gc z7; replace ga := k7.at ga (by show ¬ (_ = _); omega); replace gb := k7.at gb (by show ¬ (_ = _); omega)))
  have R4 := (((R1.keptNo k2).keptNo k3).keptNo k4)
  have la1 : ¬ S1 a := fun h => by have := R1.lt a h; omega
  have lb1 : ¬ S1 b := fun h => by have := R1.lt b h; omega
  have lc1 : ¬ S1 c := fun h => by have := R1.lt c h; omega
  have R7 := ((R4.kept k5 fun i hi e => la1 (by rw [← show i = a from e]; exact hi)).kept k6 fun i hi e => lb1 (by rw [← show i = b from e]; exact hi)).kept k7 fun i hi e => lc1 (by rw [← show i = c from e]; exact hi)
  have K7 : Chg noBlk w w7 := (((((k1.andNo k2).andNo k3).andNo k4).trans k5 fun i hi e => by have e : i = a := e; have := k1.size; omega).trans k6 fun i hi e => by have e : i = b := e; have := k1.size; omega).trans k7 fun i hi e => by have e : i = c := e; have := k1.size; omega
  have N1 : ∀ k, S1 k → w.heap.size ≤ k := n1
  have za : a < w7.heap.size := by omega
  have zb : b < w7.heap.size := by omega
  have zc : c < w7.heap.size := by omega
  have wa : w.heap.size ≤ a := by have := k1.size; omega
  have wb : w.heap.size ≤ b := by omega
  have wc : w.heap.size ≤ c := by omega
  have ab : a ≠ b := by omega
  have ac : a ≠ c := by omega
  have bc : b ≠ c := by omega
  clear R4 R1 k1 k2 k3 k4 k5 k6 k7 e2 e3 e4 z2 z3 z4 z5 z6 z7 n1
  have la := ld_at ga (seq_is 1)
  have C1 := hide (ring_push R7 (by simp) (seq_ok 1) (seq_fr 1 _) (seq_ap 1 _))
  have KK7 := hide K7
  have NN1 := hide N1
  clear K7 N1
  go_upto_region 5 with (first
    | (go_at_call 17; refine (unhide C1).mono ?_; rintro e w8 ⟨rfl, k8, S2, G8, R8⟩; replace ga := k8.at ga la1; replace gb := k8.at gb lb1; replace gc := k8.at gc lc1; clear la C1; have la := ld_at gb (seq_is 2); have C2 := hide (ring_push R8 (by simp) (seq_ok 2) (seq_fr 2 _) (seq_ap 2 _)); have la2 := G8.not la1 za; have lb2 := G8.not lb1 zb; have lc2 := G8.not lc1 zc)
    | (go_at_call 17; refine (unhide C2).mono ?_; rintro e w9 ⟨rfl, k9, S3, G9, R9⟩; replace ga := k9.at ga la2; replace gb := k9.at gb lb2; replace gc := k9.at gc lc2; clear la C2; have la := ld_at gc (seq_is 3); have C3 := hide (ring_push_no R9 (by simp) (seqFr 3)); have la3 := G9.not la2 (k8.lt za); have lb3 := G9.not lb2 (k8.lt zb); have lc3 := G9.not lc2 (k8.lt zc))
    | (go_at_call 17; refine (unhide C3).mono ?_; rintro e w10 ⟨rfl, k10⟩; replace ga := k10.at ga id; replace gb := k10.at gb id; replace gc := k10.at gc id; replace R9 := R9.keptNo k10; clear la C3))
  have R10 : Ring w10 S3 p 2 (seqF 1 :: [seqF 2]) := R9
  have K10 := ((((unhide KK7).trans k8 fun i hi h => by have := unhide NN1 i h; omega).trans k9 fun i hi h => (by rcases (G8 i h).1 with h1 | h1; · have := unhide NN1 i h1; omega
                                                                                                                  · have := (unhide KK7).size; omega : False).elim).andNo k10)
  have N3 : ∀ i, i < w.heap.size → S3 i → False := fun i hi h => by
    have := (unhide KK7).size
    have := k8.size
    rcases (G9 i h).1 with h1 | h1
    · rcases (G8 i h1).1 with h2 | h2
      · have := unhide NN1 i h2; omega
      · omega
    · omega
  have zc10 : c < w10.heap.size := k10.lt (k9.lt (k8.lt zc))
  have C4 := hide (ring_pop R10)
  have KK10 := hide K10
  have NN3 := hide N3
  clear R9 R10 K10 N3 k8 k9 k10 G8 G9 ga gb la1 la2 la3 lb1 lb2 lb3 lc1 lc2 za zb zc wa wb wc ab ac bc KK7 NN1 R7
  go_upto_region 6 with (first
    | (go_at_call 10; refine (unhide C4).mono ?_; rintro e w11 ⟨c1, rfl, f1, k11, R11⟩; replace gc := k11.at gc lc3; have h1 := f1.reads.is29 (seq_ok 1); have s1 := seq_get f1.reads; clear C4)
    | (refine wpL_alloc rfl 42 rfl _ zero_fr ?_; intro x w12 e12 k12 gx z12; replace gc := k12.at gc id)
    | (refine wpL_store rfl 42 (.tmp 6) (.tmp 43) rfl x c1.toArray rfl rfl _ _ gx (by rw [size_fr, h1.1]) (by rw [h1.1]; rfl) h1.2 ?_; intro w13 k13 gx z13; replace gc := k13.at gc (by show ¬ (_ = _); have := k11.size; omega)))
  have q3 : ¬ S3 x := fun h => by have := R11.lt x h; omega
  have R13 := (R11.keptNo k12).kept k13 fun i hi e => q3 (by rw [← show i = x from e]; exact hi)
  have K13 : Chg noBlk w w13 := (((unhide KK10).trans k11 fun i hi h => unhide NN3 i hi h).andNo k12).trans k13 fun i hi e => by have e : i = x := e; have := (unhide KK10).size; have := k11.size; omega
  have zc13 : c < w13.heap.size := by have := k11.lt zc10; omega
  have c3 := cellAt gx 3 _ s1
  have la := ld_at gc (seq_is 3)
  have C5 := hide (ring_push R13 (by simp) (seq_ok 3) (seq_fr 3 _) (seq_ap 3 _))
  have KK13 := hide K13
  clear R13 R11 K13 k11 k12 k13 gx e12 z12 z13 zc10 h1 s1 f1 KK10 q3
  go_upto_region 8 with (first
    | (go_at_call 17; refine (unhide C5).mono ?_; rintro e w14 ⟨rfl, k14, S4, G14, R14⟩; clear la C5 c3))
  have R14' : Ring w14 S4 p 2 [seqF 2, seqF 3] := R14
  have K14 : Chg noBlk w w14 := (unhide KK13).trans k14 fun i hi h => unhide NN3 i hi h
  clear R14 k14 gc lc3 G14 KK13 NN3
  have C6 := hide (tell_zero R14' rfl)
  go_upto_region 9 with (first
    | (go_at_call 14; refine (unhide C6).mono ?_; rintro e w15 ⟨c2, rfl, f2, k15⟩; have h2 := f2.reads.is29 (seq_ok 2); have s2 := seq_get f2.reads; clear C6)
    | (refine wpL_alloc rfl 42 rfl _ zero_fr ?_; intro x2 w16 e16 k16 gx2 z16)
    | (refine wpL_store rfl 42 (.tmp 8) (.tmp 61) rfl x2 c2.toArray rfl rfl _ _ gx2 (by rw [size_fr, h2.1]) (by rw [h2.1]; rfl) h2.2 ?_; intro w17 k17 gx2 z17))
  have R17 := ((R14'.keptNo k15).keptNo k16).kept k17 fun i hi e => by have e : i = x2 := e; have := R14'.lt i hi; have := k15.size; omega
  have K17 : Chg noBlk w w17 := ((K14.andNo k15).andNo k16).trans k17 fun i hi e => by have e : i = x2 := e; have := K14.size; have := k15.size; omega
  have i2 : gx2 = gx2 := rfl
  have z2 : x2 < w17.heap.size := by omega
  have u2 : c2.toArray[3]? = some (.int .i64 2) := s2
  clear R14' K14 k15 k16 k17 e16 z16 z17 f2 h2 s2 i2
  have C7 := hide (tell_one R17 rfl)
  go_upto_region 10 with (first
    | (go_at_call 14; refine (unhide C7).mono ?_; rintro e w18 ⟨c3, rfl, f3, k18⟩; have h3 := f3.reads.is29 (seq_ok 3); have s3 := seq_get f3.reads; replace gx2 := k18.at gx2 id; clear C7)
    | (refine wpL_alloc rfl 42 rfl _ zero_fr ?_; intro x3 w19 e19 k19 gx3 z19; replace gx2 := k19.at gx2 id)
    | (refine wpL_store rfl 42 (.tmp 10) (.tmp 66) rfl x3 c3.toArray rfl rfl _ _ gx3 (by rw [size_fr, h3.1]) (by rw [h3.1]; rfl) h3.2 ?_; intro w20 k20 gx3 z20; replace gx2 := k20.at gx2 (by show ¬ (_ = _); have := k18.size; omega)))
  have R20 := ((R17.keptNo k18).keptNo k19).kept k20 fun i hi e => by have e : i = x3 := e; have := R17.lt i hi; have := k18.size; omega
  have K20 : Chg noBlk w w20 := ((K17.andNo k18).andNo k19).trans k20 fun i hi e => by have e : i = x3 := e; have := K17.size; have := k18.size; omega
  have z3 : x3 < w20.heap.size := by omega
  have z2' : x2 < w20.heap.size := by have := k18.size; omega
  have u3 : c3.toArray[3]? = some (.int .i64 3) := s3
  clear R17 K17 k18 k19 k20 e19 z19 z20 f3 h3 s3 z2
  have C8 := hide (ring_tell_no R20 2 (by right; simp))
  go_upto_region 11 with (first
    | (go_at_call 14; refine (unhide C8).mono ?_; rintro e w21 ⟨rfl, k21⟩; replace gx2 := k21.at gx2 id; replace gx3 := k21.at gx3 id; clear C8)
    | (refine wpL_alloc rfl 42 rfl _ zero_fr ?_; intro x4 w22 e22 k22 gx4 z22; replace gx2 := k22.at gx2 id; replace gx3 := k22.at gx3 id)
    | (refine wpL_store rfl 42 (.tmp 12) (.tmp 71) rfl x4 zeroFr.toArray rfl rfl _ _ gx4 (by rw [size_fr]; rfl) rfl zero_one ?_; intro w23 k23 gx4 z23; replace gx2 := k23.at gx2 (by show ¬ (_ = _); have := k21.size; omega); replace gx3 := k23.at gx3 (by show ¬ (_ = _); have := k21.size; omega)))
  have K23 : Chg noBlk w w23 := ((K20.andNo k21).andNo k22).trans k23 fun i hi e => by have e : i = x4 := e; have := K20.size; have := k21.size; omega
  have v2 := cellAt gx2 3 _ u2
  have v3 := cellAt gx3 3 _ u3
  clear gx2 gx3 gx4 k21 k22 k23 u2 u3
  go_wp2_with (fail)
  go_ret
  exact ⟨rfl, K23⟩
end Go.Proofs.Ytbhjeakaedbanaa
