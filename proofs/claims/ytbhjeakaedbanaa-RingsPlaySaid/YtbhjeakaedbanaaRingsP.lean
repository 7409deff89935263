/-
  Contracts of rings: all frames taken out; a copy.
-/
import Derived.Test.YtbhjeakaedbanaaRingsK
import Derived.Deep.RegionHeld3
import Derived.Deep.DeepCutAuto
import Derived.Deep.DrawnRows
namespace Go.Proofs.Ytbhjeakaedbanaa
open Go.ChangeShapes Go.WideShapes Go.ChangeAt Go.RowKit
set_option linter.unusedVariables false
attribute [local go_sem ↓] Go.wp_at_zero Go.wp_at_succ
attribute [local go_sem ↓] ldFr_pre stFr_pre
theorem rep_one (n : Nat) : (List.replicate n zeroFr).flatten.toArray.all (·.oneCell') = true := all_oneCell_toArray fun v hv => by
  obtain ⟨l, hl, hv⟩ := List.mem_flatten.1 hv
  rw [List.eq_of_mem_replicate hl] at hv; exact zero_all v hv
theorem rep_size (n : Nat) : (List.replicate n zeroFr).flatten.toArray.size = n * 29 := by
  rw [List.size_toArray, flat_len 29 _ (fun c hc => by rw [List.eq_of_mem_replicate hc]; rfl), List.length_replicate]
set_option maxRecDepth 100000 in
theorem clear_at (S : Nat → Prop) (b bp first cap : Nat) (ps : List (List Value)) (L : List Fr) (w : World) (h : RingAt w S b bp first cap ps L) : Calls Try.prog 15 #[.pointer (some ⟨b, 0, none⟩)] w
    (fun e w' => e = .returned (.tuple #[]) ∧ Chg (twoBlk b bp) w w' ∧ RingAt w' S b bp 0 cap (List.replicate cap zeroFr) []) := by
  have c0 := cellAt h.own 0 _ rfl
  have hlo := h.lo
  have hv : VarAt w bp 42 (cap * 29) := by have := h.rows.var; rwa [h.len] at this
  have hth : w.there bp 0 (cap * zeroFr.length) := hv.thereAt 0 _ (by show 0 + cap * 29 ≤ cap * 29; omega)
  obtain ⟨r1, r2⟩ := hv.setCells Try.prog (rep_size cap) (rep_one cap)
  have R1 := hide r1
  have R2 := hide r2
  have HH := hide h
  have HV := hide hv
  clear h hv r1 r2
  go_enter Try.func15, Try.ntmps15
  go_upto_region 2 with (first
    | (refine wpL_clear rfl (.tmp 7) 48 rfl 42 zeroFr Try.underlying48 zero_fr (by decide) zero_all bp 0 cap cap rfl hlo hth ?_; generalize hwc : w.setCells bp 0 (List.replicate cap zeroFr).flatten = wc))
  have r1 : wc.heap[bp]? = some (.cells (List.replicate cap zeroFr).flatten.toArray 42 (0, 0)) := by rw [← hwc]; exact unhide R1
  have k1 : Chg (oneBlk bp) w wc := by rw [← hwc]; exact unhide R2
  clear hwc c0 hth
  have g1 := k1.at (unhide HH).own (unhide HH).ne
  go_wp2_with (first
    | (refine wpL_set rfl 3 (.tmp 11) (.const (.int .i64 0)) rfl b 1 (.int .i64 0) rfl rfl rfl size_int _ _ g1 (by simp) ?_; intro w5 k5 g5 z5)
    | (refine wpL_set rfl 3 (.tmp 13) (.const (.int .i64 0)) rfl b 2 (.int .i64 0) rfl rfl rfl size_int _ _ g5 (by simp) ?_; intro w6 k6 g6 z6))
  go_end0
  have H := unhide HH
  refine ⟨rfl, ((k1.mono fun i _ e => .inr e).trans k5 fun i _ e => .inl e).trans k6 fun i _ e => .inl e, H.sb, H.sp, H.ne, by rw [g6]; rfl, ⟨(k5.trans k6 fun _ _ e => e).at r1 (Ne.symm H.ne), fun c hc => by rw [List.eq_of_mem_replicate hc]; rfl⟩, by simp, H.lo, H.hi, by omega, by simp, by simp, by simp⟩
/-- told: a new ring, place by place -/
def MadeAt (n : Nat) (w : World) (e : Ending) (w' : World) : Prop := ∃ b bp, e = .returned (.tuple #[.pointer (some ⟨b, 0, none⟩), .int .i64 0]) ∧ w.heap.size ≤ b ∧ w.heap.size ≤ bp ∧ RingAt w' (fun k => k = b ∨ k = bp) b bp 0 n (List.replicate n zeroFr) [] ∧ Chg noBlk w w'
set_option maxRecDepth 100000 in
theorem new_at (n : Nat) (h1 : 1 ≤ n) (h2 : n ≤ 64) (w : World) : Calls Try.prog 8 #[.int .i64 (n : Int)] w (MadeAt n w) := by
  have d1 : decide ((n : Int) < 1) = false := by simp; omega
  have d2 : decide (64 < (n : Int)) = false := by simp; omega
  go_enter Try.func8, Try.ntmps8
  go_wp2_with (first
    | (refine wpL_make rfl 48 (.tmp 10) (.tmp 10) rfl 42 zeroFr 288 Try.underlying48 info_fr (by decide) n rfl rfl (by omega) (by omega) ?_; intro bp w1 e1 k1 g1 z1)
    | (refine wpL_build rfl 60 #[(0, .tmp 11)] rfl #[.slice (some ⟨bp, 0, none⟩) n n, .int .i64 0, .int .i64 0] (built_ring bp n) ?_)
    | (refine wpL_box rfl 60 (.tmp 12) rfl _ rfl ?_; intro b w2 e2 k2 g2 z2))
  go_ret2
  refine ⟨b, bp, rfl, by omega, by omega, ?_, k1.andNo k2⟩
  exact ⟨.inl rfl, .inr rfl, by omega, g2, ⟨k2.at g1 id, fun c hc => by rw [List.eq_of_mem_replicate hc]; rfl⟩, by simp, h1, h2, by omega, by simp, by simp, by simp⟩
/-- what a frame's copying from a ring to another one needs -/
theorem copy_keep {w1 w' : World} {S S2 : Nat → Prop} {b bp b2 bp2 cap first i k : Nat} {ps ps2 : List (List Value)} {L : List Fr} {c : List Value} (hk : Base w1 bp2 42 (cap * 29) w') (h : RingAt w1 S b bp first cap ps L)
    (h2 : RingAt w1 S2 b2 bp2 0 cap ps2 []) (n1 : b ≠ bp2) (n2 : bp ≠ bp2) (hc : ps[k]? = some c) (hi : i < cap) : Base w1 bp2 42 (cap * 29) w' ∧ w'.cell? ⟨b, 0, none⟩ = some (.slice (some ⟨bp, 0, none⟩) cap cap) ∧ w'.cell? ⟨b2, 0, none⟩ = some (.slice (some ⟨bp2, 0, none⟩) cap cap) ∧ (ldFr (.pointer (some ⟨bp, k * 29, none⟩))).run Try.prog w' = .ok (.agg c.toArray) w' ∧
      (∀ cs, Is29 cs → (stFr (.pointer (some ⟨bp2, i * 29, none⟩)) (.agg cs)).run Try.prog w' = .ok () (w'.setCells bp2 (i * 29) cs.toList)) :=
  ⟨hk, cellAt (hk.1.at h.own n1) 0 _ rfl, cellAt (hk.1.at h2.own h2.ne) 0 _ rfl, run_ldFr ((h.rows.kept hk.1 n2).range hc) (h.rows.len c (List.mem_of_getElem? hc)), fun cs hcs => run_stFr (hk.2.thereAt _ _ (by omega)) hcs⟩
/-- a ring being filled: its first k places hold the frames L -/
structure Filling (w : World) (S : Nat → Prop) (b bp cap : Nat) (ps : List (List Value)) (L : List Fr) (k : Nat) : Prop where
  ring : RingAt w S b bp 0 cap ps []
  fr : ∀ i f, i < k → L[i]? = some f → ∃ c, ps[i]? = some c ∧ FrH w (fun j => S j ∧ j ≠ b ∧ j ≠ bp) c f
theorem fill_step {w1 wf : World} {S2 : Nat → Prop} {b2 bp2 cap k : Nat} {ps2 : List (List Value)} {L : List Fr} {f : Fr} {c' : List Value} (h : Filling w1 S2 b2 bp2 cap ps2 L k) (K : Chg noBlk w1 wf) (hk : k < cap) (hL : L[k]? = some f) (o : f.Ok) (hf : FrH wf (fun i => w1.heap.size ≤ i) c' f) (hS : ∀ i, S2 i → i < w1.heap.size) :
    Chg (oneBlk bp2) w1 (wf.setCells bp2 (k * 29) c') ∧ Filling (wf.setCells bp2 (k * 29) c') (fun i => S2 i ∨ (w1.heap.size ≤ i ∧ i < (wf.setCells bp2 (k * 29) c').heap.size)) b2 bp2 cap (ps2.set k c') L (k + 1) := by
  have hR := h.ring.keptNo K
  obtain ⟨r1, r2⟩ := hR.rows.set Try.prog (k := k) (by rw [hR.len]; exact hk) (hf.reads.len o) (hf.reads.one o)
  have hb := hS b2 h.ring.sb
  have hbp := hS bp2 h.ring.sp
  refine ⟨(K.no (oneBlk bp2)).trans r2 fun _ _ e => e, ⟨.inl hR.sb, .inl hR.sp, hR.ne, r2.at hR.own hR.ne, r1, by simp [hR.len], hR.lo, hR.hi, hR.fst, by simp, by simp, by simp⟩, fun i g hi hg => ?_⟩
  by_cases hik : i < k
  · obtain ⟨c, e1, e2⟩ := h.fr i g hik hg
    exact ⟨c, by rw [List.getElem?_set_ne (by omega)]; exact e1, ((e2.kept K fun _ _ _ => id).kept r2 fun j _ hj e => hj.2.2 e).mono fun j _ hj => ⟨.inl hj.1, hj.2⟩⟩
  · obtain rfl : i = k := by omega
    rw [hL] at hg
    cases hg
    exact ⟨c', by simp [hR.len, hk], (hf.kept r2 fun j _ hj e => by have hj : w1.heap.size ≤ j := hj; have e : j = bp2 := e; omega).mono fun j hj1 hj => ⟨.inr ⟨hj, hj1⟩, by have hj : w1.heap.size ≤ j := hj; omega, by have hj : w1.heap.size ≤ j := hj; omega⟩⟩
/-- where the copying stands -/
def CopyAt (w0 : World) (b2 bp2 cap : Nat) (L : List Fr) (i : Value) (w : World) : Prop :=
  ∃ (k : Nat) (S2 : Nat → Prop) (ps2 : List (List Value)), k ≤ L.length ∧ i = .int .i64 (k : Int) ∧ Filling w S2 b2 bp2 cap ps2 L k ∧ (∀ j, S2 j → w0.heap.size ≤ j ∧ j < w.heap.size) ∧ Chg noBlk w0 w
theorem BaseQ.set {w1 w : World} {bp cap k : Nat} (hk : k < cap) (h : Base w1 bp 42 (cap * 29) w) {cs : Array Value} (hcs : Is29 cs) : Base w1 bp 42 (cap * 29) (w.setCells bp (k * 29) cs.toList) := BaseP.set hk h hcs
set_option maxRecDepth 100000 in
set_option maxHeartbeats 2000000 in
theorem copy_at (S : Nat → Prop) (b bp first cap : Nat) (ps : List (List Value)) (L : List Fr) (w : World) (h : RingAt w S b bp first cap ps L) (hS : ∀ i, S i → i < w.heap.size) : Calls Try.prog 16 #[.pointer (some ⟨b, 0, none⟩)] w
    (fun e w' => ∃ p S', e = .returned p ∧ (∀ j, S' j → w.heap.size ≤ j) ∧ Ring w' S' p cap L ∧ Chg noBlk w w') := by
  have hlo := h.lo
  have hhi := h.hi
  have hfst := h.fst
  have hful := h.full
  have HH := hide h
  have HSS := hide hS
  have CC := hide (cap_at b (some ⟨bp, 0, none⟩) cap cap first L.length w h.own)
  have NN := hide (new_at cap hlo hhi w)
  have hb0 := lt_of_block h.own
  have hbp0 := h.rows.lt
  clear h hS
  go_enter Try.func16, Try.ntmps16
  go_wp2_with (first
    | (go_at_call 22; refine (unhide CC).mono ?_; rintro e w' ⟨rfl, rfl⟩)
    | (go_at_call 8; refine (unhide NN).mono ?_; rintro e w1 ⟨b2, bp2, rfl, n1, n2, R2, k1⟩; have CL := hide (len_at b _ first L.length w1 (k1.at (unhide HH).own id)))
    | (go_at_call 21; refine (unhide CL).mono ?_; rintro e w' ⟨rfl, rfl⟩))
  have R2' := hide R2
  have k1' := hide k1
  clear R2 k1 CC NN CL
  go_loopw [16] (fun i wr => CopyAt w b2 bp2 cap L i wr) (fun i wr => L.length - (intOf i).toNat)
  case atStart => exact ⟨0, _, _, by omega, rfl, ⟨unhide R2', fun i f hi => by omega⟩, fun j hj => by rcases hj with rfl | rfl; exact ⟨n1, lt_of_block (unhide R2').own⟩; exact ⟨n2, (unhide R2').rows.lt⟩, unhide k1'⟩
  case round =>
    obtain ⟨k, S2, ps2, hk, rfl, hF, hS2, kw⟩ := hrel
    have HF := hide hF
    have HS2 := hide hS2
    have KW := hide kw
    clear hF hS2 kw
    by_cases hlt : k < L.length
    · obtain ⟨f, hf⟩ : ∃ f, L[k]? = some f := ⟨_, List.getElem?_eq_getElem hlt⟩
      have HRr := hide ((unhide HH).keptNo (unhide KW))
      obtain ⟨c, hc, hfr⟩ := (unhide HRr).fr k f hf
      have o := (unhide HH).ok f (List.mem_of_getElem? hf)
      obtain ⟨m, hm⟩ : ∃ m, m = (first + k) % cap := ⟨_, rfl⟩
      have hmc : m < cap := by rw [hm]; exact Nat.mod_lt _ (by omega)
      rw [← hm] at hc
      have p1 : (0 : Int) ≤ (m : Int) := by omega
      have p2 : (m : Int) < (cap : Int) := by omega
      have p3 : (0 : Int) ≤ (k : Int) := by omega
      have hkc : k < cap := by omega
      have p4 : (k : Int) < (cap : Int) := by omega
      have d1 : decide (k < L.length) = true := by simpa using hlt
      have q1 : b ≠ bp2 := by have := (unhide HS2 bp2 (unhide HF).ring.sp).1; omega
      have q2 : bp ≠ bp2 := by have := (unhide HS2 bp2 (unhide HF).ring.sp).1; omega
      have KE := hide (fun w' (hk : Base wr bp2 42 (cap * 29) w') => copy_keep hk (unhide HRr) (unhide HF).ring q1 q2 hc hkc)
      have B0 : Base wr bp2 42 (cap * 29) wr := Base.mk' (by have := (unhide HF).ring.rows.var; rwa [(unhide HF).ring.len] at this)
      have FK := hide (fun w' (hk : Base wr bp2 42 (cap * 29) w') => FrH.reads (hfr.kept hk.1 (fun i hi hs e => by have e : i = bp2 := e; have := (unhide HS2 bp2 (unhide HF).ring.sp).1; have := unhide HSS i hs.1; omega)))
      have PK := hide (fun w' (hk : Base wr bp2 42 (cap * 29) w') => place_at b (some ⟨bp, 0, none⟩) cap first L.length k hlo hhi (by omega) (by omega) w' (hk.1.at (unhide HRr).own q1))
      rw [← hm] at PK
      have HM := hide hm
      have HC := hide hc
      have HFf := hide hf
      clear hm hc hf hfr
      go_upto_region 7 with (fail)
      go_region_held3 (fun w' => Base wr bp2 42 (cap * 29) w' ∧ w'.cell? ⟨b, 0, none⟩ = some (.slice (some ⟨bp, 0, none⟩) cap cap) ∧ w'.cell? ⟨b2, 0, none⟩ = some (.slice (some ⟨bp2, 0, none⟩) cap cap) ∧ (ldFr (.pointer (some ⟨bp, m * 29, none⟩))).run Try.prog w' = .ok (.agg c.toArray) w' ∧
          (∀ cs, Is29 cs → (stFr (.pointer (some ⟨bp2, k * 29, none⟩)) (.agg cs)).run Try.prog w' = .ok () (w'.setCells bp2 (k * 29) cs.toList)))
        ((refine unhide KE _ ?_; go_split_ands; first | assumption | exact Base.drew (by assumption) | exact Base.drewN (by assumption) _ | exact Base.andNo (by assumption) (by assumption) | exact BaseP.set hkc (by assumption) (by assumption)))
        (first | (go_at_call 23; refine (unhide PK _ (by go_split_ands; first | assumption | exact Base.drew (by assumption) | exact Base.drewN (by assumption) _)).mono ?_; rintro e w' ⟨rfl, d, rfl⟩) | (go_at_call 24; refine (own_fr c f o _ (unhide FK _ (by go_split_ands; first | assumption | exact Base.drew (by assumption) | exact Base.drewN (by assumption) _))).mono ?_; rintro e wf ⟨c', rfl, hf', kf⟩; have h29 := hf'.reads.is29 o))
      have K : Chg noBlk wr wf := ((Chg.refl noBlk wr).drewN _).andNo kf
      rw [heap_drewN] at hf'
      obtain ⟨r1, r2⟩ := fill_step (unhide HF) K hkc (unhide HFf) o hf' (fun i hi => (unhide HS2 i hi).2)
      generalize wf.setCells bp2 (k * 29) c' = w4 at r1 r2 ⊢
      have Q1 := hide r1
      have Q2 := hide r2
      have HFx := hide hf'
      clear r1 r2 hf' kf h29
      go_wp2_with fail
      go_roundw
      case rel =>
        have k1 := unhide Q1
        refine ⟨k + 1, _, _, by omega, by go_num, unhide Q2, fun j hj => ?_, (unhide KW).trans k1 fun i hi e => by have e : i = bp2 := e; have := (unhide HS2 bp2 (unhide HF).ring.sp).1; omega⟩
        have := k1.size
        have := (unhide KW).size
        rcases hj with hj | hj
        · have := unhide HS2 j hj; omega
        · omega
      case measure => simp [intOf]; omega
    · have hkL : k = L.length := by omega
      have d1 : decide (k < L.length) = false := by simpa using hlt
      have hown := (unhide HF).ring.own
      have hb2 := (unhide HS2 b2 (unhide HF).ring.sb).1
      have hbr := (unhide KW).at (unhide HH).own id
      have c2 := cellAt hbr 2 _ rfl
      have HKL := hide hkL
      have HBR := hide hbr
      clear hkL hbr
      go_wp2_with (first
        | (refine wpL_set rfl 3 (.tmp 42) (.tmp 40) rfl b2 2 (.int .i64 (L.length : Int)) rfl rfl rfl size_int _ _ hown (by simp) ?_; intro w5 k5 g5 z5))
      go_ret
      refine ⟨_, S2, rfl, fun j hj => (unhide HS2 j hj).1, ⟨fun j hj => k5.lt (unhide HS2 j hj).2, b2, bp2, 0, ps2, rfl, ?_⟩, (unhide KW).trans k5 fun i hi e => by have e : i = b2 := e; omega⟩
      have R := (unhide HF).ring
      refine ⟨R.sb, R.sp, R.ne, by rw [g5]; rfl, R.rows.kept k5 (Ne.symm R.ne), R.len, R.lo, R.hi, R.fst, hful, (unhide HH).ok, fun i f hi => ?_⟩
      obtain ⟨c, e1, e2⟩ := (unhide HF).fr i f (by have := (List.getElem?_eq_some_iff.1 hi).1; rw [unhide HKL]; exact this) hi
      have hil : i < cap := by have := (List.getElem?_eq_some_iff.1 hi).1; omega
      exact ⟨c, by rw [Nat.zero_add, Nat.mod_eq_of_lt hil]; exact e1, e2.kept k5 fun j _ hj e => hj.2.1 e⟩
end Go.Proofs.Ytbhjeakaedbanaa
