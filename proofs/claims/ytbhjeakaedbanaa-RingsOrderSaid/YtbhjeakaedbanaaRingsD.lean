/-
  Contracts of rings: one pushed.
-/
import Derived.Test.YtbhjeakaedbanaaRingsC
namespace Go.Proofs.Ytbhjeakaedbanaa
open Go.ChangeShapes Go.WideShapes Go.ChangeAt Go.RowKit
set_option linter.unusedVariables false
attribute [local go_sem ↓] Go.wp_at_zero Go.wp_at_succ
attribute [local go_sem ↓] ldFr_pre stFr_pre
theorem size_int : (Try.prog.info? 3).map (·.size) = some 1 := by kernel_rfl
theorem place_eq {first i cap : Nat} (h : first < cap) (hi : i ≤ cap) : (first + i) % cap = if first + i < cap then first + i else first + i - cap := by
  split
  · exact Nat.mod_eq_of_lt (by assumption)
  · rw [Nat.mod_eq_sub_mod (by omega)]; exact Nat.mod_eq_of_lt (by omega)
section
variable {w1 wp w4 w5 : World} {S : Nat → Prop} {b bp first cap k : Nat} {ps : List (List Value)} {L : List Fr} {f : Fr} {c' : List Value}
theorem push_store (h : RingAt w1 S b bp first cap ps L) (K : Chg noBlk w1 wp) (hk : k < cap) (o : f.Ok) (hf : FrH wp (fun i => w1.heap.size ≤ i) c' f) :
    Chg (oneBlk bp) w1 (wp.setCells bp (k * 29) c') ∧ (wp.setCells bp (k * 29) c').heap[b]? = some (ringC (.slice (some ⟨bp, 0, none⟩) cap cap) first L.length) ∧ RowsAt (wp.setCells bp (k * 29) c') bp 42 29 (ps.set k c') ∧ FrH (wp.setCells bp (k * 29) c') (fun i => w1.heap.size ≤ i) c' f := by
  have hR := h.keptNo K
  obtain ⟨r1, r2⟩ := hR.rows.set Try.prog (k := k) (by rw [h.len]; exact hk) (hf.reads.len o) (hf.reads.one o)
  refine ⟨(K.no (oneBlk bp)).trans r2 fun _ _ e => e, r2.at hR.own h.ne, r1, hf.kept r2 fun i _ hi e => ?_⟩
  have e : i = bp := e
  have := h.rows.lt
  omega
theorem push_ring (h : RingAt w1 S b bp first cap ps L) (hn : L.length < cap) (hk : k = (first + L.length) % cap) (o : f.Ok) (k4 : Chg (oneBlk bp) w1 w4) (r4 : RowsAt w4 bp 42 29 (ps.set k c')) (f4 : FrH w4 (fun i => w1.heap.size ≤ i) c' f)
    (k5 : Chg (oneBlk b) w4 w5) (g5 : w5.heap[b]? = some (ringC (.slice (some ⟨bp, 0, none⟩) cap cap) first (L.length + 1))) : RingAt w5 (fun i => S i ∨ w1.heap.size ≤ i) b bp first cap (ps.set k c') (L ++ [f]) := by
  have hb := lt_of_block h.own
  have hbp := h.rows.lt
  have hkc : k < cap := by rw [hk]; exact Nat.mod_lt _ h.lo
  have hfst := h.fst
  refine ⟨.inl h.sb, .inl h.sp, h.ne, by rw [g5]; simp, r4.kept k5 (fun e => h.ne (Eq.symm e)), by simp [h.len], h.lo, h.hi, h.fst, by simp; omega, ?_, ?_⟩
  · intro g hg
    rcases List.mem_append.1 hg with hg | hg
    · exact h.ok g hg
    · rw [List.mem_singleton.1 hg]; exact o
  · intro i g hg
    by_cases hi : i < L.length
    · rw [List.getElem?_append_left hi] at hg
      obtain ⟨c, h1, h2⟩ := h.fr i g hg
      have hne : k ≠ (first + i) % cap := by
        rw [hk, place_eq hfst (by omega), place_eq hfst (by omega)]; split <;> split <;> omega
      refine ⟨c, by rw [List.getElem?_set_ne hne]; exact h1, ?_⟩
      exact ((h2.kept k4 fun j _ hj e => hj.2.2 e).kept k5 fun j _ hj e => hj.2.1 e).mono fun j _ hj => ⟨.inl hj.1, hj.2⟩
    · have hi2 : i = L.length := by
        have := (List.getElem?_eq_some_iff.1 hg).1; simp at this; omega
      subst hi2
      simp at hg
      subst hg
      refine ⟨c', by rw [← hk]; simp [h.len, hkc], ?_⟩
      exact (f4.kept k5 fun j _ hj e => by have e : j = b := e; omega).mono fun j _ hj => ⟨.inr hj, by omega, by omega⟩
end
set_option maxRecDepth 100000 in
set_option maxHeartbeats 1000000 in
theorem push_yes (S : Nat → Prop) (b bp first cap : Nat) (ps : List (List Value)) (L : List Fr) (f : Fr) (o : f.Ok) (c : List Value) (w : World) (h : RingAt w S b bp first cap ps L) (hn : L.length < cap) (hf : FrR w c f)
    (hap : ∀ s i, c[24]? = some s → s.ownBlock = some i → 0 < f.n → ¬ S i) : Calls Try.prog 17 #[.pointer (some ⟨b, 0, none⟩), .agg c.toArray] w (Pushed S b bp first cap L f w) := by
  have d1 : ((L.length : Int) == (cap : Int)) = false := by simp; omega
  have hc29 := hf.len o
  have hb0 := lt_of_block h.own
  have hb1 := h.rows.lt
  have hlo := h.lo
  have hhi := h.hi
  have hfst := h.fst
  obtain ⟨k, hk⟩ : ∃ k, k = (first + L.length) % cap := ⟨_, rfl⟩
  have hkc : k < cap := by rw [hk]; exact Nat.mod_lt _ (by omega)
  have p1 : (0 : Int) ≤ (k : Int) := by omega
  have p2 : (k : Int) < (cap : Int) := by omega
  have HK := hide hk
  have HR := hide h
  have HF := hide hf
  have HAP := hide hap
  clear hk h hf hap
  have HL := hide (fun w' (hk : Chg noBlk w w') => len_at b _ first L.length w' (hk.at (unhide HR).own id))
  have HC := hide (fun w' (hk : Chg noBlk w w') => cap_at b (some ⟨bp, 0, none⟩) cap cap first L.length w' (hk.at (unhide HR).own id))
  go_enter Try.func17, Try.ntmps17
  go_wp2_with (first
    | (refine wpL_box rfl 42 _ rfl c.toArray rfl ?_; intro b3 w1 e2 k2 g2 z2)
    | (go_at_call 21; refine (unhide HL _ k2).mono ?_; rintro e w' ⟨rfl, rfl⟩)
    | (go_at_call 22; refine (unhide HC _ k2).mono ?_; rintro e w' ⟨rfl, rfl⟩))
  have HR1 := hide ((unhide HR).keptNo k2)
  have KE := hide (fun w' (hk : Base w1 bp 42 (cap * 29) w') => push_keep hk (unhide HR1) g2 hc29 (by omega) hkc)
  have B0 : Base w1 bp 42 (cap * 29) w1 := Base.mk' (by have := (unhide HR1).rows.var; rwa [(unhide HR1).len] at this)
  have FK := hide (fun w' (hk : Base w1 bp 42 (cap * 29) w') => (unhide HF).kept o ((k2.no (oneBlk bp)).trans hk.1 fun _ _ e => e) (fun s i hs hi hz e => unhide HAP s i hs hi hz (by rw [show i = bp from e]; exact (unhide HR1).sp)))
  have PK := hide (fun w' (hk : Base w1 bp 42 (cap * 29) w') => place_at b (some ⟨bp, 0, none⟩) cap first L.length L.length hlo hhi (by omega) (by omega) w' (hk.1.at (unhide HR1).own (unhide HR1).ne))
  rw [← unhide HK] at PK
  go_region_held3 (fun w' => Base w1 bp 42 (cap * 29) w' ∧ w'.cell? ⟨b, 0, none⟩ = some (.slice (some ⟨bp, 0, none⟩) cap cap) ∧ w'.cell? ⟨b, 2, none⟩ = some (.int .i64 (L.length : Int)) ∧ (ldFr (.pointer (some ⟨b3, 0, none⟩))).run Try.prog w' = .ok (.agg c.toArray) w' ∧
      (∀ cs, Is29 cs → (stFr (.pointer (some ⟨bp, k * 29, none⟩)) (.agg cs)).run Try.prog w' = .ok () (w'.setCells bp (k * 29) cs.toList)))
    ((refine unhide KE _ ?_; go_split_ands; first | assumption | exact Base.drew (by assumption) | exact Base.drewN (by assumption) _ | exact Base.andNo (by assumption) (by assumption) | exact BaseP.set hkc (by assumption) (by assumption)))
    (first | (go_at_call 23; refine (unhide PK _ (by go_split_ands; first | assumption | exact Base.drew (by assumption) | exact Base.drewN (by assumption) _)).mono ?_; rintro e w' ⟨rfl, d, rfl⟩) | (go_at_call 24; refine (own_fr c f o _ (unhide FK _ (by go_split_ands; first | assumption | exact Base.drew (by assumption) | exact Base.drewN (by assumption) _))).mono ?_; rintro e wf ⟨c', rfl, hf', kf⟩; have h29 := hf'.reads.is29 o))
  have K : Chg noBlk w1 wf := ((Chg.refl noBlk w1).drewN _).andNo kf
  rw [heap_drewN] at hf'
  obtain ⟨q1, q2, q3, q4⟩ := push_store (unhide HR1) K hkc o hf'
  generalize wf.setCells bp (k * 29) c' = w4 at q1 q2 q3 q4 ⊢
  have c2 := cellAt q2 2 _ rfl
  have hcap : (L.length : Int) ≤ 64 := by omega
  have Q1 := hide q1
  have Q3 := hide q3
  have Q4 := hide q4
  have HF' := hide hf'
  clear q1 q3 q4 hf' kf h29
  go_wp2_with (first
    | (refine wpL_set rfl 3 (.tmp 29) (.tmp 27) rfl b 2 (.int .i64 ((L.length : Int) + 1)) rfl rfl rfl size_int _ _ q2 (by simp) ?_; intro w5 k5 g5 z5))
  go_ret
  refine ⟨rfl, ?_, ps.set k c', ?_⟩
  · exact ((k2.no (twoBlk b bp)).trans (unhide Q1) fun i _ e => .inr e).trans k5 fun i _ e => .inl e
  · have := push_ring (unhide HR1) hn (unhide HK) o (unhide Q1) (unhide Q3) (unhide Q4) k5 (by rw [g5]; simp)
    refine ⟨.inl (unhide HR1).sb, .inl (unhide HR1).sp, this.ne, this.own, this.rows, this.len, this.lo, this.hi, this.fst, this.full, this.ok, fun i g hg => ?_⟩
    obtain ⟨c0, e1, e2⟩ := this.fr i g hg
    refine ⟨c0, e1, e2.mono fun j _ hj => ⟨hj.1.imp id fun hj => ?_, hj.2⟩⟩
    have := k2.size
    show w.heap.size ≤ j; omega
end Go.Proofs.Ytbhjeakaedbanaa
