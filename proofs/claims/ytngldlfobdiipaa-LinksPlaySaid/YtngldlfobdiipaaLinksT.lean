/-
  Links: Pairs.
-/
import Derived.Test.YtngldlfobdiipaaLinksS
import Derived.RangeFuncBound
namespace Go.Proofs.Ytngldlfobdiipaa.Lk
open Go.ChangeShapes Go.WideShapes Go.ChangeAt Go.RowKit Go.Shelf Go.Sort
set_option linter.unusedVariables false
attribute [local go_sem] bs_size bs_app bs_cut bs_tl bs_at
/-- told: a new slice that has what came -/
def CollS (S : List (Int × Int) → Prop) (w : World) (e : Ending) (w' : World) : Prop := ∃ v ss, e = .returned v ∧ S ss ∧ OwnL w' 61 encP 2 v ss ∧ Chg noBlk w w' ∧ ∀ g, v.ownBlock = some g → w.heap.size ≤ g
theorem collect_any {S : List (Int × Int) → Prop} {N : Nat} {w : World} {g : Nat} {lb : Array Value} (eg : ∀ args w, (callFunc g args).run Try.prog w = .ok (.enter g args) w) (hN : N ≤ 1000) (hseq : SeqGives Fence.wide 2 Try.prog g lb encV S N w) :
    Calls Try.prog 38 #[.func (.func g) #[] lb] w (CollS S w) := by
  have HA := hide (callsIn_wide.1 (appendSeq_in Fence.wide 3 trivial rfl (by omega) g lb trivial eg S N hN w hseq))
  clear hseq eg
  go_enter Try.func38, Try.ntmps38
  go_wp2_with (go_at_call 43; (with_reducible refine (unhide HA).mono ?_); rintro e w1 ⟨v, ss, rfl, hS, hr, hb⟩)
  go_ret
  exact ⟨v, ss, rfl, hS, ownsRow_base_a hr (Nat.zero_le _), Chg.ofBelow hb, fun g hg => (hr.lt g hg).1⟩
theorem sorted_any {D : DataW Value} {F : Hd} {L : List ML} {m Bm : Nat} {w : World} (hBm : Bm < w.heap.size) (hm : w.cell? ⟨Bm, 0, none⟩ = some (.map (some m))) (hown : w.ownsMap Try.prog 61 hdR m (Maps.size D) D) (hs : Says D F L) (hf : L.length ≤ 1000) :
    Calls Try.prog 33 #[.func (.func 40) #[] #[.pointer (some ⟨Bm, 0, none⟩)], .func (.func 35) #[] #[]] w
      (fun e w' => ∃ v ss left, e = .returned v ∧ (∀ k, left k = false) ∧ Seen D left ss ∧ OwnL w' 61 encP 2 v (sortP ss) ∧ Chg noBlk w w' ∧ ∀ g, v.ownBlock = some g → w.heap.size ≤ g) := by
  have eg : ∀ args w, (callFunc 40 args).run Try.prog w = .ok (.enter 40 args) w := enters_of Try.func40 (by kernel_rfl) rfl
  obtain ⟨qs, q1, q2, q3⟩ := datum_pairs hown hs
  have hsz : Maps.size D ≤ 1000 := by have := pairs_few q1 q3; omega
  have HC := hide (collect_any eg hsz (keys_gives Fence.wide 2 trivial rfl (by omega) Bm m D w hBm hm hown))
  have HL := hide (fun (left : Lit → Bool) ss (hl : ∀ k, left k = false) (h : Seen D left ss) => (show ss.length ≤ 1000 from Nat.le_trans (pairs_few h.one fun p hp => (h.all hs hl (h.wf p hp).1 (h.wf p hp).2).1 hp) hf))
  have HSO := hide (fun (w : World) v ps (h : OwnL w 61 encP 2 v ps) (hn : ps.length ≤ 1000) => sort_any h hn)
  clear eg hown hm hs hf q1 q2 q3 hsz
  go_enter Try.func33, Try.ntmps33
  go_wp2_with (first
    | (go_at_call 38; (with_reducible refine (unhide HC).mono ?_); rintro e w1 ⟨v, ss, rfl, ⟨left, hl, hse⟩, o1, k1, f1⟩; have hn := unhide HL left ss hl hse)
    | (go_at_call 39; (with_reducible refine (unhide HSO _ _ _ o1 hn).mono ?_); rintro e w2 ⟨rfl, o2, k2⟩))
  go_ret
  exact ⟨v, ss, left, rfl, hl, hse, o2, k1.trans k2 fun i hi e => by have := f1 i e; omega, f1⟩
/-- which pairs have mail, rising -/
structure IsPairs (L : List ML) (ps : List (Int × Int)) : Prop where
  rise : ps.Pairwise fun x y => ltP x y = true
  wf : ∀ p ∈ ps, wfI p.1 ∧ wfI p.2
  mem : ∀ a b, wfI a → wfI b → ((a, b) ∈ ps ↔ sel L a b ≠ [])
theorem ltP_irr (x : Int × Int) : ltP x x = false := by unfold ltP; simp
theorem ltP_trans {x y z : Int × Int} (h1 : ltP x y = true) (h2 : ltP y z = true) : ltP x z = true := by unfold ltP at *; simp at *; omega
theorem rising_one : ∀ {l1 l2 : List (Int × Int)}, l1.Pairwise (fun x y => ltP x y = true) → l2.Pairwise (fun x y => ltP x y = true) → (∀ p, p ∈ l1 ↔ p ∈ l2) → l1 = l2
  | [], [], _, _, _ => rfl
  | [], b :: s, _, _, h => by have := (h b).2 (by simp); simp at this
  | a :: r, [], _, _, h => by have := (h a).1 (by simp); simp at this
  | a :: r, b :: s, h1, h2, h => by
    obtain ⟨a1, a2⟩ := List.pairwise_cons.1 h1
    obtain ⟨b1, b2⟩ := List.pairwise_cons.1 h2
    have hab : a = b := by
      rcases List.mem_cons.1 ((h a).1 (by simp)) with e | ha
      · exact e
      · rcases List.mem_cons.1 ((h b).2 (by simp)) with e | hb
        · exact e.symm
        · have := ltP_trans (a1 b hb) (b1 a ha)
          rw [ltP_irr] at this
          cases this
    subst hab
    rw [rising_one a2 b2 (fun p => ⟨fun hp => by
      rcases List.mem_cons.1 ((h p).1 (by simp [hp])) with e | hp'
      · have := a1 p hp
        rw [e, ltP_irr] at this
        cases this
      · exact hp', fun hp => by
      rcases List.mem_cons.1 ((h p).2 (by simp [hp])) with e | hp'
      · have := b1 p hp
        rw [e, ltP_irr] at this
        cases this
      · exact hp'⟩)]
theorem IsPairs.one {L : List ML} {ps qs : List (Int × Int)} (h : IsPairs L ps) (h2 : IsPairs L qs) : ps = qs :=
  rising_one h.rise h2.rise fun p => by
    constructor
    · intro hp
      have hw := h.wf p hp
      exact (h2.mem p.1 p.2 hw.1 hw.2).2 ((h.mem p.1 p.2 hw.1 hw.2).1 hp)
    · intro hp
      have hw := h2.wf p hp
      exact (h.mem p.1 p.2 hw.1 hw.2).2 ((h2.mem p.1 p.2 hw.1 hw.2).1 hp)
theorem IsPairs.few {L : List ML} {ps : List (Int × Int)} (h : IsPairs L ps) : ps.length ≤ L.length :=
  pairs_few (h.rise.imp fun {a b} hab e => by rw [e, ltP_irr] at hab; cases hab) fun p hp => (h.mem p.1 p.2 (h.wf p hp).1 (h.wf p hp).2).1 hp
theorem sortP_is {D : DataW Value} {F : Hd} {L : List ML} {left : Lit → Bool} {ss : List (Int × Int)} (h : Seen D left ss) (hs : Says D F L) (hl : ∀ k, left k = false) : IsPairs L (sortP ss) := by
  have hp : (sortP ss).Perm ss := by unfold sortP; exact List.mergeSort_perm _ _
  have hle : ∀ x y : Int × Int, (!(ltOf cfP) y x) = true ↔ ltP y x = false := fun x y => by rw [lt_is]; simp
  have hsort : (sortP ss).Pairwise fun x y => (!(ltOf cfP) y x) = true := by
    unfold sortP
    refine List.pairwise_mergeSort (fun a b c h1 h2 => ?_) (fun a b => ?_) ss
    · rw [hle] at *
      unfold ltP at *
      simp at *
      omega
    · rw [Bool.or_eq_true, hle, hle]
      unfold ltP
      simp
      omega
  refine ⟨?_, fun p hp' => h.wf p (hp.mem_iff.1 hp'), fun a b ha hb => by rw [hp.mem_iff]; exact h.all hs hl ha hb⟩
  have hnd : (sortP ss).Nodup := hp.nodup_iff.2 h.one
  refine (hsort.and hnd).imp fun {x y} hxy => ?_
  obtain ⟨h1, h2⟩ := hxy
  rw [hle] at h1
  unfold ltP at *
  simp at *
  have : ¬ (x.1 = y.1 ∧ x.2 = y.2) := fun e => h2 (Prod.ext e.1 e.2)
  omega
end Go.Proofs.Ytngldlfobdiipaa.Lk
