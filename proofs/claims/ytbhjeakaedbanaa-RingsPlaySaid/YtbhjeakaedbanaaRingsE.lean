/-
  Contracts of rings: one popped; a ring made.
-/
import Derived.Test.YtbhjeakaedbanaaRingsD
import Derived.IntWalk
namespace Go.Proofs.Ytbhjeakaedbanaa
open Go.ChangeShapes Go.WideShapes Go.ChangeAt Go.RowKit
set_option linter.unusedVariables false
attribute [local go_sem ↓] Go.wp_at_zero Go.wp_at_succ
attribute [local go_sem ↓] ldFr_pre stFr_pre
set_option maxRecDepth 100000 in
theorem pop_no (p : Value) (w : World) (h : ∀ w', Chg noBlk w w' → Calls Try.prog 12 #[p] w' (ToldN w')) : Calls Try.prog 10 #[p] w (ToldN w) := by
  have H := hide h
  clear h
  go_enter Try.func10, Try.ntmps10
  go_wp2_with (first
    | (refine wpL_alloc rfl 42 rfl _ zero_fr ?_; intro b2 w1 e2 k2 g2 z2)
    | (go_at_call 12; refine (unhide H _ k2).mono ?_; rintro e w2 ⟨rfl, kf⟩)
    | (refine wpL_store rfl 42 (.tmp 2) (.tmp 7) rfl b2 zeroFr.toArray rfl rfl _ _ (kf.at g2 id) (by rw [size_fr]; rfl) rfl zero_one ?_; intro w5 k5 g5 z5)
    | (refine wpL_load rfl 42 (.tmp 2) rfl b2 rfl _ _ _ g5 _ Try.underlying42 rfl (by rw [size_fr]; rfl) ?_)
    | (refine wpL_store rfl 42 (.tmp 2) (.tmp 11) rfl b2 zeroFr.toArray rfl rfl _ _ g5 (by rw [size_fr]; rfl) rfl zero_one ?_; intro w6 k6 g6 z6))
  refine bodyPost_ret (results_row_tmp rfl _ _ b2 _ _ (0, 0) _ rfl g6 Try.underlying42 rfl (by rw [size_fr]; rfl)) rfl ?_
  exact ⟨rfl, ((k2.andNo kf).trans k5 fun i hi e => by have e : i = b2 := e; omega).trans k6 fun i hi e => by have e : i = b2 := e; omega⟩
/-- the first frame is told, and is in the ring no more -/
def Popped (S : Nat → Prop) (b bp cap : Nat) (L : List Fr) (f : Fr) (w : World) (e : Ending) (w' : World) : Prop :=
  ∃ c, e = .returned (.tuple #[.agg c.toArray, .bool true]) ∧ FrH w' (fun k => w.heap.size ≤ k) c f ∧ Chg (twoBlk b bp) w w' ∧ ∃ first' ps', RingAt w' S b bp first' cap ps' L
theorem pop_keep {w1 w' : World} {S : Nat → Prop} {b bp cap first : Nat} {ps : List (List Value)} {L : List Fr} (hk : Base w1 bp 42 (cap * 29) w') (h : RingAt w1 S b bp first cap ps L) :
    Base w1 bp 42 (cap * 29) w' ∧ w'.cell? ⟨b, 0, none⟩ = some (.slice (some ⟨bp, 0, none⟩) cap cap) ∧ w'.cell? ⟨b, 1, none⟩ = some (.int .i64 (first : Int)) := by
  have ho := hk.1.at h.own h.ne
  exact ⟨hk, cellAt ho 0 _ rfl, cellAt ho 1 _ rfl⟩
theorem zero_all : ∀ v ∈ zeroFr, v.oneCell' = true := by simp [zeroFr, Value.oneCell']
set_option maxRecDepth 100000 in
set_option maxHeartbeats 1000000 in
theorem pop_yes (S : Nat → Prop) (b bp first cap : Nat) (ps : List (List Value)) (L : List Fr) (f : Fr) (w : World) (h : RingAt w S b bp first cap ps (f :: L)) (hS : ∀ i, S i → i < w.heap.size) :
    Calls Try.prog 10 #[.pointer (some ⟨b, 0, none⟩)] w (Popped S b bp cap L f w) := by
  have o : f.Ok := h.ok f (by simp)
  have hb0 := lt_of_block h.own
  have hb1 := h.rows.lt
  have hlo := h.lo
  have hhi := h.hi
  have hfst := h.fst
  have hful := h.full
  have p1 : (0 : Int) ≤ (first : Int) := by omega
  have p2 : (first : Int) < (cap : Int) := by omega
  have p3 : (first : Int) ≤ (cap : Int) := by omega
  have p4 : (first : Int) + 1 ≤ (cap : Int) := by omega
  have p5 : (first : Int) ≤ (first : Int) + 1 := by omega
  have HR := hide h
  clear h
  have FR := hide (fun w' (hk : Chg noBlk w w') => front_yes (.pointer (some ⟨b, 0, none⟩)) f o w' fun w'' hk2 => ring_at (((unhide HR).keptNo hk).keptNo hk2) 0 f (by simp))
  go_enter Try.func10, Try.ntmps10
  go_wp2_with (first
    | (refine wpL_alloc rfl 42 rfl _ zero_fr ?_; intro b2 w1 e2 k2 g2 z2)
    | (go_at_call 12; refine (unhide FR _ k2).mono ?_; rintro e w2 ⟨c, rfl, hf, kf⟩)
    | (refine wpL_store rfl 42 (.tmp 2) (.tmp 7) rfl b2 c.toArray rfl rfl _ _ (kf.at g2 id) (by rw [size_fr, (hf.reads.is29 o).1]) (by rw [(hf.reads.is29 o).1]; rfl) (hf.reads.is29 o).2 ?_; intro w3 k5 g5 z5))
  have hx := hf.reads.is29 o
  have K3 : Chg noBlk w w3 := (k2.andNo kf).trans k5 fun i hi e => by have e : i = b2 := e; omega
  have HR3 := hide ((unhide HR).keptNo K3)
  have KE := hide (fun w' (hk : Base w3 bp 42 (cap * 29) w') => pop_keep hk (unhide HR3))
  have B0 : Base w3 bp 42 (cap * 29) w3 := Base.mk' (by have := (unhide HR3).rows.var; rwa [(unhide HR3).len] at this)
  have HF := hide hf
  have G5 := hide g5
  clear hf g5
  have hw1 : IntKind.i64.wrap ((first : Int) + 1) = (first : Int) + 1 := IntWalk.i64_in _ (by omega)
  have hw2 : (0 : Int) ≤ (first : Int) + 1 := by omega
  have hw3 : ((first : Int) + 1).toNat = first + 1 := by omega
  have hw4 : ¬ cap = first := by omega
  have hw5 : cap - first ≠ 0 := by omega
  go_region_held3 (fun w' => Base w3 bp 42 (cap * 29) w' ∧ w'.cell? ⟨b, 0, none⟩ = some (.slice (some ⟨bp, 0, none⟩) cap cap) ∧ w'.cell? ⟨b, 1, none⟩ = some (.int .i64 (first : Int)))
    ((refine unhide KE _ ?_; go_split_ands; first | assumption | exact Base.drew (by assumption) | exact Base.drewN (by assumption) _ | exact Base.andNo (by assumption) (by assumption) | exact Base.cleared Try.prog (by assumption) hcl (by simp [zeroFr]; omega) zero_all))
    ((refine step_clear rfl (.tmp 25) 48 (by rfl) 42 zeroFr Try.underlying48 zero_fr (by decide) zero_all bp (first * 29) 1 (cap - first) (by rfl) (by decide) (by go_split_ands; exact VarAt.thereAt (Base.drew B0).2 _ _ (by simp [zeroFr]; omega)) ?_; intro wc hcl))
  clear hw1 hw2 hw3 hw4 hw5
  have HR4 := (unhide HR3).kept (Chg.refl noBlk w3).drew (fun _ _ _ => id)
  obtain ⟨q1, q2⟩ := HR4.rows.cleared Try.prog (k := first) (by rw [HR4.len]; exact hfst) (z := zeroFr) rfl zero_all hcl
  have q3 := q2.at HR4.own HR4.ne
  have q2' : Chg (oneBlk bp) w3 wc := ((Chg.refl noBlk w3).drew.no (oneBlk bp)).trans q2 fun _ _ e => e
  clear hcl q2
  have PL : Calls Try.prog 23 #[.pointer (some ⟨b, 0, none⟩), .int .i64 1] wc (NumQ ((first + 1) % cap) wc) := place_at b (some ⟨bp, 0, none⟩) cap first (f :: L).length 1 hlo hhi (by omega) (by omega) wc q3
  have PLH := hide PL
  have Q1 := hide q1
  have Q2 := hide q2'
  have Q3 := hide q3
  have HR4' := hide HR4
  have K3' := hide K3
  have hL : L.length + 1 ≤ cap := hful
  clear PL q1 q2' q3 HR4 K3
  have hp := Nat.mod_lt (first + 1) hlo
  obtain ⟨nf, hnf⟩ : ∃ nf, nf = (first + 1) % cap := ⟨_, rfl⟩
  rw [← hnf] at PLH hp
  have HN := hide hnf
  clear hnf
  have hpi : (nf : Int) < 64 := by omega
  go_wp2_with (first
    | (go_at_call 23; refine (unhide PLH).mono ?_; rintro e w' ⟨rfl, d, rfl⟩)
    | (refine wpL_set rfl 3 (.tmp 30) (.tmp 28) rfl b 1 (.int .i64 (nf : Int)) rfl rfl rfl size_int _ _ (unhide Q3) (by simp) ?_; intro w6 k6 g6 z6; have c2 := cellAt g6 2 (.int .i64 ((L.length : Int) + 1)) (by simp))
    | (refine wpL_set rfl 3 (.tmp 37) (.tmp 35) rfl b 2 (.int .i64 (L.length : Int)) rfl rfl rfl size_int _ _ g6 (by simp) ?_; intro w7 k7 g7 z7; clear c2; have g8 := k7.at (k6.at (show (wc.drewN d).heap[b2]? = _ from (unhide Q2).at (unhide G5) (by show ¬ (_ = _); omega)) (by show ¬ (_ = _); omega)) (by show ¬ (_ = _); omega))
    | (refine wpL_load rfl 42 (.tmp 2) rfl b2 rfl _ _ _ g8 _ Try.underlying42 rfl (by rw [size_fr, hx.1]) ?_)
    | (refine wpL_store rfl 42 (.tmp 2) (.tmp 38) rfl b2 c.toArray rfl rfl _ _ g8 (by rw [size_fr, hx.1]) rfl hx.2 ?_; intro w9 k9 g9 z9))
  refine bodyPost_ret (results_row_tmp rfl _ _ b2 _ _ (0, 0) _ rfl g9 Try.underlying42 rfl (by rw [size_fr, hx.1])) rfl ?_
  have K6 : Chg (twoBlk b bp) w w7 := ((((unhide K3').no (twoBlk b bp)).trans (unhide Q2) fun i _ e => .inr e).trans ((Chg.refl noBlk wc).drewN d |>.no (oneBlk b) |>.trans k6 fun _ _ e => e) fun i _ e => .inl e).trans k7 fun i _ e => .inl e
  have K67 : Chg (oneBlk b) wc w7 := ((Chg.refl noBlk wc).drewN d |>.no (oneBlk b) |>.trans k6 fun _ _ e => e).trans k7 fun _ _ e => e
  have n1 : b2 ≠ b := by omega
  have n2 : b2 ≠ bp := by omega
  have z3 := (unhide Q2).size
  refine ⟨c, rfl, ?_, K6.trans k9 (fun i hi e => by have e : i = b2 := e; omega), nf, ps.set first zeroFr, ?_⟩
  · have f1 := ((((unhide HF).kept k5 (fun i _ hi e => by have e : i = b2 := e; omega)).kept (unhide Q2) (fun i hi h e => by have e : i = bp := e; omega)).kept K67 (fun i _ hi e => by have e : i = b := e; omega)).kept k9 (fun i _ hi e => by have e : i = b2 := e; omega)
    exact f1.mono fun i _ hi => by show w.heap.size ≤ i; omega
  · have R := unhide HR4'
    refine ⟨R.sb, R.sp, R.ne, k9.at (by rw [g7]; simp) (Ne.symm n1), ((unhide Q1).kept K67 (Ne.symm R.ne)).kept k9 (Ne.symm n2), by simp [R.len], hlo, hhi, hp, by omega, fun g hg => R.ok g (by simp [hg]), fun i g hg => ?_⟩
    obtain ⟨c0, h1, h2⟩ := R.fr (i + 1) g (by simpa using hg)
    have hi := (List.getElem?_eq_some_iff.1 hg).1
    refine ⟨c0, ?_, ?_⟩
    · have e1 : (nf + i) % cap = (first + (i + 1)) % cap := by
        rw [unhide HN, Nat.mod_add_mod]; congr 1; omega
      have e2 : first ≠ (first + (i + 1)) % cap := by
        rw [place_eq hfst (by omega)]; split <;> omega
      rw [e1, List.getElem?_set_ne e2]; exact h1
    · have z1 : w3.drew.heap.size = w3.heap.size := rfl
      exact ((h2.kept (show Chg (oneBlk bp) w3.drew wc from ⟨(unhide Q2).os, (unhide Q2).tape, (unhide Q2).output, (unhide Q2).size, (unhide Q2).block⟩) (fun j _ hj e => hj.2.2 e)).kept K67 (fun j _ hj e => hj.2.1 e)).kept k9 (fun j _ hj e => by have e : j = b2 := e; have := hS j hj.1; omega)
end Go.Proofs.Ytbhjeakaedbanaa
