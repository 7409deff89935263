/-
  Contracts of rings: a ring of frames; the first one; one pushed, one popped.
-/
import Derived.Test.YtbhjeakaedbanaaRingsB
namespace Go.Proofs.Ytbhjeakaedbanaa
open Go.ChangeShapes Go.WideShapes Go.ChangeAt Go.RowKit
set_option linter.unusedVariables false
attribute [local go_sem ↓] Go.wp_at_zero Go.wp_at_succ
attribute [local go_sem ↓] ldFr_pre stFr_pre
/-- a ring of capacity cap whose frames are L, in blocks of S -/
structure RingAt (w : World) (S : Nat → Prop) (b bp first cap : Nat) (ps : List (List Value)) (L : List Fr) : Prop where
  sb : S b
  sp : S bp
  ne : b ≠ bp
  own : w.heap[b]? = some (ringC (.slice (some ⟨bp, 0, none⟩) cap cap) first L.length)
  rows : RowsAt w bp 42 29 ps
  len : ps.length = cap
  lo : 1 ≤ cap
  hi : cap ≤ 64
  fst : first < cap
  full : L.length ≤ cap
  ok : ∀ f ∈ L, f.Ok
  fr : ∀ i f, L[i]? = some f → ∃ c, ps[(first + i) % cap]? = some c ∧ FrH w (fun k => S k ∧ k ≠ b ∧ k ≠ bp) c f
section
variable {w w' : World} {S T : Nat → Prop} {b bp first cap : Nat} {ps : List (List Value)} {L : List Fr}
theorem RingAt.kept (h : RingAt w S b bp first cap ps L) (k : Chg T w w') (hd : ∀ i, i < w.heap.size → S i → ¬ T i) : RingAt w' S b bp first cap ps L :=
  ⟨h.sb, h.sp, h.ne, k.at h.own (hd b (lt_of_block h.own) h.sb), h.rows.kept k (hd bp h.rows.lt h.sp), h.len, h.lo, h.hi, h.fst, h.full, h.ok, fun i f hf => by
    obtain ⟨c, h1, h2⟩ := h.fr i f hf
    exact ⟨c, h1, h2.kept k fun j hj hs => hd j hj hs.1⟩⟩
theorem RingAt.keptNo (h : RingAt w S b bp first cap ps L) (k : Chg noBlk w w') : RingAt w' S b bp first cap ps L := h.kept k fun _ _ _ => id
theorem ring_at (h : RingAt w S b bp first cap ps L) (i : Nat) (f : Fr) (hf : L[i]? = some f) : Calls Try.prog 14 #[.pointer (some ⟨b, 0, none⟩), .int .i64 (i : Int)] w (ToldF f w) := by
  obtain ⟨c, h1, h2⟩ := h.fr i f hf
  have hi : i < L.length := (List.getElem?_eq_some_iff.1 hf).1
  exact at_yes b bp cap first L.length i ps c f _ w h.own h.rows h.len h.lo h.hi h.fst h.full hi h1 h2 (h.ok f (List.mem_of_getElem? hf))
theorem ring_no (h : RingAt w S b bp first cap ps L) (i : Int) (hi : i < 0 ∨ (L.length : Int) ≤ i) : Calls Try.prog 14 #[.pointer (some ⟨b, 0, none⟩), .int .i64 i] w (ToldN w) :=
  at_no _ i L.length w (len_at' b _ first L.length w h.own) hi
theorem nil_no (i : Int) (w : World) : Calls Try.prog 14 #[.pointer none, .int .i64 i] w (ToldN w) :=
  at_no _ i 0 w (fun w' _ => len_nil w') (by omega)
theorem bare_no (b : Nat) (i : Int) (h : w.heap[b]? = some (ringC (.slice none 0 0) 0 0)) : Calls Try.prog 14 #[.pointer (some ⟨b, 0, none⟩), .int .i64 i] w (ToldN w) :=
  at_no _ i 0 w (len_at' b _ 0 0 w h) (by omega)
end
set_option maxRecDepth 100000 in
/-- the first one, as At tells it -/
theorem front_yes (p : Value) (f : Fr) (o : f.Ok) (w : World) (h : ∀ w', Chg noBlk w w' → Calls Try.prog 14 #[p, .int .i64 0] w' (ToldF f w')) : Calls Try.prog 12 #[p] w (ToldF f w) := by
  have H := hide h
  clear h
  go_enter Try.func12, Try.ntmps12
  go_wp2_with (first
    | (refine wpL_alloc rfl 42 rfl _ zero_fr ?_; intro b2 w1 e2 k2 g2 z2)
    | (go_at_call 14; refine (unhide H _ k2).mono ?_; rintro e w2 ⟨c, rfl, hf, kf⟩)
    | (refine wpL_store rfl 42 (.tmp 2) (.tmp 6) rfl b2 c.toArray rfl rfl _ _ (kf.at g2 id) (by rw [size_fr, (hf.reads.is29 o).1]) ((hf.reads.is29 o).1.symm) ((hf.reads.is29 o).2) ?_; intro w5 k5 g5 z5))
  refine bodyPost_ret (results_row_tmp rfl _ _ b2 _ _ (0, 0) _ rfl g5 Try.underlying42 rfl (by rw [size_fr, (hf.reads.is29 o).1])) rfl ?_
  refine ⟨c, rfl, (hf.kept k5 fun i _ hi e => ?_).mono fun i _ hi => ?_, ((k2.andNo kf).trans k5 fun i hi e => ?_)⟩
  · have e : i = b2 := e; omega
  · show w.heap.size ≤ i; omega
  · have e : i = b2 := e; omega
set_option maxRecDepth 100000 in
theorem front_no (p : Value) (w : World) (h : ∀ w', Chg noBlk w w' → Calls Try.prog 14 #[p, .int .i64 0] w' (ToldN w')) : Calls Try.prog 12 #[p] w (ToldN w) := by
  have H := hide h
  clear h
  go_enter Try.func12, Try.ntmps12
  go_wp2_with (first
    | (refine wpL_alloc rfl 42 rfl _ zero_fr ?_; intro b2 w1 e2 k2 g2 z2)
    | (go_at_call 14; refine (unhide H _ k2).mono ?_; rintro e w2 ⟨rfl, kf⟩)
    | (refine wpL_store rfl 42 (.tmp 2) (.tmp 6) rfl b2 zeroFr.toArray rfl rfl _ _ (kf.at g2 id) (by rw [size_fr]; rfl) rfl zero_one ?_; intro w5 k5 g5 z5))
  refine bodyPost_ret (results_row_tmp rfl _ _ b2 _ _ (0, 0) _ rfl g5 Try.underlying42 rfl (by rw [size_fr]; rfl)) rfl ?_
  exact ⟨rfl, (k2.andNo kf).trans k5 fun i hi e => by have e : i = b2 := e; omega⟩
/-- told: no -/
def ToldB (b : Bool) (w : World) (e : Ending) (w' : World) : Prop := e = .returned (.bool b) ∧ Chg noBlk w w'
set_option maxRecDepth 100000 in
theorem push_no (p : Value) (c : List Value) (n : Nat) (w : World) (hl : ∀ w', Chg noBlk w w' → Calls Try.prog 21 #[p] w' (fun e w'' => e = .returned (.int .i64 (n : Int)) ∧ w' = w''))
    (hc : ∀ w', Chg noBlk w w' → Calls Try.prog 22 #[p] w' (fun e w'' => e = .returned (.int .i64 (n : Int)) ∧ w' = w'')) : Calls Try.prog 17 #[p, .agg c.toArray] w (ToldB false w) := by
  have HL := hide hl
  have HC := hide hc
  clear hl hc
  go_enter Try.func17, Try.ntmps17
  go_wp2_with (first
    | (refine wpL_box rfl 42 _ rfl c.toArray rfl ?_; intro b2 w1 e2 k2 g2 z2)
    | (go_at_call 21; refine (unhide HL _ k2).mono ?_; rintro e w' ⟨rfl, rfl⟩)
    | (go_at_call 22; refine (unhide HC _ k2).mono ?_; rintro e w' ⟨rfl, rfl⟩))
  go_ret
  exact ⟨rfl, k2⟩
/-- the frame is in the ring, behind all others -/
def Pushed (S : Nat → Prop) (b bp first cap : Nat) (L : List Fr) (f : Fr) (w : World) (e : Ending) (w' : World) : Prop :=
  e = .returned (.bool true) ∧ Chg (twoBlk b bp) w w' ∧ ∃ ps', RingAt w' (fun k => S k ∨ w.heap.size ≤ k) b bp first cap ps' (L ++ [f])
/-- what a frame's pushing needs -/
theorem push_keep {w1 w' : World} {S : Nat → Prop} {b bp b3 cap first : Nat} {ps : List (List Value)} {L : List Fr} {c : List Value} {k : Nat} (hk : Base w1 bp 42 (cap * 29) w') (h : RingAt w1 S b bp first cap ps L) (h3 : w1.heap[b3]? = some (.cells c.toArray 42 (0, 0))) (hc : c.length = 29)
    (n3 : b3 ≠ bp) (hkc : k < cap) : Base w1 bp 42 (cap * 29) w' ∧ w'.cell? ⟨b, 0, none⟩ = some (.slice (some ⟨bp, 0, none⟩) cap cap) ∧ w'.cell? ⟨b, 2, none⟩ = some (.int .i64 (L.length : Int)) ∧ (ldFr (.pointer (some ⟨b3, 0, none⟩))).run Try.prog w' = .ok (.agg c.toArray) w' ∧
      (∀ cs, Is29 cs → (stFr (.pointer (some ⟨bp, k * 29, none⟩)) (.agg cs)).run Try.prog w' = .ok () (w'.setCells bp (k * 29) cs.toList)) := by
  have ho := hk.1.at h.own h.ne
  have h3' := hk.1.at h3 n3
  have hle : k * 29 + 29 ≤ cap * 29 := by omega
  exact ⟨hk, cellAt ho 0 _ rfl, cellAt ho 2 _ rfl, run_ldFr (fun j v hv => cellAt h3' (0 + j) v (by rw [Nat.zero_add]; simpa using hv)) hc, fun cs hcs => run_stFr (hk.2.thereAt _ _ hle) hcs⟩
theorem BaseP.set {w1 w : World} {bp cap k : Nat} (hk : k < cap) (h : Base w1 bp 42 (cap * 29) w) {cs : Array Value} (hcs : Is29 cs) : Base w1 bp 42 (cap * 29) (w.setCells bp (k * 29) cs.toList) :=
  h.setAt Try.prog _ (by rw [Array.length_toList, hcs.1]; omega) (fun v hv => (Array.all_eq_true_iff_forall_mem.1 hcs.2) v (by simpa using hv))
end Go.Proofs.Ytbhjeakaedbanaa
