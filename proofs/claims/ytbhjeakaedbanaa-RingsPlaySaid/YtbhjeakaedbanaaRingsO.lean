/-
  The document's ring: one pushed.
-/
import Derived.Test.YtbhjeakaedbanaaRingsN
import Derived.Test.YtbhjeakaedbanaaKitS
import Derived.Deep.RegionLaw
import Derived.Deep.DrawnRows
import Derived.Deep.DeepCutAuto
namespace Go.Proofs.Ytbhjeakaedbanaa
open Go.ChangeShapes Go.WideShapes Go.ChangeAt Go.RowKit
set_option linter.unusedVariables false
attribute [local go_sem ↓] Go.wp_at_zero Go.wp_at_succ
attribute [local go_sem ↓] ldFr_pre stFr_pre
/-- a slice of one frame: met whole -/
def bsFr (p : Array (Nat × Value)) : Sem Value := Instr.buildSlice 48 1 p
theorem bsFr_pre (p : Array (Nat × Value)) : Instr.buildSlice 48 1 p = bsFr p := rfl
attribute [local go_sem ↓] bsFr_pre
theorem run_bsFr (cs : Array Value) (h : cs.size = 29) (w : World) : (bsFr #[(0, .agg cs)]).run Try.prog w = .ok (.slice (some ⟨w.heap.size, 0, none⟩) 1 1) (w.alloc (.cells cs 42)) := by
  have hi := info_fr
  cases hq : Try.prog.info? 42 with
  | none => simp [hq] at hi
  | some i =>
    simp only [hq, Option.map_some, Option.some.injEq, Prod.mk.injEq] at hi
    obtain ⟨h1, h2, _⟩ := hi
    have h29 : zeroFr.length = 29 := rfl
    exact run_buildSlice w _ _ 1 _ cs i (.agg zeroFr.toArray) Try.underlying48 hq h1 (by rw [h2, h29]; omega) (by rw [h2, h29]; omega) (fill_one _ _ cs i.size (by simp) (by rw [h, h2, h29]) (by simp [h2]))
set_option maxRecDepth 100000 in
theorem rpush_no (T : Nat → Prop) (q : Value) (cap : Nat) (L : List Fr) (c : List Value) (hL : L.length = cap) (w : World) (h : RefQ w T q (cap : Int) L) : Calls Try.prog 18 #[q, .agg c.toArray] w (ToldB false w) := by
  obtain ⟨b, s, rows, rfl, h2, h3, h4, h5, h6, h7, h8, h9⟩ := h
  obtain ⟨a, cp, rfl⟩ : ∃ a cp, s = .slice a L.length cp := by
    rcases h5.2.2 with ⟨h, h0⟩ | ⟨g, off, cp, h, _⟩
    · exact ⟨none, 0, by rw [h, h0]⟩
    · exact ⟨_, _, h⟩
  have H3 := hide h3
  have d1 : ((L.length : Int) == (cap : Int)) = true := by simp; omega
  clear h2 h3 h4 h5 h6 h7 h8 h9 hL
  go_enter Try.func18, Try.ntmps18
  go_wp2_with (first
    | (refine wpL_box rfl 42 _ rfl c.toArray rfl ?_; intro b3 w1 e1 k1 g1 z1; have c0 := cellAt (k1.at (unhide H3) id) 0 _ rfl; have c1 := cellAt (k1.at (unhide H3) id) 1 _ rfl))
  go_quiet (fail)
  go_wp2_with fail
  go_ret
  exact ⟨rfl, k1.drewN _⟩
/-- it stands behind all others -/
def PushedQ (T : Nat → Prop) (q : Value) (cap : Int) (L : List Fr) (w : World) (e : Ending) (w' : World) : Prop :=
  e = .returned (.bool true) ∧ Chg T w w' ∧ ∃ T', Grew T w T' w' ∧ RefQ w' T' q cap L
/-- what the pushing leaves, ahead of the last store -/
structure PQ (w : World) (n : Nat) (xs : List Value) (f : Fr) (c' : List Value) (v : Value) (w' : World) : Prop where
  chg : Chg noBlk w w'
  own : w'.ownsRow 0 42 29 v (n + 1) (xs ++ c')
  new : ∀ k, v.ownBlock = some k → w.heap.size ≤ k
  fr : FrH w' (fun k => w.heap.size ≤ k) c' f
theorem reads_one {W W' : World} {c' : List Value} {t : TypeId} (k : Chg noBlk (W.alloc (.cells c'.toArray t)) W') (h : Is29 c'.toArray) : Reads W' 29 (.slice (some ⟨W.heap.size, 0, none⟩) 1 1) 1 c' := by
  refine ⟨by have := h.1; simpa using this, fun u hu => (Array.all_eq_true_iff_forall_mem.1 h.2) u (by simpa using hu), .inr ⟨_, 1, rfl, by omega, fun j u hu => ?_⟩⟩
  rw [Addr.add_mid]
  exact cellAt (k.at (heap_alloc_new W _) id) (0 + j) u (by rw [Nat.zero_add]; simpa using hu)
theorem pq_mk {w w5 wB wD : World} {n m : Nat} {xs : List Value} {f : Fr} {c' : List Value} {v1 v2 : Value} (k5 : Chg noBlk w w5) (hfr : FrH w5 (fun k => m ≤ k) c' f) (hm : w.heap.size ≤ m) (kB : Chg noBlk w5 wB) (f1 : ∀ k, v1.ownBlock = some k → w5.heap.size ≤ k)
    (kD : Chg (fun k => v1.ownBlock = some k) wB wD) (oD : wD.ownsRow 0 42 29 v2 (n + 1) (xs ++ c')) (fD : v2.ownBlock = v1.ownBlock ∨ v2.ownBlock = some wB.heap.size) :
    ∃ g cap, v2 = .slice (some ⟨g, 0, none⟩) (n + 1) cap ∧ PQ w n xs f c' v2 wD := by
  obtain ⟨g, cap, hv, _, _⟩ := oD.form (by omega)
  have s1 := k5.size
  have s2 := kB.size
  have hfr' : FrH w5 (fun k => m ≤ k ∧ k < w5.heap.size) c' f := hfr.mono fun i hi h => ⟨h, hi⟩
  refine ⟨g, cap, hv, (k5.andNo kB).trans kD fun i hi e => by have := f1 i e; omega, oD, fun k hk => ?_, ((hfr'.kept kB fun _ _ _ => id).kept kD fun i hi hs e => by have := f1 i e; omega).mono fun i _ hi => by have hi := hi.1; show w.heap.size ≤ i; omega⟩
  rcases fD with e | e <;> rw [hk] at e
  · have := f1 k e.symm; omega
  · have : k = wB.heap.size := by simpa using e
    omega
theorem pushQ_fin {T : Nat → Prop} {b : Nat} {cap : Int} {L : List Fr} {f : Fr} {s v : Value} {rows : List (List Value)} {c' : List Value} {w wD : World} (hPQ : PQ w L.length rows.flatten f c' v wD) (o : f.Ok) (h2 : T b) (h3 : w.heap[b]? = some (refC cap s)) (h4 : ∀ k, T k → k < w.heap.size)
    (h5 : Holds w (fun k => T k ∧ k ≠ b) 29 s L.length rows.flatten) (h6 : rows.length = L.length) (h7 : ∀ c ∈ rows, c.length = 29) (h8 : ∀ (i : Nat) f, L[i]? = some f → ∃ c, rows[i]? = some c ∧ FrH w (fun k => T k ∧ k ≠ b) c f) (h9 : ∀ f ∈ L, f.Ok) :
    Chg T w (wD.setCell ⟨b, 1, none⟩ v) ∧ ∃ T', Grew T w T' (wD.setCell ⟨b, 1, none⟩ v) ∧ RefQ (wD.setCell ⟨b, 1, none⟩ v) T' (.pointer (some ⟨b, 0, none⟩)) cap (L ++ [f]) := by
  have hb := h4 b h2
  have kS := setCell_chg wD b 1 v
  have hc29 := hPQ.fr.reads.len o
  have hone := hPQ.fr.reads.one o
  have sD := hPQ.chg.size
  have sS := kS.size
  refine ⟨(hPQ.chg.no T).trans kS fun i _ e => by rw [show i = b from e]; exact h2, fun k => (T k ∨ w.heap.size ≤ k) ∧ k < (wD.setCell ⟨b, 1, none⟩ v).heap.size, fun k hk => hk, b, v, rows ++ [c'], rfl, ⟨.inl h2, by omega⟩, ?_, fun k hk => hk.2, ?_, by simp [h6], ?_, ?_, ?_⟩
  · rw [setCell_heap v (hPQ.chg.at h3 id)]; rfl
  · have h1 : ∀ u ∈ rows.flatten ++ c', u.oneCell' = true := fun u hu => by
      rcases List.mem_append.1 hu with hu | hu
      · exact h5.2.1 u hu
      · exact hone u hu
    have hh := ((holds_own hPQ.own h1).kept kS fun i _ hi e => by have := hPQ.new i hi; have e : i = b := e; omega).mono (T := fun k => ((T k ∨ w.heap.size ≤ k) ∧ k < (wD.setCell ⟨b, 1, none⟩ v).heap.size) ∧ k ≠ b) fun i hi hs => ⟨⟨.inr (hPQ.new i hs), hi⟩, by have := hPQ.new i hs; omega⟩
    simpa using hh
  · intro d hd
    rcases List.mem_append.1 hd with hd | hd
    · exact h7 d hd
    · rw [List.mem_singleton.1 hd]; exact hc29
  · intro i g hg
    by_cases hi : i < L.length
    · rw [List.getElem?_append_left hi] at hg
      obtain ⟨d, e1, e2⟩ := h8 i g hg
      exact ⟨d, by rw [List.getElem?_append_left (by omega)]; exact e1, ((e2.kept hPQ.chg fun _ _ _ => id).kept kS fun j _ hj e => hj.2 e).mono fun j hj hs => ⟨⟨.inl hs.1, hj⟩, hs.2⟩⟩
    · have hi2 : i = L.length := by
        have := (List.getElem?_eq_some_iff.1 hg).1; simp at this; omega
      subst hi2
      simp at hg
      subst hg
      refine ⟨c', by rw [← h6]; simp, (hPQ.fr.kept kS fun j _ hj e => by have hj : w.heap.size ≤ j := hj; have e : j = b := e; omega).mono fun j hj hs => ⟨⟨.inr hs, hj⟩, by have hs : w.heap.size ≤ j := hs; omega⟩⟩
  · intro g hg
    rcases List.mem_append.1 hg with hg | hg
    · exact h9 g hg
    · rw [List.mem_singleton.1 hg]; exact o
set_option maxRecDepth 100000 in
set_option maxHeartbeats 4000000 in
theorem rpush_yes (T : Nat → Prop) (q : Value) (cap : Nat) (L : List Fr) (f : Fr) (o : f.Ok) (c : List Value) (hL : L.length < cap) (hcap : cap ≤ 64) (w : World) (h : RefQ w T q (cap : Int) L) (hf : FrR w c f) :
    Calls Try.prog 18 #[q, .agg c.toArray] w (PushedQ T q cap (L ++ [f]) w) := by
  have hl29 := hf.len o
  have hone := hf.one o
  obtain ⟨s0, hc0, hs1, hrd⟩ := hf
  have hc24 : c.toArray[24]? = some s0 := by rw [hc0]; simp [o.len]
  have hcs : ∀ s', c.set 24 s' = f.c.set 24 s' := fun s' => by rw [hc0, List.set_set]
  obtain ⟨b, s, rows, rfl, h2, h3, h4, h5, h6, h7, h8, h9⟩ := h
  obtain ⟨a, cp, rfl⟩ : ∃ a cp, s = .slice a L.length cp := by
    rcases h5.2.2 with ⟨h, h0⟩ | ⟨g, off, cp, h, _⟩
    · exact ⟨none, 0, by rw [h, h0]⟩
    · exact ⟨_, _, h⟩
  have hb := lt_of_block h3
  have hset : ∀ s', (c.toArray.setIfInBounds 24 s') = (c.set 24 s').toArray := fun s' => by simp
  have H3 := hide h3
  have H4 := hide h4
  have H5 := hide h5
  have H6 := hide h6
  have H7 := hide h7
  have H8 := hide h8
  have H9 := hide h9
  have HC := hide hcs
  have HS := hide hset
  have HC24 := hide hc24
  have HRD := hide hrd
  have HO := hide hone
  have HTb := hide h2
  have d1 : ((L.length : Int) == (cap : Int)) = false := by simp; omega
  clear h2 h3 h4 h5 h6 h7 h8 h9 hcs hset hc24 hrd hc0 hone
  go_enter Try.func18, Try.ntmps18
  go_wp2_with (first
    | (refine wpL_box rfl 42 _ rfl c.toArray rfl ?_; intro b3 w1 e1 k1 g1 z1; have c0 := cellAt (k1.at (unhide H3) id) 0 _ rfl; have c1 := cellAt (k1.at (unhide H3) id) 1 _ rfl))
  go_quiet (fail)
  have k2 : Chg noBlk w (w1.drewN nq) := k1.drewN nq
  have g2 : (w1.drewN nq).heap[b3]? = some (.cells c.toArray 42 (0, 0)) := g1
  have z2 : (w1.drewN nq).heap.size = b3 + 1 := z1
  clear c0 c1 k1 g1 z1
  generalize w1.drewN nq = w2 at k2 g2 z2 ⊢
  go_upto_region 4 with (first
    | (refine wpL_get rfl 38 (.tmp 16) rfl b3 24 rfl _ _ _ g2 _ Try.underlying38 rfl s0 (unhide HC24) ?_)
    | (refine wpL_clone rfl (.tmp 17) 38 rfl 54 _ 2 16 Try.underlying38 info_mb rfl (by decide) s0 f.n f.xs rfl ((unhide HRD).kept k2 fun _ _ _ => id) (by have := o.few; unfold maxLen; omega) (by have := o.few; omega) ?_; intro s' w4 k4 o4 f4 v4; replace g2 := k4.at g2 id)
    | (refine wpL_set rfl 38 (.tmp 20) (.tmp 18) rfl b3 24 s' rfl rfl v4 size_sl _ _ g2 (by simp [hl29]) ?_; intro w5 k5 g5 z5))
  rw [unhide HS] at g5
  have hb3 : b ≠ b3 := by omega
  have K5 : Chg noBlk w w5 := (k2.andNo k4).trans k5 fun i hi e => by have e : i = b3 := e; omega
  have z45 := k4.size
  have hs5 : b3 < w5.heap.size := by omega
  have hFR : FrH w5 (fun k => w2.heap.size ≤ k) (c.set 24 s') f := ⟨s', unhide HC s', v4, ((holds_own o4 (unhide HRD).2.1).mono fun i _ hi => by have := f4 i hi; show w2.heap.size ≤ i; omega).kept k5 fun i hi h1 e => by have e : i = b3 := e; have h1 : w2.heap.size ≤ i := h1; omega⟩
  have h29 := hFR.reads.is29 o
  have HFR := hide hFR
  have K5' := hide K5
  have w2s : w.heap.size ≤ w2.heap.size := k2.size
  clear hFR K5 k5 k4 o4 f4 k2 g2 z2 z45 z5 e1
  obtain ⟨c', hc'⟩ : ∃ c', c' = c.set 24 s' := ⟨_, rfl⟩
  rw [← hc'] at HFR h29 g5
  clear hc'
  have G5 := hide g5
  clear g5
  have hbd := (unhide K5').at (unhide H3) id
  have c1 : w5.drew.cell? ⟨b, 1, none⟩ = some (.slice a L.length cp) := cellAt (show w5.drew.heap[b]? = _ from hbd) 1 _ rfl
  have la : (ldFr (.pointer (some ⟨b3, 0, none⟩))).run Try.prog w5.drew = .ok (.agg c'.toArray) w5.drew := run_ldFr (fun j v hv => cellAt (show w5.drew.heap[b3]? = _ from unhide G5) (0 + j) v (by rw [Nat.zero_add]; simpa using hv)) (by simpa using h29.1)
  have bs := run_bsFr c'.toArray h29.1
  have c1b : (w5.alloc (.cells c'.toArray 42)).cell? ⟨b, 1, none⟩ = some (.slice a L.length cp) := cellAt (((Chg.refl noBlk w5).alloc _).at hbd id) 1 _ rfl
  have HBD := hide hbd
  clear hbd
  have RD : Reads w5.drew 29 (.slice a L.length cp) L.length rows.flatten := ((unhide H5).kept (Chg.drew (unhide K5')) fun _ _ _ => id).reads
  have HRD5 := hide RD
  clear RD
  have hcapL : L.length ≤ 64 := by omega
  have B1 := hide (fun wC (kC : Chg noBlk w5.drew wC) => (show Chg noBlk w5 (wC.alloc (.cells c'.toArray 42)) from (((Chg.refl noBlk w5).drew).andNo kC).alloc _))
  have B2 := hide (fun wC (kC : Chg noBlk (w5.drew.alloc (.cells c'.toArray 42)) wC) => (show Chg noBlk w5 wC from (((Chg.refl noBlk w5).drew).alloc _).andNo kC))
  have F1 := hide (fun (v1 : Value) (fC : ∀ k, v1.ownBlock = some k → k = w5.drew.heap.size) => (show ∀ k, v1.ownBlock = some k → w5.heap.size ≤ k from fun k hk => Nat.le_of_eq (fC k hk).symm))
  have F2 := hide (fun (v1 : Value) (fC : ∀ k, v1.ownBlock = some k → k = (w5.drew.alloc (.cells c'.toArray 42)).heap.size) => (show ∀ k, v1.ownBlock = some k → w5.heap.size ≤ k from fun k hk => by rw [fC k hk]; show w5.heap.size ≤ (w5.heap.push _).size; simp))
  have LA := hide (fun wC (kC : Chg noBlk w5.drew wC) => (show (ldFr (.pointer (some ⟨b3, 0, none⟩))).run Try.prog wC = .ok (.agg c'.toArray) wC from run_ldFr (fun j v hv => cellAt (kC.at (show w5.drew.heap[b3]? = _ from unhide G5) id) (0 + j) v (by rw [Nat.zero_add]; simpa using hv)) (by simpa using h29.1)))
  have RA := hide (fun (W : World) (kC : Chg noBlk w5.drew W) => (unhide HRD5).kept kC (fun _ _ _ => id))
  have m1 : L.length ≤ maxLen := by unfold maxLen; omega
  have m2 : L.length + 1 ≤ maxLen := by unfold maxLen; omega
  have m3 : L.length * 288 ≤ 140737488355328 := by omega
  have m4 : (L.length + 1) * 288 ≤ 140737488355328 := by omega
  go_region_law (first
    | (refine step_clone rfl (.tmp 25) 48 (by rfl) 42 (.agg zeroFr.toArray) 29 288 Try.underlying48 info_fr rfl (by decide) (.slice a L.length cp) L.length rows.flatten (by rfl) (unhide HRD5) m1 m3 ?_; intro v1 wC kC oC fC vC; have laC := unhide LA wC kC)
    | (refine step_clone rfl (.tmp 25) 48 (by rfl) 42 (.agg zeroFr.toArray) 29 288 Try.underlying48 info_fr rfl (by decide) (.slice a L.length cp) L.length rows.flatten (by rfl) (unhide RA _ ((Chg.refl noBlk _).alloc _)) m1 m3 ?_; intro v1 wC kC oC fC vC)
    | (refine step_append rfl (.tmp 26) (.tmp 28) 48 (by rfl) 42 (.agg zeroFr.toArray) 29 288 Try.underlying48 info_fr rfl (by decide) v1 L.length rows.flatten (by rfl) (oC.alloc _) (.slice (some ⟨wC.heap.size, 0, none⟩) 1 1) 1 c' (by rfl) (reads_one (Chg.refl _ _) h29) m2 m4 ?_; intro v2 wD kD oD fD; obtain ⟨g9, cap9, rfl, PQ⟩ := pq_mk (unhide K5') (unhide HFR) w2s (unhide B1 _ kC) (unhide F1 _ fC) kD oD fD; have hbD := PQ.chg.at (unhide H3) id; have cb := cellAt hbD 1 _ rfl; have fb := freeAt hbD 1; have HPQ := hide PQ; clear kD oD fD PQ hbD)
    | (refine step_append rfl (.tmp 26) (.tmp 28) 48 (by rfl) 42 (.agg zeroFr.toArray) 29 288 Try.underlying48 info_fr rfl (by decide) v1 L.length rows.flatten (by rfl) oC (.slice (some ⟨w5.heap.size, 0, none⟩) 1 1) 1 c' (by rfl) (reads_one (W := w5.drew) kC h29) m2 m4 ?_; intro v2 wD kD oD fD; obtain ⟨g9, cap9, rfl, PQ⟩ := pq_mk (unhide K5') (unhide HFR) w2s (unhide B2 _ kC) (unhide F2 _ fC) kD oD fD; have hbD := PQ.chg.at (unhide H3) id; have cb := cellAt hbD 1 _ rfl; have fb := freeAt hbD 1; have HPQ := hide PQ; clear kD oD fD PQ hbD))
  all_goals
    clear c1 c1b la bs
    go_wp2_with fail
    go_ret
    exact ⟨rfl, pushQ_fin (unhide HPQ) o (unhide HTb) (unhide H3) (unhide H4) (unhide H5) (unhide H6) (unhide H7) (unhide H8) (unhide H9)⟩
end Go.Proofs.Ytbhjeakaedbanaa
