/-
  Chains: a contract of the document's Without.
-/
import Derived.Test.YtiapkmncgafofaaChainsRB
import Derived.Test.YtiapkmncgafofaaChainsU
namespace Go.Proofs.Ytiapkmncgafofaa
open Go.ChangeShapes Go.WideShapes Go.ChangeAt Go.RowKit
set_option linter.unusedVariables false
/-- where the document's Without stands -/
structure WSt (w0 w : World) (d : Nat) (e dr : Int) (v : Value) (M : List MT) : Prop where
  ch : ChAt w d ⟨e, M, dr⟩ v
  own : OwnL w 37 MT.cells 2 v M
  new : ∀ g, v.ownBlock = some g → w0.heap.size ≤ g
  chg : Chg noBlk w0 w
  n3 : w0.heap.size ≤ d
section
variable {w0 w w' wA wD : World} {d : Nat} {e dr : Int} {v v' : Value} {M : List MT}
theorem WSt.no (h : WSt w0 w d e dr v M) (k : Chg noBlk w w') : WSt w0 w' d e dr v M := ⟨h.ch.no k, h.own.no k, h.new, h.chg.andNo k, h.n3⟩
theorem WSt.notOwn (h : WSt w0 w d e dr v M) : ¬ v.ownBlock = some d := fun hg => by
  obtain ⟨cur, hc⟩ := h.own.block hg
  exact ne_type hc h.ch (by decide) rfl
theorem WSt.put {x : MT} (h : WSt w0 w d e dr v M) (kA : Chg noBlk w wA) (kD : Chg (fun k => v.ownBlock = some k) wA wD) (oD : wD.ownsRow 0 37 2 v' (M.length + 1) (flatC MT.cells M ++ x.cells)) (fD : v'.ownBlock = v.ownBlock ∨ v'.ownBlock = some wA.heap.size) :
    WSt w0 (wD.setCell ⟨d, 1, none⟩ v') d e dr v' (M ++ [x]) := by
  have hA := h.no kA
  have cD := kD.at hA.ch hA.notOwn
  have OD := ownL_grew (c := MT.cells) (L := M) (x := x) oD
  have kS := setCell_chg wD d 1 v'
  have hS := setCell_heap (o := 1) v' cD
  have nw : ∀ g, v'.ownBlock = some g → w0.heap.size ≤ g := fun g hg => by
    rcases fD with f | f
    · exact h.new g (f ▸ hg)
    · rw [f] at hg
      have := Option.some.inj hg
      have := h.chg.size
      have := kA.size
      omega
  refine ⟨hS, OD.kept kS fun g hg x => ?_, nw, ?_, h.n3⟩
  · obtain ⟨cur, hb⟩ := OD.block hg
    exact ne_type hb cD (by decide) x
  · have k1 : Chg noBlk w0 wD := hA.chg.trans kD fun i hi x => by have := h.new i x; omega
    exact k1.past kS h.n3
theorem WSt.turn {dr' : Int} (h : WSt w0 w d e dr v M) (k : Chg (oneBlk d) w w') (g : w'.heap[d]? = some (.cells (chC ⟨e, M, dr'⟩ v) 24 (0, 0))) : WSt w0 w' d e dr' v M :=
  ⟨g, h.own.kept k (fun g hg x => by
    obtain ⟨cur, hb⟩ := h.own.block hg
    exact ne_type hb h.ch (by decide) x), h.new, h.chg.past k h.n3, h.n3⟩
end
def keepB (n : Int) (m : MT) : Bool := decide (m.node ≠ n)
theorem filt_succ {n : Int} {L : List MT} {k : Nat} {x : MT} (hx : L[k]? = some x) : (L.take (k + 1)).filter (keepB n) = (L.take k).filter (keepB n) ++ (if keepB n x then [x] else []) := by
  have hk := (List.getElem?_eq_some_iff.1 hx).1
  rw [List.take_succ_eq_append_getElem hk, List.filter_append, (List.getElem?_eq_some_iff.1 hx).2, List.filter_cons]
  split <;> simp
section
variable {w : World} {ad : Option Addr} {cap : Nat} {c : CT}
theorem rwo_ways (c : CT) (n : Int) : ((goE c n != 0) = true ∧ woF c n = cZero) ∨ (goE c n = 0 ∧ woF c n = ⟨c.ep + 1, c.ms.filter (keepB n), if c.dr = n then -1 else c.dr⟩) := by
  unfold woF
  by_cases h : goE c n = 0
  · exact .inr ⟨h, if_pos h⟩
  · exact .inl ⟨by simp [h], if_neg h⟩
set_option maxRecDepth 100000 in
set_option maxHeartbeats 2000000 in
theorem rwo_no (h : Sl w ad cap c.ms) (n : Int) (q1 : (goE c n != 0) = true) (qf : woF c n = cZero) : Calls Try.prog 20 #[chV c (.slice ad c.ms.length cap), .int .i64 n] w (NewCE (woF c n) (goE c n) w) := by
  have C := fun w' (k : Chg noBlk w w') => leaves_any (h.no k) n
  rw [qf]
  generalize goE c n = m at *
  have HC := hide C
  clear C qf h
  go_enter Try.func20, Try.ntmps20
  go_wp2_with (first
    | (go_at_call 43; (with_reducible refine (unhide HC _ (k1.andNo k2)).mono ?_); rintro e w3 ⟨rfl, k3⟩; have g3 := k3.at g2 id)
    | ((with_reducible show wpList _ _ _ (⟨_, _, _, _, _, none⟩ :: _) _ _); first
      | (refine wpL_box rfl 24 _ rfl (chC c (.slice ad c.ms.length cap)) (by rfl) ?_; intro p w1 e1 k1 g1 z1; have G1 : ChAt w1 p c (.slice ad c.ms.length cap) := g1; clear e1 z1 g1)
      | (refine wpL_alloc rfl 24 rfl _ zero_ch ?_; intro q w2 e2 k2 g2 z2; have E2 := hide (show w1.heap.size ≤ q from Nat.le_of_eq e2); have G2 := G1.no k2; clear z2 e2 G1)
      | (refine wpL_load rfl 24 (.tmp 2) rfl p rfl (chC c (.slice ad c.ms.length cap)) _ _ G2 _ Try.underlying24 rfl info_ch ?_)
      | (refine wpL_store rfl 24 (.tmp 4) (.tmp 14) rfl q (chC cZero (.slice none 0 0)) rfl (by rfl) _ _ g3 info_ch rfl cZero_one ?_; intro w4 k4 g4 z4; have K4 := (k2.andNo k3).past k4 (unhide E2); clear z4)))
  refine bodyPost_ret (ret_ch2 rfl _ _ q cZero _ rfl g4) rfl ?_
  exact newCE_zero (k1.andNo K4)
attribute [local go_sem ↓] bsMem_pre in
set_option maxRecDepth 100000 in
set_option maxHeartbeats 2000000 in
theorem rwo_yes (h : Sl w ad cap c.ms) (n : Int) (q1 : goE c n = 0) (qf : woF c n = ⟨c.ep + 1, c.ms.filter (keepB n), if c.dr = n then -1 else c.dr⟩) : Calls Try.prog 20 #[chV c (.slice ad c.ms.length cap), .int .i64 n] w (NewCE (woF c n) (goE c n) w) := by
  have C := fun w' (k : Chg noBlk w w') => leaves_any (h.no k) n
  have q3 := nextE_of (goE_of q1).1
  have gg := good_iff.1 q3.1
  have be := q3.2
  have be1 := gg.ep1
  have bl := gg.len2
  rw [q1] at C
  rw [qf, q1]
  obtain ⟨D, hD⟩ : ∃ D, (if c.dr = n then -1 else c.dr) = D := ⟨_, rfl⟩
  rw [hD]
  have HD := hide hD
  clear hD
  have HC := hide C
  have HL := hide (fun w' (k : Chg noBlk w w') => h.no k)
  have hsum : IntKind.i64.wrap (c.ep + 1) = c.ep + 1 := IntWalk.i64_in _ (by omega)
  clear C qf h gg q3 q1
  go_enter Try.func20, Try.ntmps20
  go_wp2_with (first
    | (go_at_call 43; (with_reducible refine (unhide HC _ (k1.andNo k2)).mono ?_); rintro e w3 ⟨rfl, k3⟩; have g3 := k3.at g2 id; have G3 := G2.no k3; have x0 := G3.c0; have x2 := G3.c2)
    | ((with_reducible show wpList _ _ _ (⟨_, _, _, _, _, none⟩ :: _) _ _); first
      | (refine wpL_box rfl 24 _ rfl (chC c (.slice ad c.ms.length cap)) (by rfl) ?_; intro p w1 e1 k1 g1 z1; have G1 : ChAt w1 p c (.slice ad c.ms.length cap) := g1; clear e1 z1 g1)
      | (have tk := g3; refine wpL_alloc rfl 24 rfl _ zero_ch ?_; intro d w4 e4 k4 g4 z4)
      | (refine wpL_alloc rfl 24 rfl _ zero_ch ?_; intro q w2 e2 k2 g2 z2; have E2 := hide (show w1.heap.size ≤ q from Nat.le_of_eq e2); have G2 := G1.no k2; clear z2 e2 G1)
      | (refine wpL_load rfl 24 (.tmp 2) rfl p rfl (chC c (.slice ad c.ms.length cap)) _ _ G2 _ Try.underlying24 rfl info_ch ?_)
      | (refine wpL_store rfl 24 (.tmp 7) (.tmp 21) rfl d (chC ⟨c.ep + 1, [], c.dr⟩ (.slice none 0 0)) rfl (by rfl) _ _ g4 info_ch rfl (all_oneCell_toArray (one_chC (c := ⟨c.ep + 1, [], c.dr⟩) rfl)) ?_; intro w5 k5 g5 z5)))
  have S5 : Hid (WSt w3 w5 d (c.ep + 1) c.dr (.slice none 0 0) []) := hide ⟨g5, ownL_nil _ _ _ _, (fun g hg => by cases hg), k4.past k5 (Nat.le_of_eq e4), Nat.le_of_eq e4⟩
  have HG := hide G3
  have HQ := hide g3
  have KW := (k1.andNo k2).andNo k3
  have K23 := k2.andNo k3
  clear e4 k4 g4 z4 k5 g5 z5 x0 x2 G2 G3 g2 g3 k2 k3
  go_loopw [8] (fun i wr => ∃ (k : Nat) (v : Value), k ≤ c.ms.length ∧ i = .int .i64 (k : Int) ∧ WSt w3 wr d (c.ep + 1) c.dr v ((c.ms.take k).filter (keepB n))) (fun i wr => c.ms.length - (intOf i).toNat)
  case atStart => exact ⟨0, _, by omega, rfl, unhide S5⟩
  case round =>
    clear S5
    obtain ⟨k, v, hk, rfl, hst⟩ := hrel
    have y1 := ((unhide HG).no hst.chg).c1
    by_cases hlt : k < c.ms.length
    · obtain ⟨x, hx⟩ : ∃ x, c.ms[k]? = some x := ⟨_, List.getElem?_eq_getElem hlt⟩
      have hm1 := List.length_filter_le (keepB n) (c.ms.take k)
      have hm2 : (c.ms.take k).length ≤ c.ms.length := by rw [List.length_take]; omega
      have hml : ((c.ms.take k).filter (keepB n)).length ≤ 6 := by omega
      clear hm1 hm2
      obtain ⟨g, off, rfl, m0, m1⟩ := (unhide HL _ (KW.andNo hst.chg)).at hx
      have i1 : (0 : Int) ≤ (k : Int) := by omega
      have i2 : (k : Int) < (c.ms.length : Int) := by omega
      have HF := hide (filt_succ (n := n) hx)
      clear hx
      by_cases hn : x.node = n
      · have d1 : (x.node != n) = false := by simp [hn]
        have hkb : keepB n x = false := by simp [keepB, hn]
        have HM : Hid ((c.ms.take (k + 1)).filter (keepB n) = (c.ms.take k).filter (keepB n)) := by
          have := unhide HF
          rw [hkb] at this
          exact hide (by simpa using this)
        have HS := hide hst
        clear hst hkb hn HF
        go_wp2
        go_roundw
        case rel => exact ⟨k + 1, v, by omega, by go_num, by rw [unhide HM]; exact unhide HS⟩
        case measure => simp [intOf]; omega
      · have d1 : (x.node != n) = true := by simp [hn]
        have hkb : keepB n x = true := by simp [keepB, hn]
        have HM : Hid ((c.ms.take (k + 1)).filter (keepB n) = (c.ms.take k).filter (keepB n) ++ [x]) := by
          have := unhide HF
          rw [hkb] at this
          exact hide (by simpa using this)
        generalize (c.ms.take k).filter (keepB n) = M at *
        obtain ⟨a6, c6, rfl, _, _, _⟩ := hst.own.form MT.len
        have HS := hide hst
        have kA : Chg noBlk wr (wr.drew.alloc (.cells x.cells.toArray 37)) := ((Chg.refl noBlk wr).drew).alloc _
        have KA := hide kA
        have NQ := hide hst.notOwn
        have v1 : wr.drew.cell? ⟨d, 1, none⟩ = some (.slice a6 M.length c6) := hst.ch.c1
        have v2 : (wr.alloc (.cells #[.int .i64 x.node, .int .i64 x.since] 37)).cell? ⟨d, 1, none⟩ = some (.slice a6 M.length c6) := (hst.no ((Chg.refl noBlk wr).alloc _)).ch.c1
        have bsm := run_bsMem (#[.int .i64 x.node, .int .i64 x.since]) rfl
        have t1 : wr.drew.cell? ⟨p, 1, none⟩ = some (.slice (some ⟨g, off, none⟩) c.ms.length cap) := y1
        have t2 : wr.drew.cell? ⟨g, off + k * 2, none⟩ = some (.int .i64 x.node) := m0
        have t3 : wr.drew.cell? ⟨g, off + k * 2 + 1, none⟩ = some (.int .i64 x.since) := m1
        have b2 : M.length + 1 ≤ maxLen := by unfold maxLen; omega
        have b4 : (M.length + 1) * 16 ≤ 140737488355328 := by omega
        clear hst hkb hn HF kA
        go_wp2_with fail
        go_region_law (first
          | (refine step_append rfl (.tmp 38) (.tmp 44) 22 (by rfl) 37 (.agg mZero.cells.toArray) 2 16 Try.underlying22 infx_mem rfl (by decide) (.slice a6 M.length c6) M.length (flatC MT.cells M) (by rfl) ((unhide HS).own.no (unhide KA)) (.slice (some ⟨wr.heap.size, 0, none⟩) 1 1) 1 x.cells (by rfl) (reads_new1 (W := wr.drew) (t := 37) (Chg.refl _ _) (MT.len _) (MT.one _)) b2 b4 ?_; intro v' wD kD oD fD; obtain ⟨g9, cap9, rfl, _, _⟩ := oD.form (by omega); have S3 := hide ((unhide HS).put (unhide KA) kD oD fD); have hbD := kD.at ((unhide HS).no (unhide KA)).ch (unhide NQ); have cb := cellAt hbD 1 _ rfl; have fb := freeAt hbD 1; clear kD oD fD hbD))
        all_goals
          generalize wD.setCell ⟨d, 1, none⟩ (.slice (some ⟨g9, 0, none⟩) (M.length + 1) cap9) = wF at S3 ⊢
          clear bsm v1 v2 t1 t2 t3 cb fb y1 m0 m1
          go_wp2_with fail
          go_roundw
          case rel => exact ⟨k + 1, _, by omega, by go_num, by rw [unhide HM]; exact unhide S3⟩
          case measure => simp [intOf]; omega
    · obtain rfl : k = c.ms.length := by omega
      rw [List.take_length] at hst
      obtain ⟨a6, c6, rfl, _, _, _⟩ := hst.own.form MT.len
      have y2 := ((unhide HG).no hst.chg).c2
      have HS := hide hst
      have q9 := hst.chg.at (unhide HQ) id
      have lq := lt_of_block (unhide HQ)
      have s3 := hst.chg.size
      have n3 := hst.n3
      have l1 := KW.size
      generalize c.ms.filter (keepB n) = M at *
      clear hst
      by_cases hd : c.dr = n
      · have d1 : (c.dr == n) = true := beq_iff_eq.2 hd
        obtain rfl : D = -1 := by have := unhide HD; rw [if_pos hd] at this; exact this.symm
        clear hd
        have G := (unhide HS).ch
        go_wp2_with ((with_reducible show wpList _ _ _ (⟨_, _, _, _, _, none⟩ :: _) _ _); first
          | (refine wpL_set rfl 3 (.tmp 51) (.const (.int .i64 (-1))) rfl d 2 (.int .i64 (-1)) rfl (by rfl) rfl (by kernel_rfl) _ _ G (by simp) ?_; intro w7 k7 g7 z7; have S7 := hide ((unhide HS).turn (dr' := -1) k7 g7); have q7 := k7.at q9 (show ¬ q = d by omega))
          | (refine wpL_load rfl 24 (.tmp 7) rfl d rfl (chC ⟨c.ep + 1, M, -1⟩ (.slice a6 M.length c6)) _ _ (unhide S7).ch _ Try.underlying24 rfl info_ch ?_)
          | (refine wpL_store rfl 24 (.tmp 4) (.tmp 52) rfl q (chC ⟨c.ep + 1, M, -1⟩ (.slice a6 M.length c6)) rfl (by rfl) _ _ q7 info_ch rfl (all_oneCell_toArray (one_chC (c := ⟨c.ep + 1, M, -1⟩) rfl)) ?_; intro w8 k8 g8 z8))
        refine bodyPost_ret (ret_ch2 rfl _ _ q ⟨c.ep + 1, M, -1⟩ _ rfl g8) rfl ?_
        exact ⟨_, rfl, k1.andNo ((K23.andNo (unhide S7).chg).past k8 (unhide E2)), (unhide S7).own.kept k8 (own_not (own_far (unhide S7).new lq)), fun g hg => by have := (unhide S7).new g hg; omega⟩
      · have d1 : (c.dr == n) = false := beq_eq_false_iff_ne.2 hd
        obtain rfl : D = c.dr := by have := unhide HD; rw [if_neg hd] at this; exact this.symm
        clear hd
        go_wp2_with ((with_reducible show wpList _ _ _ (⟨_, _, _, _, _, none⟩ :: _) _ _); first
          | (refine wpL_load rfl 24 (.tmp 7) rfl d rfl (chC ⟨c.ep + 1, M, c.dr⟩ (.slice a6 M.length c6)) _ _ (unhide HS).ch _ Try.underlying24 rfl info_ch ?_)
          | (refine wpL_store rfl 24 (.tmp 4) (.tmp 52) rfl q (chC ⟨c.ep + 1, M, c.dr⟩ (.slice a6 M.length c6)) rfl (by rfl) _ _ q9 info_ch rfl (all_oneCell_toArray (one_chC (c := ⟨c.ep + 1, M, c.dr⟩) rfl)) ?_; intro w8 k8 g8 z8))
        refine bodyPost_ret (ret_ch2 rfl _ _ q ⟨c.ep + 1, M, c.dr⟩ _ rfl g8) rfl ?_
        exact ⟨_, rfl, k1.andNo ((K23.andNo (unhide HS).chg).past k8 (unhide E2)), (unhide HS).own.kept k8 (own_not (own_far (unhide HS).new lq)), fun g hg => by have := (unhide HS).new g hg; omega⟩
theorem rwithout_any (h : Sl w ad cap c.ms) (n : Int) : Calls Try.prog 20 #[chV c (.slice ad c.ms.length cap), .int .i64 n] w (NewCE (woF c n) (goE c n) w) := by
  rcases rwo_ways c n with ⟨q1, qf⟩ | ⟨q1, qf⟩
  · exact rwo_no h n q1 qf
  · exact rwo_yes h n q1 qf
end
#print axioms rwithout_any
end Go.Proofs.Ytiapkmncgafofaa
