/-
  Chains: the document's Get, where there are numbers enough.
-/
import Derived.Test.YtfplgmkbhpdmjaaChainsRX
namespace Go.Proofs.Ytfplgmkbhpdmjaa.Ch
open Go.ChangeShapes Go.WideShapes Go.ChangeAt Go.RowKit
set_option linter.unusedVariables false
attribute [local go_sem] bs_size bs_app bs_cut bs_tl bs_at
theorem numbers_five {s : List UInt8} (hs : s.length ≤ 1000) {L : List Int} (h : Nums s L) (h0 : 0 < L.length) (w : World) : Calls Try.prog 38 #[str s] w (fun e w3 => ∃ g cap, e = .returned (.slice (some ⟨g, 0, none⟩) L.length cap) ∧ Chg noBlk w w3 ∧ ∀ w', Chg noBlk w3 w' → ∀ (j : Nat) t, L[j]? = some t → w'.cell? ⟨g, j, none⟩ = some (.int .i64 t)) := by
  refine (numbers_yes hs h w).mono ?_
  rintro e w3 ⟨ad, cap, rfl, n3⟩
  obtain ⟨ad', cap', e, _, cells⟩ := n3.form
  cases e
  obtain ⟨g, rfl, _⟩ := cells 0 _ (List.getElem?_eq_getElem h0)
  refine ⟨g, cap, rfl, n3.chg, fun w' k j t hj => ?_⟩
  obtain ⟨ad'', cap'', e, _, cells2⟩ := (n3.no k).form
  cases e
  obtain ⟨g', e, hc⟩ := cells2 j t hj
  cases e
  exact hc
/-- the chain that is put again: told bytes, and how it ends -/
theorem rget_ways {s : List UInt8} {L : List Int} (h : Nums s L) (h5 : ¬ L.length < 5) (h2 : L.length % 2 = 1) : ∃ (B : List UInt8) (m : Int), (∀ (w : World) (ad : Option Addr) (cap : Nat), OwnL w 61 MT.cells 2 (.slice ad (chOf L).ms.length cap) (chOf L).ms → Calls Try.prog 39 #[chV (chOf L) (.slice ad (chOf L).ms.length cap)] w (ToldN (.tuple #[str B, .int .i64 m]) w)) ∧ (((m != 0) = true ∧ GotOf s cZero 10) ∨ (m = 0 ∧ ((B == s) = false ∧ (B != s) = true ∧ ¬ B = s) ∧ GotOf s cZero 10) ∨ (m = 0 ∧ B = s ∧ GotOf s (chOf L) 0)) := by
  generalize hc : chOf L = c
  refine ⟨putB c, chk c, fun w ad cap ho => ?_, ?_⟩
  · by_cases h6 : c.ms.length ≤ 6
    · exact rput_any (sl_own' ho (by omega))
    · have hb : good c = false := by
        by_cases g : good c = true
        · exact absurd (good_iff.1 g).len2 h6
        · simpa using g
      rw [putB_no hb, chk_no hb]
      exact rput_big h6
  · cases g : good c
    · rw [chk_no g]
      exact .inl ⟨by decide, got_else h (.inr (.inr (.inl (by rw [hc]; exact g))))⟩
    · rw [chk_yes g, putB_yes g]
      by_cases hp : putL c = s
      · exact .inr (.inr ⟨rfl, hp, by have := got_nums h h5 h2 (by rw [hc]; exact g) (by rw [hc]; exact hp); rwa [hc] at this⟩)
      · exact .inr (.inl ⟨rfl, ⟨beq_eq_false_iff_ne.2 hp, bne_iff_ne.2 hp, hp⟩, got_else h (.inr (.inr (.inr (by rw [hc]; exact hp))))⟩)
/-- where the pairs stand -/
theorem pairs_at {L : List Int} {k : Nat} {x : MT} (hx : (pairs (L.drop 2))[k]? = some x) : L[2 + 2 * k]? = some x.node ∧ L[2 + 2 * k + 1]? = some x.since := by
  have hk := (List.getElem?_eq_some_iff.1 hx).1
  rw [pairs_length] at hk
  have l1 : 2 * k < (L.drop 2).length := by omega
  have l2 : 2 * k + 1 < (L.drop 2).length := by omega
  obtain ⟨a, ha⟩ : ∃ a, (L.drop 2)[2 * k]? = some a := ⟨_, List.getElem?_eq_getElem l1⟩
  obtain ⟨b, hb⟩ : ∃ b, (L.drop 2)[2 * k + 1]? = some b := ⟨_, List.getElem?_eq_getElem l2⟩
  have e := pairs_get _ k a b ha hb
  rw [hx] at e
  cases e
  rw [List.getElem?_drop] at ha hb
  exact ⟨ha, hb⟩
attribute [local go_sem ↓] stCh_pre bsMem_pre in
set_option maxRecDepth 100000 in
set_option maxHeartbeats 4000000 in
theorem rget_long (s : List UInt8) (hs : s.length ≤ 1000) (L : List Int) (h : Nums s L) (a z : Int) (M : List MT) (B : List UInt8) (m : Int) (h0 : L[0]? = some a) (hz : L[L.length - 1]? = some z) (hM : ∀ k x, M[k]? = some x → L[2 + 2 * k]? = some x.node ∧ L[2 + 2 * k + 1]? = some x.since) (hl : L.length = 2 * M.length + 3) (hn : decide ((L.length : Int) < 5) = false) (h2 : ((L.length : Int) % 2 == 0) = false)
    (HB : ∀ (w : World) (ad : Option Addr) (cap : Nat), OwnL w 61 MT.cells 2 (.slice ad M.length cap) M → Calls Try.prog 39 #[chV ⟨a, M, z⟩ (.slice ad M.length cap)] w (ToldN (.tuple #[str B, .int .i64 m]) w))
    (HW : ((m != 0) = true ∧ GotOf s cZero 10) ∨ (m = 0 ∧ ((B == s) = false ∧ (B != s) = true ∧ ¬ B = s) ∧ GotOf s cZero 10) ∨ (m = 0 ∧ B = s ∧ GotOf s ⟨a, M, z⟩ 0)) (w : World) : Calls Try.prog 22 #[str s] w (Got s w) := by
  have hl2 : L.length ≤ 1000 := Nat.le_trans (nums_len h) hs
  have h5 : 5 ≤ L.length := by have := of_decide_eq_false hn; omega
  have HN := hide (fun w' => numbers_five hs h (by omega) w')
  have HA := hide h0
  have HZ := hide hz
  have HHB := hide HB
  have HHW := hide HW
  have HP := hide hM
  have hi : IntKind.i64.wrap ((L.length : Int) - 1) = (L.length : Int) - 1 := IntWalk.i64_in _ (by omega)
  have i1 : (0 : Int) < (L.length : Int) := by omega
  have i2 : (0 : Int) ≤ (L.length : Int) - 1 := by omega
  have i3 : (L.length : Int) - 1 < (L.length : Int) := by omega
  have i4 : 0 < L.length := by omega
  have i5 : (1 : Int) ≤ (L.length : Int) := by omega
  have ta : True := True.intro
  have HL := hide hl
  clear h h0 hz HB HW hM hs hl
  go_enter Try.func22, Try.ntmps22
  go_wp2_with (first
    | (go_at_call 38; (with_reducible refine (unhide HN _).mono ?_); rintro e w3 ⟨g, cap, rfl, k3, c3⟩; have g3 := hide (k3.at g2 id); have C3 := hide c3; clear c3)
    | ((with_reducible show wpList _ _ _ (⟨_, _, _, _, _, none⟩ :: _) _ _); first
      | (refine wpL_alloc rfl 31 rfl _ zero_ch ?_; intro q w2 e2 k2 g2 z2; have E2 := hide (show w.heap.size ≤ q from Nat.le_of_eq e2); clear e2 z2)))
  have c0 := unhide C3 _ (Chg.refl noBlk w3).drew 0 _ (unhide HA)
  have c1 := unhide C3 _ (Chg.refl noBlk w3).drew _ _ (unhide HZ)
  have kA : Chg noBlk w3 (w3.alloc (.cells #[.int .i64 0, .slice none 0 0, .int .i64 0] 31)).drew := ((Chg.refl noBlk w3).alloc _).drew
  have c4 := unhide C3 _ kA 0 _ (unhide HA)
  have c5 := unhide C3 _ kA _ _ (unhide HZ)
  have hA : (w3.alloc (.cells #[.int .i64 0, .slice none 0 0, .int .i64 0] 31)).drew.heap[w3.heap.size]? = some (.cells #[.int .i64 0, .slice none 0 0, .int .i64 0] 31 (0, 0)) := heap_alloc_new w3 _
  have ST := run_stCh (c := ⟨a, [], z⟩) (v := .slice none 0 0) hA rfl rfl
  have PC := put_ch (c := ⟨a, [], z⟩) (v := .slice none 0 0) hA rfl rfl
  have S5 : Hid (WSt w3 ((w3.alloc (.cells #[.int .i64 0, .slice none 0 0, .int .i64 0] 31)).drew.setCells w3.heap.size 0 [.int .i64 a, .slice none 0 0, .int .i64 z]) w3.heap.size a z (.slice none 0 0) []) := hide ⟨PC.1, ownL_nil _ _ _ _, (fun g hg => by cases hg), kA.past PC.2 (Nat.le_refl _), Nat.le_refl _⟩
  clear hA kA PC g2
  go_region_law fail
  all_goals
    clear c0 c1 c4 c5 ST
    generalize ((w3.alloc (.cells #[.int .i64 0, .slice none 0 0, .int .i64 0] 31)).drew.setCells w3.heap.size 0 [.int .i64 a, .slice none 0 0, .int .i64 z]) = w5 at S5 ⊢
    have L3 := lt_of_block (unhide g3)
    generalize hd : w3.heap.size = d at S5 ⊢
    clear hd
    go_wp2_with fail
    go_loopw [7] (fun i wr => ∃ (j k : Nat) (v : Value), j = 2 + 2 * k ∧ k ≤ M.length ∧ i = .int .i64 (j : Int) ∧ WSt w3 wr d a z v (M.take k)) (fun i wr => L.length - (intOf i).toNat)
    case atStart => exact ⟨2, 0, _, rfl, by omega, rfl, unhide S5⟩
    case round =>
      clear S5
      obtain ⟨j, k, v, hj, hk, rfl, hst⟩ := hrel
      have hl := unhide HL
      have hw1 : IntKind.i64.wrap ((j : Int) + 1) = (j : Int) + 1 := IntWalk.i64_in _ (by omega)
      have hw2 : IntKind.i64.wrap ((j : Int) + 2) = (j : Int) + 2 := IntWalk.i64_in _ (by omega)
      by_cases hlt : k < M.length
      · obtain ⟨x, hx⟩ : ∃ x, M[k]? = some x := ⟨_, List.getElem?_eq_getElem hlt⟩
        obtain ⟨x0, x1⟩ := unhide HP k x hx
        rw [← hj] at x0 x1
        have j0 : decide ((j : Int) + 1 < (L.length : Int)) = true := decide_eq_true (by omega)
        have j1 : j < L.length := by omega
        have j2 : j + 1 < L.length := by omega
        have j3 : (j : Int) < (L.length : Int) := by omega
        have j4 : (j : Int) + 1 < (L.length : Int) := by omega
        have j5 : (0 : Int) ≤ (j : Int) + 1 := by omega
        have HM : Hid (M.take (k + 1) = M.take k ++ [x]) := by
          have hk := (List.getElem?_eq_some_iff.1 hx).1
          exact hide (by rw [List.take_succ_eq_append_getElem hk, (List.getElem?_eq_some_iff.1 hx).2])
        have hN : (M.take k).length = k := by rw [List.length_take]; omega
        generalize M.take k = N at *
        obtain ⟨a6, c6, rfl, _, _, _⟩ := hst.own.form MT.len
        have HS := hide hst
        have kA : Chg noBlk wr (wr.drew.alloc (.cells x.cells.toArray 61)) := ((Chg.refl noBlk wr).drew).alloc _
        have KA := hide kA
        have NQ := hide hst.notOwn
        have v1 : wr.drew.cell? ⟨d, 1, none⟩ = some (.slice a6 N.length c6) := hst.ch.c1
        have v2 : (wr.alloc (.cells #[.int .i64 x.node, .int .i64 x.since] 61)).cell? ⟨d, 1, none⟩ = some (.slice a6 N.length c6) := (hst.no ((Chg.refl noBlk wr).alloc _)).ch.c1
        have bsm := run_bsMem (#[.int .i64 x.node, .int .i64 x.since]) rfl
        have t2 : wr.drew.cell? ⟨g, j, none⟩ = some (.int .i64 x.node) := unhide C3 _ hst.chg.drew _ _ x0
        have t3 : wr.drew.cell? ⟨g, j + 1, none⟩ = some (.int .i64 x.since) := unhide C3 _ hst.chg.drew _ _ x1
        have b2 : N.length + 1 ≤ maxLen := by unfold maxLen; omega
        have b4 : (N.length + 1) * 16 ≤ 140737488355328 := by omega
        have HJ := hide hj
        clear hst kA x0 x1 hx hl hN hj
        go_wp2_with fail
        go_region_law (first
          | (refine step_append rfl (.tmp 38) (.tmp 49) 29 (by rfl) 61 (.agg mZero.cells.toArray) 2 16 Try.underlying29 infx_mem rfl (by decide) (.slice a6 N.length c6) N.length (flatC MT.cells N) (by rfl) ((unhide HS).own.no (unhide KA)) (.slice (some ⟨wr.heap.size, 0, none⟩) 1 1) 1 x.cells (by rfl) (reads_new1 (W := wr.drew) (t := 61) (Chg.refl _ _) (MT.len _) (MT.one _)) b2 b4 ?_; intro v' wD kD oD fD; obtain ⟨g9, cap9, rfl, _, _⟩ := oD.form (by omega); have S3 := hide ((unhide HS).put (unhide KA) kD oD fD); have hbD := kD.at ((unhide HS).no (unhide KA)).ch (unhide NQ); have cb := cellAt hbD 1 _ rfl; have fb := freeAt hbD 1; clear kD oD fD hbD))
        all_goals
          generalize wD.setCell ⟨d, 1, none⟩ (.slice (some ⟨g9, 0, none⟩) (N.length + 1) cap9) = wF at S3 ⊢
          clear bsm v1 v2 t2 t3 cb fb
          go_wp2_with fail
          go_roundw
          case rel => exact ⟨j + 2, k + 1, _, by have := unhide HJ; omega, by omega, by go_num, by rw [unhide HM]; exact unhide S3⟩
          case measure => simp [intOf]; omega
      · obtain rfl : k = M.length := by omega
        rw [List.take_length] at hst
        have j0 : decide ((j : Int) + 1 < (L.length : Int)) = false := decide_eq_false (by omega)
        obtain ⟨a6, c6, rfl, _, _, _⟩ := hst.own.form MT.len
        have HS := hide hst
        have q9 := hst.chg.at (unhide g3) id
        have s3 := hst.chg.size
        have n3 := hst.n3
        have K23 := k2.andNo k3
        clear hst hl hj
        rcases unhide HHW with ⟨m1, r1⟩ | ⟨rfl, ⟨b1, b2, b3⟩, r1⟩ | ⟨rfl, rfl, r1⟩
        · have R := hide r1
          clear r1 HHW
          go_wp2_with (first
            | (go_at_call 39; (with_reducible refine (unhide HHB _ _ _ (unhide HS).own).mono ?_); rintro e w6 ⟨rfl, k6⟩; have q6 := k6.at q9 id; have X6 := (unhide HS).ch.no k6)
            | ((with_reducible show wpList _ _ _ (⟨_, _, _, _, _, none⟩ :: _) _ _); first
              | (refine wpL_load rfl 31 (.tmp 6) rfl d rfl (chC ⟨a, M, z⟩ (.slice a6 M.length c6)) _ _ (by first | exact X6 | exact (unhide HS).ch) _ Try.underlying31 rfl info_ch ?_)
              | (refine wpL_store rfl 31 (.tmp 2) (.tmp 64) rfl q (chC cZero (.slice none 0 0)) rfl (by rfl) _ _ q6 info_ch rfl cZero_one ?_; intro w8 k8 g8 z8; have K8 := ((K23.andNo (unhide HS).chg).andNo k6).past k8 (unhide E2); clear z8)))
          refine bodyPost_ret (ret_ch2 rfl _ _ q cZero _ rfl g8) rfl ?_
          exact ⟨cZero, 10, unhide R, newCE_zero K8⟩
        · have R := hide r1
          clear r1 HHW
          go_wp2_with (first
            | (go_at_call 39; (with_reducible refine (unhide HHB _ _ _ (unhide HS).own).mono ?_); rintro e w6 ⟨rfl, k6⟩; have q6 := k6.at q9 id; have X6 := (unhide HS).ch.no k6)
            | ((with_reducible show wpList _ _ _ (⟨_, _, _, _, _, none⟩ :: _) _ _); first
              | (refine wpL_load rfl 31 (.tmp 6) rfl d rfl (chC ⟨a, M, z⟩ (.slice a6 M.length c6)) _ _ (by first | exact X6 | exact (unhide HS).ch) _ Try.underlying31 rfl info_ch ?_)
              | (refine wpL_store rfl 31 (.tmp 2) (.tmp 64) rfl q (chC cZero (.slice none 0 0)) rfl (by rfl) _ _ q6 info_ch rfl cZero_one ?_; intro w8 k8 g8 z8; have K8 := ((K23.andNo (unhide HS).chg).andNo k6).past k8 (unhide E2); clear z8)))
          refine bodyPost_ret (ret_ch2 rfl _ _ q cZero _ rfl g8) rfl ?_
          exact ⟨cZero, 10, unhide R, newCE_zero K8⟩
        · have R := hide r1
          clear r1 HHW
          go_wp2_with (first
            | (go_at_call 39; (with_reducible refine (unhide HHB _ _ _ (unhide HS).own).mono ?_); rintro e w6 ⟨rfl, k6⟩; have q6 := k6.at q9 id; have X6 := (unhide HS).ch.no k6)
            | ((with_reducible show wpList _ _ _ (⟨_, _, _, _, _, none⟩ :: _) _ _); first
              | (refine wpL_load rfl 31 (.tmp 6) rfl d rfl (chC ⟨a, M, z⟩ (.slice a6 M.length c6)) _ _ (by first | exact X6 | exact (unhide HS).ch) _ Try.underlying31 rfl info_ch ?_)
              | (refine wpL_store rfl 31 (.tmp 2) (.tmp 65) rfl q (chC ⟨a, M, z⟩ (.slice a6 M.length c6)) rfl (by rfl) _ _ q6 info_ch rfl (all_oneCell_toArray (one_chC (c := ⟨a, M, z⟩) rfl)) ?_; intro w8 k8 g8 z8; have K8 := ((K23.andNo (unhide HS).chg).andNo k6).past k8 (unhide E2); clear z8)))
          refine bodyPost_ret (ret_ch2 rfl _ _ q ⟨a, M, z⟩ _ rfl g8) rfl ?_
          have l1 := K23.size
          exact ⟨⟨a, M, z⟩, 0, unhide R, _, rfl, K8, ((unhide HS).own.no k6).kept k8 (own_not (own_far (unhide HS).new L3)), fun g hg => by have := (unhide HS).new g hg; omega⟩
theorem rget_any (s : List UInt8) (hs : s.length ≤ 1000) (w : World) : Calls Try.prog 22 #[str s] w (Got s w) := by
  by_cases hN : ∃ L, Nums s L
  · obtain ⟨L, h⟩ := hN
    have N0 : ∀ w, Calls Try.prog 38 #[str s] w (fun e w' => ∃ ad cap, e = .returned (.slice ad L.length cap) ∧ Chg noBlk w w') := fun w => (numbers_yes hs h w).mono fun e w' ⟨ad, cap, e, n⟩ => ⟨ad, cap, e, n.chg⟩
    by_cases h5 : L.length < 5
    · exact rget_few s (got_else h (.inl h5)) L.length N0 (decide_eq_true (by omega)) w
    by_cases h2 : L.length % 2 = 0
    · exact rget_even s (got_else h (.inr (.inl h2))) L.length N0 (decide_eq_false (by omega)) (beq_iff_eq.2 (by omega)) w
    obtain ⟨B, m, hB, hW⟩ := rget_ways h h5 (by omega)
    have hl : L.length = 2 * (pairs (L.drop 2)).length + 3 := by rw [pairs_length, List.length_drop]; omega
    have e0 : L[0]? = some (L.headD 0) := by
      cases L with
      | nil => simp at h5
      | cons a r => rfl
    have ez : L[L.length - 1]? = some (L.getLast?.getD 0) := by
      have : L.getLast? = some (L.getLast (by intro e; rw [e] at h5; simp at h5)) := List.getLast?_eq_some_getLast _
      rw [this, ← List.getLast?_eq_getElem?, this]
      rfl
    exact rget_long s hs L h (L.headD 0) (L.getLast?.getD 0) (pairs (L.drop 2)) B m e0 ez (fun k x hx => pairs_at hx) hl (decide_eq_false (by omega)) (beq_eq_false_iff_ne.2 (by omega)) hB hW w
  · have hN : ∀ L, ¬ Nums s L := fun L h => hN ⟨L, h⟩
    exact rget_few s (got_bad hN) 0 (numbers_no hs hN) (by decide) w
#print axioms rget_any
end Go.Proofs.Ytfplgmkbhpdmjaa.Ch
