/-
  Chains: a contract of Get.
-/
import Derived.Test.YtfplgmkbhpdmjaaChainsT
import Derived.Deep.RegionLaw
namespace Go.Proofs.Ytfplgmkbhpdmjaa.Ch
open Go.ChangeShapes Go.WideShapes Go.ChangeAt Go.RowKit
set_option linter.unusedVariables false
attribute [local go_sem] bs_size bs_app bs_cut bs_tl bs_at
def bsMem (p : Array (Nat × Value)) : Sem Value := Instr.buildSlice 29 1 p
theorem bsMem_pre (p : Array (Nat × Value)) : Instr.buildSlice 29 1 p = bsMem p := rfl
theorem run_bsMem (cs : Array Value) (h : cs.size = 2) (w : World) : (bsMem #[(0, .agg cs)]).run Try.prog w = .ok (.slice (some ⟨w.heap.size, 0, none⟩) 1 1) (w.alloc (.cells cs 61)) := by
  have hi := infx_mem
  cases hq : Try.prog.info? 61 with
  | none => simp [hq] at hi
  | some i =>
    simp only [hq, Option.map_some, Option.some.injEq, Prod.mk.injEq] at hi
    obtain ⟨h1, h2, _⟩ := hi
    exact run_buildSlice w _ _ 1 _ cs i (.agg mZero.cells.toArray) Try.underlying29 hq h1 (by rw [h2]; omega) (by rw [h2]; omega) (fill_one _ _ cs i.size (by simp) (by rw [h, h2]) (by simp [h2]))
/-- where Get stands -/
structure GSt (w0 w : World) (b1 b2 q : Nat) (e : Int) (v : Value) (M : List MT) (l : List UInt8) (o : Bool) : Prop where
  tk : TkAt w b1 b2 l o
  ch : ChAt w q ⟨e, M, 0⟩ v
  own : OwnL w 61 MT.cells 2 v M
  new : ∀ g, v.ownBlock = some g → w0.heap.size ≤ g
  chg : Chg noBlk w0 w
  n1 : w0.heap.size ≤ b1
  n2 : w0.heap.size ≤ b2
  n3 : w0.heap.size ≤ q
section
variable {w0 w w' wA wD : World} {b1 b2 q : Nat} {e : Int} {v v' : Value} {M : List MT} {l l' : List UInt8} {o o' : Bool}
theorem GSt.no (h : GSt w0 w b1 b2 q e v M l o) (k : Chg noBlk w w') : GSt w0 w' b1 b2 q e v M l o :=
  ⟨h.tk.no k, h.ch.no k, h.own.no k, h.new, h.chg.andNo k, h.n1, h.n2, h.n3⟩
theorem GSt.take (h : GSt w0 w b1 b2 q e v M l o) (k : Chg (twoBlk b1 b2) w w') (t : TkAt w' b1 b2 l' o') : GSt w0 w' b1 b2 q e v M l' o' := by
  have nq : ¬ twoBlk b1 b2 q := fun x => by
    rcases x with x | x
    · exact ne_type h.ch h.tk.s (by decide) x
    · exact ne_type h.ch h.tk.o (by decide) x
  refine ⟨t, k.at h.ch nq, h.own.kept k fun g hg x => ?_, h.new, h.chg.trans k fun i hi x => ?_, h.n1, h.n2, h.n3⟩
  · obtain ⟨cur, hb⟩ := h.own.block hg
    rcases x with x | x
    · exact ne_type hb h.tk.s (by decide) x
    · exact ne_type hb h.tk.o (by decide) x
  · have := h.n1
    have := h.n2
    rcases x with x | x <;> omega
theorem GSt.put {x : MT} (h : GSt w0 w b1 b2 q e v M l o) (kA : Chg noBlk w wA) (kD : Chg (fun k => v.ownBlock = some k) wA wD) (oD : wD.ownsRow 0 61 2 v' (M.length + 1) (flatC MT.cells M ++ x.cells)) (fD : v'.ownBlock = v.ownBlock ∨ v'.ownBlock = some wA.heap.size) :
    GSt w0 (wD.setCell ⟨q, 1, none⟩ v') b1 b2 q e v' (M ++ [x]) l o := by
  have hA := h.no kA
  have no1 : ∀ {b : Nat} {cs : Array Value} {T : TypeId}, wA.heap[b]? = some (.cells cs T (0, 0)) → T ≠ 61 → ¬ v.ownBlock = some b := fun hb hT hg => by
    obtain ⟨cur, hc⟩ := hA.own.block hg
    exact ne_type hc hb (Ne.symm hT) rfl
  have tD := hA.tk.kept kD (no1 hA.tk.s (by decide)) (no1 hA.tk.o (by decide))
  have cD := kD.at hA.ch (no1 hA.ch (by decide))
  have OD := ownL_grew (c := MT.cells) (L := M) (x := x) oD
  have kS := setCell_chg wD q 1 v'
  have hS := setCell_heap (o := 1) v' cD
  have nw : ∀ g, v'.ownBlock = some g → w0.heap.size ≤ g := fun g hg => by
    rcases fD with f | f
    · exact h.new g (f ▸ hg)
    · rw [f] at hg
      have := Option.some.inj hg
      have := h.chg.size
      have := kA.size
      omega
  refine ⟨tD.kept kS (fun x => ne_type tD.s cD (by decide) x) (fun x => ne_type tD.o cD (by decide) x), hS, OD.kept kS fun g hg x => ?_, nw, ?_, h.n1, h.n2, h.n3⟩
  · obtain ⟨cur, hb⟩ := OD.block hg
    exact ne_type hb cD (by decide) x
  · have k1 : Chg noBlk w0 wD := hA.chg.trans kD fun i hi x => by have := h.new i x; omega
    exact k1.past kS h.n3
theorem gst_new {w1 w2 w3 w4 : World} {s : List UInt8} (e1 : w.heap.size = b1) (k1 : Chg noBlk w w1) (g1 : w1.heap[b1]? = some (.cells #[str s] 9 (0, 0))) (e2 : w1.heap.size = q) (k2 : Chg noBlk w1 w2) (g2 : w2.heap[q]? = some (.cells (chC cZero (.slice none 0 0)) 31 (0, 0))) (e3 : w2.heap.size = b2) (k3 : Chg noBlk w2 w3) (k4 : Chg (oneBlk b2) w3 w4) (g4 : w4.heap[b2]? = some (.cells #[.bool true] 4 (0, 0))) : GSt w w4 b1 b2 q 0 (.slice none 0 0) [] s true := by
  have s1 := k1.size
  have s2 := k2.size
  have l1 := lt_of_block g1
  have l2 := lt_of_block g2
  exact ⟨⟨k4.at (k3.at (k2.at g1 id) id) (fun e => by have e : b1 = b2 := e; omega), g4⟩, k4.at (k3.at g2 id) (fun e => by have e : q = b2 := e; omega), ownL_nil _ _ _ _, (fun g hg => by cases hg), ((k1.andNo k2).andNo k3).past k4 (by omega), by omega, by omega, by omega⟩
theorem GSt.notOwn (h : GSt w0 w b1 b2 q e v M l o) : ¬ v.ownBlock = some q := fun hg => by
  obtain ⟨cur, hc⟩ := h.own.block hg
  exact ne_type hc h.ch (by decide) rfl
theorem GSt.turn {e' : Int} (h : GSt w0 w b1 b2 q e v M l o) (k : Chg (oneBlk q) w w') (g : w'.heap[q]? = some (.cells (chC ⟨e', M, 0⟩ v) 31 (0, 0))) : GSt w0 w' b1 b2 q e' v M l o :=
  ⟨h.tk.kept k (fun x => ne_type h.tk.s h.ch (by decide) x) (fun x => ne_type h.tk.o h.ch (by decide) x), g, h.own.kept k (fun g hg x => by
    obtain ⟨cur, hb⟩ := h.own.block hg
    exact ne_type hb h.ch (by decide) x), h.new, h.chg.past k h.n3, h.n1, h.n2, h.n3⟩
/-- behind the last store -/
structure GFin (w0 w : World) (b1 b2 q : Nat) (v : Value) (M : List MT) (l : List UInt8) (o : Bool) : Prop where
  tk : TkAt w b1 b2 l o
  own : OwnL w 61 MT.cells 2 v M
  new : ∀ g, v.ownBlock = some g → w0.heap.size ≤ g
  not : ¬ v.ownBlock = some q
  chg : Chg noBlk w0 w
  n3 : w0.heap.size ≤ q
theorem GSt.fin (h : GSt w0 w b1 b2 q e v M l o) (k : Chg (oneBlk q) w w') : GFin w0 w' b1 b2 q v M l o :=
  ⟨h.tk.kept k (fun x => ne_type h.tk.s h.ch (by decide) x) (fun x => ne_type h.tk.o h.ch (by decide) x), h.own.kept k (fun g hg x => by
    obtain ⟨cur, hb⟩ := h.own.block hg
    exact ne_type hb h.ch (by decide) x), h.new, h.notOwn, h.chg.past k h.n3, h.n3⟩
theorem sl_own' {ad : Option Addr} {cap : Nat} (h : OwnL w 61 MT.cells 2 (.slice ad M.length cap) M) (hf : M.length ≤ 100) : Sl w ad cap M := by
  obtain ⟨ad', cap', h1, h2⟩ := sl_own h hf
  injection h1 with a1 a2 a3
  subst a1
  subst a3
  exact h2
theorem info_str : (Try.prog.info? 9).map (·.size) = some 1 := by kernel_rfl
theorem zero_bool : (Try.prog.info? 4).bind (·.zero) = some (.bool false) := by kernel_rfl
/-- told: what bytes tell -/
def Got (l : List UInt8) (w : World) (x : Ending) (w' : World) : Prop := ∃ c n, GotOf l c n ∧ NewCE c n w x w'
attribute [local go_sem ↓] bsMem_pre in
set_option maxRecDepth 100000 in
set_option maxHeartbeats 2000000 in
theorem get_in (w : World) (s : List UInt8) (hs : s.length ≤ 1000) (hz : gSize s ≤ 6) : Calls Try.prog 34 #[str s] w (Got s w) := by
  have hmf : ∀ (fn : Fn) (first cap : Array Value) (w : World), (Instr.makeFunc fn first cap).run Try.prog w = .ok (.func fn first cap) w := fun _ _ _ _ => rfl
  have ta : True := True.intro
  have tb : True := True.intro
  have HT := hide (fun w' b1 b2 l o (h : TkAt w' b1 b2 l o) (hl : l.length ≤ 1048576) => take_any h hl)
  have z0 : s.length ≤ 1048576 := by omega
  have y1 : (tkR s).length ≤ 1048576 := by have := tkR_len s; omega
  replace hz : tkN (tkR s) ≤ 6 := hz
  have hz1 := (tkN_range (tkR s)).1
  have hk := hide (show gK s = (tkN (tkR s)).toNat from rfl)
  have hr := hide (mrun_rest (gL2 s) (gO2 s))
  have hl2 : (gL2 s).length ≤ 1000 := by have h1 := tkR_len s; have h2 := tkR_len (tkR s); show (tkR (tkR s)).length ≤ 1000; omega
  go_enter Try.func34, Try.ntmps34
  go_wp2_with (first
    | (go_at_call 53; (with_reducible refine (unhide HT _ _ _ _ _ (unhide H6).tk y1).mono ?_); rintro e w7 ⟨rfl, k7, t7⟩; have H7 := hide ((unhide H6).take k7 t7); clear k7 t7)
    | (go_at_call 53; (with_reducible refine (unhide HT _ _ _ _ _ (unhide H4).tk z0).mono ?_); rintro e w5 ⟨rfl, k5, t5⟩; have H5 := hide ((unhide H4).take k5 t5); have q5 := (unhide H5).ch; clear k5 t5)
    | ((with_reducible show wpList _ _ _ (_ :: _) _ _); first
      | (refine wpL_box1 rfl 9 (.tmp 0) rfl (str s) (by rfl) rfl ?_; intro b1 w1 e1 k1 g1 z1; clear z1)
      | (refine wpL_alloc rfl 31 rfl _ zero_ch ?_; intro q w2 e2 k2 g2 z2; clear z2)
      | (refine wpL_alloc1 rfl 4 rfl (.bool false) zero_bool rfl ?_; intro b2 w3 e3 k3 g3 z3; clear z3)
      | (refine wpL_set rfl 4 (.tmp 4) (.const (.bool true)) rfl b2 0 (.bool true) rfl (by rfl) rfl (by kernel_rfl) _ _ g3 (by simp) ?_; intro w4 k4 g4 z4; have H4 := hide (gst_new e1 k1 g1 e2 k2 g2 e3 k3 k4 g4); clear e1 k1 g1 e2 k2 g2 e3 k3 k4 g4 z4 g3)
      | (refine wpL_set rfl 3 (.tmp 10) (.tmp 9) rfl q 0 (.int .i64 (tkN s)) rfl (by rfl) rfl (by kernel_rfl) _ _ q5 (by simp) ?_; intro w6 k6 g6 z6; have H6 := hide ((unhide H5).turn (e' := tkN s) k6 g6); clear q5 z6)))
  have H8 : Hid (∃ v, GSt w w7 b1 b2 q (gEp s) v (gRun s 0).1 (gRun s 0).2.1 (gRun s 0).2.2) := hide ⟨_, unhide H7⟩
  clear H7 H6 H5 H4 g6 k6
  go_loopw [17] (fun i wr => ∃ (k : Nat) (v : Value), k ≤ gK s ∧ i = .int .i64 (k : Int) ∧ GSt w wr b1 b2 q (gEp s) v (gRun s k).1 (gRun s k).2.1 (gRun s k).2.2) (fun i wr => gK s - (intOf i).toNat)
  case atStart =>
    obtain ⟨v, h⟩ := unhide H8
    exact ⟨0, v, by omega, rfl, h⟩
  case round =>
    clear H8
    obtain ⟨k, v, hk2, rfl, hst⟩ := hrel
    by_cases hlt : k < gK s
    · have d1 : (k : Int) < tkN (tkR s) := by have := unhide hk; omega
      have yl : (gRun s k).2.1.length ≤ 1048576 := by have := unhide hr k; unfold gRun; omega
      have yl2 : (tkR (gRun s k).2.1).length ≤ 1048576 := by have := tkR_len (gRun s k).2.1; omega
      have HM := hide (show (gRun s (k + 1)).1 = (gRun s k).1 ++ [⟨tkN (gRun s k).2.1, tkN (tkR (gRun s k).2.1)⟩] ∧ (gRun s (k + 1)).2.1 = tkR (tkR (gRun s k).2.1) ∧ (gRun s (k + 1)).2.2 = (((gRun s k).2.2 && tkO (gRun s k).2.1) && tkO (tkR (gRun s k).2.1)) from ⟨rfl, rfl, rfl⟩)
      have hml : (gRun s k).1.length ≤ 6 := by have := mrun_len (gL2 s) (gO2 s) k; have := unhide hk; unfold gRun; omega
      generalize gRun s k = G at *
      obtain ⟨M, L, O⟩ := G
      simp only at *
      obtain ⟨ad, cap, rfl, _, _, _⟩ := hst.own.form MT.len
      have HS := hide hst
      have c1 : wr.drew.cell? ⟨q, 1, none⟩ = some (.slice ad M.length cap) := hst.ch.c1
      clear hst
      have S0 := hide ((unhide HS).no (w' := wr.drew) ((Chg.refl noBlk wr).drew))
      have bsm := run_bsMem (#[.int .i64 (tkN L), .int .i64 (tkN (tkR L))]) rfl
      have m2 : M.length + 1 ≤ maxLen := by unfold maxLen; omega
      have m4 : (M.length + 1) * 16 ≤ 140737488355328 := by omega
      go_wp2_with fail
      go_region_law (first
        | (refine step_append rfl (.tmp 20) (.tmp 26) 29 (by rfl) 61 (.agg mZero.cells.toArray) 2 16 Try.underlying29 infx_mem rfl (by decide) (.slice ad M.length cap) M.length (flatC MT.cells M) (by rfl) ((unhide S2).own.no (unhide KA)) (.slice (some ⟨wB.heap.size, 0, none⟩) 1 1) 1 (MT.cells ⟨tkN L, tkN (tkR L)⟩) (by rfl) (reads_new1 (W := wB) (t := 61) (Chg.refl _ _) (MT.len _) (MT.one _)) m2 m4 ?_; intro v' wD kD oD fD; obtain ⟨g9, cap9, rfl, _, _⟩ := oD.form (by omega); have S3 := hide ((unhide S2).put (unhide KA) kD oD fD); have hbD := kD.at ((unhide S2).no (unhide KA)).ch (unhide NQ); have cb := cellAt hbD 1 _ rfl; have fb := freeAt hbD 1; clear kD oD fD hbD)
        | (go_simp; go_at_call 53; (with_reducible refine (unhide HT _ _ _ _ _ (unhide S1).tk yl2).mono ?_); rintro e wB ⟨rfl, kB, tB⟩; have S2 := hide ((unhide S1).take kB tB); have KA := hide ((Chg.refl noBlk wB).alloc (.cells (MT.cells ⟨tkN L, tkN (tkR L)⟩).toArray 61)); have NQ := hide (unhide S2).notOwn; have c3 : wB.cell? ⟨q, 1, none⟩ = some (.slice ad M.length cap) := (unhide S2).ch.c1; have c4 : (wB.alloc (.cells #[.int .i64 (tkN L), .int .i64 (tkN (tkR L))] 61)).cell? ⟨q, 1, none⟩ = some (.slice ad M.length cap) := ((unhide S2).no (unhide KA)).ch.c1; clear kB tB)
        | (go_simp; go_at_call 53; (with_reducible refine (unhide HT _ _ _ _ _ (unhide S0).tk yl).mono ?_); rintro e wA ⟨rfl, kA, tA⟩; have S1 := hide ((unhide S0).take kA tA); have c2 : wA.cell? ⟨q, 1, none⟩ = some (.slice ad M.length cap) := (unhide S1).ch.c1; clear kA tA))
      all_goals
        generalize wD.setCell ⟨q, 1, none⟩ (.slice (some ⟨g9, 0, none⟩) (M.length + 1) cap9) = wF at S3 ⊢
        have S4 : Hid (∃ v, GSt w wF b1 b2 q (gEp s) v (gRun s (k + 1)).1 (gRun s (k + 1)).2.1 (gRun s (k + 1)).2.2) := by
          obtain ⟨h1, h2, h3⟩ := unhide HM
          rw [h1, h2, h3]
          exact hide ⟨_, unhide S3⟩
        clear S3 HM bsm c1 c2 cb fb
        go_wp2_with fail
        go_roundw
        case rel =>
          obtain ⟨v, h⟩ := unhide S4
          exact ⟨k + 1, v, by omega, by go_num, h⟩
        case measure => simp [intOf]; omega
    · obtain rfl : k = gK s := by omega
      have d1 : ¬ ((gK s : Nat) : Int) < tkN (tkR s) := by have := unhide hk; omega
      have yl : (gRun s (gK s)).2.1.length ≤ 1048576 := by have := unhide hr (gK s); unfold gRun; omega
      have hml : (gRun s (gK s)).1.length ≤ 6 := by have := mrun_len (gL2 s) (gO2 s) (gK s); have := unhide hk; unfold gRun; omega
      have h3 : gO3 s = ((gRun s (gK s)).2.2 && tkO (gRun s (gK s)).2.1) := rfl
      have h4 : gL3 s = tkR (gRun s (gK s)).2.1 := rfl
      have h5 : gC s = ⟨gEp s, (gRun s (gK s)).1, tkN (gRun s (gK s)).2.1⟩ := rfl
      have hgot : (gO3 s = false → GotOf s cZero 10) ∧ (gL3 s ≠ [] → GotOf s cZero 10) ∧ (good (gC s) = false → GotOf s cZero 10) ∧ (gO3 s = true → gL3 s = [] → good (gC s) = true → GotOf s (gC s) 0) := ⟨fun h => got_no (.inl h), fun h => got_no (.inr (.inl h)), fun h => got_no (.inr (.inr h)), got_yes⟩
      rw [h3, h4, h5] at hgot
      clear h3 h4 h5
      generalize gRun s (gK s) = G at *
      obtain ⟨M, L, O⟩ := G
      simp only at *
      obtain ⟨ad, cap, rfl, _, _, _⟩ := hst.own.form MT.len
      have HS := hide hst
      have T3 := fun w' (h : TkAt w' b1 b2 L O) => (show Calls Try.prog 53 #[.pointer (some ⟨b1, 0, none⟩), .pointer (some ⟨b2, 0, none⟩)] w' (fun e w'' => e = .returned (.int .i64 (tkN L)) ∧ Chg (twoBlk b1 b2) w' w'' ∧ TkAt w'' b1 b2 (tkR L) (O && tkO L)) from take_any h yl)
      clear hst
      generalize (O && tkO L) = o3 at *
      generalize tkN L = dr at *
      generalize tkR L = l3 at *
      obtain ⟨r1, r2, r3, r4⟩ := hgot
      have HT3 := hide T3
      clear T3 hmf HT
      cases o3
      · have R := hide (r1 rfl)
        clear r1 r2 r3 r4
        go_wp2_with (first
          | (go_at_call 53; (with_reducible refine (unhide HT3 _ (unhide HS).tk).mono ?_); rintro e w8 ⟨rfl, k8, t8⟩; have H8 := hide ((unhide HS).take k8 t8); have q8 := (unhide H8).ch; clear k8 t8)
          | ((with_reducible show wpList _ _ _ (_ :: _) _ _); first
            | (refine wpL_set rfl 3 (.tmp 32) (.tmp 31) rfl q 2 (.int .i64 dr) rfl (by rfl) rfl (by kernel_rfl) _ _ q8 (by simp) ?_; intro w9 k9 g9 z9; have F9 := hide ((unhide H8).fin k9); have cT : w9.cell? ⟨b2, 0, none⟩ = some (.bool false) := cellAt (unhide F9).tk.o 0 _ rfl)
            | (refine wpL_store rfl 31 (.tmp 2) (.tmp 44) rfl q (chC cZero (.slice none 0 0)) rfl (by rfl) _ _ g9 info_ch rfl cZero_one ?_; intro w10 k10 g10 z10)))
        refine bodyPost_ret (ret_ch2 rfl _ _ q cZero _ rfl g10) rfl ?_
        exact ⟨cZero, 10, unhide R, newCE_zero ((unhide F9).chg.past k10 (unhide F9).n3)⟩
      cases l3 with
      | cons x t =>
        have R := hide (r2 (by simp))
        clear r1 r2 r3 r4
        go_wp2_with (first
          | (go_at_call 53; (with_reducible refine (unhide HT3 _ (unhide HS).tk).mono ?_); rintro e w8 ⟨rfl, k8, t8⟩; have H8 := hide ((unhide HS).take k8 t8); have q8 := (unhide H8).ch; clear k8 t8)
          | ((with_reducible show wpList _ _ _ (_ :: _) _ _); first
            | (refine wpL_set rfl 3 (.tmp 32) (.tmp 31) rfl q 2 (.int .i64 dr) rfl (by rfl) rfl (by kernel_rfl) _ _ q8 (by simp) ?_; intro w9 k9 g9 z9; have F9 := hide ((unhide H8).fin k9); have cT : w9.cell? ⟨b2, 0, none⟩ = some (.bool true) := cellAt (unhide F9).tk.o 0 _ rfl; have cS : w9.cell? ⟨b1, 0, none⟩ = some (str (x :: t)) := cellAt (unhide F9).tk.s 0 _ rfl)
            | (refine wpL_store rfl 31 (.tmp 2) (.tmp 44) rfl q (chC cZero (.slice none 0 0)) rfl (by rfl) _ _ g9 info_ch rfl cZero_one ?_; intro w10 k10 g10 z10)))
        refine bodyPost_ret (ret_ch2 rfl _ _ q cZero _ rfl g10) rfl ?_
        exact ⟨cZero, 10, unhide R, newCE_zero ((unhide F9).chg.past k10 (unhide F9).n3)⟩
      | nil =>
        cases hg : good ⟨gEp s, M, dr⟩
        · have R := hide (r3 hg)
          have HC := hide (fun w' cap ad (h : Sl w' ad cap M) => (show Calls Try.prog 54 #[chV ⟨gEp s, M, dr⟩ (.slice ad M.length cap)] w' (ToldN (.int .i64 2) w') from check_no (c := ⟨gEp s, M, dr⟩) h hg))
          clear r1 r2 r3 r4 hg
          go_wp2_with (first
            | (go_at_call 53; (with_reducible refine (unhide HT3 _ (unhide HS).tk).mono ?_); rintro e w8 ⟨rfl, k8, t8⟩; have H8 := hide ((unhide HS).take k8 t8); have q8 := (unhide H8).ch; clear k8 t8)
            | (go_at_call 54; (with_reducible refine (unhide HC _ _ _ (sl_own' (unhide F9).own (by omega))).mono ?_); rintro e w11 ⟨rfl, k11⟩; have g11 := k11.at g9 id)
            | ((with_reducible show wpList _ _ _ (_ :: _) _ _); first
              | (refine wpL_set rfl 3 (.tmp 32) (.tmp 31) rfl q 2 (.int .i64 dr) rfl (by rfl) rfl (by kernel_rfl) _ _ q8 (by simp) ?_; intro w9 k9 g9 z9; have F9 := hide ((unhide H8).fin k9); have cT : w9.cell? ⟨b2, 0, none⟩ = some (.bool true) := cellAt (unhide F9).tk.o 0 _ rfl; have cS : w9.cell? ⟨b1, 0, none⟩ = some (str []) := cellAt (unhide F9).tk.s 0 _ rfl; have Q9 : ChAt w9 q ⟨gEp s, M, dr⟩ (.slice ad M.length cap) := g9; have x0 := Q9.c0; have x1 := Q9.c1; have x2 := Q9.c2)
              | (refine wpL_store rfl 31 (.tmp 2) (.tmp 44) rfl q (chC cZero (.slice none 0 0)) rfl (by rfl) _ _ g11 info_ch rfl cZero_one ?_; intro w10 k10 g10 z10)))
          refine bodyPost_ret (ret_ch2 rfl _ _ q cZero _ rfl g10) rfl ?_
          exact ⟨cZero, 10, unhide R, newCE_zero (((unhide F9).chg.andNo k11).past k10 (unhide F9).n3)⟩
        · have R := hide (r4 rfl rfl hg)
          have HC := hide (fun w' cap ad (h : Sl w' ad cap M) => (show Calls Try.prog 54 #[chV ⟨gEp s, M, dr⟩ (.slice ad M.length cap)] w' (ToldN (.int .i64 0) w') from check_yes (c := ⟨gEp s, M, dr⟩) h hg))
          clear r1 r2 r3 r4 hg
          go_wp2_with (first
            | (go_at_call 53; (with_reducible refine (unhide HT3 _ (unhide HS).tk).mono ?_); rintro e w8 ⟨rfl, k8, t8⟩; have H8 := hide ((unhide HS).take k8 t8); have q8 := (unhide H8).ch; clear k8 t8)
            | (go_at_call 54; (with_reducible refine (unhide HC _ _ _ (sl_own' (unhide F9).own (by omega))).mono ?_); rintro e w11 ⟨rfl, k11⟩; have Q11 := Q9.no k11; clear Q9)
            | ((with_reducible show wpList _ _ _ (_ :: _) _ _); first
              | (refine wpL_set rfl 3 (.tmp 32) (.tmp 31) rfl q 2 (.int .i64 dr) rfl (by rfl) rfl (by kernel_rfl) _ _ q8 (by simp) ?_; intro w9 k9 g9 z9; have F9 := hide ((unhide H8).fin k9); have cT : w9.cell? ⟨b2, 0, none⟩ = some (.bool true) := cellAt (unhide F9).tk.o 0 _ rfl; have cS : w9.cell? ⟨b1, 0, none⟩ = some (str []) := cellAt (unhide F9).tk.s 0 _ rfl; have Q9 : ChAt w9 q ⟨gEp s, M, dr⟩ (.slice ad M.length cap) := g9; have x0 := Q9.c0; have x1 := Q9.c1; have x2 := Q9.c2)
              | (refine wpL_load rfl 31 (.tmp 2) rfl q rfl (chC ⟨gEp s, M, dr⟩ (.slice ad M.length cap)) _ _ Q11 _ Try.underlying31 rfl info_ch ?_)
              | (refine wpL_store rfl 31 (.tmp 2) (.tmp 45) rfl q (chC ⟨gEp s, M, dr⟩ (.slice ad M.length cap)) rfl (by rfl) _ _ Q11 info_ch rfl (all_oneCell_toArray (one_chC (c := ⟨gEp s, M, dr⟩) rfl)) ?_; intro w10 k10 g10 z10)))
          refine bodyPost_ret (ret_ch2 rfl _ _ q ⟨gEp s, M, dr⟩ _ rfl g10) rfl ?_
          exact ⟨_, 0, unhide R, _, rfl, ((unhide F9).chg.andNo k11).past k10 (unhide F9).n3, (OwnL.no (unhide F9).own k11).kept k10 (own_not (unhide F9).not), (unhide F9).new⟩
end
#print axioms get_in
end Go.Proofs.Ytfplgmkbhpdmjaa.Ch
