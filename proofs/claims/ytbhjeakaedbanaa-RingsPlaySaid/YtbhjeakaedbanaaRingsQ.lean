/-
  Rings: has a ring what the document's one has?
-/
import Derived.Test.YtbhjeakaedbanaaRingsO
import Derived.Test.YtbhjeakaedbanaaRingsP
import Derived.Deep.DeepCutAuto
namespace Go.Proofs.Ytbhjeakaedbanaa
open Go.ChangeShapes Go.WideShapes Go.ChangeAt Go.RowKit
set_option linter.unusedVariables false
attribute [local go_sem ↓] ldFr_pre stFr_pre
theorem ring_clear {w : World} {S : Nat → Prop} {p : Value} {cap : Nat} {L : List Fr} (h : Ring w S p cap L) : Calls Try.prog 15 #[p] w (fun e w' => e = .returned (.tuple #[]) ∧ Chg S w w' ∧ Ring w' S p cap []) := by
  obtain ⟨h0, b, bp, first, ps, rfl, hr⟩ := h
  refine (clear_at S b bp first cap ps L w hr).mono ?_
  rintro e w' ⟨rfl, k, r⟩
  refine ⟨rfl, k.mono fun i _ hi => ?_, fun i hi => k.lt (h0 i hi), b, bp, 0, _, rfl, r⟩
  rcases hi with rfl | rfl
  · exact hr.sb
  · exact hr.sp
/-- told: a copy -/
def CopyR (cap : Nat) (L : List Fr) (w : World) (e : Ending) (w' : World) : Prop := ∃ p S', e = .returned p ∧ (∀ j, S' j → w.heap.size ≤ j) ∧ Ring w' S' p cap L ∧ Chg noBlk w w'
theorem ring_copy {w : World} {S : Nat → Prop} {p : Value} {cap : Nat} {L : List Fr} (h : Ring w S p cap L) : Calls Try.prog 16 #[p] w (CopyR cap L w) := by
  obtain ⟨h0, b, bp, first, ps, rfl, hr⟩ := h
  exact copy_at S b bp first cap ps L w hr h0
def zeroF : Fr := ⟨zeroFr, 0, []⟩
theorem zeroF_ok : zeroF.Ok := ⟨rfl, zero_all, by show 0 ≤ 1000; omega⟩
theorem zeroF_ty : zeroF.Ty := by
  refine ⟨⟨rfl, fun i hi => ?_, fun i hi => ?_, ⟨none, 0, 0, rfl⟩⟩, by simp [zeroF]⟩
  · simp only [List.mem_cons, List.not_mem_nil, or_false] at hi
    rcases hi with rfl | rfl | rfl | rfl | rfl | rfl | rfl | rfl | rfl | rfl | rfl | rfl | rfl | rfl | rfl | rfl | rfl | rfl | rfl | rfl | rfl | rfl | rfl <;> exact ⟨0, rfl⟩
  · simp only [List.mem_cons, List.not_mem_nil, or_false] at hi
    rcases hi with rfl | rfl | rfl | rfl | rfl <;> exact ⟨ByteArray.empty, rfl, by show 0 ≤ maxLen; omega⟩
theorem zeroF_h (w : World) (S : Nat → Prop) : FrH w S zeroFr zeroF := ⟨.slice none 0 0, rfl, rfl, Holds.nil _ _ _⟩
/-- what stands at a number: the frame, and true; else zero and false -/
def pick (L : List Fr) (i : Int) : Fr × Bool := if 0 ≤ i then (match L[i.toNat]? with | some f => (f, true) | none => (zeroF, false)) else (zeroF, false)
theorem pick_ok {L : List Fr} (h : ∀ f ∈ L, f.Ok) (i : Int) : (pick L i).1.Ok := by
  unfold pick; split
  · split
    · rename_i f hf; exact h f (List.mem_of_getElem? hf)
    · exact zeroF_ok
  · exact zeroF_ok
theorem pick_ty {L : List Fr} (h : ∀ f ∈ L, f.Ty) (i : Int) : (pick L i).1.Ty := by
  unfold pick; split
  · split
    · rename_i f hf; exact h f (List.mem_of_getElem? hf)
    · exact zeroF_ty
  · exact zeroF_ty
/-- told: a frame and whether there is one; the frame in blocks of S -/
def ToldP (S : Nat → Prop) (x : Fr × Bool) (w : World) (e : Ending) (w' : World) : Prop := ∃ c, e = .returned (.tuple #[.agg c.toArray, .bool x.2]) ∧ FrH w' S c x.1 ∧ Chg noBlk w w'
theorem pick_cases (L : List Fr) (i : Int) : (∃ (k : Nat) (f : Fr), i = (k : Int) ∧ L[k]? = some f ∧ pick L i = (f, true)) ∨ ((i < 0 ∨ (L.length : Int) ≤ i) ∧ pick L i = (zeroF, false)) := by
  by_cases h : 0 ≤ i
  · obtain ⟨k, rfl⟩ := Int.eq_ofNat_of_zero_le h
    cases hk : L[k]? with
    | none => exact .inr ⟨.inr (by have := List.getElem?_eq_none_iff.1 hk; omega), by simp [pick, hk]⟩
    | some f => exact .inl ⟨k, f, rfl, hk, by simp [pick, hk]⟩
  · exact .inr ⟨.inl (by omega), by simp [pick, h]⟩
theorem ring_pick {w : World} {S : Nat → Prop} {p : Value} {cap : Nat} {L : List Fr} (h : Ring w S p cap L) (i : Int) : Calls Try.prog 14 #[p, .int .i64 i] w (ToldP (fun k => w.heap.size ≤ k) (pick L i) w) := by
  rcases pick_cases L i with ⟨k, f, rfl, hf, e⟩ | ⟨hi, e⟩ <;> rw [e]
  · exact ring_tell h k hf
  · exact (ring_tell_no h i hi).mono fun e w' h => ⟨zeroFr, h.1, zeroF_h _ _, h.2⟩
theorem refq_pick {w : World} {T : Nat → Prop} {q : Value} {cap : Int} {L : List Fr} (h : RefQ w T q cap L) (hL : L.length ≤ 1000) (i : Int) : Calls Try.prog 13 #[q, .int .i64 i] w (ToldP T (pick L i) w) := by
  rcases pick_cases L i with ⟨k, f, rfl, hf, e⟩ | ⟨hi, e⟩ <;> rw [e]
  · exact (rtell T q cap L f hL k hf w h).mono fun e w' ⟨c, h1, h2, h3⟩ => ⟨c, h1, h2.mono fun i _ hi => hi.1, h3⟩
  · exact (rtell_no T q cap L hL i hi w h).mono fun e w' h => ⟨zeroFr, h.1, zeroF_h _ _, h.2⟩
theorem quiet_w {P : Program} {f : FuncId} {args : Array Value} {w : World} {n : Nat} {v : Value}
    (h : Calls P f args (w.drewN n) fun e w' => e = .returned v ∧ w.drewN n = w') : Calls P f args (w.drewN n) fun e w'' => e = .returned v ∧ ∃ m, w'' = w.drewN m :=
  h.mono fun _ _ ⟨he, hm⟩ => ⟨he, n, hm.symm⟩
theorem built_mb (n : Int) : Try.prog.built 54 [(0, .int .i64 n)] = some #[.int .i64 n, .int .i64 0] := by kernel_rfl
theorem mb_one : (#[.int .i64 99, .int .i64 0] : Array Value).all (·.oneCell') = true := all_oneCell_toArray (cs := [.int .i64 99, .int .i64 0]) (by simp [Value.oneCell'])
theorem mb_one' : (#[.int .i64 98, .int .i64 0] : Array Value).all (·.oneCell') = true := all_oneCell_toArray (cs := [.int .i64 98, .int .i64 0]) (by simp [Value.oneCell'])
theorem size_mb : (Try.prog.info? 54).map (·.size) = some 2 := by kernel_rfl
set_option maxRecDepth 100000 in
set_option maxHeartbeats 2000000 in
theorem alike_any (S T : Nat → Prop) (p q : Value) (cap : Nat) (L : List Fr) (w : World) (hr : Ring w S p cap L) (hq : RefQ w T q (cap : Int) L) (ht : ∀ f ∈ L, f.Ty) : Calls Try.prog 20 #[p, q] w (ToldB true w) := by
  have hful := hr.full
  have HR := hide hr
  have HQ := hide hq
  have HT := hide ht
  have HO := hide hr.ok
  obtain ⟨bq, s, rows, rfl, h2, h3, h4, h5, h6, h7, h8, h9⟩ := hq
  obtain ⟨a, cp, rfl⟩ : ∃ a cp, s = .slice a L.length cp := by
    rcases h5.2.2 with ⟨h, h0⟩ | ⟨g, off, cp, h, _⟩
    · exact ⟨none, 0, by rw [h, h0]⟩
    · exact ⟨_, _, h⟩
  have H3 := hide h3
  have c0 := cellAt h3 0 _ rfl
  have c1 := cellAt h3 1 _ rfl
  have LN := hide (fun n => quiet_w (ring_len (hr.keptNo ((Chg.refl noBlk w).drewN n))))
  have CP := hide (fun n => quiet_w (ring_cap (hr.keptNo ((Chg.refl noBlk w).drewN n))))
  clear hr ht h2 h3 h4 h5 h6 h7 h8 h9
  go_enter Try.func20, Try.ntmps20
  go_wp2_with fail
  go_quiet (first | (go_at_call 21; exact unhide LN _) | (go_at_call 22; exact unhide CP _))
  go_wp2_with fail
  have kA : Chg noBlk w (w.drewN nq) := (Chg.refl noBlk w).drewN nq
  clear c0 c1 LN CP
  generalize w.drewN nq = w1 at kA ⊢
  have KA := hide kA
  clear kA
  go_loopw [5] (fun i wr => ∃ k : Nat, k ≤ L.length + 2 ∧ i = .int .i64 ((k : Int) - 1) ∧ Chg noBlk w wr) (fun i wr => L.length + 2 - (intOf i + 1).toNat)
  case atStart => exact ⟨0, by omega, rfl, unhide KA⟩
  case round =>
    clear KA
    obtain ⟨k, hk, rfl, kw⟩ := hrel
    have KW := hide kw
    have c1 := cellAt (kw.at (unhide H3) id) 1 _ rfl
    clear kw
    by_cases hlt : k < L.length + 2
    · have d1 : decide ((k : Int) - 1 ≤ (L.length : Int)) = true := by simp; omega
      obtain ⟨f, okb, hpk⟩ : ∃ f okb, pick L ((k : Int) - 1) = (f, okb) := ⟨_, _, rfl⟩
      have o : f.Ok := by have := pick_ok (unhide HO) ((k : Int) - 1); rwa [hpk] at this
      have ty : f.Ty := by have := pick_ty (unhide HT) ((k : Int) - 1); rwa [hpk] at this
      have CA := hide (show Calls Try.prog 14 #[p, .int .i64 ((k : Int) - 1)] wr (ToldP (fun k => wr.heap.size ≤ k) (f, okb) wr) by have := ring_pick ((unhide HR).keptNo (unhide KW)) ((k : Int) - 1); rwa [hpk] at this)
      have HPK := hide hpk
      clear hpk
      go_upto_region 7 with (first
        | (go_at_call 14; refine (unhide CA).mono ?_; rintro e w3 ⟨cf1, rfl, f1, k3⟩; have h1 := f1.reads.is29 o)
        | (refine wpL_alloc rfl 42 rfl _ zero_fr ?_; intro x1 w4 e4 k4 gx z4)
        | (refine wpL_store rfl 42 (.tmp 6) (.tmp 41) rfl x1 cf1.toArray rfl rfl _ _ gx (by rw [size_fr, h1.1]) (by rw [h1.1]; rfl) h1.2 ?_; intro w5 k5 gx z5))
      have KW5 := hide ((((unhide KW).andNo k3).andNo k4).trans k5 fun i hi e => by have e : i = x1 := e; have := (unhide KW).size; have := k3.size; omega)
      have F5 := hide (((f1.mono fun i hi h => (show wr.heap.size ≤ i ∧ i < w3.heap.size from ⟨h, hi⟩)).kept k4 fun _ _ _ => id).kept k5 fun i _ hi e => by have e : i = x1 := e; omega)
      have hx1 : wr.heap.size ≤ x1 := by have := k3.size; omega
      have hx1' : x1 < w5.heap.size := by omega
      have hx1n : ∀ i, wr.heap.size ≤ i ∧ i < w3.heap.size → i ≠ x1 := fun i hi => by omega
      have HX1 := hide hx1n
      have hw3 : w3.heap.size ≤ x1 := by omega
      clear f1 k3 k4 k5 e4 z4 z5 hx1n CA c1
      have CB := hide (show Calls Try.prog 13 #[.pointer (some ⟨bq, 0, none⟩), .int .i64 ((k : Int) - 1)] w5 (ToldP T (f, okb) w5) by have := refq_pick ((unhide HQ).keptNo (unhide KW5)) (by omega) ((k : Int) - 1); rwa [unhide HPK] at this)
      go_upto_region 8 with (first
        | (go_at_call 13; refine (unhide CB).mono ?_; rintro e w6 ⟨cf2, rfl, f2, k6⟩; have h2 := f2.reads.is29 o; replace gx := k6.at gx id)
        | (refine wpL_alloc rfl 42 rfl _ zero_fr ?_; intro x2 w7 e7 k7 gy z7; replace gx := k7.at gx id)
        | (refine wpL_store rfl 42 (.tmp 8) (.tmp 47) rfl x2 cf2.toArray rfl rfl _ _ gy (by rw [size_fr, h2.1]) (by rw [h2.1]; rfl) h2.2 ?_; intro w8 k8 gy z8; replace gx := k8.at gx (by show ¬ (_ = _); have := k6.size; omega)))
      have hqlt := (unhide HQ).lt
      have F8b := (f2.kept k7 fun _ _ _ => id).kept k8 fun i _ hi e => by have e : i = x2 := e; have := hqlt i hi; have := (unhide KW5).size; have := k6.size; omega
      have F8a := (((unhide F5).kept k6 fun _ _ _ => id).kept k7 fun _ _ _ => id).kept k8 fun i hi hi2 e => by have e : i = x2 := e; have hi3 := hi2.2; have := k6.size; omega
      have la := ld_at gx h1
      have lb := ld_at gy h2
      have CS := hide (same_any cf1 cf2 f o ty w8 F8a.reads F8b.reads)
      have KW8 := hide ((((unhide KW5).andNo k6).andNo k7).trans k8 fun i hi e => by have e : i = x2 := e; have := (unhide KW5).size; have := k6.size; omega)
      clear F8b f2 k6 k7 k8 e7 z7 z8 CB hqlt
      go_wp2_with (first
        | (go_at_call 19; refine (unhide CS).mono ?_; rintro e w9 ⟨rfl, k9⟩))
      have KW9 := hide ((unhide KW8).andNo k9)
      obtain ⟨u, hu, _, hhu⟩ := F8a.kept k9 fun _ _ _ => id
      have hcl : cf1.toArray[24]? = some u := by rw [hu]; simp [o.len]
      have gx9 := k9.at gx id
      obtain ⟨ga, gc, rfl, hga⟩ : ∃ ga gc, u = .slice ga f.n gc ∧ (∀ m, m < f.n → ∃ g off, ga = some ⟨g, off, none⟩ ∧ w9.there g off (f.n * 2) ∧ wr.heap.size ≤ g ∧ g < w3.heap.size) := by
        rcases hhu.2.2 with ⟨h, h0⟩ | ⟨g, off, gc, h, hS, _, _, hcell⟩
        · exact ⟨none, 0, by rw [h, h0], fun m hm => by omega⟩
        · refine ⟨_, gc, h, fun m hm => ⟨g, off, rfl, fun j hj => ?_, hS.1, hS.2⟩⟩
          have hj2 : j < f.xs.length := by have := hhu.1; omega
          obtain ⟨e1, e2⟩ := hcell j _ (List.getElem?_eq_getElem hj2)
          exact ⟨by rw [e1]; rfl, e2⟩
      have HGA := hide hga
      have hfn := o.few
      have c24 := hcl
      have HC24 := hide c24
      have GX9 := hide gx9
      clear F8a hu hhu hcl hga c24 gx9 gx gy la lb CS k9 F5 KW5 KW8
      go_loopw [10] (fun i wi => ∃ m : Nat, m ≤ f.n ∧ i = .int .i64 (m : Int) ∧ Chg noBlk w wi ∧ wi.heap[x1]? = some (.cells cf1.toArray 42 (0, 0)) ∧ (∀ g off, ga = some ⟨g, off, none⟩ → w9.there g off (f.n * 2) → wi.there g off (f.n * 2))) (fun i wi => f.n - (intOf i).toNat)
      case atStart => exact ⟨0, by omega, rfl, unhide KW9, unhide GX9, fun g off _ h => h⟩
      case round =>
        obtain ⟨m, hm, rfl, ki, gi, ti⟩ := hrel
        have KI := hide ki
        have GI := hide gi
        have TI := hide ti
        have c24 := cellAt gi 24 _ (unhide HC24)
        clear ki gi ti
        by_cases hmn : m < f.n
        · obtain ⟨g, off, rfl, hth, hg1, hg2⟩ := unhide HGA m hmn
          have hth2 : World.there _ g (off + m * 2) 2 := fun j hj => by have := unhide TI g off rfl hth (m * 2 + j) (by omega); rwa [← Nat.add_assoc] at this
          have HTH := hide hth
          have d2 : decide (m < f.n) = true := by simpa using hmn
          have i1 : (0 : Int) ≤ (m : Int) := by omega
          have i2 : (m : Int) < (f.n : Int) := by omega
          clear hth
          go_wp2_with (first
            | (refine wpL_build rfl 54 #[(0, .const (.int .i64 99))] (by rfl) #[.int .i64 99, .int .i64 0] (by exact built_mb 99) ?_)
            | (refine wpL_store_mid rfl 54 (.tmp 71) (.tmp 70) rfl g (off + m * 2) #[.int .i64 99, .int .i64 0] rfl rfl hth2 size_mb mb_one ?_; intro wj kj tj))
          go_roundw
          case rel =>
            refine ⟨m + 1, by omega, by go_num, (unhide KI).trans kj fun i hi e => ?_, kj.at (unhide GI) (by show ¬ (_ = _); omega), fun g' off' h h' => tj _ _ _ (unhide TI g' off' h h')⟩
            have e : i = g := e
            have := (unhide KW).size
            omega
          case measure => simp [intOf]; omega
        · have d2 : decide (m < f.n) = false := by simpa using hmn
          go_wp2_with fail
          go_roundw
          case rel => exact ⟨k + 1, by omega, by go_num, unhide KI⟩
          case measure => simp [intOf]; omega
    · have d1 : decide ((k : Int) - 1 ≤ (L.length : Int)) = false := by simp; omega
      go_wp2_with fail
      go_ret
      exact ⟨rfl, unhide KW⟩
end Go.Proofs.Ytbhjeakaedbanaa
