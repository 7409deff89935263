/-
  Links: Deliver, Drop.
-/
import Derived.Test.YtngldlfobdiipaaLinksG
namespace Go.Proofs.Ytngldlfobdiipaa.Lk
open Go.ChangeShapes Go.WideShapes Go.ChangeAt Go.RowKit
set_option linter.unusedVariables false
attribute [local go_sem] bs_size bs_app bs_cut bs_tl bs_at
section
variable {w w2 w3 w' : World} {b m cap : Nat} {L M : List ML} {F : Hd} {r r' e : Ending} {v : Value}
theorem DidK.pre (h : DidK r b m cap F v M w2 e w') (k : Chg noBlk w w2) : DidK r b m cap F v M w e w' := by
  obtain ⟨F', he, k0, h0, r0⟩ := h
  exact ⟨F', he, (k.no _).trans k0 fun _ _ e => e, h0, fun c d g hg => (r0 c d g hg).imp id fun e => Nat.le_trans k.size e⟩
/-- a variable made ahead of it is written behind it -/
theorem DidK.post {q : Nat} (h : DidK r b m cap F v M w2 e w') (k : Chg noBlk w w2) (hl : LkAt w b m cap L F) (hq : w.heap.size ≤ q) (hq2 : q < w2.heap.size) (k3 : Chg (oneBlk q) w' w3) : DidK r' b m cap F v M w r' w3 := by
  obtain ⟨F', he, k0, h0, r0⟩ := h.pre k
  obtain ⟨F2, _, _, h2, r2⟩ := h
  have hm := hl.m.lt
  have hb := hl.lt
  obtain ⟨F', he, k0, h0, r0⟩ := (show DidK r b m cap F v M w2 e w' from ⟨F2, ‹_›, ‹_›, h2, r2⟩)
  refine ⟨F', rfl, ((k.no _).trans k0 fun _ _ e => e).trans k3 fun i hi e => by have e : i = q := e; omega, h0.kept k3 (fun e => by have e : b = q := e; omega) (fun e => by have e : m = q := e; omega) fun c d g hg e => ?_, fun c d g hg => (r0 c d g hg).imp id fun e => Nat.le_trans k.size e⟩
  have e : g = q := e
  rcases r0 c d g hg with ⟨c', d', hg'⟩ | hg'
  · have := hl.m.rows.lt hg'
    omega
  · omega
end
theorem LkAt.past {w : World} {b m cap : Nat} {L : List ML} {F : Hd} (h : LkAt w b m cap L F) (x y : Int) : ∀ q, w.heap.size ≤ q → ¬ lkBlk m (F x y) q := fun q hq e => by
  rcases e with e | e
  · have := h.m.lt
    omega
  · have := h.m.rows.lt e
    omega
section
variable {w w' : World} {b m cap : Nat} {L : List ML} {F : Hd} {S : Nat → Prop}
set_option maxRecDepth 100000 in
theorem deliver_yes (h : LkAt w b m cap L F) (hf : L.length ≤ 1000) {x y : Int} (hx : wfI x) (hy : wfI y) {k : Nat} {t : List UInt8} (hi : (sel L x y)[k]? = some t) :
    Calls Try.prog 10 #[.pointer (some ⟨b, 0, none⟩), .int .i64 x, .int .i64 y, .int .i64 (k : Int)] w (DidK (.returned (.tuple #[.agg (ML.cells ⟨x, y, t⟩).toArray, .int .i64 0])) b m cap F (F x y) (rmv x y k L) w) := by
  have HF := hide (fun w' (c : Chg noBlk w w') => find_yes (h.no c) hx hy hi hf)
  have HT := hide (fun w' (c : Chg noBlk w w') => take_at (h.no c) hf hx hy (List.getElem?_eq_some_iff.1 hi).1)
  have HS := hide h
  have HB := hide (h.past x y)
  obtain ⟨z, hz⟩ : ∃ z, z = (⟨x, y, t⟩ : ML) := ⟨_, rfl⟩
  rw [← hz] at HF ⊢
  obtain ⟨M, hM⟩ : ∃ M, rmv x y k L = M := ⟨_, rfl⟩
  obtain ⟨v, hv⟩ : ∃ v, F x y = v := ⟨_, rfl⟩
  rw [hM, hv] at HT ⊢
  rw [hv] at HB
  clear h hx hy hi hf hz hM hv
  have tk : True := True.intro
  go_enter Try.func10, Try.ntmps10
  go_wp2_with (first
    | (go_at_call 23; (with_reducible refine (unhide HF _ k1).mono ?_); rintro e w2 ⟨rfl, k2⟩; have g2 := k2.at g1 id)
    | (go_at_call 24; (with_reducible refine (unhide HT _ (unhide K3)).mono ?_); rintro e w4 h4; obtain ⟨F4, rfl, k4, l4, r4⟩ := id h4; have g4 := k4.at g3 (unhide HQ); have H4 := hide h4; clear k4 l4 r4 h4)
    | ((with_reducible show wpList _ _ _ (_ :: _) _ _); first
      | (clear tk; refine wpL_alloc rfl 33 rfl _ zero_mail ?_; intro q w1 e1 k1 g1 z1; have eq0 : w.heap.size ≤ q := Nat.le_of_eq e1; clear e1 z1)
      | (refine wpL_store rfl 33 (.tmp 8) (.tmp 16) rfl q z.cells.toArray rfl rfl _ _ g2 info_mail rfl (all_oneCell_toArray (ML.one _)) ?_; intro w3 k3 g3 z3; have K3 := hide ((k1.andNo k2).past k3 eq0); have HQ := hide (show ¬ lkBlk m v q from unhide HB q eq0))
      | (refine wpL_load rfl 33 (.tmp 8) rfl q rfl z.cells.toArray _ _ g4 _ Try.underlying33 rfl info_mail ?_)
      | (refine wpL_store rfl 33 (.tmp 8) (.tmp 26) rfl q z.cells.toArray rfl rfl _ _ g4 info_mail rfl (all_oneCell_toArray (ML.one _)) ?_; intro w5 k5 g5 z5)))
  refine bodyPost_ret (results_row_tmp rfl _ _ q _ _ _ _ rfl g5 Try.underlying33 rfl info_mail) rfl ?_
  exact (unhide H4).post (unhide K3) (unhide HS) eq0 (lt_of_block g3) k5
set_option maxRecDepth 100000 in
theorem deliver_no (h : LkAt w b m cap L F) (hf : L.length ≤ 1000) {x y : Int} (hx : wfI x) (hy : wfI y) {i : Int} (hi : hasN (sel L x y) i = false) :
    Calls Try.prog 10 #[.pointer (some ⟨b, 0, none⟩), .int .i64 x, .int .i64 y, .int .i64 i] w (ToldM mZero 4 w) := by
  have HF := hide (fun w' (c : Chg noBlk w w') => find_no (h.no c) hx hy hi)
  clear h hx hy hi hf
  have tk : True := True.intro
  go_enter Try.func10, Try.ntmps10
  go_wp2_with (first
    | (go_at_call 23; (with_reducible refine (unhide HF _ k1).mono ?_); rintro e w2 ⟨rfl, k2⟩; have g2 := k2.at g1 id)
    | ((with_reducible show wpList _ _ _ (_ :: _) _ _); first
      | (clear tk; refine wpL_alloc rfl 33 rfl _ zero_mail ?_; intro q w1 e1 k1 g1 z1; have eq0 : w.heap.size ≤ q := Nat.le_of_eq e1; clear e1 z1)
      | (refine wpL_store rfl 33 (.tmp 8) (.tmp 16) rfl q mZero.cells.toArray rfl rfl _ _ g2 info_mail rfl (all_oneCell_toArray (ML.one _)) ?_; intro w3 k3 g3 z3; have K3 := hide ((k1.andNo k2).past k3 eq0))
      | (refine wpL_load rfl 33 (.tmp 8) rfl q rfl mZero.cells.toArray _ _ g3 _ Try.underlying33 rfl info_mail ?_)
      | (refine wpL_store rfl 33 (.tmp 8) (.tmp 26) rfl q mZero.cells.toArray rfl rfl _ _ g3 info_mail rfl (all_oneCell_toArray (ML.one _)) ?_; intro w5 k5 g5 z5)))
  refine bodyPost_ret (results_row_tmp rfl _ _ q _ _ _ _ rfl g5 Try.underlying33 rfl info_mail) rfl ?_
  exact ⟨rfl, (unhide K3).past k5 eq0⟩
/-- told v: and the links have L, in slices that lay there or are new -/
theorem DidK.told {v : Value} {L : List ML} {z : Value} (h : LkAt w b m cap L F) {e : Ending} {w' : World} (k : ToldN v w e w') : DidK (.returned v) b m cap F z L w e w' := by
  obtain ⟨rfl, k⟩ := k
  exact ⟨F, rfl, k.no _, h.no k, fun c d g hg => .inl ⟨c, d, hg⟩⟩
theorem deliver_any (h : LkAt w b m cap L F) (hf : L.length ≤ 1000) {x y : Int} (hx : wfI x) (hy : wfI y) (i : Int) :
    Calls Try.prog 10 #[.pointer (some ⟨b, 0, none⟩), .int .i64 x, .int .i64 y, .int .i64 i] w (DidK (.returned (.tuple #[.agg (fndM L x y i).cells.toArray, .int .i64 (fndE L x y i)])) b m cap F (F x y) (dlv L x y i) w) := by
  unfold fndM fndE dlv
  cases hi : hasN (sel L x y) i
  · exact (deliver_no h hf hx hy hi).mono fun e w' k => DidK.told h k
  · obtain ⟨h0, h1⟩ := hasN_yes.1 hi
    obtain ⟨k, rfl⟩ := Int.eq_ofNat_of_zero_le h0
    have hk : k < (sel L x y).length := by omega
    have := deliver_yes h hf hx hy (k := k) (List.getElem?_eq_getElem hk)
    simpa [List.getD, List.getElem?_eq_getElem hk] using this
set_option maxRecDepth 100000 in
theorem drop_any (h : LkAt w b m cap L F) (hf : L.length ≤ 1000) {x y : Int} (hx : wfI x) (hy : wfI y) (i : Int) :
    Calls Try.prog 12 #[.pointer (some ⟨b, 0, none⟩), .int .i64 x, .int .i64 y, .int .i64 i] w (DidK (.returned (.int .i64 (fndE L x y i))) b m cap F (F x y) (dlv L x y i) w) := by
  have HD := hide (deliver_any h hf hx hy i)
  have HS := hide h
  obtain ⟨z, hz⟩ : ∃ z, fndM L x y i = z := ⟨_, rfl⟩
  obtain ⟨n, hn⟩ : ∃ z, fndE L x y i = z := ⟨_, rfl⟩
  obtain ⟨M, hM⟩ : ∃ M, dlv L x y i = M := ⟨_, rfl⟩
  obtain ⟨v, hv⟩ : ∃ v, F x y = v := ⟨_, rfl⟩
  rw [hz, hn, hM, hv] at HD
  rw [hn, hM, hv]
  clear h hf hx hy hz hn hM hv
  go_enter Try.func12, Try.ntmps12
  go_wp2_with (first
    | (go_at_call 10; (with_reducible refine (unhide HD).mono ?_); rintro e w1 ⟨F', rfl, k1, h1, r1⟩)
    | ((with_reducible show wpList _ _ _ (_ :: _) _ _); first
      | (refine wpL_alloc rfl 33 rfl _ zero_mail ?_; intro q w2 e2 k2 g2 z2; have eq2 : w1.heap.size ≤ q := Nat.le_of_eq e2; clear e2 z2)
      | (refine wpL_store rfl 33 (.tmp 9) (.tmp 17) rfl q z.cells.toArray rfl rfl _ _ g2 info_mail rfl (all_oneCell_toArray (ML.one _)) ?_; intro w3 k3 g3 z3; have K3 := k2.past k3 eq2)))
  go_ret
  exact ⟨F', rfl, k1.andNo K3, h1.no K3, r1⟩
end
end Go.Proofs.Ytngldlfobdiipaa.Lk
