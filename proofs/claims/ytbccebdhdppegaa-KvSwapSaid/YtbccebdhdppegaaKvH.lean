/-
  Keys with values: two stores that have the same are the same.
-/
import Derived.Test.YtbccebdhdppegaaKvG
import Derived.Laws.IdiomRangeMap
import Derived.Deep.LoopGhost
namespace Go.Proofs.Ytbccebdhdppegaa
open Go.ChangeShapes Go.WideShapes Go.ChangeAt Go.RowKit
set_option linter.unusedVariables false
attribute [local go_sem] bs_size bs_app bs_cut bs_tl bs_at
theorem eq_cell (v : List UInt8) (n : Int) (w : World) : (Op.equalIn 10000 56 (.agg #[str v, .int .i64 n]) (.agg #[str v, .int .i64 n])).run Try.prog w = .ok true w := by
  rw [run_equalIn_struct w 9999 _ _ _ Try.underlying56 (by kernel_rfl)]
  simp [go_sem, Op.eqFields]
attribute [local go_sem ↓] eq_cell
theorem came (L : List KV) {k : List UInt8} {d : DataW Unit} (h : ∀ zd, (dat L).atKey (.string k) zd = d) : ∃ c, fnd L k = some c ∧ d = (ent c).2 := by
  cases hf : fnd L k with
  | none =>
    exfalso
    have h1 := h .nil
    have h2 := h (.lit (.bool true))
    rw [dat_at, hf] at h1 h2
    rw [← h1] at h2
    cases h2
  | some c =>
    have h1 := h .nil
    rw [dat_at, hf] at h1
    exact ⟨c, rfl, h1.symm⟩
theorem cellR_at {pv : List UInt8} {pn : Int} {c : KV} {ps : List MemPlace} (h : cellR (.agg #[str pv, .int .i64 pn]) = some ((ent c).2, ps)) : pv = c.val ∧ pn = c.ver := by
  rw [cellR_mk] at h
  simp [ent] at h
  exact h.1
theorem grown_no {w w' : World} (k : Chg noBlk w w') (b : Option Nat) : w.grownBy w' b := ⟨k.os, k.tape, k.output, k.size, fun i hi _ => k.block i hi id⟩
theorem chg_iter {w wr w1 : World} {r : Nat} (k : Chg noBlk w wr) (g : wr.grownBy w1 (some r)) (hr : w.heap.size ≤ r) : Chg noBlk w w1 :=
  k.trans (Chg.grown wr g) fun i hi e => by have e : i = r := Option.some.inj e; omega
theorem two_keep {w2 w' : World} {b q : Nat} {u v : Value} (c0 : w2.cell? ⟨b, 0, none⟩ = some u) (c1 : w2.cell? ⟨q, 0, none⟩ = some v) (k : Chg noBlk w2 w') :
    Chg noBlk w2 w' ∧ w'.cell? ⟨b, 0, none⟩ = some u ∧ w'.cell? ⟨q, 0, none⟩ = some v := ⟨k, k.cell c0 id, k.cell c1 id⟩
section
variable {w : World} {b m b2 m2 : Nat} {L : List KV}
set_option maxRecDepth 100000 in
set_option maxHeartbeats 4000000 in
theorem equal_yes (h1 : MapAt w m L) (h2 : MapAt w m2 L) : Calls Try.prog 28 #[.map (some m), .map (some m2)] w (ToldN (.bool true) w) := by
  have l1 := fun ty => h1.len ty
  have l2 := fun ty => h2.len ty
  have H1 := hide h1
  have H2 := hide h2
  have hm2 := h2.lt
  clear h1 h2
  go_enter Try.func28, Try.ntmps28
  go_wp2_with ((with_reducible show wpList _ _ _ (_ :: _) _ _); at_range; refine wpList_range_own _ rfl _ 45 rfl 9 56 keyed Try.underlying45 cellR m L.length (dat L) rfl (unhide H1) ?_; intro w0 hrg0 hg0 hs0)
  go_frame
  have K0 := hide ((Chg.grown w hg0).mono (T := noBlk) fun i _ e => by cases e)
  have HR0 := hide hrg0
  clear hrg0 hg0 hs0 l1 l2
  go_loopw [18] (fun _ wr => ∃ (left : Lit → Bool) (cnt : Nat), wr.ranges Try.prog 9 cellR m w.heap.size L.length (dat L) left cnt ∧ Chg noBlk w wr)
    (fun _ wr => wr.rangeLeft m w.heap.size)
  case atStart => exact ⟨_, _, unhide HR0, unhide K0⟩
  case round =>
    obtain ⟨left, cnt, hrg, kw⟩ := hrel
    have KW := hide kw
    clear HR0 K0 kw
    go_wp2_with ((with_reducible show wpList _ _ _ (_ :: _) _ _); at_next; refine wpList_next_ranges _ rfl _ rfl 9 keyed cellR (fun k : List UInt8 => str k) (fun p : List UInt8 × Int => .agg #[str p.1, .int .i64 p.2]) (fun key kl hk => by obtain ⟨x, hx, _⟩ := Maps.keyOf_str Try.underlying9 hk; exact ⟨x, hx⟩) (fun v y hv => by obtain ⟨a, n, rfl, _⟩ := cellR_inv hv; exact ⟨(a, n), rfl⟩) m w.heap.size L.length _ _ _ rfl hrg ?_ ?_)
    · intro _ _
      go_wp2
      go_ret
      exact ⟨rfl, unhide KW⟩
    · intro x pv pn kl yd yp w1 cnt1 hkey hlx hv hat hrg1 hlt hg1 hs1 hen
      obtain ⟨x', ex, rfl, hx⟩ := Maps.keyOf_str Try.underlying9 hkey
      obtain rfl : x = x' := encStr_inj ex
      obtain ⟨c, hf, hy⟩ := came L hat
      subst hy
      obtain ⟨p1, p2⟩ := cellR_at hv
      have KW1 := hide (chg_iter (unhide KW) hg1 (Nat.le_refl _))
      have LK := hide (fun w' (k : Chg noBlk w w') => ((unhide H2).no k).look_ok hx)
      rw [hf, look_some hf] at LK
      have HR1 := hide hrg1
      have HLT := hide hlt
      obtain ⟨v, hv2⟩ : ∃ v, c.val = v := ⟨_, rfl⟩
      obtain ⟨n, hn2⟩ : ∃ n, c.ver = n := ⟨_, rfl⟩
      rw [hv2] at LK p1
      rw [hn2] at LK p2
      have HP1 := hide p1
      have HP2 := hide p2
      have OLD := hide hrg.left_eq
      clear hkey hlx hv hat hrg1 hlt hg1 hs1 hf hv2 hn2 ex hx p1 p2 hrg KW
      have t1 : True := True.intro
      have t2 : True := True.intro
      rw [unhide HP1, unhide HP2] at hen ⊢
      go_wp2_with ((with_reducible show wpList _ _ _ (_ :: _) _ _); first
        | (clear t1; refine wpL_alloc rfl 56 rfl _ zero_cel ?_; intro q w3 e3 k3 g3 z3; have e4 : w1.heap.size ≤ q := Nat.le_of_eq e3; clear e3 z3)
        | (refine wpL_store rfl 56 (.tmp 6) (.tmp 20) rfl q #[str v, .int .i64 n] rfl rfl _ _ g3 info_cel rfl (cel_one _ _) ?_; intro w4 k4 g5 z5; have K5 := hide (k3.past k4 e4); have lk := unhide LK _ ((unhide KW1).andNo (unhide K5)); clear g3 k4 z5)
        | (clear t2; refine wpL_alloc rfl 56 rfl _ zero_cel ?_; intro q2 w5 e5 k5 g6 z6; have e6 : w4.heap.size ≤ q2 := Nat.le_of_eq e5; clear e5 z6)
        | (refine wpL_store rfl 56 (.tmp 7) (.tmp 25) rfl q2 #[str v, .int .i64 n] rfl rfl _ _ g6 info_cel rfl (cel_one _ _) ?_; intro w6 k6 g7 z7; have K7 := hide (k5.past k6 e6); have g8 := (unhide K7).at g5 id; have c0 := cellAt g8 0 _ rfl; have c1 := cellAt g8 1 _ rfl; have c2 := cellAt g7 0 _ rfl; have c3 := cellAt g7 1 _ rfl; clear g6 k6 z7 lk))
      have K8 := hide ((unhide K5).andNo (unhide K7))
      have HR2 := hide ((unhide HR1).kept (grown_no (unhide K8) none) (by simp) (by simp))
      go_roundw
      case rel => exact ⟨_, cnt1, unhide HR2, (unhide KW1).andNo (unhide K8)⟩
      case measure => rw [(unhide HR2).left_eq, unhide OLD]; exact unhide HLT
theorem same_eq (h1 : StAt w b m L) (h2 : StAt w b2 m2 L) : Calls Try.prog 15 #[.pointer (some ⟨b, 0, none⟩), .pointer (some ⟨b2, 0, none⟩)] w (ToldN (.bool true) w) := by
  have i1 := hide (isnone_at h1)
  have i2 := hide (isnone_at h2)
  have HE := hide (fun w' (k : Chg noBlk w w') => equal_yes (h1.m.no k) (h2.m.no k))
  have c0 := h1.c0
  have c1 := h2.c0
  clear h1 h2
  go_enter Try.func15, Try.ntmps15
  have t1 : True := True.intro
  go_wp2_with (first
    | (clear t1; go_at_call 20; (with_reducible refine (unhide i1).mono ?_); rintro e w2 ⟨rfl, rfl⟩)
    | (go_at_call 20; (with_reducible refine (unhide i2).mono ?_); rintro e w2 ⟨rfl, rfl⟩))
  have KE := hide (fun w' k => two_keep (w' := w') c0 c1 k)
  have B0 := Chg.refl noBlk w
  go_region_held3 (fun w' => Chg noBlk w w' ∧ w'.cell? ⟨b, 0, none⟩ = some (.map (some m)) ∧ w'.cell? ⟨b2, 0, none⟩ = some (.map (some m2)))
    ((refine unhide KE _ ?_; go_split_ands; first | assumption | exact Chg.drew (by assumption) | exact Chg.drewN (by assumption) _ | exact Chg.andNo (by assumption) (by assumption)))
    (first | (go_at_call 28; (with_reducible refine (unhide HE _ B0.drew).mono ?_); rintro e w3 ⟨rfl, k3⟩))
  all_goals
    go_wp2_with fail
    go_ret
    exact ⟨rfl, B0.drew.andNo k3⟩
/-- both are none -/
theorem same_nil (w : World) : Calls Try.prog 15 #[.pointer none, .pointer none] w (Told (.bool true) w) := by
  have i1 := hide (isnone_nil w)
  go_enter Try.func15, Try.ntmps15
  go_wp2_with (go_at_call 20; (with_reducible refine (unhide i1).mono ?_); rintro e w2 ⟨rfl, rfl⟩)
  go_ret
  exact ⟨rfl, rfl⟩
end
end Go.Proofs.Ytbccebdhdppegaa
