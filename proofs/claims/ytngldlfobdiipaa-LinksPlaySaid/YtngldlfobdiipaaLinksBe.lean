/-
  Links: the document's Double.
-/
import Derived.Test.YtngldlfobdiipaaLinksBc
namespace Go.Proofs.Ytngldlfobdiipaa.Lk
open Go.ChangeShapes Go.WideShapes Go.ChangeAt Go.RowKit
set_option linter.unusedVariables false
attribute [local go_sem] bs_size bs_app bs_cut bs_tl bs_at
section
variable {w w' : World} {S : Nat → Prop} {b cap : Nat} {v : Value} {L : List ML}
theorem DoneR.pre {w2 : World} {r : Value} {M : List ML} {e : Ending} (h : DoneR S b cap r M w2 e w') (k : Chg noBlk w w2) : DoneR S b cap r M w e w' := by
  obtain ⟨he, k2, v', S', g, h2⟩ := h
  exact ⟨he, (k.no _).trans k2 fun _ _ e => e, v', S', fun i hi => ⟨((g i hi).1).imp id fun e => Nat.le_trans k.size e, (g i hi).2⟩, h2⟩
set_option maxRecDepth 100000 in
theorem rdouble_no (h : RefAt w S b v cap L) (hf : L.length ≤ 999) (x y : Int) {i : Int} (hi : hasN (sel L x y) i = false) :
    Calls Try.prog 14 #[.pointer (some ⟨b, 0, none⟩), .int .i64 x, .int .i64 y, .int .i64 i] w (ToldN (.int .i64 4) w) := by
  have HL := hide (rlist_any h (by omega) x y)
  obtain ⟨T, hT⟩ : ∃ T, sel L x y = T := ⟨_, rfl⟩
  rw [hT] at HL hi
  have hw := hasN_no.1 hi
  clear h hT hi
  by_cases i0 : i < 0
  · go_enter Try.func14, Try.ntmps14
    go_wp2_with (go_at_call 25; (with_reducible refine (unhide HL).mono ?_); rintro e w2 ⟨v2, rfl, k2, o2, f2⟩; obtain ⟨ad2, cp2, e2⟩ := own_form o2; subst e2)
    go_ret
    exact ⟨rfl, k2⟩
  · have i1 : (T.length : Int) ≤ i := by omega
    go_enter Try.func14, Try.ntmps14
    go_wp2_with (go_at_call 25; (with_reducible refine (unhide HL).mono ?_); rintro e w2 ⟨v2, rfl, k2, o2, f2⟩; obtain ⟨ad2, cp2, e2⟩ := own_form o2; subst e2)
    go_ret
    exact ⟨rfl, k2⟩
set_option maxRecDepth 100000 in
theorem rdouble_yes (h : RefAt w S b v cap L) (hf : L.length ≤ 999) (hcap : cap ≤ 64) (x y : Int) {k : Nat} {t : List UInt8} (hi : (sel L x y)[k]? = some t) :
    Calls Try.prog 14 #[.pointer (some ⟨b, 0, none⟩), .int .i64 x, .int .i64 y, .int .i64 (k : Int)] w (DoneR S b cap (.int .i64 (snd cap L ⟨x, y, t⟩)) (sndL cap L ⟨x, y, t⟩) w) := by
  have HL := hide (rlist_any h (by omega) x y)
  have HS := hide (fun w' (c : Chg noBlk w w') => (show Calls Try.prog 17 #[.pointer (some ⟨b, 0, none⟩), .agg #[.int .i64 x, .int .i64 y, str t]] w' (DoneR S b cap (.int .i64 (snd cap L ⟨x, y, t⟩)) (sndL cap L ⟨x, y, t⟩) w') from rsend_any (h.no c) hf hcap ⟨x, y, t⟩))
  obtain ⟨r, hr⟩ : ∃ r, snd cap L ⟨x, y, t⟩ = r := ⟨_, rfl⟩
  obtain ⟨M, hM⟩ : ∃ r, sndL cap L ⟨x, y, t⟩ = r := ⟨_, rfl⟩
  rw [hr, hM] at HS ⊢
  have hlt := (List.getElem?_eq_some_iff.1 hi).1
  have hfew := sel_len L x y
  obtain ⟨T, hT⟩ : ∃ T, sel L x y = T := ⟨_, rfl⟩
  rw [hT] at HL hi hlt hfew
  have HI := hide hi
  have i0 : (0 : Int) ≤ (k : Int) := by omega
  have i1 : (k : Int) < (T.length : Int) := by omega
  have i2 : ¬ (T.length : Int) ≤ (k : Int) := by omega
  clear h hT hi hr hM
  go_enter Try.func14, Try.ntmps14
  go_wp2_with (first
    | (go_at_call 25; (with_reducible refine (unhide HL).mono ?_); rintro e w2 ⟨v2, rfl, k2, o2, f2⟩; obtain ⟨g2, cp2, e2, x2⟩ := own_cell o2 (unhide HI); subst e2; have K2 := hide k2; clear o2 f2 k2)
    | (go_at_call 17; (with_reducible refine (unhide HS _ (unhide K2)).mono ?_); rintro e w4 d4; obtain ⟨rfl, k4, r4⟩ := id d4; have D4 := hide d4; clear k4 r4 d4))
  go_ret
  exact (unhide D4).pre (unhide K2)
theorem rdouble_any (h : RefAt w S b v cap L) (hf : L.length ≤ 999) (hcap : cap ≤ 64) (x y i : Int) :
    Calls Try.prog 14 #[.pointer (some ⟨b, 0, none⟩), .int .i64 x, .int .i64 y, .int .i64 i] w (DoneR S b cap (.int .i64 (dblE cap L x y i)) (dblL cap L x y i) w) := by
  unfold dblE dblL fndM
  cases hi : hasN (sel L x y) i
  · exact (rdouble_no h hf x y hi).mono fun e w' k => h.told k
  · obtain ⟨h0, h1⟩ := hasN_yes.1 hi
    obtain ⟨k, rfl⟩ := Int.eq_ofNat_of_zero_le h0
    have hk : k < (sel L x y).length := by omega
    have := rdouble_yes h hf hcap x y (k := k) (List.getElem?_eq_getElem hk)
    simpa [List.getD, List.getElem?_eq_getElem hk] using this
end
end Go.Proofs.Ytngldlfobdiipaa.Lk
