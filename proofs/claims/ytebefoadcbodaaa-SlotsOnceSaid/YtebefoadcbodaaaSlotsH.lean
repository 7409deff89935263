/-
  Slots: what is told first is told for ever.
-/
import Derived.Test.YtebefoadcbodaaaSlotsG
namespace Go.Proofs.Ytebefoadcbodaaa
open Go.ChangeShapes Go.WideShapes Go.ChangeAt Go.RowKit
set_option linter.unusedVariables false
attribute [local go_sem ↓] eq_self eq_self6
theorem i64_and3 (n : Int) : bits .and .i64 n 3 = n % 4 := by
  have h3 : (BitVec.ofInt 64 3).toNat = 2 ^ 2 - 1 := by decide
  have key : (BitVec.ofInt 64 n &&& BitVec.ofInt 64 3).toNat = (n % ((2 ^ 64 : Nat) : Int)).toNat % 2 ^ 2 := by
    rw [BitVec.toNat_and, BitVec.toNat_ofInt, h3, Nat.and_two_pow_sub_one_eq_mod]
  show IntKind.i64.wrap ((BitVec.ofInt 64 n &&& BitVec.ofInt 64 3).toNat : Nat) = n % 4
  rw [key, IntKind.wrap_i64]
  omega
section
variable {w w' : World} {p : Nat} {o q : OT}
theorem set_some (h : SlotIs w p (stC (some q))) (o : OT) : Calls Try.prog 10 #[.pointer (some ⟨p, 0, none⟩), .agg o.cells.toArray] w (DidS p (.bool false) (stC (some q)) w) := by
  have h2 := set_any h o
  have e : (o.may && (some q).isNone) = false := by cases o.may <;> rfl
  rw [e] at h2
  exact h2
end
/-- where the sets stand -/
def OnceAt (w0 : World) (p b : Nat) (f : OT) (l : List OT) (i : Value) (w : World) : Prop := ∃ k : Nat, k ≤ l.length ∧ i = .int .i64 (k : Int) ∧ SlotIs w p (stC (some f)) ∧ OAt w b f ∧ Chg noBlk w0 w
set_option maxRecDepth 100000 in
set_option maxHeartbeats 1600000 in
theorem once_in (o : OT) (ad : Option Addr) (l : List OT) (cap : Nat) (w : World) (hl : l.length ≤ 60) (h : OutsIn w ad l) : Calls Try.prog 5 #[.agg o.cells.toArray, .slice ad l.length cap] w (ToldN (.bool true) w) := by
  have HA := hide h
  clear h
  obtain ⟨y, hy⟩ : ∃ y, bits .and .i64 o.k 3 = y := ⟨_, rfl⟩
  have y0 : 0 ≤ y ∧ y ≤ 3 := by rw [← hy, i64_and3]; omega
  obtain ⟨y1, y2⟩ := y0
  go_enter Try.func5, Try.ntmps5
  obtain ⟨f, hf⟩ : ∃ f, o.kind (1 + y % 3) = f := ⟨_, rfl⟩
  have FM := hide (show f.may = true from by rw [← hf]; exact may_yes.2 ⟨by show 1 ≤ 1 + y % 3; omega, by show 1 + y % 3 ≤ 3; omega⟩)
  have HF := hide hf
  clear hf
  go_wp2_with (first
    | (refine wpL_box rfl 29 (.tmp 0) rfl o.cells.toArray rfl ?_; intro b w1 e1 k1 g1 z1; have c1 := cellAt g1 0 (.int .i64 o.k) rfl)
    | (refine wpL_set rfl 3 (.tmp 20) (.tmp 19) rfl b 0 (.int .i64 (1 + y % 3)) rfl rfl rfl info_int _ _ g1 (by show 0 < 6; omega) ?_; intro w2 k2 g2 z2; have O2 : Hid (OAt w2 b f) := (by rw [← unhide HF]; exact hide g2); clear c1)
    | (go_at_call 7; refine (new_s _).mono ?_; rintro e w3 ⟨p, rfl, e3, k3, g3⟩; have S3 := hide g3; clear g3)
    | (refine wpL_load rfl 29 (.tmp 2) rfl b rfl f.cells.toArray _ _ ((unhide O2).no k3) _ Try.underlying29 rfl info_outcome ?_)
    | (go_at_call 10; refine (set_first (o := f) (unhide S3) (unhide FM)).mono ?_; rintro e w4 ⟨rfl, k4, g4⟩; have S4 := hide (show SlotIs w4 p (stC (some f)) from g4); clear g4))
  have bp : b < p := by have := (unhide O2).lt; omega
  have wb : w.heap.size ≤ b := by omega
  have C4 := hide ((((k1.past k2 (by omega)).andNo k3)).past k4 (by have := k1.size; omega))
  have HB0 := hide (show OnceAt w p b f l (.int .i64 0) w4 from ⟨0, by omega, rfl, unhide S4, k4.at ((unhide O2).no k3) (fun e => by have e : b = p := e; omega), unhide C4⟩)
  clear hy y1 y2 HF O2 k3 k4 S3 S4 C4
  go_loopw [6] (fun i wr => OnceAt w p b f l i wr) (fun i wr => l.length - (intOf i).toNat)
  case atStart => exact unhide HB0
  case round =>
    clear HB0
    obtain ⟨k, hk, rfl, hs, ho, hc⟩ := hrel
    have HS := hide hs
    have HO := hide ho
    have HC := hide hc
    clear hs ho hc
    by_cases hlt : k < l.length
    · have d1 : decide (k < l.length) = true := by simpa using hlt
      obtain ⟨q, hq⟩ : ∃ q, l[k]? = some q := ⟨_, List.getElem?_eq_getElem hlt⟩
      obtain ⟨hok, bb, off, rfl, hrng⟩ := unhide HA k q hq
      have i1 : (0 : Int) ≤ (k : Int) := by omega
      have i2 : (k : Int) < (l.length : Int) := by omega
      have HR := hide (range_kept hrng (unhide HC))
      clear hq hrng hok
      go_wp2_with (first
        | (go_at_call 11; refine (get_any (unhide HS)).mono ?_; rintro e w5 ⟨rfl, k5⟩)
        | (refine wpL_alloc rfl 29 rfl oZero.cells.toArray zero_outcome ?_; intro b6 w6 e6 k6 g6 z6)
        | (refine wpL_store rfl 29 (.tmp 7) (.tmp 35) rfl b6 f.cells.toArray rfl rfl _ _ g6 info_outcome rfl (all_oneCell_toArray f.one) ?_; intro w7 k7 g7 z7; have K7 := hide ((k5.andNo k6).past k7 (by have := k5.size; omega)); have G7 := hide g7; clear g7 g6)
        | (refine wpList_load_mid rfl 29 (.tmp 40) rfl bb (off + k * 6) rfl q.cells _ (range_kept (unhide HR) (unhide K7)) Try.underlying29 rfl info_outcome ?_)
        | (go_at_call 10; refine (set_some ((unhide HS).no (unhide K7)) q).mono ?_; rintro e w8 ⟨rfl, k8, g8⟩; have S8 := hide g8; have O8 := hide (show OAt w8 b f from k8.at ((unhide HO).no (unhide K7)) (fun e => by have e : b = p := e; omega)); have hp6 : p < b6 := (by have := (unhide HS).lt; have := k5.size; omega); have G8 := hide (show OAt w8 b6 f from k8.at (unhide G7) (fun e => by have e : b6 = p := e; omega)); obtain ⟨l0, l1, l2, l3, l4, l5⟩ := six (unhide O8); obtain ⟨m0, m1, m2, m3, m4, m5⟩ := six (unhide G8)))
      exact ⟨⟨k + 1, by omega, rfl, unhide S8, unhide O8, ((unhide HC).andNo (unhide K7)).past k8 (by omega)⟩, by simp [intOf]; omega⟩
    · have d1 : decide (k < l.length) = false := by simpa using hlt
      go_wp2_with (first
        | (go_at_call 11; refine (get_any (unhide HS)).mono ?_; rintro e w5 ⟨rfl, k5⟩)
        | (refine wpL_alloc rfl 29 rfl oZero.cells.toArray zero_outcome ?_; intro b6 w6 e6 k6 g6 z6)
        | (refine wpL_store rfl 29 (.tmp 9) (.tmp 55) rfl b6 f.cells.toArray rfl rfl _ _ g6 info_outcome rfl (all_oneCell_toArray f.one) ?_; intro w7 k7 g7 z7; have K7 := hide ((k5.andNo k6).past k7 (by have := k5.size; omega)); have G7 := hide g7; clear g7 g6)
        | (refine wpL_load rfl 29 (.tmp 2) rfl b rfl f.cells.toArray _ _ ((unhide HO).no (unhide K7)) _ Try.underlying29 rfl info_outcome ?_)
        | (go_at_call 10; refine (set_some ((unhide HS).no (unhide K7)) f).mono ?_; rintro e w8 ⟨rfl, k8, g8⟩; have O8 := hide (show OAt w8 b f from k8.at ((unhide HO).no (unhide K7)) (fun e => by have e : b = p := e; omega)); have hp6 : p < b6 := (by have := (unhide HS).lt; have := k5.size; omega); have G8 := hide (show OAt w8 b6 f from k8.at (unhide G7) (fun e => by have e : b6 = p := e; omega)); obtain ⟨l0, l1, l2, l3, l4, l5⟩ := six (unhide O8); obtain ⟨m0, m1, m2, m3, m4, m5⟩ := six (unhide G8))
        | (go_at_call 6; refine (once_true _).mono ?_; rintro e w9 ⟨rfl, k9⟩))
      go_ret
      exact ⟨rfl, (((unhide HC).andNo (unhide K7)).past k8 (by omega)).andNo k9⟩
theorem once_out (o : OT) (ad : Option Addr) (n cap : Nat) (w : World) (hn : 60 < n) : Calls Try.prog 5 #[.agg o.cells.toArray, .slice ad n cap] w (ToldN (.bool true) w) := by
  go_enter Try.func5, Try.ntmps5
  go_wp2_with (first
    | (refine wpL_box rfl 29 (.tmp 0) rfl o.cells.toArray rfl ?_; intro b w1 e1 k1 g1 z1)
    | (go_at_call 6; refine (once_true _).mono ?_; rintro e w9 ⟨rfl, k9⟩))
  go_ret
  exact ⟨rfl, k1.andNo k9⟩
theorem once_any (o : OT) (ad : Option Addr) (l : List OT) (cap : Nat) (w : World) (h : OutsIn w ad l) : Calls Try.prog 5 #[.agg o.cells.toArray, .slice ad l.length cap] w (ToldN (.bool true) w) := by
  by_cases hl : l.length ≤ 60
  · exact once_in o ad l cap w hl h
  · exact once_out o ad l.length cap w (by omega)
end Go.Proofs.Ytebefoadcbodaaa
