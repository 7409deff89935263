/-
  Slots: whatever is set, they are the document's.
-/
import Derived.Test.YtebefoadcbodaaaSlotsH
namespace Go.Proofs.Ytebefoadcbodaaa
open Go.ChangeShapes Go.WideShapes Go.ChangeAt Go.RowKit
set_option linter.unusedVariables false
theorem outs_take {w : World} {ad : Option Addr} {l : List OT} (h : OutsIn w ad l) (k : Nat) : OutsIn w ad (l.take k) := fun i a hi => h i a (by
  rw [List.getElem?_take] at hi
  split at hi
  · exact hi
  · simp at hi)
theorem outs_one {w : World} {b off k : Nat} {l : List OT} {o : OT} (h : OutsIn w (some ⟨b, off, none⟩) l) (hk : l[k]? = some o) : OutsIn w (some ⟨b, off + k * 6, none⟩) [o] := fun i a hi => by
  cases i with
  | succ i => simp at hi
  | zero =>
    simp at hi
    subst hi
    obtain ⟨hok, b2, off2, e, hr⟩ := h k o hk
    simp only [Option.some.injEq, Addr.mk.injEq, and_true] at e
    obtain ⟨rfl, rfl⟩ := e
    exact ⟨hok, b, off + k * 6, rfl, by simpa using hr⟩
theorem outs_no {w w' : World} {ad : Option Addr} {l : List OT} (h : OutsIn w ad l) (c : Chg noBlk w w') : OutsIn w' ad l := fun i a hi => by
  obtain ⟨hok, b, off, e, hr⟩ := h i a hi
  exact ⟨hok, b, off, e, range_kept hr c⟩
section
variable {w w' : World} {p n : Nat} {o q f : OT} {x : Option OT} {y z : Bool} {l : List OT}
theorem first_n (ad : Option Addr) (cap : Nat) (hl : l.length ≤ 60) (h : OutsIn w ad l) (hn : l.length = n) (hx : firstX l = x) (hf : x.getD oZero = f) (hy : x.isSome = y) : Calls Try.prog 8 #[.slice ad n cap] w (ToldN (.tuple #[.agg f.cells.toArray, .bool y]) w) := by
  subst hn hf hy hx
  exact first_at ad l cap w hl h
theorem same_n (h : SlotIs w p (stC x)) (hf : x.getD oZero = f) (hy : x.isSome = y) : Calls Try.prog 9 #[.pointer (some ⟨p, 0, none⟩), .agg f.cells.toArray, .bool y] w (ToldN (.bool true) w) := by
  subst hf hy
  exact same_any h
theorem set_n (h : SlotIs w p (stC x)) (hy : x.isSome = y) (hz : q.may = z) : Calls Try.prog 10 #[.pointer (some ⟨p, 0, none⟩), .agg q.cells.toArray] w (DidS p (.bool (z && !y)) (stC (setX x q)) w) := by
  subst hy hz
  have e : (q.may && !x.isSome) = (q.may && x.isNone) := by cases x <;> rfl
  rw [e]
  exact set_any h q
theorem one_some (q : OT) : (firstX [q]).isSome = q.may := by unfold firstX; cases h : q.may <;> simp [h]
end
/-- where the sets stand -/
def SetAt (w0 : World) (p : Nat) (l : List OT) (i : Value) (w : World) : Prop := ∃ k : Nat, k ≤ l.length ∧ i = .int .i64 (k : Int) ∧ SlotIs w p (stC (firstX (l.take k))) ∧ w0.heap.size ≤ p ∧ Chg noBlk w0 w
set_option maxRecDepth 100000 in
set_option maxHeartbeats 1600000 in
theorem setall_in (b off : Nat) (l : List OT) (cap : Nat) (w : World) (hl : l.length ≤ 60) (hcap : l.length ≤ cap) (h : OutsIn w (some ⟨b, off, none⟩) l) : Calls Try.prog 3 #[.slice (some ⟨b, off, none⟩) l.length cap] w (ToldN (.bool true) w) := by
  have HA := hide h
  clear h
  go_enter Try.func3, Try.ntmps3
  go_wp2_with (first
    | (go_at_call 7; refine (new_s _).mono ?_; rintro e w3 ⟨p, rfl, e3, k3, g3⟩; have S3 := hide g3; clear g3))
  have HB0 := hide (show SetAt w p l (.int .i64 0) w3 from ⟨0, by omega, rfl, unhide S3, by omega, k3⟩)
  clear k3 S3 e3
  go_loopw [4] (fun i wr => SetAt w p l i wr) (fun i wr => l.length + 1 - (intOf i).toNat)
  case atStart => exact unhide HB0
  case round =>
    clear HB0
    obtain ⟨k, hk, rfl, hs, hp, hc⟩ := hrel
    have HS := hide hs
    have HC := hide hc
    clear hs hc
    have i1 : (0 : Int) ≤ (k : Int) := by omega
    have i3 : (k : Int) ≤ (cap : Int) := by omega
    have d0 : decide (k ≤ l.length) = true := by simpa using hk
    obtain ⟨x, hx⟩ : ∃ x, firstX (l.take k) = x := ⟨_, rfl⟩
    obtain ⟨f, hf⟩ : ∃ f, x.getD oZero = f := ⟨_, rfl⟩
    obtain ⟨y, hy⟩ : ∃ y, x.isSome = y := ⟨_, rfl⟩
    rw [hx] at HS
    have FC := hide (first_n (n := k) (some ⟨b, off, none⟩) cap (by simp; omega) (outs_take (outs_no (unhide HA) (unhide HC)) k) (by simp; omega) hx hf hy)
    have HX := hide hx
    have HF := hide hf
    have HY := hide hy
    clear hx hf hy
    by_cases hlt : k < l.length
    · have d1 : ((k : Int) == (l.length : Int)) = false := by simp; omega
      obtain ⟨q, hq⟩ : ∃ q, l[k]? = some q := ⟨_, List.getElem?_eq_getElem hlt⟩
      obtain ⟨hok, b', off', e, hrng⟩ := unhide HA k q hq
      simp only [Option.some.injEq, Addr.mk.injEq, and_true] at e
      obtain ⟨rfl, rfl⟩ := e
      have i2 : (k : Int) < (l.length : Int) := by omega
      have i4 : (k : Int) + 1 ≤ (cap : Int) := by omega
      have HR := hide (range_kept hrng (unhide HC))
      have HQ := hide hq
      clear hq hok hrng
      go_wp2_with (first
        | (go_at_call 8; refine (unhide FC).mono ?_; rintro e w4 ⟨rfl, k4⟩)
        | (refine wpL_alloc rfl 29 rfl oZero.cells.toArray zero_outcome ?_; intro b5 w5 e5 k5 g5 z5)
        | (refine wpL_store rfl 29 (.tmp 5) (.tmp 25) rfl b5 f.cells.toArray rfl rfl _ _ g5 info_outcome rfl (all_oneCell_toArray f.one) ?_; intro w6 k6 g6 z6; have K6 := hide ((k4.andNo k5).past k6 (by have := k4.size; omega)); have G6 := hide g6; clear g5 g6)
        | (refine wpL_load rfl 29 (.tmp 5) rfl b5 rfl f.cells.toArray _ _ (unhide G6) _ Try.underlying29 rfl info_outcome ?_)
        | (go_at_call 9; refine (same_n ((unhide HS).no (unhide K6)) (unhide HF) (unhide HY)).mono ?_; rintro e w7 ⟨rfl, k7⟩; have K7 := hide ((unhide K6).andNo k7); have c7 := range_kept (unhide HR) (unhide K7) 3 (.string q.v) rfl; clear FC))
      · refine (once_true _).mono ?_
        rintro e w9 ⟨rfl, k9⟩
        go_wp2_with fail
        go_ret
        exact ⟨rfl, ((unhide HC).andNo (unhide K7)).andNo k9⟩
      obtain ⟨z, hz⟩ : ∃ z, q.may = z := ⟨_, rfl⟩
      obtain ⟨fq, hfq⟩ : ∃ fq, (firstX [q]).getD oZero = fq := ⟨_, rfl⟩
      have FO := hide (first_n (n := 1) (x := firstX [q]) (f := fq) (y := z) (some ⟨b, off + k * 6, none⟩) (cap - k) (by simp) (outs_one (outs_no (unhide HA) ((unhide HC).andNo (unhide K7))) (unhide HQ)) rfl rfl hfq ((one_some q).trans hz))
      have HZ := hide hz
      have hN : SlotIs w7 p (stC x) := (unhide HS).no (unhide K7)
      have HN := hide hN
      have HE := hide (first_next (unhide HQ))
      rw [unhide HX] at HE
      have HR7 := hide (range_kept (unhide HR) (unhide K7))
      clear hz hfq hN HS HR HX HF HA c7 HQ G6
      refine (unhide FO).mono ?_
      rintro e w8 ⟨rfl, k8⟩
      clear FO
      cases z <;> cases y
      all_goals
        go_wp2_with (first
          | (refine wpL_alloc rfl 29 rfl oZero.cells.toArray zero_outcome ?_; intro b9 w9 e9 k9 g9 z9)
          | (refine wpL_store rfl 29 (.tmp 7) (.tmp 52) rfl b9 fq.cells.toArray rfl rfl _ _ g9 info_outcome rfl (all_oneCell_toArray fq.one) ?_; intro w10 k10 g10 z10; have K10 := hide ((k8.andNo k9).past k10 (by have := k8.size; omega)); clear g9 g10)
          | (refine wpList_load_mid rfl 29 (.tmp 57) rfl b (off + k * 6) rfl q.cells _ (range_kept (unhide HR7) (unhide K10)) Try.underlying29 rfl info_outcome ?_)
          | (go_at_call 10; refine (set_n ((unhide HN).no (unhide K10)) (unhide HY) (unhide HZ)).mono ?_; rintro e w11 ⟨rfl, k11, g11⟩; have G11 := hide g11; clear g11))
        exact ⟨⟨k + 1, by omega, by go_num, by rw [unhide HE]; exact unhide G11, hp, (((unhide HC).andNo (unhide K7)).andNo (unhide K10)).past k11 hp⟩, by simp [intOf]; omega⟩
    · have d1 : ((k : Int) == (l.length : Int)) = true := by simp; omega
      go_wp2_with (first
        | (go_at_call 8; refine (unhide FC).mono ?_; rintro e w4 ⟨rfl, k4⟩)
        | (refine wpL_alloc rfl 29 rfl oZero.cells.toArray zero_outcome ?_; intro b5 w5 e5 k5 g5 z5)
        | (refine wpL_store rfl 29 (.tmp 5) (.tmp 25) rfl b5 f.cells.toArray rfl rfl _ _ g5 info_outcome rfl (all_oneCell_toArray f.one) ?_; intro w6 k6 g6 z6; have K6 := hide ((k4.andNo k5).past k6 (by have := k4.size; omega)); have G6 := hide g6; clear g5 g6)
        | (refine wpL_load rfl 29 (.tmp 5) rfl b5 rfl f.cells.toArray _ _ (unhide G6) _ Try.underlying29 rfl info_outcome ?_)
        | (go_at_call 9; refine (same_n ((unhide HS).no (unhide K6)) (unhide HF) (unhide HY)).mono ?_; rintro e w7 ⟨rfl, k7⟩; have K7 := hide ((unhide K6).andNo k7))
        | (go_at_call 6; refine (once_true _).mono ?_; rintro e w9 ⟨rfl, k9⟩))
      go_ret
      exact ⟨rfl, ((unhide HC).andNo (unhide K7)).andNo k9⟩
set_option maxRecDepth 100000 in
set_option maxHeartbeats 800000 in
theorem setall_nil (ad : Option Addr) (cap : Nat) (w : World) : Calls Try.prog 3 #[.slice ad 0 cap] w (ToldN (.bool true) w) := by
  have FC := hide (fun w => first_n (w := w) (l := []) (n := 0) (x := none) (f := oZero) (y := false) ad cap (by simp) (fun i a h => by simp at h) rfl rfl rfl rfl)
  go_enter Try.func3, Try.ntmps3
  go_wp2_with (first
    | (go_at_call 7; refine (new_s _).mono ?_; rintro e w3 ⟨p, rfl, e3, k3, g3⟩; have S3 := hide g3; clear g3))
  go_loop [4] (fun i => i = .int .i64 0) (fun _ => 0)
  case atStart => rfl
  case round =>
    subst hrel
    go_wp2_with (first
      | (go_at_call 8; refine (unhide FC _).mono ?_; rintro e w4 ⟨rfl, k4⟩)
      | (refine wpL_alloc rfl 29 rfl oZero.cells.toArray zero_outcome ?_; intro b5 w5 e5 k5 g5 z5)
      | (refine wpL_store rfl 29 (.tmp 5) (.tmp 25) rfl b5 oZero.cells.toArray rfl rfl _ _ g5 info_outcome rfl (all_oneCell_toArray oZero.one) ?_; intro w6 k6 g6 z6; have K6 := hide ((k4.andNo k5).past k6 (by have := k4.size; omega)); have G6 := hide g6; clear g5 g6)
      | (refine wpL_load rfl 29 (.tmp 5) rfl b5 rfl oZero.cells.toArray _ _ (unhide G6) _ Try.underlying29 rfl info_outcome ?_)
      | (go_at_call 9; refine (same_n (x := none) (SlotIs.no (unhide S3) (unhide K6)) rfl rfl).mono ?_; rintro e w7 ⟨rfl, k7⟩; have K7 := hide ((unhide K6).andNo k7))
      | (go_at_call 6; refine (once_true _).mono ?_; rintro e w9 ⟨rfl, k9⟩))
    go_ret
    exact ⟨rfl, (k3.andNo (unhide K7)).andNo k9⟩
theorem setall_out (ad : Option Addr) (n cap : Nat) (w : World) (hn : 60 < n) : Calls Try.prog 3 #[.slice ad n cap] w (ToldN (.bool true) w) := by
  go_enter Try.func3, Try.ntmps3
  go_wp2_with (first
    | (go_at_call 6; refine (once_true _).mono ?_; rintro e w9 ⟨rfl, k9⟩))
  go_ret
  exact ⟨rfl, k9⟩
/-- what a slice that is handed in is -/
theorem slice_way {H : Type} {enc : TypeId × Value → H} {P : Program} {w : World} {base : Nat} {spare : Nat → Bool} {held : Bool} {fuel : Nat} {t e : TypeId} {x : DataW H × List MemPlace} {ad : Option Addr} {len cap : Nat} (ht : P.underlying t = some (.slice e)) (h : DataW.trod enc P w base spare held fuel t [.slice ad len cap] = some x) :
    (ad = none ∧ len = 0 ∧ cap = 0) ∨ ∃ a, ad = some a ∧ len ≤ cap := by
  rcases slice_rows rfl ht h with h0 | ⟨a, ln, cp, rows, h0, hl, hmx, hrl, hrows⟩
  · simp only [List.cons.injEq, Value.slice.injEq, and_true] at h0
    exact .inl h0
  · simp only [List.cons.injEq, Value.slice.injEq, and_true] at h0
    obtain ⟨rfl, rfl, rfl⟩ := h0
    exact .inr ⟨a, rfl, hl⟩
theorem setall_any (ad : Option Addr) (l : List OT) (cap : Nat) (w : World) (h : OutsIn w ad l) (hw : (ad = none ∧ l.length = 0 ∧ cap = 0) ∨ ∃ a, ad = some a ∧ l.length ≤ cap) : Calls Try.prog 3 #[.slice ad l.length cap] w (ToldN (.bool true) w) := by
  cases l with
  | nil => exact setall_nil ad cap w
  | cons o r =>
    obtain ⟨hok, b, off, rfl, hr⟩ := h 0 o rfl
    by_cases hl : (o :: r).length ≤ 60
    · refine setall_in b off (o :: r) cap w hl ?_ h
      rcases hw with ⟨_, h2, _⟩ | ⟨_, _, h2⟩
      · simp at h2
      · exact h2
    · exact setall_out _ _ cap w (by omega)
end Go.Proofs.Ytebefoadcbodaaa
