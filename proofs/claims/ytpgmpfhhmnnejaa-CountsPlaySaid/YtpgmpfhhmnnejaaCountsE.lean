/-
  Are counters these? The chapter's counters; ones that are none.
-/
import Derived.Test.YtpgmpfhhmnnejaaCountsD

namespace Go.Proofs.Ytpgmpfhhmnnejaa
open Go.ChangeShapes Go.WideShapes Go.ChangeAt Go.RowKit
set_option linter.unusedVariables false
/-- told: so; nothing that was there has turned -/
def ToldB (v : Bool) (w : World) (e : Ending) (w' : World) : Prop := e = .returned (.bool v) ∧ Chg noBlk w w'
section
variable {w w' : World} {b g q cap : Nat} {l : List Int} {S : Nat → Prop} {k n : Nat} {x y i : Int} {p : Value}
/-- gone through so far -/
def gone (l : List Int) (k : Nat) : List Int := List.replicate k (-1) ++ l.drop k
theorem gone_len {k : Nat} (hk : k ≤ l.length) : (gone l k).length = l.length := by simp [gone]; omega
theorem gone_at {k : Nat} {x : Int} (hx : l[k]? = some x) : (gone l k)[k]? = some x := by unfold gone; rw [List.getElem?_append_right (by simp)]; simp [hx]
theorem gone_next {k : Nat} (hk : k < l.length) : (gone l k).set k (-1) = gone l (k + 1) := by
  unfold gone
  rw [List.set_append_right _ _ (by simp), List.drop_eq_getElem_cons hk, List.replicate_succ', List.append_assoc]
  simp only [List.length_replicate, Nat.sub_self, List.set_cons_zero]
  rfl
/-- where they are held against each other -/
def SameAt (w0 : World) (q cap : Nat) (l : List Int) (i : Value) (w : World) : Prop := ∃ k : Nat, k ≤ l.length ∧ i = .int .i64 (k : Int) ∧ LAt w q cap (gone l k) ∧ Chg noBlk w0 w
set_option maxRecDepth 100000 in
set_option maxHeartbeats 1000000 in
theorem same_at (h : CAt w b g l) (hL : LAt w q cap l) : Calls Try.prog 12 #[.pointer (some ⟨b, 0, none⟩), .slice (some ⟨q, 0, none⟩) l.length cap] w (ToldB true w) := by
  have H := hide h
  have HL := hide hL
  have CL := hide (list_at h)
  have f64 := h.fit.few
  clear h hL
  go_enter Try.func12, Try.ntmps12
  go_wp2_with (first
    | (go_at_call 14; refine (unhide CL).mono ?_; rintro e w1 ⟨q1, cap1, rfl, hq1, k1, h1⟩; have H1 := hide h1; have K1 := hide k1; clear h1 k1 CL))
  have HS0 := hide (show SameAt w q1 cap1 l (.int .i64 0) w1 from ⟨0, by omega, rfl, by simpa [gone] using unhide H1, unhide K1⟩)
  clear H1 K1
  go_loopw [6] (fun i wr => SameAt w q1 cap1 l i wr) (fun i wr => l.length - (intOf i).toNat)
  case atStart => exact unhide HS0
  case round =>
    clear HS0
    obtain ⟨k, hk, rfl, hI, hc⟩ := hrel
    have HW := hide ((unhide H).no hc)
    have HV := hide ((unhide HL).no hc)
    have HI := hide hI
    have HC := hide hc
    clear hI hc
    by_cases hlt : k < l.length
    · have d1 : decide (k < l.length) = true := by simpa using hlt
      obtain ⟨x, hx⟩ : ∃ x, l[k]? = some x := ⟨_, List.getElem?_eq_getElem hlt⟩
      have hl2 := gone_len hk
      have i1 : (0 : Int) ≤ (k : Int) := by omega
      have i2 : (k : Int) < (l.length : Int) := by omega
      have c1 := (unhide HV).cell hx
      have c2 := (unhide HI).cell (gone_at hx)
      have G := hide (fun n => get_at ((unhide HW).drewN n) hx)
      have HX := hide hx
      have HL2 := hide hl2
      clear hx hl2
      go_wp2_with fail
      go_quiet ((go_at_call 13; exact quiet_told (unhide G _)))
      go_wp2_with (first
        | (refine wpL_lset rfl 2 (.tmp 41) (.const (.int .i64 (-1))) rfl q1 k cap1 (gone l k) (-1) rfl rfl size_i64 ((unhide HI).drewN _) (by rw [unhide HL2]; exact hlt) ?_; intro w3 k3 h3 z3))
      go_roundw
      case rel =>
        rw [gone_next hlt] at h3
        exact ⟨k + 1, by omega, by go_num, h3, ((unhide HC).drewN _).trans k3 fun i hi e => by have e : i = q1 := e; omega⟩
      case measure => simp [intOf]; omega
    · have d1 : decide (k < l.length) = false := by simpa using hlt
      have C1 := hide (get_not (hide (has_not (i := -1) (hide (count_at (unhide HW) rfl)) (.inl (by omega)))))
      have C2 := hide (get_not (hide (has_not (i := (l.length : Int)) (hide (count_at (unhide HW) rfl)) (.inr (by omega)))))
      go_wp2_with (first
        | (go_at_call 13; refine (unhide C1).mono ?_; rintro e w' ⟨rfl, rfl⟩; clear C1)
        | (go_at_call 13; refine (unhide C2).mono ?_; rintro e w' ⟨rfl, rfl⟩))
      go_ret
      exact ⟨rfl, unhide HC⟩
end
set_option maxRecDepth 100000 in
set_option maxHeartbeats 1000000 in
theorem added_any (w : World) : Calls Try.prog 6 #[] w (ToldB true w) := by
  have NW := hide (new_c (n := 2) (by omega) (by omega) w)
  go_enter Try.func6, Try.ntmps6
  go_wp2_with fail
  refine (unhide NW).mono ?_
  rintro e w1 ⟨b, g, rfl, hb, hg, k1, h1⟩
  have C1 := hide (add_at (k := 1) (x := 0) (by' := 5) h1 (by omega) (by omega) (by rfl))
  have K1 := hide k1
  clear h1 k1 NW
  go_wp2_with fail
  refine (unhide C1).mono ?_
  rintro e w2 ⟨rfl, k2, h2⟩
  rw [show up 0 5 = 5 from rfl] at h2 ⊢
  have C2 := hide (add_at (k := 1) (x := 5) (by' := 4611686018427387904) h2 (by omega) (by omega) (by rfl))
  have K2 := hide ((unhide K1).trans k2 fun i hi e => by have e : i = g := e; omega)
  clear h2 k2 C1 K1
  go_wp2_with fail
  refine (unhide C2).mono ?_
  rintro e w3 ⟨rfl, k3, h3⟩
  rw [show up 5 4611686018427387904 = 4611686018427387904 from rfl] at h3 ⊢
  have C3 := hide (add_not (i := 2) (by' := 1) h3 (by omega) (.inr (by decide)))
  have C4 := hide (add_arg (i := 0) (by' := -1) h3 (by omega))
  have CL := hide (list_at h3)
  have K3 := hide ((unhide K2).trans k3 fun i hi e => by have e : i = g := e; omega)
  clear h3 k3 C2 K2
  go_wp2_with fail
  refine (unhide C3).mono ?_
  rintro e w4 ⟨rfl, rfl⟩
  go_wp2_with fail
  refine (unhide C4).mono ?_
  rintro e w4 ⟨rfl, rfl⟩
  go_wp2_with fail
  refine (unhide CL).mono ?_
  rintro e w4 ⟨q, cap, rfl, hq, k4, h4⟩
  have c0 := h4.cell (k := 0) (x := 0) rfl
  have c1 := h4.cell (k := 1) (x := 4611686018427387904) rfl
  clear h4
  go_wp2
  go_ret
  exact ⟨rfl, (unhide K3).andNo k4⟩
theorem get_none {w : World} {p : Value} (h : IsNone w p) (i : Int) : Calls Try.prog 13 #[p, .int .i64 i] w (Told (.int .i64 0) w) :=
  get_not (hide (has_not (n := 0) (hide (count_no h)) (by omega)))
theorem built_none : Try.prog.built 44 [] = some #[.slice none 0 0] := by kernel_rfl
set_option maxRecDepth 100000 in
set_option maxHeartbeats 1000000 in
theorem none_any (i by' : Int) (w : World) : Calls Try.prog 4 #[.agg #[.int .i64 i, .int .i64 by']] w (ToldB true w) := by
  go_enter Try.func4, Try.ntmps4
  go_wp2_with (first
    | (refine wpL_box rfl 35 (.tmp 0) rfl _ rfl ?_; intro bx w0 e0 k0 g0 z0))
  have G0 := hide g0
  have K0 := hide k0
  clear g0 k0 e0 z0
  go_loopw [3, 4] (fun p t wr => ∃ k : Nat, k ≤ 2 ∧ t = .int .i64 (k : Int) ∧ IsNone wr p ∧ Chg noBlk w0 wr) (fun p t wr => 2 - (intOf t).toNat)
  case atStart => exact ⟨0, by omega, rfl, .inl rfl, Chg.refl _ _⟩
  case round =>
    obtain ⟨k, hk, rfl, hn, kw⟩ := hrel
    have gb := kw.at (unhide G0) id
    have c0 := cellAt gb 0 (.int .i64 i) rfl
    have c1 := cellAt gb 1 (.int .i64 by') rfl
    have KW := hide kw
    have CA := hide (add_none hn i by')
    have CG := hide (get_none hn i)
    have CL := hide (list_no hn)
    have CC := hide (copy_no hn)
    clear hn kw gb
    by_cases hlt : k < 2
    · have d1 : decide ((k : Int) < 2) = true := by simp; omega
      go_wp2_with (first
        | (go_at_call 10; refine (unhide CA).mono ?_; rintro e w' ⟨rfl, rfl⟩)
        | (go_at_call 13; refine (unhide CG).mono ?_; rintro e w' ⟨rfl, rfl⟩)
        | (go_at_call 14; refine (unhide CL).mono ?_; rintro e w' ⟨rfl, rfl⟩)
        | (go_at_call 9; refine (unhide CC).mono ?_; rintro e w' ⟨rfl, rfl⟩)
        | (refine wpL_build rfl 44 #[] rfl #[.slice none 0 0] built_none ?_)
        | (refine wpL_box rfl 44 (.tmp 44) rfl _ rfl ?_; intro b2 w2 e2 k2 g2 z2))
      go_roundw
      case rel => exact ⟨k + 1, by omega, by go_num, .inr ⟨b2, rfl, g2⟩, (unhide KW).andNo k2⟩
      case measure => simp [intOf]; omega
    · have d1 : decide ((k : Int) < 2) = false := by simp; omega
      go_wp2_with (first
        | (go_at_call 6; refine (added_any _).mono ?_; rintro e w4 ⟨rfl, k4⟩))
      go_ret
      exact ⟨rfl, ((unhide K0).andNo (unhide KW)).andNo k4⟩
end Go.Proofs.Ytpgmpfhhmnnejaa
