/-
  Logs: contracts of slices.Equal, Begins, check.
-/
import Derived.Test.YtfffgegdcgfakaaLogsD
namespace Go.Proofs.Ytfffgegdcgfakaa
open Go.ChangeShapes Go.WideShapes Go.ChangeAt Go.RowKit
set_option linter.unusedVariables false
attribute [local go_sem] bs_size bs_app bs_cut bs_tl bs_at
attribute [local go_sem ↓] eq_ent
theorem ents_same {E F : List ET} (hl : E.length = F.length) (h : ∀ j, j < E.length → E[j]? = F[j]?) : decide (E = F) = true := by
  refine decide_eq_true (List.ext_getElem? fun i => ?_)
  by_cases hi : i < E.length
  · exact h i hi
  · rw [List.getElem?_eq_none (by omega), List.getElem?_eq_none (by omega)]
theorem ents_not {E F : List ET} {k : Nat} {x y : ET} (hx : E[k]? = some x) (hy : F[k]? = some y) (h : eqEb x y = false) : decide (E = F) = false := by
  refine decide_eq_false fun e => ?_
  subst e
  rw [hx] at hy
  cases hy
  rw [eqEb_self] at h
  cases h
set_option maxRecDepth 100000 in
set_option maxHeartbeats 1000000 in
theorem equal_any {w : World} {ad1 ad2 : Option Addr} {E F : List ET} (cap1 cap2 : Nat) (h1 : RowsIn ET.cells (fun _ => True) 7 w ad1 E) (h2 : RowsIn ET.cells (fun _ => True) 7 w ad2 F) (hn : E.length ≤ 100000) :
    Calls Try.prog 36 #[.slice ad1 E.length cap1, .slice ad2 F.length cap2] w (ToldQ (.bool (decide (E = F))) w) := by
  by_cases hl : E.length = F.length
  · have d1 : ((E.length : Int) != (F.length : Int)) = false := by rw [hl]; simp
    have HL := hide hl
    have H1 := hide h1
    have H2 := hide h2
    clear h1 h2 hl
    go_enter Try.func36, Try.ntmps36
    go_wp2
    go_loopw [13] (fun i wr => ∃ (k m : Nat), k ≤ E.length ∧ i = .int .i64 (k : Int) ∧ (∀ j, j < k → E[j]? = F[j]?) ∧ wr = w.drewN m) (fun i wr => E.length - (intOf i).toNat)
    case atStart => exact ⟨0, 0, by omega, rfl, fun j hj => by omega, rfl⟩
    case round =>
      obtain ⟨k, m, hk, rfl, hg, rfl⟩ := hrel
      have HG := hide hg
      clear hg
      by_cases hlt : k < E.length
      · have d2 : decide (k < E.length) = true := by simpa using hlt
        obtain ⟨x, hx⟩ : ∃ x, E[k]? = some x := ⟨_, List.getElem?_eq_getElem hlt⟩
        obtain ⟨y, hy⟩ : ∃ y, F[k]? = some y := ⟨_, List.getElem?_eq_getElem (by have := unhide HL; omega)⟩
        obtain ⟨_, g1, o1, rfl, r1⟩ := unhide H1 k x hx
        obtain ⟨_, g2, o2, rfl, r2⟩ := unhide H2 k y hy
        have i1 : (0 : Int) ≤ (k : Int) := by omega
        have i2 : (k : Int) < (E.length : Int) := by omega
        have i3 : (k : Int) < (F.length : Int) := by have := unhide HL; omega
        have HX := hide hx
        have HY := hide hy
        obtain ⟨a1, a2, a3, a4, a5, a6, a7⟩ := x
        obtain ⟨c1, c2, c3, c4, c5, c6, c7⟩ := y
        have x0 : w.cell? ⟨g1, o1 + k * 7, none⟩ = _ := r1 0 _ rfl
        have x1 : w.cell? ⟨g1, o1 + k * 7 + 1, none⟩ = _ := r1 1 _ rfl
        have x2 : w.cell? ⟨g1, o1 + k * 7 + 2, none⟩ = _ := r1 2 _ rfl
        have x3 : w.cell? ⟨g1, o1 + k * 7 + 3, none⟩ = _ := r1 3 _ rfl
        have x4 : w.cell? ⟨g1, o1 + k * 7 + 4, none⟩ = _ := r1 4 _ rfl
        have x5 : w.cell? ⟨g1, o1 + k * 7 + 5, none⟩ = _ := r1 5 _ rfl
        have x6 : w.cell? ⟨g1, o1 + k * 7 + 6, none⟩ = _ := r1 6 _ rfl
        have y0 : w.cell? ⟨g2, o2 + k * 7, none⟩ = _ := r2 0 _ rfl
        have y1 : w.cell? ⟨g2, o2 + k * 7 + 1, none⟩ = _ := r2 1 _ rfl
        have y2 : w.cell? ⟨g2, o2 + k * 7 + 2, none⟩ = _ := r2 2 _ rfl
        have y3 : w.cell? ⟨g2, o2 + k * 7 + 3, none⟩ = _ := r2 3 _ rfl
        have y4 : w.cell? ⟨g2, o2 + k * 7 + 4, none⟩ = _ := r2 4 _ rfl
        have y5 : w.cell? ⟨g2, o2 + k * 7 + 5, none⟩ = _ := r2 5 _ rfl
        have y6 : w.cell? ⟨g2, o2 + k * 7 + 6, none⟩ = _ := r2 6 _ rfl
        clear r1 r2 hx hy
        cases hq : eqEb ⟨a1, a2, a3, a4, a5, a6, a7⟩ ⟨c1, c2, c3, c4, c5, c6, c7⟩
        · have HE := hide (ents_not (unhide HX) (unhide HY) hq)
          clear HX HY
          go_wp2
          go_quiet (fail)
          go_wp2_with fail
          go_ret
          exact ⟨by rw [unhide HE]; rfl, _, World.drewN_drewN _ _ _⟩
        · have HE := hide (of_decide_eq_true (show decide ((⟨a1, a2, a3, a4, a5, a6, a7⟩ : ET) = ⟨c1, c2, c3, c4, c5, c6, c7⟩) = true from hq))
          go_wp2
          go_quiet (fail)
          go_wp2_with fail
          go_roundw
          case rel =>
            refine ⟨k + 1, m + nq, by omega, by go_num, fun j hj => ?_, rfl⟩
            by_cases e : j = k
            · subst e
              rw [unhide HX, unhide HY, unhide HE]
            · exact unhide HG j (by omega)
          case measure => simp [intOf]; omega
      · obtain rfl : k = E.length := by omega
        have HE := hide (ents_same (unhide HL) (unhide HG))
        go_wp2
        go_ret
        exact ⟨by rw [unhide HE]; rfl, m, rfl⟩
  · have d1 : ((E.length : Int) != (F.length : Int)) = true := by simp; omega
    have HE := hide (show decide (E = F) = false from decide_eq_false fun e => hl (by rw [e]))
    clear h1 h2 hl
    go_enter Try.func36, Try.ntmps36
    go_wp2
    go_ret
    exact ⟨by rw [unhide HE]; rfl, 0, rfl⟩
section
variable {w w' : World} {b sb sm b2 sb2 sm2 : Nat} {ve vr ve2 vr2 : Value} {E F : List ET}
theorem quiet_q {P : Program} {f : FuncId} {args : Array Value} {w : World} {n : Nat} {v : Value} (h : Calls P f args (w.drewN n) (ToldQ v (w.drewN n))) : Calls P f args (w.drewN n) fun e w'' => e = .returned v ∧ ∃ m, w'' = w.drewN m := Calls.quiet_of h
set_option maxRecDepth 100000 in
set_option maxHeartbeats 1000000 in
theorem begins_at (h : LogAt w b sb sm ve vr E) (h2 : LogAt w b2 sb2 sm2 ve2 vr2 F) : Calls Try.prog 16 #[.pointer (some ⟨b, 0, none⟩), .pointer (some ⟨b2, 0, none⟩)] w (ToldQ (.bool (begB E F)) w) := by
  have hn1 := hide (lnone_at h)
  have hn2 := hide (lnone_at h2)
  have L1 := hide (fun n => llen_at (h.no ((Chg.refl noBlk w).drewN n)))
  have L2 := hide (fun n => llen_at (h2.no ((Chg.refl noBlk w).drewN n)))
  have c1 := h.c0
  have c2 := h2.c0
  obtain ⟨ad1, cap1, rfl, le1, few1, R1⟩ := h.ent.form ET.len
  obtain ⟨ad2, cap2, rfl, le2, few2, R2⟩ := h2.ent.form ET.len
  have hf := h.fit.few
  have t1 : True := True.intro
  by_cases hl : E.length ≤ F.length
  · have d1 : decide (E.length ≤ F.length) = true := by simpa using hl
    have HB := hide (begB_short hl)
    have EQ := hide (fun n => equal_any (w := w.drewN n) cap1 cap2 (rows_no R1 ((Chg.refl noBlk w).drewN n)) (rows_no (rows_take R2 E.length) ((Chg.refl noBlk w).drewN n)) (by omega))
    rw [show (F.take E.length).length = E.length by rw [List.length_take]; omega] at EQ
    have i1 : (0 : Int) ≤ (E.length : Int) := by omega
    have i2 : (E.length : Int) ≤ (cap2 : Int) := by omega
    clear h h2 R1 R2
    go_enter Try.func16, Try.ntmps16
    go_wp2_with (first
      | (clear t1; go_at_call 24; (with_reducible refine (unhide hn1).mono ?_); rintro e w3 ⟨rfl, rfl⟩)
      | (go_at_call 24; (with_reducible refine (unhide hn2).mono ?_); rintro e w3 ⟨rfl, rfl⟩))
    go_quiet (first
      | (go_at_call 13; (with_reducible exact quiet_told (unhide L1 _)))
      | (go_at_call 13; (with_reducible exact quiet_told (unhide L2 _)))
      | (go_at_call 36; exact quiet_q (unhide EQ _)))
    go_wp2_with fail
    go_ret
    exact ⟨by rw [unhide HB]; rfl, _, rfl⟩
  · have d1 : decide (E.length ≤ F.length) = false := by simpa using hl
    have HB := hide (begB_long (E := E) (F := F) (by omega))
    clear h h2 R1 R2
    go_enter Try.func16, Try.ntmps16
    go_wp2_with (first
      | (clear t1; go_at_call 24; (with_reducible refine (unhide hn1).mono ?_); rintro e w3 ⟨rfl, rfl⟩)
      | (go_at_call 24; (with_reducible refine (unhide hn2).mono ?_); rintro e w3 ⟨rfl, rfl⟩))
    go_quiet (first
      | (go_at_call 13; (with_reducible exact quiet_told (unhide L1 _)))
      | (go_at_call 13; (with_reducible exact quiet_told (unhide L2 _))))
    go_wp2_with fail
    go_ret
    exact ⟨by rw [unhide HB]; rfl, _, rfl⟩
end
end Go.Proofs.Ytfffgegdcgfakaa
