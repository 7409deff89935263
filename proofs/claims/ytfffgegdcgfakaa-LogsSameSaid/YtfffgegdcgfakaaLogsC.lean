/-
  Logs: contracts of Last, Look, Entries, Copy.
-/
import Derived.Test.YtfffgegdcgfakaaLogsB
import Derived.Deep.RegionHeld3
import Derived.Deep.QuietTactic
import Derived.BigQuiet
namespace Go.Proofs.Ytfffgegdcgfakaa
open Go.ChangeShapes Go.WideShapes Go.ChangeAt Go.RowKit
set_option linter.unusedVariables false
attribute [local go_sem] bs_size bs_app bs_cut bs_tl bs_at
theorem still_told {P : Program} {f : FuncId} {args : Array Value} {w : World} {v : Value} (h : Calls P f args w (Told v w)) : Calls P f args w fun e w'' => e = .returned v ∧ w'' = w := h.mono fun _ _ ⟨a, b⟩ => ⟨a, b.symm⟩
/-- told: v, and nothing was but drawn -/
def ToldQ (v : Value) (w : World) (e : Ending) (w' : World) : Prop := e = .returned v ∧ ∃ m, w' = w.drewN m
theorem ToldQ.toN {v : Value} {w w' : World} {e : Ending} (h : ToldQ v w e w') : ToldN v w e w' := by
  obtain ⟨rfl, m, rfl⟩ := h
  exact ⟨rfl, (Chg.refl _ _).drewN m⟩
section
variable {w w' : World} {b sb sm : Nat} {ve vr : Value} {E : List ET} {S : Nat → Prop}
/-- an entry's block -/
def EntAt (w : World) (p : Nat) (e : ET) : Prop := w.heap[p]? = some (.cells e.cells.toArray 34 (0, 0))
theorem EntAt.no {p : Nat} {e : ET} (h : EntAt w p e) (k : Chg noBlk w w') : EntAt w' p e := k.at h id
theorem EntAt.lt {p : Nat} {e : ET} (h : EntAt w p e) : p < w.heap.size := lt_of_block h
theorem EntAt.c0 {p : Nat} {e : ET} (h : EntAt w p e) : w.cell? ⟨p, 0, none⟩ = some (.int .i64 e.idx) := cellAt h 0 _ rfl
theorem EntAt.c1 {p : Nat} {e : ET} (h : EntAt w p e) : w.cell? ⟨p, 1, none⟩ = some (.int .i64 e.cl) := cellAt h 1 _ rfl
theorem EntAt.c2 {p : Nat} {e : ET} (h : EntAt w p e) : w.cell? ⟨p, 2, none⟩ = some (.int .i64 e.seq) := cellAt h 2 _ rfl
theorem EntAt.c3 {p : Nat} {e : ET} (h : EntAt w p e) : w.cell? ⟨p, 3, none⟩ = some (.int .i64 e.op.k) := cellAt h 3 _ rfl
theorem EntAt.c4 {p : Nat} {e : ET} (h : EntAt w p e) : w.cell? ⟨p, 4, none⟩ = some (str e.op.key) := cellAt h 4 _ rfl
theorem EntAt.c5 {p : Nat} {e : ET} (h : EntAt w p e) : w.cell? ⟨p, 5, none⟩ = some (str e.op.val) := cellAt h 5 _ rfl
theorem EntAt.c6 {p : Nat} {e : ET} (h : EntAt w p e) : w.cell? ⟨p, 6, none⟩ = some (.int .i64 e.op.ver) := cellAt h 6 _ rfl
theorem EntAt.op {p : Nat} {e : ET} (h : EntAt w p e) : w.rangeAt p 3 e.op.cells := fun j v hv => by
  have hl : j < 4 := (List.getElem?_eq_some_iff.1 hv).1
  refine cellAt h _ _ ?_
  rw [← hv]
  rcases j with _ | _ | _ | _ | j
  · rfl
  · rfl
  · rfl
  · rfl
  · omega
set_option maxRecDepth 100000 in
theorem last_out (h : LogAt w b sb sm ve vr E) {c : Int} (hc : cliB c = false) : Calls Try.prog 20 #[.pointer (some ⟨b, 0, none⟩), .int .i64 c] w (ToldN (.tuple #[.int .i64 (seqL E c), .int .i64 (lastN E c E.length : Int)]) w) := by
  have hz := h.fit.none (cliB_no.1 hc)
  have hz2 := hide (seqL_zero hz)
  have hz := hide hz
  have hin := hide (lnone_at h)
  have hm := hide (maybe_any c)
  rw [hc] at hm
  clear h hc
  go_enter Try.func20, Try.ntmps20
  go_wp2_with (first
    | (go_at_call 24; (with_reducible refine (unhide hin).mono ?_); rintro e w2 ⟨rfl, rfl⟩)
    | (go_at_call 38; (with_reducible refine (unhide hm _).mono ?_); rintro e w3 ⟨rfl, rfl⟩))
  go_ret2
  exact ⟨by rw [unhide hz, unhide hz2]; rfl, Chg.refl _ _⟩
set_option maxRecDepth 100000 in
theorem last_in (h : LogAt w b sb sm ve vr E) {c : Nat} (hc : c < 6) {i : Int} {x : ET} {o : Bool} (hi : (lastN E (c : Int) E.length : Int) = i) (hx : ∀ w', Chg noBlk w w' → Calls Try.prog 18 #[.pointer (some ⟨b, 0, none⟩), .int .i64 i] w' (ToldN (.tuple #[.agg x.cells.toArray, .bool o]) w')) :
    Calls Try.prog 20 #[.pointer (some ⟨b, 0, none⟩), .int .i64 (c : Int)] w (ToldN (.tuple #[.int .i64 x.seq, .int .i64 x.idx]) w) := by
  have hin := hide (lnone_at h)
  have hm := hide (maybe_any (c : Int))
  rw [cliB_yes.2 (by omega)] at hm
  have c0 := h.cl c hc
  rw [hi] at c0
  have i1 : (0 : Int) ≤ (c : Int) := by omega
  have i2 : (c : Int) < 6 := by omega
  have HX := hide hx
  clear h hi hx
  have ta : True := True.intro
  go_enter Try.func20, Try.ntmps20
  go_wp2_with (first
    | (go_at_call 24; (with_reducible refine (unhide hin).mono ?_); rintro e w2 ⟨rfl, rfl⟩)
    | (go_at_call 38; (with_reducible refine (unhide hm _).mono ?_); rintro e w3 ⟨rfl, rfl⟩)
    | (go_at_call 18; refine (unhide HX _ (Chg.refl _ _)).mono ?_; rintro e w4 ⟨rfl, k4⟩)
    | ((with_reducible show wpList _ _ _ (_ :: _) _ _); first
      | (clear ta; refine wpL_alloc rfl 34 rfl _ zero_ent ?_; intro p w5 e5 k5 g5 z5; have e0 : w.heap.size ≤ p := Nat.le_trans k4.size (Nat.le_of_eq e5); clear e5 z5)
      | (refine wpL_store rfl 34 (.tmp 6) (.tmp 24) rfl p x.cells.toArray rfl rfl _ _ g5 info_ent rfl (all_oneCell_toArray (ET.one _)) ?_; intro w6 k6 g6 z6; have G6 : EntAt w6 p x := g6; have d2 := G6.c2; have d0 := G6.c0)))
  go_quiet (fail)
  go_wp2_with fail
  go_ret2
  exact ⟨rfl, ((k4.andNo k5).past k6 e0).drewN _⟩
theorem last_at (h : LogAt w b sb sm ve vr E) (c : Int) : Calls Try.prog 20 #[.pointer (some ⟨b, 0, none⟩), .int .i64 c] w (ToldN (.tuple #[.int .i64 (seqL E c), .int .i64 (lastN E c E.length : Int)]) w) := by
  cases hc : cliB c
  · exact last_out h hc
  · have hc := cliB_yes.1 hc
    obtain ⟨n, rfl⟩ : ∃ n : Nat, c = (n : Int) := ⟨c.toNat, by omega⟩
    rcases lastN_of E (n : Int) E.length (Nat.le_refl _) with ⟨h1, h2⟩ | ⟨j, f, h1, h2, h3, h4, h5⟩
    · have := last_in (c := n) h (by omega) (i := 0) (x := eZero) (o := false) (by rw [h1]; rfl) (fun w' k => at_no (h.no k) (hasB_no.2 (by omega)))
      rw [seqL_zero h1, h1]
      exact this
    · have := last_in (c := n) h (by omega) (i := (j : Int) + 1) (x := f) (o := true) (by rw [h1]; rfl) (fun w' k => at_yes (h.no k) h3)
      rw [seqL_at h1 h3, h1, show ((j + 1 : Nat) : Int) = f.idx from ((h.fit.ok j f h3).1.trans (by omega)).symm]
      exact this
set_option maxRecDepth 100000 in
theorem llook_at (h : LogAt w b sb sm ve vr E) {k : List UInt8} (hk : k.length ≤ maxLen) : Calls Try.prog 10 #[.pointer (some ⟨b, 0, none⟩), str k] w (ToldN (.agg (look (cellsN E E.length) k (E.length : Int)).cells.toArray) w) := by
  have hin := hide (fun w' (c : Chg noBlk w w') => lnone_at (h.no c))
  have hl := hide (fun w' (c : Chg noBlk w w') => still_told (llen_at (h.no c)))
  have hc2 := hide (fun w' (c : Chg noBlk w w') => (h.no c).c2)
  have hlk := hide (fun w' (c : Chg noBlk w w') => look_at (h.no c).st hk (E.length : Int))
  clear h
  have ta : True := True.intro
  go_enter Try.func10, Try.ntmps10
  go_wp2_with (first
    | (go_at_call 24; (with_reducible refine (unhide hin _ k1).mono ?_); rintro e w2 ⟨rfl, rfl⟩; have c2 := unhide hc2 _ k1)
    | ((with_reducible show wpList _ _ _ (_ :: _) _ _); (clear ta; refine wpL_alloc rfl 38 rfl _ zero_res ?_; intro p w1 e1 k1 g1 z1; have e0 : w.heap.size ≤ p := Nat.le_of_eq e1; clear e1 z1)))
  go_still_tail 7, (by kernel_rfl)
  have K2 := k1.drew
  still_call (unhide hl _ K2)
  refine wpStill_nil ?_
  change wpList _ _ _ _ _ w1.drew
  have g2 : w1.drew.heap[p]? = _ := g1
  generalize w1.drew = w3 at K2 g2 ⊢
  go_wp2_with (first
    | (go_at_call 28; (with_reducible refine (unhide hlk _ K2).mono ?_); rintro e w4 ⟨rfl, k4⟩; have g4 := k4.at g2 id)
    | ((with_reducible show wpList _ _ _ (_ :: _) _ _); refine wpL_store rfl 38 (.tmp 4) (.tmp 15) rfl p _ rfl rfl _ _ g4 info_res rfl (all_oneCell_toArray (RT.one _)) ?_; intro w6 k6 g7 z7))
  refine bodyPost_ret (ret_res rfl _ _ p _ _ _ rfl g7) rfl ?_
  exact ⟨rfl, (K2.andNo k4).past k6 e0⟩
end
/-- told: a new slice that has L -/
def NewL {α : Type} (e : TypeId) (c : α → List Value) (m : Nat) (L : List α) (w : World) (x : Ending) (w' : World) : Prop := ∃ v, x = .returned v ∧ Chg noBlk w w' ∧ OwnL w' e c m v L ∧ ∀ g, v.ownBlock = some g → w.heap.size ≤ g
theorem own_empty {α : Type} (w : World) (e : TypeId) (c : α → List Value) (m : Nat) : OwnL (w.alloc (.cells #[] e)) e c m (.slice (some ⟨w.heap.size, 0, none⟩) 0 0) [] := by
  refine ⟨by simp [flatC], .inr ⟨w.heap.size, 0, #[], rfl, Nat.zero_le _, heap_alloc_new w _, Nat.le_refl _, by unfold maxLen; omega, by simp, by simp [flatC]⟩⟩
set_option maxRecDepth 100000 in
theorem eclone_any {w : World} {v : Value} {E : List ET} (h : Reads w 7 v E.length (flatC ET.cells E)) (hn : E.length ≤ 100000) : Calls Try.prog 25 #[v] w (NewL 34 ET.cells 7 E w) := by
  rcases h.2.2 with ⟨rfl, hz⟩ | ⟨ad, cap, rfl, _⟩
  · obtain rfl : E = [] := List.eq_nil_of_length_eq_zero hz
    have he : ∀ w : World, (binOp .eql 28 (.slice none 0 0) (.slice none 0 0)).run Try.prog w = .ok (.bool true) w := fun _ => rfl
    clear h hz
    go_enter Try.func25, Try.ntmps25
    go_wp2
    go_ret
    exact ⟨_, rfl, Chg.refl _ _, ownL_nil _ _ _ _, fun g hg => by cases hg⟩
  · have HR := hide (fun w' (k : Chg noBlk w w') => h.kept k fun _ _ _ => id)
    have HO := hide (own_empty (α := ET) w 34 ET.cells 7)
    have he : ∀ w : World, (binOp .eql 28 (.slice (some ad) E.length cap) (.slice none 0 0)).run Try.prog w = .ok (.bool false) w := fun _ => rfl
    clear h
    go_enter Try.func25, Try.ntmps25
    go_wp2_with ((with_reducible show wpList _ _ _ (_ :: _) _ _); refine wpL_append rfl (.tmp 5) (.tmp 6) 28 (by rfl) 34 (.agg eZero.cells.toArray) 7 72 Try.underlying28 infx_ent rfl (by decide) (.slice (some ⟨w.heap.size, 0, none⟩) 0 0) 0 [] (by rfl) (unhide HO) (.slice (some ad) E.length cap) E.length (flatC ET.cells E) (by rfl) (unhide HR _ ((Chg.refl _ _).alloc _)) (by unfold maxLen; omega) (by omega) ?_; intro v' w2 k2 o2 f2)
    go_ret
    refine ⟨v', rfl, ((Chg.refl noBlk w).alloc _).trans k2 fun i hi e => by have e : w.heap.size = i := Option.some.inj e; omega, ownL_of o2 (by omega) (by simp), fun g hg => ?_⟩
    rcases f2 with e | e <;> rw [hg] at e
    · have e : g = w.heap.size := Option.some.inj e
      omega
    · have e := Option.some.inj e
      simp at e
      omega
set_option maxRecDepth 100000 in
theorem rclone_any {w : World} {v : Value} {E : List RT} (h : Reads w 4 v E.length (flatC RT.cells E)) (hn : E.length ≤ 100000) : Calls Try.prog 26 #[v] w (NewL 38 RT.cells 4 E w) := by
  rcases h.2.2 with ⟨rfl, hz⟩ | ⟨ad, cap, rfl, _⟩
  · obtain rfl : E = [] := List.eq_nil_of_length_eq_zero hz
    have he : ∀ w : World, (binOp .eql 55 (.slice none 0 0) (.slice none 0 0)).run Try.prog w = .ok (.bool true) w := fun _ => rfl
    clear h hz
    go_enter Try.func26, Try.ntmps26
    go_wp2
    go_ret
    exact ⟨_, rfl, Chg.refl _ _, ownL_nil _ _ _ _, fun g hg => by cases hg⟩
  · have HR := hide (fun w' (k : Chg noBlk w w') => h.kept k fun _ _ _ => id)
    have HO := hide (own_empty (α := RT) w 38 RT.cells 4)
    have he : ∀ w : World, (binOp .eql 55 (.slice (some ad) E.length cap) (.slice none 0 0)).run Try.prog w = .ok (.bool false) w := fun _ => rfl
    clear h
    go_enter Try.func26, Try.ntmps26
    go_wp2_with ((with_reducible show wpList _ _ _ (_ :: _) _ _); refine wpL_append rfl (.tmp 5) (.tmp 6) 55 (by rfl) 38 (.agg rZero.cells.toArray) 4 40 Try.underlying55 infx_res rfl (by decide) (.slice (some ⟨w.heap.size, 0, none⟩) 0 0) 0 [] (by rfl) (unhide HO) (.slice (some ad) E.length cap) E.length (flatC RT.cells E) (by rfl) (unhide HR _ ((Chg.refl _ _).alloc _)) (by unfold maxLen; omega) (by omega) ?_; intro v' w2 k2 o2 f2)
    go_ret
    refine ⟨v', rfl, ((Chg.refl noBlk w).alloc _).trans k2 fun i hi e => by have e : w.heap.size = i := Option.some.inj e; omega, ownL_of o2 (by omega) (by simp), fun g hg => ?_⟩
    rcases f2 with e | e <;> rw [hg] at e
    · have e : g = w.heap.size := Option.some.inj e
      omega
    · have e := Option.some.inj e
      simp at e
      omega
section
variable {w w' : World} {b sb sm : Nat} {ve vr : Value} {E : List ET} {S : Nat → Prop}
theorem entries_at (h : LogAt w b sb sm ve vr E) : Calls Try.prog 21 #[.pointer (some ⟨b, 0, none⟩)] w (NewL 34 ET.cells 7 E w) := by
  have hin := hide (lnone_at h)
  have c0 := h.c0
  have hcl := hide (eclone_any (h.ent.reads ET.one) (by have := h.fit.few; omega))
  clear h
  go_enter Try.func21, Try.ntmps21
  go_wp2_with (first
    | (go_at_call 24; (with_reducible refine (unhide hin).mono ?_); rintro e w2 ⟨rfl, rfl⟩)
    | (go_at_call 25; (with_reducible refine (unhide hcl).mono ?_); rintro e w3 ⟨v, rfl, k3, o3, f3⟩))
  go_ret
  exact ⟨v, rfl, k3, o3, f3⟩
end
end Go.Proofs.Ytfffgegdcgfakaa
