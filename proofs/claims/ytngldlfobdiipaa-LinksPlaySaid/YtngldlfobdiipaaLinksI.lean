/-
  Links: Send.
-/
import Derived.Test.YtngldlfobdiipaaLinksH
import Derived.Test.YtngldlfobdiipaaKitS
import Derived.Deep.RegionHeld3
import Derived.Deep.DrawnRows
namespace Go.Proofs.Ytngldlfobdiipaa.Lk
open Go.ChangeShapes Go.WideShapes Go.ChangeAt Go.RowKit
set_option linter.unusedVariables false
attribute [local go_sem] bs_size bs_app bs_cut bs_tl bs_at
attribute [local go_sem ↓] Go.wp_at_zero Go.wp_at_succ
theorem clone_n (l : List UInt8) (h : l.length ≤ 1048576) (w : World) : Calls Try.prog 29 #[str l] w (ToldN (str l) w) := by
  have C := fun w => Try.stringslite_Clone (bs l) w (by rw [bs_size]; omega)
  have HC := hide C
  clear C
  go_enter Try.func29, Try.ntmps29
  go_wp2_with (go_at_call 37; (with_reducible refine (unhide HC _).mono ?_); rintro e w1 ⟨rfl, hb⟩)
  go_ret
  exact ⟨rfl, Chg.ofBelow hb⟩
/-- what is wrong with a mail's addresses -/
def argB (m : ML) : Bool := !isA m.fr || !isA m.to || m.fr == m.to
/-- a mail at q -/
def MailAt (w : World) (q : Nat) (x : ML) : Prop := w.heap[q]? = some (.cells x.cells.toArray 33 (0, 0))
theorem MailAt.c0 {w : World} {q : Nat} {x : ML} (h : MailAt w q x) : w.cell? ⟨q, 0, none⟩ = some (.int .i64 x.fr) := cellAt h 0 _ rfl
theorem MailAt.c1 {w : World} {q : Nat} {x : ML} (h : MailAt w q x) : w.cell? ⟨q, 1, none⟩ = some (.int .i64 x.to) := cellAt h 1 _ rfl
theorem MailAt.c2 {w : World} {q : Nat} {x : ML} (h : MailAt w q x) : w.cell? ⟨q, 2, none⟩ = some (str x.txt) := cellAt h 2 _ rfl
theorem argB_ways (x : ML) : (argB x = true ∧ isA x.fr = false) ∨ (argB x = true ∧ isA x.fr = true ∧ isA x.to = false) ∨ (argB x = true ∧ isA x.fr = true ∧ isA x.to = true ∧ (x.fr == x.to) = true) ∨ (argB x = false ∧ isA x.fr = true ∧ isA x.to = true ∧ (x.fr == x.to) = false) := by
  unfold argB
  cases isA x.fr <;> cases isA x.to <;> cases (x.fr == x.to) <;> simp
section
variable {w w' : World} {b m cap : Nat} {L : List ML} {F : Hd} {S : Nat → Prop}
set_option maxRecDepth 100000 in
theorem send_arg (h : LkAt w b m cap L F) {x : ML} (ha : argB x = true) : Calls Try.prog 16 #[.pointer (some ⟨b, 0, none⟩), .agg x.cells.toArray] w (ToldN (.int .i64 2) w) := by
  have hin := hide (fun w' (c : Chg noBlk w w') => isnone_at (h.no c))
  have A1 := hide (address_any x.fr)
  have A2 := hide (address_any x.to)
  have hw : (isA x.fr = false) ∨ (isA x.fr = true ∧ isA x.to = false) ∨ (isA x.fr = true ∧ isA x.to = true ∧ (x.fr == x.to) = true) := by
    rcases argB_ways x with h | h | h | h
    · exact .inl h.2
    · exact .inr (.inl h.2)
    · exact .inr (.inr h.2)
    · rw [ha] at h
      cases h.1
  clear h ha
  have tk : True := True.intro
  rcases hw with e1 | ⟨e1, e2⟩ | ⟨e1, e2, d3⟩
  case' inl => rw [e1] at A1
  case' inr.inl => rw [e1] at A1; rw [e2] at A2; clear e2
  case' inr.inr => rw [e1] at A1; rw [e2] at A2; clear e2
  all_goals
    clear e1
    go_enter Try.func16, Try.ntmps16
    go_wp2_with (first
      | (go_at_call 26; (with_reducible refine (unhide hin _ k1).mono ?_); rintro e w2 ⟨rfl, rfl⟩)
      | (go_at_call 28; (with_reducible refine (unhide A1 _).mono ?_); rintro e w3 ⟨rfl, rfl⟩)
      | (go_at_call 28; (with_reducible refine (unhide A2 _).mono ?_); rintro e w3 ⟨rfl, rfl⟩)
      | ((with_reducible show wpList _ _ _ (_ :: _) _ _); clear tk; refine wpL_box rfl 33 (.tmp 1) rfl x.cells.toArray rfl ?_; intro q w1 e1 k1 g1 z1; have G1 : MailAt w1 q x := g1; have c0 := G1.c0; have c1 := G1.c1; clear g1 z1 e1))
    go_ret
    exact ⟨rfl, k1⟩
set_option maxRecDepth 100000 in
theorem send_long (h : LkAt w b m cap L F) {x : ML} (ha : argB x = false) (hl : 512 < x.txt.length) : Calls Try.prog 16 #[.pointer (some ⟨b, 0, none⟩), .agg x.cells.toArray] w (ToldN (.int .i64 3) w) := by
  have hin := hide (fun w' (c : Chg noBlk w w') => isnone_at (h.no c))
  have A1 := hide (address_any x.fr)
  have A2 := hide (address_any x.to)
  have hw : (isA x.fr = true ∧ isA x.to = true ∧ (x.fr == x.to) = false) := by
    rcases argB_ways x with h | h | h | h
    · rw [ha] at h; cases h.1
    · rw [ha] at h; cases h.1
    · rw [ha] at h; cases h.1
    · exact h.2
  obtain ⟨e1, e2, d3⟩ := hw
  rw [e1] at A1
  rw [e2] at A2
  have d4 : (512 : Int) < (x.txt.length : Int) := by omega
  clear h ha e1 e2 hl
  have tk : True := True.intro
  go_enter Try.func16, Try.ntmps16
  go_wp2_with (first
    | (go_at_call 26; (with_reducible refine (unhide hin _ k1).mono ?_); rintro e w2 ⟨rfl, rfl⟩)
    | (go_at_call 28; (with_reducible refine (unhide A1 _).mono ?_); rintro e w3 ⟨rfl, rfl⟩)
    | (go_at_call 28; (with_reducible refine (unhide A2 _).mono ?_); rintro e w3 ⟨rfl, rfl⟩)
    | ((with_reducible show wpList _ _ _ (_ :: _) _ _); clear tk; refine wpL_box rfl 33 (.tmp 1) rfl x.cells.toArray rfl ?_; intro q w1 e1 k1 g1 z1; have G1 : MailAt w1 q x := g1; have c0 := G1.c0; have c1 := G1.c1; have c2 := G1.c2; clear g1 z1 e1))
  go_ret
  exact ⟨rfl, k1⟩
theorem info_pair : (Try.prog.info? 61).map (·.size) = some 2 := by kernel_rfl
theorem zero_pair : (Try.prog.info? 61).bind (·.zero) = some (.agg #[.int .i64 0, .int .i64 0]) := by kernel_rfl
theorem pair_one (a b : Int) : (#[Value.int .i64 a, .int .i64 b] : Array Value).all (·.oneCell') = true := all_oneCell_toArray (by intro v hv; simp at hv; rcases hv with rfl | rfl <;> rfl)
theorem wfI_A {n : Int} (h : isA n = true) : wfI n := wfI_of (by have := isA_yes.1 h; omega)
set_option maxRecDepth 100000 in
theorem send_full (h : LkAt w b m cap L F) {x : ML} (ha : argB x = false) (hl : ¬ 512 < x.txt.length) (hc : cap ≤ (sel L x.fr x.to).length) : Calls Try.prog 16 #[.pointer (some ⟨b, 0, none⟩), .agg x.cells.toArray] w (ToldN (.int .i64 60) w) := by
  have hin := hide (fun w' (c : Chg noBlk w w') => isnone_at (h.no c))
  have A1 := hide (address_any x.fr)
  have A2 := hide (address_any x.to)
  have hw : (isA x.fr = true ∧ isA x.to = true ∧ (x.fr == x.to) = false) := by
    rcases argB_ways x with h | h | h | h
    · rw [ha] at h; cases h.1
    · rw [ha] at h; cases h.1
    · rw [ha] at h; cases h.1
    · exact h.2
  obtain ⟨e1, e2, d3⟩ := hw
  rw [e1] at A1
  rw [e2] at A2
  have HLK := hide (fun w' (c : Chg noBlk w w') => (h.no c).m.look (wfI_A e1) (wfI_A e2))
  obtain ⟨ad, ac, e⟩ := own_form (h.m.rows.row x.fr x.to)
  rw [e] at HLK
  unfold pr at HLK
  obtain ⟨T, hT⟩ : ∃ T, sel L x.fr x.to = T := ⟨_, rfl⟩
  rw [hT] at HLK hc
  have d4 : ¬ (512 : Int) < (x.txt.length : Int) := by omega
  have d5 : (cap : Int) ≤ (T.length : Int) := by omega
  have HS := hide h
  clear h ha e1 e2 hl hc hT e
  have tk : True := True.intro
  go_enter Try.func16, Try.ntmps16
  go_wp2_with (first
    | (go_at_call 26; (with_reducible refine (unhide hin _ k1).mono ?_); rintro e w2 ⟨rfl, rfl⟩)
    | (go_at_call 28; (with_reducible refine (unhide A1 _).mono ?_); rintro e w3 ⟨rfl, rfl⟩)
    | (go_at_call 28; (with_reducible refine (unhide A2 _).mono ?_); rintro e w3 ⟨rfl, rfl⟩)
    | ((with_reducible show wpList _ _ _ (_ :: _) _ _); first
      | (clear tk; refine wpL_box rfl 33 (.tmp 1) rfl x.cells.toArray rfl ?_; intro q w1 e1 k1 g1 z1; have G1 : MailAt w1 q x := g1; have c0 := G1.c0; have c1 := G1.c1; have c2 := G1.c2; clear g1 z1 e1)
      | (refine wpL_alloc rfl 61 rfl _ zero_pair ?_; intro p w3 e3 k3 g3 z3; have e4 : w1.heap.size ≤ p := Nat.le_of_eq e3; clear e3 z3)
      | (refine wpL_store rfl 61 (.tmp 5) (.tmp 33) rfl p #[.int .i64 x.fr, .int .i64 x.to] rfl rfl _ _ g3 info_pair rfl (pair_one _ _) ?_; intro w4 k4 g4 z4; have K4 := hide (k1.andNo (k3.past k4 e4)))))
  have b0 := ((unhide HS).no (unhide K4)).c0
  have b1 := ((unhide HS).no (unhide K4)).c1
  have p0 : w4.cell? ⟨p, 0, none⟩ = some (.int .i64 x.fr) := cellAt g4 0 _ rfl
  have p1 : w4.cell? ⟨p, 1, none⟩ = some (.int .i64 x.to) := cellAt g4 1 _ rfl
  have LK := fun n => unhide HLK _ ((unhide K4).drewN n)
  clear k1 k3 k4 G1 c0 c1 c2 g3 g4 z4
  go_quiet (fail)
  go_wp2_with fail
  go_ret
  exact ⟨rfl, (unhide K4).drewN _⟩
/-- a pair's entry is taken for writing at wE, since w5 -/
structure Ent (w5 wE : World) (b m cap : Nat) (L : List ML) (F : Hd) (x : ML) (st : Nat) : Prop where
  h : LkAt w5 b m cap L F
  chg : Chg (oneBlk m) w5 wE
  mb : ∃ es clock, wE.heap[m]? = some (.map es clock)
  back : ∀ (w2 : World) (p : Option Addr) (n c : Nat), w2.heap[m]? = wE.heap[m]? → ∃ w3, (Instr.entryStore 49 (.map (some m)) (.int .i64 (st : Int)) (.slice p n c)).run Try.prog w2 = .ok () w3 ∧ Chg (oneBlk m) w2 w3 ∧ w3.heap.size = w2.heap.size ∧
      ∀ M, sel M x.fr x.to ≠ [] → (∀ c d, ¬ (c = x.fr ∧ d = x.to) → sel M c d = sel L c d) → ∃ D, w3.ownsMap Try.prog 61 hdR m (Maps.size D) D ∧ Says D (fset F x.fr x.to (.slice p n c)) M
section
variable {w5 wE W W' : World} {x : ML} {st : Nat} {v : Value}
theorem ent_at {W : World} (h : LkAt w5 b m cap L F) (k : Chg noBlk w5 W) (h1 : isA x.fr = true) (h2 : isA x.to = true) (hf : L.length ≤ 999) : ∃ (st : Nat) (wE : World), (Instr.mapEntry 49 (.map (some m)) (.agg #[.int .i64 x.fr, .int .i64 x.to])).run Try.prog W = .ok (.tuple #[F x.fr x.to, .int .i64 (st : Int)]) wE ∧ Chg (lkBlk m (F x.fr x.to)) w5 wE ∧ Chg (oneBlk m) W wE ∧ Ent w5 wE b m cap L F x st := by
  obtain ⟨st, wE, hrun, k1, z1, hmb, hb⟩ := (h.no k).m.entry (wfI_A h1) (wfI_A h2) (by unfold maxLen; omega)
  have k2 : Chg (oneBlk m) w5 wE := (k.no _).trans k1 fun _ _ e => e
  exact ⟨st, wE, hrun, k2.mono fun _ _ e => .inl e, k1, h, k2, hmb, hb⟩
theorem Ent.own (h : Ent w5 wE b m cap L F x st) (k : Chg noBlk wE W) : OwnT W (F x.fr x.to) (sel L x.fr x.to) :=
  ((h.h.m.rows.row x.fr x.to).kept h.chg fun g hg e => h.h.m.ne hg e).no k
/-- told: OK, and the mail stands behind all others -/
theorem Ent.store (h : Ent w5 wE b m cap L F x st) (k : Chg noBlk wE W) (k' : Chg (fun i => (F x.fr x.to).ownBlock = some i) W W') {p : Option Addr} {n c : Nat} (o : OwnT W' (.slice p n c) (sel L x.fr x.to ++ [x.txt])) (hb : (Value.slice p n c).ownBlock = (F x.fr x.to).ownBlock ∨ (Value.slice p n c).ownBlock = some W.heap.size)
    (ha : argB x = false) (hl : ¬ 512 < x.txt.length) (hc : ¬ cap ≤ (sel L x.fr x.to).length) :
    ∃ w9, (Instr.entryStore 49 (.map (some m)) (.int .i64 (st : Int)) (.slice p n c)).run Try.prog W' = .ok () w9 ∧ Chg (lkBlk m (F x.fr x.to)) w5 w9 ∧ DidK (.returned (.int .i64 0)) b m cap F (F x.fr x.to) (L ++ [x]) w5 (.returned (.int .i64 0)) w9 := by
  have hnm : ¬ (F x.fr x.to).ownBlock = some m := fun e => h.h.m.ne e rfl
  have hnb : ¬ (F x.fr x.to).ownBlock = some b := fun e => h.h.neF e rfl
  have hE : W.heap[m]? = wE.heap[m]? := k.block m (h.chg.lt h.h.m.lt) id
  have hW : W'.heap[m]? = wE.heap[m]? := (k'.block m (k.lt (h.chg.lt h.h.m.lt)) hnm).trans hE
  obtain ⟨w9, hrun, k9, z9, hs⟩ := h.back W' p n c hW
  have hz := (h.chg.andNo k).size
  have kW : Chg (lkBlk m (F x.fr x.to)) w5 W' := ((h.chg.andNo k).mono fun _ _ e => .inl e).trans k' fun i _ e => .inr e
  have k59 : Chg (lkBlk m (F x.fr x.to)) w5 w9 := kW.trans k9 fun i _ e => .inl e
  have hpx : isP x.fr x.to x = true := isP_yes.2 ⟨rfl, rfl⟩
  have hsel : sel (L ++ [x]) x.fr x.to = sel L x.fr x.to ++ [x.txt] := sel_snoc_hit L hpx
  have hoth : ∀ c d, ¬ (c = x.fr ∧ d = x.to) → sel (L ++ [x]) c d = sel L c d := fun c d e => sel_snoc_miss L (isP_no.2 fun e' => e ⟨e'.1.symm, e'.2.symm⟩)
  have hbl : ∀ g, (Value.slice p n c).ownBlock = some g → (F x.fr x.to).ownBlock = some g ∨ W.heap.size ≤ g := fun g hg => by
    rcases hb with e | e <;> rw [hg] at e
    · exact .inl e.symm
    · exact .inr (Nat.le_of_eq (Option.some.inj e).symm)
  have hrows : RowsF W F L := (h.h.m.rows.kept h.chg fun c d g hg e => h.h.m.ne hg e).no k
  have r1 : RowsF W' (fset F x.fr x.to (.slice p n c)) (L ++ [x]) := hrows.set k' (by rw [hsel]; exact o) hbl hoth
  have hbs := fset_blocks (F := F) (x := x.fr) (y := x.to) (v := .slice p n c) (n := W.heap.size) hbl
  have hmb : ∃ es clock, W'.heap[m]? = some (.map es clock) := by
    obtain ⟨es, clock, e⟩ := h.mb
    exact ⟨es, clock, hW.trans e⟩
  have hfit : Fit cap (L ++ [x]) := by
    have := fit_snd x h.h.fit
    rwa [sndL_ok (snd_ok ha hl hc)] at this
  refine ⟨w9, hrun, k59, fset F x.fr x.to (.slice p n c), rfl, k59, ⟨k9.at (kW.at h.h.p fun e => ?_) h.h.ne, ⟨hs _ (by rw [hsel]; simp) hoth, r1.kept k9 fun c d g hg e => ?_⟩, hfit, h.h.low, h.h.high⟩, fun c d g hg => (hbs c d g hg).imp id fun e => Nat.le_trans hz e⟩
  · rcases e with e | e
    · exact h.h.ne e
    · exact hnb e
  · have e : g = m := e
    obtain ⟨cur, hb⟩ := (r1.row c d).block hg
    obtain ⟨es, clock, e2⟩ := hmb
    rw [e, e2] at hb
    cases hb
end
end
end Go.Proofs.Ytngldlfobdiipaa.Lk
