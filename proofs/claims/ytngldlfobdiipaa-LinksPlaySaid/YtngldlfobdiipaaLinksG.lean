/-
  Links: takeOut.
-/
import Derived.Test.YtngldlfobdiipaaLinksF
namespace Go.Proofs.Ytngldlfobdiipaa.Lk
open Go.ChangeShapes Go.WideShapes Go.ChangeAt Go.RowKit
set_option linter.unusedVariables false
attribute [local go_sem] bs_size bs_app bs_cut bs_tl bs_at
/-- the blocks that turn: the map's, and the pair's slice's -/
def lkBlk (m : Nat) (v : Value) : Nat → Prop := fun i => i = m ∨ v.ownBlock = some i
/-- told: v; the links have L now, and their slices lie where they lay, or are new -/
def DidK (r : Ending) (b m cap : Nat) (F : Hd) (v : Value) (L : List ML) (w : World) (e : Ending) (w' : World) : Prop :=
  ∃ F', e = r ∧ Chg (lkBlk m v) w w' ∧ LkAt w' b m cap L F' ∧ ∀ x y g, (F' x y).ownBlock = some g → (∃ c d, (F c d).ownBlock = some g) ∨ w.heap.size ≤ g
theorem fset_blocks {F : Hd} {x y : Int} {v : Value} {n : Nat} (hv : ∀ g, v.ownBlock = some g → (F x y).ownBlock = some g ∨ n ≤ g) : ∀ c d g, (fset F x y v c d).ownBlock = some g → (∃ c d, (F c d).ownBlock = some g) ∨ n ≤ g := by
  intro c d g hg
  by_cases e : c = x ∧ d = y
  · obtain ⟨rfl, rfl⟩ := e
    rw [fset_same] at hg
    exact (hv g hg).imp (fun h => ⟨_, _, h⟩) id
  · rw [fset_other F v e] at hg
    exact .inl ⟨_, _, hg⟩
/-- a pair's entry struck -/
theorem wpL_del {ops : Array Oper} {rest : List Oper} {o : Oper} {a : Act} {w : World} {Q : Exit → Act → World → Prop} (hgd : o.guard = none) (u v : Operand) (ho : o.op = .call { callee := .builtin .delete, args := #[u, v], argTypes := #[49, 61] })
    {m : Nat} {L : List ML} {F : Hd} {x y : Int} (hx : a.eval u = .map (some m)) (hy : a.eval v = pr x y) (hm : ∃ D, w.ownsMap Try.prog 61 hdR m (Maps.size D) D ∧ Says D F L) (ha : wfI x) (hb : wfI y)
    (h : ∀ w', Chg (oneBlk m) w w' → w'.heap.size = w.heap.size → (∀ M, sel M x y = [] → (∀ c d, ¬ (c = x ∧ d = y) → (sel M c d).isEmpty = (sel L c d).isEmpty) → ∃ D, w'.ownsMap Try.prog 61 hdR m (Maps.size D) D ∧ Says D (fset F x y nilS) M) → wpList Try.prog ops Q rest (a.put o.dst (.tuple #[])) w') : wpList Try.prog ops Q (o :: rest) a w :=
  wpList_plain hgd fun K hK => by
    obtain ⟨w', hrun, h1, h2, h3⟩ := MapAt.drop hm ha hb o.type
    unfold Oper.wp execOp
    simp only [ho, resolve, invoke, builtin, Sem.run_bind, Sem.run_pure, Result.andThen_ok, List.map_toArray, List.map_cons, List.map_nil, hx, hy, hrun]
    exact hK _ _ (h w' h1 h2 h3)
/-- a pair's slice written -/
theorem wpL_upd {ops : Array Oper} {rest : List Oper} {o : Oper} {a : Act} {w : World} {Q : Exit → Act → World → Prop} (hgd : o.guard = none) (u v z : Operand) (ho : o.op = .mapUpdate 49 u v z)
    {m : Nat} {L : List ML} {F : Hd} {x y : Int} {p : Option Addr} {n c : Nat} (hx : a.eval u = .map (some m)) (hy : a.eval v = pr x y) (hz : a.eval z = .slice p n c) (hm : ∃ D, w.ownsMap Try.prog 61 hdR m (Maps.size D) D ∧ Says D F L) (ha : wfI x) (hb : wfI y) (hn : L.length < maxLen)
    (h : ∀ w', Chg (oneBlk m) w w' → w'.heap.size = w.heap.size → (∀ M, sel M x y ≠ [] → (∀ c d, ¬ (c = x ∧ d = y) → (sel M c d).isEmpty = (sel L c d).isEmpty) → ∃ D, w'.ownsMap Try.prog 61 hdR m (Maps.size D) D ∧ Says D (fset F x y (.slice p n c)) M) → wpList Try.prog ops Q rest (a.put o.dst undef) w') : wpList Try.prog ops Q (o :: rest) a w :=
  wpList_plain hgd fun K hK => by
    obtain ⟨w', hrun, h1, h2, h3⟩ := MapAt.upd hm ha hb hn p n c
    unfold Oper.wp execOp
    simp only [ho, hx, hy, hz, hrun, Sem.run_bind, Sem.run_pure, Result.andThen_ok]
    exact hK _ _ (h w' h1 h2 h3)
/-- what is known of links a pair's slice of which has turned -/
structure Half (w w3 : World) (b m cap : Nat) (L : List ML) (F : Hd) (x y : Int) (k : Nat) (v v2 : Value) : Prop where
  h : LkAt w b m cap L F
  hv : F x y = v
  chg : Chg (fun i => v.ownBlock = some i) w w3
  o2 : OwnT w3 v2 ((sel L x y).eraseIdx k)
  e2 : v2.ownBlock = v.ownBlock
section
variable {w w3 w4 : World} {b m cap : Nat} {L : List ML} {F : Hd} {x y : Int} {k : Nat} {v v2 : Value}
theorem Half.nm (h : Half w w3 b m cap L F x y k v v2) : ¬ v.ownBlock = some m := fun e => by rw [← h.hv] at e; exact h.h.m.ne e rfl
theorem Half.nb (h : Half w w3 b m cap L F x y k v v2) : ¬ v.ownBlock = some b := fun e => by rw [← h.hv] at e; exact h.h.neF e rfl
theorem Half.own (h : Half w w3 b m cap L F x y k v v2) : ∃ D, w3.ownsMap Try.prog 61 hdR m (Maps.size D) D ∧ Says D F L := by
  obtain ⟨D, h1, h2⟩ := h.h.m.own
  exact ⟨D, own_kept h1 (h.chg.block m h.h.m.lt h.nm), h2⟩
theorem Half.c1 (h : Half w w3 b m cap L F x y k v v2) : w3.cell? ⟨b, 1, none⟩ = some (.map (some m)) := h.chg.cell h.h.c1 h.nb
theorem Half.fin (h : Half w w3 b m cap L F x y k v v2) {v3 : Value} (k4 : Chg (oneBlk m) w3 w4) (hv : OwnT w3 v3 (sel (rmv x y k L) x y)) (hb : ∀ g, v3.ownBlock = some g → v.ownBlock = some g)
    (ho : ∃ D, w4.ownsMap Try.prog 61 hdR m (Maps.size D) D ∧ Says D (fset F x y v3) (rmv x y k L)) : DidK (.returned (.tuple #[])) b m cap F v (rmv x y k L) w (.returned (.tuple #[])) w4 := by
  have hm := h.h.m.lt
  have r1 : RowsF w3 (fset F x y v3) (rmv x y k L) := h.h.m.rows.set (by rw [h.hv]; exact h.chg) hv (fun g hg => .inl (by rw [h.hv]; exact hb g hg)) fun c d e => sel_rmv_other e L k
  have hbs := fset_blocks (F := F) (x := x) (y := y) (v := v3) (n := w.heap.size) fun g hg => .inl (by rw [h.hv]; exact hb g hg)
  refine ⟨fset F x y v3, rfl, (h.chg.mono fun i _ e => .inr e).trans k4 fun i _ e => .inl e, ⟨k4.at (h.chg.at h.h.p h.nb) h.h.ne, ⟨ho, r1.kept k4 fun c d g hg e => ?_⟩, fit_rmv x y k h.h.fit, h.h.low, h.h.high⟩, hbs⟩
  obtain ⟨cur, hc⟩ := (r1.row c d).block hg
  obtain ⟨D, ⟨es, clock, h1, _⟩, _⟩ := h.own
  have e : g = m := e
  rw [e, h1] at hc
  cases hc
end
section
variable {w w' : World} {b m cap : Nat} {L : List ML} {F : Hd} {S : Nat → Prop}
set_option maxRecDepth 100000 in
theorem take_at (h : LkAt w b m cap L F) (hf : L.length ≤ 1000) {x y : Int} (hx : wfI x) (hy : wfI y) {k : Nat} (hk : k < (sel L x y).length) :
    Calls Try.prog 24 #[.pointer (some ⟨b, 0, none⟩), .agg #[.int .i64 x, .int .i64 y], .int .i64 (k : Int)] w (DidK (.returned (.tuple #[])) b m cap F (F x y) (rmv x y k L) w) := by
  have HS := hide h
  have HF := hide hf
  have HX := hide hx
  have HY := hide hy
  have hs := sel_len L x y
  have HD := hide (fun w' (c : Chg noBlk w w') => delete_any ((h.no c).m.rows.row x y) hk (by omega))
  have HLK := hide (fun w' (c : Chg noBlk w w') => (h.no c).m.look hx hy)
  unfold pr at HLK
  obtain ⟨v, hv⟩ : ∃ v, F x y = v := ⟨_, rfl⟩
  rw [hv] at HLK HD ⊢
  obtain ⟨T', hT⟩ : ∃ T', (sel L x y).eraseIdx k = T' := ⟨_, rfl⟩
  rw [hT] at HD
  have HT := hide hT
  have HV := hide hv
  have i0 : (0 : Int) ≤ (k : Int) := by omega
  have i1 : (k : Int) ≤ 1000 := by omega
  clear hT hv h hf hx hy hs hk
  go_enter Try.func24, Try.ntmps24
  go_wp2_with ((with_reducible show wpList _ _ _ (_ :: _) _ _); refine wpL_box rfl 61 (.tmp 1) rfl #[.int .i64 x, .int .i64 y] rfl ?_; intro q w1 e1 k1 g1 z1; have eq0 : w.heap.size ≤ q := Nat.le_of_eq e1; clear e1 z1)
  have LK := unhide HLK _ k1.drew
  have c1 := ((unhide HS).no k1).c1
  have d0 : w1.cell? ⟨q, 0, none⟩ = some (.int .i64 x) := cellAt g1 0 _ rfl
  have d1 : w1.cell? ⟨q, 1, none⟩ = some (.int .i64 y) := cellAt g1 1 _ rfl
  have wr : IntKind.i64.wrap ((k : Int) + 1) = (k : Int) + 1 := IntWalk.i64_in _ (by omega)
  go_still_tail 9, (by kernel_rfl)
  change wpList _ _ _ _ _ w1.drew
  have K2 := hide k1.drew
  have g2 : w1.drew.heap[q]? = _ := g1
  clear k1 LK c1 d0 d1 wr g1
  generalize w1.drew = w2 at K2 g2 ⊢
  have HE := hide (show ∀ w3 v2, Chg (fun i => v.ownBlock = some i) w2 w3 → OwnT w3 v2 T' → v2.ownBlock = v.ownBlock → Half w2 w3 b m cap L F x y k v v2 from fun w3 v2 h1 h2 h3 => ⟨(unhide HS).no (unhide K2), unhide HV, h1, by rw [unhide HT]; exact h2, h3⟩)
  have HQ := hide (show ¬ v.ownBlock = some q from fun e => by have := (unhide HS).m.rows.lt (a := x) (b := y) (by rw [unhide HV]; exact e); omega)
  by_cases hz : T' = []
  · subst hz
    go_wp2_with (go_at_call 36; (with_reducible refine (unhide HD _ (unhide K2)).mono ?_); rintro e w3 ⟨v2, rfl, k3, o2, f2⟩; have HA := hide (unhide HE _ _ k3 o2 f2); obtain ⟨ad2, c2, e2⟩ := own_form o2; subst e2; have g3 := k3.at g2 (unhide HQ); clear k3 o2 f2)
    have c1 := (unhide HA).c1
    have d0 : w3.cell? ⟨q, 0, none⟩ = some (.int .i64 x) := cellAt g3 0 _ rfl
    have d1 : w3.cell? ⟨q, 1, none⟩ = some (.int .i64 y) := cellAt g3 1 _ rfl
    go_still_tail 5, (by kernel_rfl)
    change wpList _ _ _ _ _ w3.drew
    have HO := hide (unhide HA).own
    clear c1 d0 d1 g3
    go_wp2_with ((with_reducible show wpList _ _ _ (_ :: _) _ _); refine wpL_del (w := w3.drew) rfl (.tmp 23) (.tmp 24) rfl rfl rfl (unhide HO) (unhide HX) (unhide HY) ?_; intro w4 k4 z4 o4; have O4 := hide o4; have K4 := hide k4; clear o4 k4 z4)
    go_end0
    have hs : sel (rmv x y k L) x y = [] := by rw [sel_rmv]; exact unhide HT
    obtain ⟨w0, k0, h0, r0⟩ : DidK (.returned (.tuple #[])) b m cap F v (rmv x y k L) w2 (.returned (.tuple #[])) w4 := (unhide HA).fin (v3 := nilS) (((Chg.refl _ w3).drew).trans (unhide K4) fun _ _ e => e) (by rw [hs]; exact ownL_nil _ _ _ _) (fun g hg => by cases hg) (unhide O4 _ hs fun c d e => by rw [sel_rmv_other e])
    exact ⟨w0, k0, ((unhide K2).no _).trans h0 fun _ _ e => e, r0.1, fun c d g hg => (r0.2 c d g hg).imp id fun e => Nat.le_trans (unhide K2).size e⟩
  · obtain ⟨n', hn⟩ : ∃ n', T'.length = n' := ⟨_, rfl⟩
    have hpos : 0 < n' := by rw [← hn]; exact List.length_pos_iff.2 hz
    have hb : ((n' : Int) == 0) = false := beq_eq_false_iff_ne.2 (by omega)
    have HN := hide hn
    have HZ := hide hz
    clear hn hz
    go_wp2_with (go_at_call 36; (with_reducible refine (unhide HD _ (unhide K2)).mono ?_); rintro e w3 ⟨v2, rfl, k3, o2, f2⟩; have HA := hide (unhide HE _ _ k3 o2 f2); obtain ⟨ad2, c2, e2⟩ := own_form o2; rw [unhide HN] at e2; subst e2; have g3 := k3.at g2 (unhide HQ); have O2 := hide o2; have F2 := hide f2; clear k3 o2 f2)
    have c1 := (unhide HA).c1
    have d0 : w3.cell? ⟨q, 0, none⟩ = some (.int .i64 x) := cellAt g3 0 _ rfl
    have d1 : w3.cell? ⟨q, 1, none⟩ = some (.int .i64 y) := cellAt g3 1 _ rfl
    go_still_tail 6, (by kernel_rfl)
    change wpList _ _ _ _ _ w3.drew
    have HO := hide (unhide HA).own
    clear c1 d0 d1 g3
    go_wp2_with ((with_reducible show wpList _ _ _ (_ :: _) _ _); refine wpL_upd (w := w3.drew) rfl (.tmp 28) (.tmp 29) (.tmp 30) rfl rfl rfl rfl (unhide HO) (unhide HX) (unhide HY) (by have := unhide HF; unfold maxLen; omega) ?_; intro w4 k4 z4 o4; have O4 := hide o4; have K4 := hide k4; clear o4 k4 z4)
    go_end0
    have hs : sel (rmv x y k L) x y = T' := by rw [sel_rmv]; exact unhide HT
    obtain ⟨w0, k0, h0, r0⟩ : DidK (.returned (.tuple #[])) b m cap F v (rmv x y k L) w2 (.returned (.tuple #[])) w4 := (unhide HA).fin (v3 := .slice ad2 n' c2) (((Chg.refl _ w3).drew).trans (unhide K4) fun _ _ e => e) (by rw [hs]; exact unhide O2) (fun g hg => by rw [← unhide F2]; exact hg) (unhide O4 _ (by rw [hs]; exact unhide HZ) fun c d e => by rw [sel_rmv_other e])
    exact ⟨w0, k0, ((unhide K2).no _).trans h0 fun _ _ e => e, r0.1, fun c d g hg => (r0.2 c d g hg).imp id fun e => Nat.le_trans (unhide K2).size e⟩
end
end Go.Proofs.Ytngldlfobdiipaa.Lk
