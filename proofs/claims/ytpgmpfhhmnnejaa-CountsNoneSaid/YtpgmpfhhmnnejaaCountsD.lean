/-
  The document's counters; are counters these?
-/
import Derived.Test.YtpgmpfhhmnnejaaCountsC
namespace Go.Proofs.Ytpgmpfhhmnnejaa
open Go.ChangeShapes Go.WideShapes Go.ChangeAt Go.RowKit
set_option linter.unusedVariables false
theorem size_i64 : (Try.prog.info? 2).map (·.size) = some 1 := by kernel_rfl
section
variable {w w' : World} {b g q cap : Nat} {l : List Int} {S : Nat → Prop} {k n : Nat} {x y i : Int} {p : Value}
theorem LAt.mk' {cur : Array Value} (h1 : w.heap[q]? = some (.cells cur 2 (0, 0))) (h2 : l.length ≤ cap) (h3 : cap ≤ maxLen) (h4 : cur.size = cap) (h5 : cur.toList.take l.length = l.map (.int .i64 ·)) (h0 : 0 < l.length) : LAt w q cap l :=
  ⟨⟨by simp, .inr ⟨q, cap, cur, rfl, Nat.zero_le _, h1, h2, h3, by omega, by simpa using h5⟩⟩, h0⟩
theorem LAt.drewN (h : LAt w q cap l) (n : Nat) : LAt (w.drewN n) q cap l := h
theorem LAt.drew (h : LAt w q cap l) : LAt w.drew q cap l := h
/-- a number written into a list -/
theorem wpL_lset {P : Program} {ops : Array Oper} {rest : List Oper} {o : Oper} {a : Act} {w : World} {Q : Exit → Act → World → Prop} (hgd : o.guard = none) (T : TypeId) (X Y : Operand) (ho : o.op = .store T X Y) (q k cap : Nat) (l : List Int) (x : Int) (hx : a.eval X = .pointer (some ⟨q, k, none⟩)) (hy : a.eval Y = .int .i64 x)
    (hi : (P.info? T).map (·.size) = some 1) (hL : LAt w q cap l) (hk : k < l.length)
    (h : ∀ w', Chg (oneBlk q) w w' → LAt w' q cap (l.set k x) → w'.heap.size = w.heap.size → wpList P ops Q rest (a.put o.dst undef) w') : wpList P ops Q (o :: rest) a w := by
  obtain ⟨cur, h1, h2, h3, h4, h5⟩ := hL.block
  refine wpL_set hgd T X Y ho q k (.int .i64 x) hx hy rfl hi cur _ h1 (by omega) fun w' c g z => h w' c ?_ z
  refine LAt.mk' g (by simpa using h2) h3 (by simpa using h4) ?_ (by simpa using hL.2)
  simp only [Array.toList_setIfInBounds, List.length_set]
  rw [List.take_set, h5, List.map_set]
theorem rnew_c {n : Nat} (h1 : 1 ≤ n) (h2 : n ≤ 64) (w : World) : Calls Try.prog 8 #[.int .i64 (n : Int)] w (fun e w' => ∃ q, e = .returned (.tuple #[.slice (some ⟨q, 0, none⟩) n n, .int .i64 0]) ∧ w.heap.size ≤ q ∧ Chg noBlk w w' ∧ LAt w' q n (List.replicate n 0)) := by
  have e1 : decide ((n : Int) < 1) = false := by simp; omega
  have e2 : decide (64 < (n : Int)) = false := by simp; omega
  go_enter Try.func8, Try.ntmps8
  go_wp2_with (first
    | (refine wpL_make1 rfl 28 (.tmp 10) (.tmp 10) rfl 2 (.int .i64 0) 8 Try.underlying28 info_i64 rfl n rfl rfl (by omega) (by omega) ?_; intro g w2 e2 k2 g2 z2))
  go_ret2
  exact ⟨g, rfl, by omega, k2, LAt.mk' g2 (by simp) (by unfold maxLen; omega) (by simp) (by simp) (by simp; omega)⟩
theorem rnew_not {i : Int} (h : i < 1 ∨ 64 < i) (w : World) : Calls Try.prog 8 #[.int .i64 i] w (Told (.tuple #[.slice none 0 0, .int .i64 2]) w) := by
  by_cases e1 : i < 1
  · have f1 : decide (i < 1) = true := by simpa using e1
    clear h
    go_enter Try.func8, Try.ntmps8
    go_wp2
    go_ret2
    exact ⟨rfl, rfl⟩
  have f1 : decide (i < 1) = false := by simpa using e1
  have f2 : decide (64 < i) = true := by simp; omega
  clear h
  go_enter Try.func8, Try.ntmps8
  go_wp2
  go_ret2
  exact ⟨rfl, rfl⟩
theorem radd_arg {by' : Int} (v : Value) (hb : by' < 0) : Calls Try.prog 11 #[v, .int .i64 i, .int .i64 by'] w (Told (.tuple #[v, .int .i64 0, .int .i64 2]) w) := by
  have e1 : decide (by' < 0) = true := by simpa using hb
  clear hb
  go_enter Try.func11, Try.ntmps11
  go_wp2
  go_ret3
  exact ⟨rfl, rfl⟩
theorem radd_not {by' : Int} (ad : Option Addr) (n cap : Nat) (hb : 0 ≤ by') (hi : i < 0 ∨ (n : Int) ≤ i) : Calls Try.prog 11 #[.slice ad n cap, .int .i64 i, .int .i64 by'] w (Told (.tuple #[.slice ad n cap, .int .i64 0, .int .i64 4]) w) := by
  have e1 : decide (by' < 0) = false := by simpa using hb
  by_cases h0 : i < 0
  · have e2 : decide (i < 0) = true := by simpa using h0
    clear hi hb
    go_enter Try.func11, Try.ntmps11
    go_wp2
    go_ret3
    exact ⟨rfl, rfl⟩
  · have e2 : decide (i < 0) = false := by simpa using h0
    have e3 : decide ((n : Int) ≤ i) = true := by simp; omega
    clear hi hb h0
    go_enter Try.func11, Try.ntmps11
    go_wp2
    go_ret3
    exact ⟨rfl, rfl⟩
/-- told: a new list, a number, and the error -/
def MadeR (l : List Int) (x e0 : Int) (w : World) (e : Ending) (w' : World) : Prop := ∃ q cap, e = .returned (.tuple #[.slice (some ⟨q, 0, none⟩) l.length cap, .int .i64 x, .int .i64 e0]) ∧ w.heap.size ≤ q ∧ Chg noBlk w w' ∧ LAt w' q cap l
set_option maxHeartbeats 400000 in
theorem radd_at (h : LAt w q cap l) (f : Fit l) {by' : Int} (hb : 0 ≤ by') (hb2 : by' ≤ 9223372036854775807) (hk : l[k]? = some x) : Calls Try.prog 11 #[.slice (some ⟨q, 0, none⟩) l.length cap, .int .i64 (k : Int), .int .i64 by'] w (MadeR (l.set k (up x by')) (up x by') 0 w) := by
  obtain ⟨x0, x1⟩ := f.at hk
  have f64 := f.few
  have hlt := (List.getElem?_eq_some_iff.1 hk).1
  obtain ⟨y, hy⟩ : ∃ y, up x by' = y := ⟨_, rfl⟩
  rw [hy]
  have R := hide h.reads
  have HK := hide hk
  have HY := hide hy
  have i1 : (0 : Int) ≤ (k : Int) := by omega
  have i2 : (k : Int) < (l.length : Int) := by omega
  have e1 : decide (by' < 0) = false := by simpa using hb
  have e2 : decide ((k : Int) < 0) = false := by simp
  have e3 : decide (l.length ≤ k) = false := by simpa using hlt
  clear h hk hy
  by_cases hc : 4611686018427387904 - x < by'
  · have d1 : decide (4611686018427387904 - x < by') = true := by simpa using hc
    have hy2 : y = 4611686018427387904 := by have := unhide HY; unfold up at this; rw [if_neg (by omega)] at this; exact this.symm
    subst hy2
    clear hc
    go_enter Try.func11, Try.ntmps11
    go_wp2_with (first
      | (refine wpL_clone rfl (.tmp 23) 28 (by rfl) 2 (.int .i64 0) 1 8 Try.underlying28 info_i64 rfl (by decide) _ l.length (l.map (.int .i64 ·)) rfl (unhide R) (by unfold maxLen; omega) (by omega) ?_; intro v' w2 k2 o2 f2 o3; obtain ⟨q2, cap2, rfl, hL⟩ := LAt.of o2 (by omega); have HL := hide hL; have K2 := hide k2; have F2 := hide f2; clear k2 f2 o2 hL o3; have c2 := (unhide HL).cell (unhide HK))
      | (refine wpL_lset rfl 2 (.tmp 36) (.tmp 35) rfl q2 k cap2 l 4611686018427387904 rfl rfl size_i64 (unhide HL) hlt ?_; intro w3 k3 h3 z3; clear c2; have HL3 := hide h3; have K3 := hide k3; clear h3 k3; have c3 := (unhide HL3).cell (k := k) (x := 4611686018427387904) (by simp [hlt])))
    go_quiet (fail)
    go_wp2_with fail
    go_ret3
    refine ⟨q2, cap2, by rw [List.length_set]; rfl, by have := unhide F2 q2 rfl; omega, ((unhide K2).trans (unhide K3) fun i hi e => by have e : i = q2 := e; have := unhide F2 q2 rfl; omega).drewN _, unhide HL3⟩
  · have d1 : decide (4611686018427387904 - x < by') = false := by simpa using hc
    have hy2 : x + by' = y := by have := unhide HY; unfold up at this; rw [if_pos (by omega)] at this; exact this
    have HY2 := hide hy2
    have hs : x + by' ≤ 4611686018427387904 := by omega
    clear hc hy2
    go_enter Try.func11, Try.ntmps11
    go_wp2_with (first
      | (refine wpL_clone rfl (.tmp 23) 28 (by rfl) 2 (.int .i64 0) 1 8 Try.underlying28 info_i64 rfl (by decide) _ l.length (l.map (.int .i64 ·)) rfl (unhide R) (by unfold maxLen; omega) (by omega) ?_; intro v' w2 k2 o2 f2 o3; obtain ⟨q2, cap2, rfl, hL⟩ := LAt.of o2 (by omega); have HL := hide hL; have K2 := hide k2; have F2 := hide f2; clear k2 f2 o2 hL o3; have c2 := (unhide HL).cell (unhide HK))
      | (refine wpL_lset rfl 2 (.tmp 45) (.tmp 44) rfl q2 k cap2 l y rfl (by rw [← unhide HY2]; rfl) size_i64 (unhide HL) hlt ?_; intro w3 k3 h3 z3; clear c2; have HL3 := hide h3; have K3 := hide k3; clear h3 k3; have c3 := (unhide HL3).cell (k := k) (x := y) (by simp [hlt])))
    go_quiet (fail)
    go_wp2_with fail
    go_ret3
    refine ⟨q2, cap2, by rw [List.length_set]; rfl, by have := unhide F2 q2 rfl; omega, ((unhide K2).trans (unhide K3) fun i hi e => by have e : i = q2 := e; have := unhide F2 q2 rfl; omega).drewN _, unhide HL3⟩
end
end Go.Proofs.Ytpgmpfhhmnnejaa
