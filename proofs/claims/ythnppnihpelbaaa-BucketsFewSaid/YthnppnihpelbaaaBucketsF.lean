/-
  The document's buckets: made, asked, taken from; a bucket brought to a tick again.
-/
import Derived.Test.YthnppnihpelbaaaBucketsE
namespace Go.Proofs.Ythnppnihpelbaaa
open Go.ChangeShapes Go.WideShapes Go.ChangeAt Go.RowKit
set_option linter.unusedVariables false
section
variable {w w' : World} {b : Nat} {x y : Bkt} {v : Bool} {n : Int}
theorem left_d (h : DK w b x) (now : Int) (hi : -9223372036854775808 ≤ now ∧ now ≤ 9223372036854775807) (hn : (x.bring now).t = n) (hy : x.bring now = y) : Calls Try.prog 10 #[.pointer (some ⟨b, 0, none⟩), .int .i64 now] w (DidD b (.int .i64 n) y w) := by
  subst hn hy
  have B := hide (bring_d h now hi)
  generalize x.bring now = y at B
  clear h
  go_enter Try.func10, Try.ntmps10
  go_wp2_with (first
    | (go_at_call 16; refine (unhide B).mono ?_; rintro e w1 ⟨rfl, k1, h1⟩; have c2 := h1.1.cells.2.2.1; have K1 := hide k1; have H1 := hide h1; clear k1 h1))
  go_ret
  exact ⟨rfl, unhide K1, unhide H1⟩
theorem take_d (h : DK w b x) (now : Int) (hi : -9223372036854775808 ≤ now ∧ now ≤ 9223372036854775807) (hv : x.can now = v) (hy : x.take now = y) : Calls Try.prog 13 #[.pointer (some ⟨b, 0, none⟩), .int .i64 now] w (DidD b (.bool v) y w) := by
  have OY := h.2.take now
  rw [hy] at OY
  have OB := h.2.bring now
  have L := bring_d h now hi
  have hcan : x.can now = decide ((x.bring now).t ≠ 0) := rfl
  have htake : x.take now = if x.can now then (x.bring now).less else x.bring now := rfl
  rw [hv] at hcan htake
  rw [hy] at htake
  generalize x.bring now = z at L OB hcan htake
  obtain ⟨h1, h2, h3, h4, h5, h6, h7, h8, h9⟩ := OB
  have L := hide L
  have OY := hide OY
  clear h hv hy
  by_cases a : z.t = 0
  · have hv : v = false := by rw [hcan]; simp [a]
    subst hv
    have hz : y = z := by rw [htake]; rfl
    subst hz
    have e0 : (y.t == 0) = true := by simpa using a
    clear htake hcan a
    go_enter Try.func13, Try.ntmps13
    go_wp2_with (first
      | (go_at_call 16; refine (unhide L).mono ?_; rintro e w1 ⟨rfl, k1, g1⟩; have c2 := g1.1.cells.2.2.1))
    go_ret
    exact ⟨rfl, k1, g1⟩
  · have hv : v = true := by rw [hcan]; simp [a]
    subst hv
    have hz : y = z.less := by rw [htake]; rfl
    have HZ := hide hz
    have e0 : (z.t == 0) = false := by simpa using a
    have p0 : 0 < z.t := by omega
    clear htake hcan hz a
    go_enter Try.func13, Try.ntmps13
    go_wp2_with (first
      | (go_at_call 16; refine (unhide L).mono ?_; rintro e w1 ⟨rfl, k1, g1⟩; have c2 := g1.1.cells.2.2.1)
      | (refine wpL_set rfl 3 (.tmp 19) (.tmp 17) rfl b 2 (.int .i64 (z.t - 1)) rfl rfl rfl size_int _ _ g1.1 (by simp) ?_; intro w2 k2 g2 z2))
    go_ret
    refine ⟨rfl, k1.trans k2 fun _ _ e => e, ?_, unhide OY⟩
    rw [unhide HZ]
    unfold DAt
    rw [g2]
    rfl
end
theorem rnew_yes {c r : Int} (h : mayB c r = true) (w : World) : Calls Try.prog 8 #[.int .i64 c, .int .i64 r] w (MadeD (fun p => .tuple #[p, .int .i64 0]) ⟨c, r, c, 0, 0⟩ w) := by
  have OK := hide (may_ok h)
  simp [mayB] at h
  have e1 : decide (c < 0) = false := by simp; omega
  have e2 : decide (16 < c) = false := by simp; omega
  have e3 : decide (r < 1) = false := by simp; omega
  have e4 : decide (1099511627776 < r) = false := by simp; omega
  clear h
  go_enter Try.func8, Try.ntmps8
  go_wp2_with fail
  go_ret2
  exact ⟨w.heap.size, rfl, Nat.le_refl _, (Chg.refl _ _).alloc _, heap_alloc_new w _, unhide OK⟩
theorem rnew_no {c r : Int} (h : mayB c r = false) (w : World) : Calls Try.prog 8 #[.int .i64 c, .int .i64 r] w (fun e w' => e = .returned (.tuple #[.pointer none, .int .i64 2]) ∧ w = w') := by
  simp [mayB] at h
  by_cases e1 : c < 0
  · have f1 : decide (c < 0) = true := by simpa using e1
    clear h
    go_enter Try.func8, Try.ntmps8
    go_wp2
    go_ret2
    exact ⟨rfl, rfl⟩
  have f1 : decide (c < 0) = false := by simpa using e1
  by_cases e2 : 16 < c
  · have f2 : decide (16 < c) = true := by simpa using e2
    clear h
    go_enter Try.func8, Try.ntmps8
    go_wp2
    go_ret2
    exact ⟨rfl, rfl⟩
  have f2 : decide (16 < c) = false := by simpa using e2
  by_cases e3 : r < 1
  · have f3 : decide (r < 1) = true := by simpa using e3
    clear h
    go_enter Try.func8, Try.ntmps8
    go_wp2
    go_ret2
    exact ⟨rfl, rfl⟩
  have f3 : decide (r < 1) = false := by simpa using e3
  have f4 : decide (1099511627776 < r) = true := by simp; omega
  clear h
  go_enter Try.func8, Try.ntmps8
  go_wp2
  go_ret2
  exact ⟨rfl, rfl⟩
/-! ### brought to a tick again -/
theorem tick_old {x : Bkt} {m : Int} (h : m ≤ x.k) : x.tick m = x := by
  have h2 : max x.k (min m 1099511627776) = x.k := by omega
  unfold Bkt.tick; rw [h2]
theorem top_again {z : Bkt} (h : z.may = false) (hc : z.t ≤ z.c) : z.top.may = false ∧ z.top.top = z.top := by
  unfold Bkt.top
  split
  · rename_i e
    refine ⟨?_, ?_⟩
    · simp [Bkt.may, e]
    · simp
  · rename_i e
    exact ⟨h, rfl⟩
theorem bring_again {x : Bkt} (o : x.Ok) (n m : Int) (h : m ≤ (x.bring n).k) : (x.bring n).bring m = x.bring n := by
  obtain ⟨h1, h2⟩ := top_again (z := (x.tick n).fill) ((fill_of (fun _ => True) (fun _ _ _ => trivial) trivial).2 (o.tick n).tc) (o.tick n).fill.tc
  show ((x.bring n).tick m).fill.top = x.bring n
  rw [tick_old h]
  show (x.tick n).fill.top.fill.top = (x.tick n).fill.top
  rw [fill_not h1, h2]
theorem bring_old {x : Bkt} {n m : Int} (hn : n ≤ x.k) (hm : m ≤ x.k) : x.bring n = x.bring m := by
  unfold Bkt.bring
  rw [tick_old hn, tick_old hm]
theorem bring_back {x : Bkt} (o : x.Ok) : (x.bring 0).bring (-1) = x.bring 0 ∧ x.bring (-1) = x.bring 0 := by
  have h := o.bring 0
  have := o.s0
  have := o.sk
  have := h.s0
  have := h.sk
  exact ⟨bring_again o 0 (-1) (by omega), bring_old (by omega) (by omega)⟩
#print axioms bring_back
end Go.Proofs.Ythnppnihpelbaaa
