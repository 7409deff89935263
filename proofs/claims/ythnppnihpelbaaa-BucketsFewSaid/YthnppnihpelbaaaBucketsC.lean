/-
  Contracts of buckets: one with what may be of it; made, copied, asked, taken from; one that is none.
-/
import Derived.Test.YthnppnihpelbaaaBucketsB
namespace Go.Proofs.Ythnppnihpelbaaa
open Go.ChangeShapes Go.WideShapes Go.ChangeAt Go.RowKit
set_option linter.unusedVariables false
/-- at b stands the bucket x, that may be -/
def BK (w : World) (b : Nat) (x : Bkt) : Prop := BAt w b x ∧ x.Ok
/-- told: v; behind it the bucket at b is x, and nothing else has turned -/
def DidK (b : Nat) (v : Value) (x : Bkt) (w : World) (e : Ending) (w' : World) : Prop := e = .returned v ∧ Chg (oneBlk b) w w' ∧ BK w' b x
/-- told: a new bucket, and nothing that was there has turned -/
def MadeK (v : Value → Value) (x : Bkt) (w : World) (e : Ending) (w' : World) : Prop := ∃ b, e = .returned (v (.pointer (some ⟨b, 0, none⟩))) ∧ w.heap.size ≤ b ∧ Chg noBlk w w' ∧ BK w' b x
/-- told: true; nothing that was there has turned -/
def ToldB (v : Bool) (w : World) (e : Ending) (w' : World) : Prop := e = .returned (.bool v) ∧ Chg noBlk w w'
section
variable {w w' : World} {b : Nat} {x y : Bkt} {S : Nat → Prop} {v : Bool} {n : Int}
theorem BK.kept (h : BK w b x) (k : Chg S w w') (hn : ¬ S b) : BK w' b x := ⟨h.1.kept k hn, h.2⟩
theorem BK.no (h : BK w b x) (k : Chg noBlk w w') : BK w' b x := h.kept k id
theorem BK.drewN (h : BK w b x) (n : Nat) : BK (w.drewN n) b x := h
theorem BK.lt (h : BK w b x) : b < w.heap.size := lt_of_block h.1
theorem left_k (h : BK w b x) (now : Int) (hi : -9223372036854775808 ≤ now ∧ now ≤ 9223372036854775807) (hn : (x.bring now).t = n) (hy : x.bring now = y) : Calls Try.prog 9 #[.pointer (some ⟨b, 0, none⟩), .int .i64 now] w (DidK b (.int .i64 n) y w) := by
  subst hn hy
  have N := hide (none_at h.1 h.2.r1)
  have B := hide (bring_at h.1 h.2 now hi)
  have OY := hide (h.2.bring now)
  generalize x.bring now = y at B OY
  clear h
  go_enter Try.func9, Try.ntmps9
  go_wp2_with (first
    | (go_at_call 14; refine (unhide N).mono ?_; rintro e w' ⟨rfl, rfl⟩)
    | (go_at_call 15; refine (unhide B).mono ?_; rintro e w1 ⟨rfl, k1, h1⟩; have c2 := h1.cells.2.2.1; have K1 := hide k1; have H1 := hide h1; clear k1 h1))
  go_ret
  exact ⟨rfl, unhide K1, unhide H1, unhide OY⟩
theorem take_k (h : BK w b x) (now : Int) (hi : -9223372036854775808 ≤ now ∧ now ≤ 9223372036854775807) (hv : x.can now = v) (hy : x.take now = y) : Calls Try.prog 12 #[.pointer (some ⟨b, 0, none⟩), .int .i64 now] w (DidK b (.bool v) y w) := by
  have OY := h.2.take now
  rw [hy] at OY
  have OB := h.2.bring now
  have L := left_k h now hi rfl rfl
  have hcan : x.can now = decide ((x.bring now).t ≠ 0) := rfl
  have htake : x.take now = if x.can now then (x.bring now).less else x.bring now := rfl
  rw [hv] at hcan htake
  rw [hy] at htake
  generalize x.bring now = z at L OB hcan htake
  obtain ⟨h1, h2, h3, h4, h5, h6, h7, h8, h9⟩ := OB
  clear h hv hy
  by_cases a : z.t = 0
  · have hv : v = false := by rw [hcan]; simp [a]
    subst hv
    rw [a] at L
    have L := hide L
    have hz : y = z := by rw [htake]; rfl
    subst hz
    clear htake hcan a
    go_enter Try.func12, Try.ntmps12
    go_wp2_with (first
      | (go_at_call 9; refine (unhide L).mono ?_; rintro e w1 ⟨rfl, k1, g1⟩))
    go_ret
    exact ⟨rfl, k1, g1⟩
  · have hv : v = true := by rw [hcan]; simp [a]
    subst hv
    have L := hide L
    have hz : y = z.less := by rw [htake]; rfl
    have HZ := hide hz
    have OY := hide OY
    have e0 : (z.t == 0) = false := by simpa using a
    have p0 : 0 < z.t := by omega
    clear htake hcan hz a
    go_enter Try.func12, Try.ntmps12
    go_wp2_with (first
      | (go_at_call 9; refine (unhide L).mono ?_; rintro e w1 ⟨rfl, k1, g1⟩; have c2 := g1.1.cells.2.2.1)
      | (refine wpL_set rfl 3 (.tmp 15) (.tmp 13) rfl b 2 (.int .i64 (z.t - 1)) rfl rfl rfl size_int _ _ g1.1 (by simp) ?_; intro w2 k2 g2 z2))
    go_ret
    refine ⟨rfl, k1.trans k2 fun _ _ e => e, ?_, unhide OY⟩
    rw [unhide HZ]
    unfold BAt
    rw [g2]
    rfl
theorem zero_bkt : (Try.prog.info? 38).bind (·.zero) = some (.agg #[.int .i64 0, .int .i64 0, .int .i64 0, .int .i64 0, .int .i64 0]) := by kernel_rfl
theorem row_one (c l d s m : Int) : (#[.int .i64 c, .int .i64 l, .int .i64 d, .int .i64 s, .int .i64 m] : Array Value).all (·.oneCell') = true := all_oneCell_toArray (cs := [.int .i64 c, .int .i64 l, .int .i64 d, .int .i64 s, .int .i64 m]) (by simp [Value.oneCell'])
theorem copy_k (h : BK w b x) : Calls Try.prog 11 #[.pointer (some ⟨b, 0, none⟩)] w (MadeK id x w) := by
  have N := hide (none_at h.1 h.2.r1)
  have H := hide h
  clear h
  go_enter Try.func11, Try.ntmps11
  go_wp2_with (first
    | (go_at_call 14; refine (unhide N).mono ?_; rintro e w' ⟨rfl, rfl⟩)
    | (refine wpL_load rfl 38 (.tmp 7) rfl b rfl #[.int .i64 x.c, .int .i64 x.r, .int .i64 x.t, .int .i64 x.k, .int .i64 x.s] 38 (0, 0) (unhide H).1 _ Try.underlying38 rfl (by rw [size_bkt]; rfl) ?_)
    | (refine wpL_alloc rfl 38 rfl _ zero_bkt ?_; intro b2 w2 e2 k2 g2 z2)
    | (refine wpL_store rfl 38 (.tmp 3) (.tmp 8) rfl b2 #[.int .i64 x.c, .int .i64 x.r, .int .i64 x.t, .int .i64 x.k, .int .i64 x.s] rfl rfl _ _ g2 (by rw [size_bkt]; rfl) rfl (row_one _ _ _ _ _) ?_; intro w3 k3 g3 z3))
  go_ret
  exact ⟨b2, rfl, by omega, k2.trans k3 fun i hi e => by have e : i = b2 := e; omega, g3, (unhide H).2⟩
end
/-- may these be? -/
def mayB (c r : Int) : Bool := decide (0 ≤ c) && decide (c ≤ 16) && decide (1 ≤ r) && decide (r ≤ 1099511627776)
theorem may_ok {c r : Int} (h : mayB c r = true) : (⟨c, r, c, 0, 0⟩ : Bkt).Ok := by
  simp [mayB] at h
  constructor <;> simp <;> omega
theorem new_k {c r : Int} (h : mayB c r = true) (w : World) : Calls Try.prog 7 #[.int .i64 c, .int .i64 r] w (MadeK (fun p => .tuple #[p, .int .i64 0]) ⟨c, r, c, 0, 0⟩ w) := by
  have OK := hide (may_ok h)
  simp [mayB] at h
  have e1 : decide (c < 0) = false := by simp; omega
  have e2 : decide (16 < c) = false := by simp; omega
  have e3 : decide (r < 1) = false := by simp; omega
  have e4 : decide (1099511627776 < r) = false := by simp; omega
  clear h
  go_enter Try.func7, Try.ntmps7
  go_wp2_with fail
  go_ret2
  exact ⟨w.heap.size, rfl, Nat.le_refl _, (Chg.refl _ _).alloc _, heap_alloc_new w _, unhide OK⟩
theorem new_no {c r : Int} (h : mayB c r = false) (w : World) : Calls Try.prog 7 #[.int .i64 c, .int .i64 r] w (fun e w' => e = .returned (.tuple #[.pointer none, .int .i64 2]) ∧ w = w') := by
  simp [mayB] at h
  by_cases e1 : c < 0
  · have f1 : decide (c < 0) = true := by simpa using e1
    clear h
    go_enter Try.func7, Try.ntmps7
    go_wp2
    go_ret2
    exact ⟨rfl, rfl⟩
  have f1 : decide (c < 0) = false := by simpa using e1
  by_cases e2 : 16 < c
  · have f2 : decide (16 < c) = true := by simpa using e2
    clear h
    go_enter Try.func7, Try.ntmps7
    go_wp2
    go_ret2
    exact ⟨rfl, rfl⟩
  have f2 : decide (16 < c) = false := by simpa using e2
  by_cases e3 : r < 1
  · have f3 : decide (r < 1) = true := by simpa using e3
    clear h
    go_enter Try.func7, Try.ntmps7
    go_wp2
    go_ret2
    exact ⟨rfl, rfl⟩
  have f3 : decide (r < 1) = false := by simpa using e3
  have f4 : decide (1099511627776 < r) = true := by simp; omega
  clear h
  go_enter Try.func7, Try.ntmps7
  go_wp2
  go_ret2
  exact ⟨rfl, rfl⟩
/-! ### one that is none -/
section
variable {w : World} {p : Value}
theorem IsNone.no {w' : World} (h : IsNone w p) (k : Chg noBlk w w') : IsNone w' p := by
  rcases h with rfl | ⟨b, rfl, h⟩
  · exact .inl rfl
  · exact .inr ⟨b, rfl, h.kept k id⟩
theorem left_no (h : IsNone w p) (now : Int) (hi : -9223372036854775808 ≤ now ∧ now ≤ 9223372036854775807) : Calls Try.prog 9 #[p, .int .i64 now] w (fun e w' => e = .returned (.int .i64 0) ∧ w = w') := by
  have N := hide (none_is h)
  clear h
  go_enter Try.func9, Try.ntmps9
  go_wp2_with (first
    | (go_at_call 14; refine (unhide N).mono ?_; rintro e w' ⟨rfl, rfl⟩))
  go_ret
  exact ⟨rfl, rfl⟩
theorem take_no (h : IsNone w p) (now : Int) (hi : -9223372036854775808 ≤ now ∧ now ≤ 9223372036854775807) : Calls Try.prog 12 #[p, .int .i64 now] w (fun e w' => e = .returned (.bool false) ∧ w = w') := by
  have L := hide (left_no h now hi)
  clear h
  go_enter Try.func12, Try.ntmps12
  go_wp2_with (first
    | (go_at_call 9; refine (unhide L).mono ?_; rintro e w' ⟨rfl, rfl⟩))
  go_ret
  exact ⟨rfl, rfl⟩
theorem copy_no (h : IsNone w p) : Calls Try.prog 11 #[p] w (fun e w' => e = .returned (.pointer none) ∧ w = w') := by
  have N := hide (none_is h)
  clear h
  go_enter Try.func11, Try.ntmps11
  go_wp2_with (first
    | (go_at_call 14; refine (unhide N).mono ?_; rintro e w' ⟨rfl, rfl⟩))
  go_ret
  exact ⟨rfl, rfl⟩
end
end Go.Proofs.Ythnppnihpelbaaa
