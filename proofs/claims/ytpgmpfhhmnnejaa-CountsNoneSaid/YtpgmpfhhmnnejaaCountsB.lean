/-
  Contracts of counters: how many, is there one, looked at, added to, made; of ones that are none.
-/
import Derived.Test.YtpgmpfhhmnnejaaCountsA
namespace Go.Proofs.Ytpgmpfhhmnnejaa
open Go.ChangeShapes Go.WideShapes Go.ChangeAt Go.RowKit
set_option linter.unusedVariables false
/-- ones that New did not make -/
def IsNone (w : World) (p : Value) : Prop := p = .pointer none ∨ ∃ b, p = .pointer (some ⟨b, 0, none⟩) ∧ w.heap[b]? = some (.cells #[.slice none 0 0] 44 (0, 0))
section
variable {w w' : World} {b g : Nat} {l : List Int} {k n : Nat} {x y i : Int} {p : Value}
theorem IsNone.no (h : IsNone w p) (k : Chg noBlk w w') : IsNone w' p := by
  rcases h with rfl | ⟨b, rfl, h⟩
  · exact .inl rfl
  · exact .inr ⟨b, rfl, k.at h id⟩
theorem count_at (h : CAt w b g l) (hn : l.length = n) : Calls Try.prog 15 #[.pointer (some ⟨b, 0, none⟩)] w (Told (.int .i64 (n : Int)) w) := by
  have c1 := h.head
  rw [hn] at c1
  clear h hn
  go_enter Try.func15, Try.ntmps15
  go_wp2
  go_ret
  exact ⟨rfl, rfl⟩
theorem count_no (h : IsNone w p) : Calls Try.prog 15 #[p] w (Told (.int .i64 0) w) := by
  rcases h with rfl | ⟨b, rfl, h⟩
  · go_enter Try.func15, Try.ntmps15
    go_wp2
    go_ret
    exact ⟨rfl, rfl⟩
  · have c1 := cellAt h 0 _ rfl
    clear h
    go_enter Try.func15, Try.ntmps15
    go_wp2
    go_ret
    exact ⟨rfl, rfl⟩
theorem has_yes (h : CAt w b g l) (hk : l[k]? = some x) : Calls Try.prog 18 #[.pointer (some ⟨b, 0, none⟩), .int .i64 (k : Int)] w (Told (.bool true) w) := by
  have hlt := (List.getElem?_eq_some_iff.1 hk).1
  obtain ⟨n, hn⟩ : ∃ n, l.length = n := ⟨_, rfl⟩
  have C := hide (count_at h hn)
  rw [hn] at hlt
  have e1 : decide ((0 : Int) ≤ (k : Int)) = true := by simp
  have e2 : decide (k < n) = true := by simpa using hlt
  clear h hk hn
  go_enter Try.func18, Try.ntmps18
  go_wp2_with (first
    | (go_at_call 15; refine (unhide C).mono ?_; rintro e w' ⟨rfl, rfl⟩))
  go_ret
  exact ⟨rfl, rfl⟩
theorem has_not (C : Hid (Calls Try.prog 15 #[p] w (Told (.int .i64 (n : Int)) w))) (hi : i < 0 ∨ (n : Int) ≤ i) : Calls Try.prog 18 #[p, .int .i64 i] w (Told (.bool false) w) := by
  by_cases h0 : i < 0
  · have e1 : decide ((0 : Int) ≤ i) = false := by simp; omega
    clear hi
    go_enter Try.func18, Try.ntmps18
    go_wp2
    go_ret
    exact ⟨rfl, rfl⟩
  · have e1 : decide ((0 : Int) ≤ i) = true := by simp; omega
    have e2 : decide (i < (n : Int)) = false := by simp; omega
    clear hi h0
    go_enter Try.func18, Try.ntmps18
    go_wp2_with (first
      | (go_at_call 15; refine (unhide C).mono ?_; rintro e w' ⟨rfl, rfl⟩))
    go_ret
    exact ⟨rfl, rfl⟩
theorem get_at (h : CAt w b g l) (hk : l[k]? = some x) : Calls Try.prog 13 #[.pointer (some ⟨b, 0, none⟩), .int .i64 (k : Int)] w (Told (.int .i64 x) w) := by
  have HC := hide (has_yes h hk)
  have HL := hide (aload (h.cell hk))
  have c1 := h.head
  have hlt := (List.getElem?_eq_some_iff.1 hk).1
  generalize l.length = n at c1 hlt
  have i1 : (0 : Int) ≤ (k : Int) := by omega
  have i2 : (k : Int) < (n : Int) := by omega
  clear h hk hlt
  go_enter Try.func13, Try.ntmps13
  go_wp2_with (first
    | (go_at_call 18; refine (unhide HC).mono ?_; rintro e w' ⟨rfl, rfl⟩)
    | (go_at_call 17; refine (unhide HL).mono ?_; rintro e w' ⟨rfl, rfl⟩))
  go_ret
  exact ⟨rfl, rfl⟩
theorem get_not (C : Hid (Calls Try.prog 18 #[p, .int .i64 i] w (Told (.bool false) w))) : Calls Try.prog 13 #[p, .int .i64 i] w (Told (.int .i64 0) w) := by
  go_enter Try.func13, Try.ntmps13
  go_wp2_with (first
    | (go_at_call 18; refine (unhide C).mono ?_; rintro e w' ⟨rfl, rfl⟩))
  go_ret
  exact ⟨rfl, rfl⟩
theorem add_none (h : IsNone w p) (i by' : Int) : Calls Try.prog 10 #[p, .int .i64 i, .int .i64 by'] w (Told (.tuple #[.int .i64 0, .int .i64 1]) w) := by
  have C := hide (count_no h)
  clear h
  go_enter Try.func10, Try.ntmps10
  go_wp2_with (first
    | (go_at_call 15; refine (unhide C).mono ?_; rintro e w' ⟨rfl, rfl⟩))
  go_ret2
  exact ⟨rfl, rfl⟩
theorem add_arg (h : CAt w b g l) {by' : Int} (hb : by' < 0) : Calls Try.prog 10 #[.pointer (some ⟨b, 0, none⟩), .int .i64 i, .int .i64 by'] w (Told (.tuple #[.int .i64 0, .int .i64 2]) w) := by
  obtain ⟨n, hn⟩ : ∃ n, l.length = n := ⟨_, rfl⟩
  have C := hide (count_at h hn)
  have e0 : ((n : Int) == 0) = false := by have := h.fit.pos; simp; omega
  have e1 : decide (by' < 0) = true := by simpa using hb
  clear h hb hn
  go_enter Try.func10, Try.ntmps10
  go_wp2_with (first
    | (go_at_call 15; refine (unhide C).mono ?_; rintro e w' ⟨rfl, rfl⟩))
  go_ret2
  exact ⟨rfl, rfl⟩
theorem add_not (h : CAt w b g l) {by' : Int} (hb : 0 ≤ by') (hi : i < 0 ∨ (l.length : Int) ≤ i) : Calls Try.prog 10 #[.pointer (some ⟨b, 0, none⟩), .int .i64 i, .int .i64 by'] w (Told (.tuple #[.int .i64 0, .int .i64 4]) w) := by
  have D := hide (has_not (hide (count_at h rfl)) hi)
  obtain ⟨n, hn⟩ : ∃ n, l.length = n := ⟨_, rfl⟩
  have C := hide (count_at h hn)
  have e0 : ((n : Int) == 0) = false := by have := h.fit.pos; simp; omega
  have e1 : decide (by' < 0) = false := by simpa using hb
  clear h hb hn hi
  go_enter Try.func10, Try.ntmps10
  go_wp2_with (first
    | (go_at_call 15; refine (unhide C).mono ?_; rintro e w' ⟨rfl, rfl⟩)
    | (go_at_call 18; refine (unhide D).mono ?_; rintro e w' ⟨rfl, rfl⟩))
  go_ret2
  exact ⟨rfl, rfl⟩
/-- told: v; behind it the counters are l -/
def DidC (b g : Nat) (v : Value) (l : List Int) (w : World) (e : Ending) (w' : World) : Prop := e = .returned v ∧ Chg (oneBlk g) w w' ∧ CAt w' b g l
set_option maxHeartbeats 400000 in
theorem add_at (h : CAt w b g l) {by' : Int} (hb : 0 ≤ by') (hb2 : by' ≤ 9223372036854775807) (hk : l[k]? = some x) : Calls Try.prog 10 #[.pointer (some ⟨b, 0, none⟩), .int .i64 (k : Int), .int .i64 by'] w (DidC b g (.tuple #[.int .i64 (up x by'), .int .i64 0]) (l.set k (up x by')) w) := by
  obtain ⟨x0, x1⟩ := h.fit.at hk
  obtain ⟨s1, s2⟩ := h.set k (up_bd x0 hb)
  obtain ⟨n, hn⟩ : ∃ n, l.length = n := ⟨_, rfl⟩
  have C := hide (count_at h hn)
  have D := hide (has_yes h hk)
  have L := hide (aload (h.cell hk))
  have SW := hide (aswap (y := up x by') (h.cell hk) (h.free k))
  have S1 := hide s1
  have S2 := hide s2
  have c1 := h.head
  rw [hn] at c1
  have e0 : ((n : Int) == 0) = false := by have := h.fit.pos; simp; omega
  have e1 : decide (by' < 0) = false := by simpa using hb
  have hlt := (List.getElem?_eq_some_iff.1 hk).1
  have i1 : (0 : Int) ≤ (k : Int) := by omega
  have i2 : (k : Int) < (n : Int) := by omega
  obtain ⟨m, hm⟩ : ∃ m, m = min by' (4611686018427387904 - x) := ⟨_, rfl⟩
  have hmin : ∀ ts t W, (Builtin.min_ ts t #[.int .i64 by', .int .i64 (4611686018427387904 - x)]).run Try.prog W = .ok (.int .i64 m) W := fun ts t W => by
    rw [run_min_int2, hm]; congr 2; split <;> omega
  have m0 : 0 ≤ m := by omega
  have m1 : m ≤ 4611686018427387904 - x := by omega
  have hs : x + m = up x by' := by rw [hm]; unfold up; split <;> omega
  have HS := hide hs
  generalize up x by' = s at SW S1 S2 HS
  clear h hb hn hk hm hs hlt
  go_enter Try.func10, Try.ntmps10
  go_wp2_with (first
    | (go_at_call 15; refine (unhide C).mono ?_; rintro e w' ⟨rfl, rfl⟩)
    | (go_at_call 18; refine (unhide D).mono ?_; rintro e w' ⟨rfl, rfl⟩))
  go_loop [] True 0
  case atStart => trivial
  case round =>
    go_wp2_with (first
      | (go_at_call 17; refine (unhide L).mono ?_; rintro e w' ⟨rfl, rfl⟩)
      | (go_at_call 19; rw [unhide HS]; refine (unhide SW).mono ?_; rintro e w' ⟨rfl, rfl⟩))
    go_ret2
    exact ⟨by first | rfl | (rw [← unhide HS]; rfl), unhide S2, unhide S1⟩
end
theorem zero_int64 : (Try.prog.info? 52).map (fun i => (i.zero, i.size, i.bytes)) = some (some (.agg #[.int .i64 0]), 1, 8) := by kernel_rfl
theorem built_counts (g n : Nat) : Try.prog.built 44 [(0, .slice (some ⟨g, 0, none⟩) n n)] = some #[.slice (some ⟨g, 0, none⟩) n n] := by rfl
/-- told: new counters, l -/
def MadeC (v : Value → Value) (l : List Int) (w : World) (e : Ending) (w' : World) : Prop := ∃ b g, e = .returned (v (.pointer (some ⟨b, 0, none⟩))) ∧ w.heap.size ≤ b ∧ w.heap.size ≤ g ∧ Chg noBlk w w' ∧ CAt w' b g l
theorem rep_cells (n : Nat) : (List.replicate n [Value.int .i64 0]).flatten.toArray = cellsOf (List.replicate n 0) := by
  unfold cellsOf
  congr 1
  induction n with
  | zero => rfl
  | succ n ih => simp [List.replicate_succ, ih]
theorem new_c {n : Nat} (h1 : 1 ≤ n) (h2 : n ≤ 64) (w : World) : Calls Try.prog 7 #[.int .i64 (n : Int)] w (MadeC (fun p => .tuple #[p, .int .i64 0]) (List.replicate n 0) w) := by
  have F := hide (fit_zero h1 h2)
  have e1 : decide ((n : Int) < 1) = false := by simp; omega
  have e2 : decide (64 < (n : Int)) = false := by simp; omega
  go_enter Try.func7, Try.ntmps7
  go_wp2_with (first
    | (refine wpL_make rfl 42 (.tmp 10) (.tmp 10) rfl 52 [.int .i64 0] 8 Try.underlying42 zero_int64 (by decide) n rfl rfl (by omega) (by omega) ?_; intro g w2 e2 k2 g2 z2)
    | (refine wpL_build rfl 44 #[(0, .tmp 11)] rfl #[.slice (some ⟨g, 0, none⟩) n n] (built_counts g n) ?_)
    | (refine wpL_box rfl 44 (.tmp 12) rfl _ rfl ?_; intro b w3 e3 k3 g3 z3))
  go_ret2
  exact ⟨b, g, rfl, by have := k2.size; omega, by omega, k2.andNo k3, ⟨by rw [List.length_replicate]; exact g3, by rw [← rep_cells]; exact k3.at g2 id, by omega, unhide F⟩⟩
theorem new_not {i : Int} (h : i < 1 ∨ 64 < i) (w : World) : Calls Try.prog 7 #[.int .i64 i] w (Told (.tuple #[.pointer none, .int .i64 2]) w) := by
  by_cases e1 : i < 1
  · have f1 : decide (i < 1) = true := by simpa using e1
    clear h
    go_enter Try.func7, Try.ntmps7
    go_wp2
    go_ret2
    exact ⟨rfl, rfl⟩
  have f1 : decide (i < 1) = false := by simpa using e1
  have f2 : decide (64 < i) = true := by simp; omega
  clear h
  go_enter Try.func7, Try.ntmps7
  go_wp2
  go_ret2
  exact ⟨rfl, rfl⟩
end Go.Proofs.Ytpgmpfhhmnnejaa
