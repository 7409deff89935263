/-
  Contracts of windows: what is done with one.
-/
import Derived.Test.YtfmkldhghgbciaaWindowsA
namespace Go.Proofs.Ytfmkldhghgbciaa
open Go.ChangeShapes Go.WideShapes Go.ChangeAt Go.RowKit
set_option linter.unusedVariables false
/-- a window: its capacity, and four indices -/
structure Win where
  c : Int
  l : Int
  d : Int
  s : Int
  m : Int
structure Win.Ok (x : Win) : Prop where
  c1 : 1 ≤ x.c
  c2 : x.c ≤ 16
  d0 : 0 ≤ x.d
  dl : x.d ≤ x.l
  l2 : x.l ≤ 4096
  s0 : 0 ≤ x.s
  sl : x.s ≤ x.l
  m0 : 0 ≤ x.m
  m2 : x.m ≤ 4112
/-- at b stands the window x, a variable of type T -/
def WAt (T : TypeId) (w : World) (b : Nat) (x : Win) : Prop := w.heap[b]? = some (.cells #[.int .i64 x.c, .int .i64 x.l, .int .i64 x.d, .int .i64 x.s, .int .i64 x.m] T (0, 0))
/-- told: v; behind it the window at b is x, and nothing else has turned -/
def Did (T : TypeId) (b : Nat) (v : Value) (x : Win) (w : World) (e : Ending) (w' : World) : Prop := e = .returned v ∧ Chg (oneBlk b) w w' ∧ WAt T w' b x
def Win.free (x : Win) : Int := max 0 (min (x.d + x.c) 4096 - x.l)
def Win.canPush (x : Win) : Bool := decide (x.l < x.d + x.c) && decide (x.l < 4096)
def Win.push (x : Win) : Win := if x.canPush then { x with l := x.l + 1 } else x
def Win.canAck (x : Win) (i : Int) : Bool := decide (x.d < i) && decide (i ≤ x.l)
def Win.ack (x : Win) (i : Int) : Win := if x.canAck i then { x with d := i } else x
def Win.grant (x : Win) (i : Int) : Win := { x with m := max x.m (min i 4112) }
def Win.canNext (x : Win) : Bool := decide (x.s < x.l) && decide (x.s < x.m)
def Win.next (x : Win) : Win := if x.canNext then { x with s := x.s + 1 } else x
def Win.nextN (x : Win) : Int := if x.canNext then x.s + 1 else 0
def Win.back (x : Win) (i : Int) : Win := { x with s := max 0 (min i x.l) }
def Win.renew (x : Win) : Win := { x with s := x.l, m := 0 }
section
variable {x : Win}
theorem Win.Ok.push (h : x.Ok) : x.push.Ok := by
  obtain ⟨h1, h2, h3, h4, h5, h6, h7, h8, h9⟩ := h
  unfold Win.push Win.canPush
  split <;> constructor <;> simp_all <;> omega
theorem Win.Ok.ack (h : x.Ok) (i : Int) : (x.ack i).Ok := by
  obtain ⟨h1, h2, h3, h4, h5, h6, h7, h8, h9⟩ := h
  unfold Win.ack Win.canAck
  split <;> constructor <;> simp_all <;> omega
theorem Win.Ok.grant (h : x.Ok) (i : Int) : (x.grant i).Ok := by
  obtain ⟨h1, h2, h3, h4, h5, h6, h7, h8, h9⟩ := h
  unfold Win.grant
  constructor <;> simp_all <;> omega
theorem Win.Ok.next (h : x.Ok) : x.next.Ok := by
  obtain ⟨h1, h2, h3, h4, h5, h6, h7, h8, h9⟩ := h
  unfold Win.next Win.canNext
  split <;> constructor <;> simp_all <;> omega
theorem Win.Ok.back (h : x.Ok) (i : Int) : (x.back i).Ok := by
  obtain ⟨h1, h2, h3, h4, h5, h6, h7, h8, h9⟩ := h
  unfold Win.back
  constructor <;> simp_all <;> omega
theorem Win.Ok.renew (h : x.Ok) : x.renew.Ok := by
  obtain ⟨h1, h2, h3, h4, h5, h6, h7, h8, h9⟩ := h
  unfold Win.renew
  constructor <;> simp_all <;> omega
end
abbrev WN (w : World) (b : Nat) (x : Win) : Prop := WAt 45 w b x
abbrev DidN (b : Nat) (v : Value) (x : Win) (w : World) (e : Ending) (w' : World) : Prop := Did 45 b v x w e w'
theorem size_int : (Try.prog.info? 3).map (·.size) = some 1 := by kernel_rfl
theorem size_win : (Try.prog.info? 45).map (·.size) = some 5 := by kernel_rfl
section
variable {w w' : World} {b : Nat} {x : Win} {T : TypeId} {S : Nat → Prop}
theorem WAt.kept (h : WAt T w b x) (k : Chg S w w') (hn : ¬ S b) : WAt T w' b x := k.at h hn
theorem WAt.drewN (h : WAt T w b x) (n : Nat) : WAt T (w.drewN n) b x := h
theorem WAt.lt (h : WAt T w b x) : b < w.heap.size := lt_of_block h
theorem row_m {T : TypeId} {c l d s m a b : Int} (h : a = b) : (some (.cells ((#[.int .i64 c, .int .i64 l, .int .i64 d, .int .i64 s, .int .i64 m] : Array Value).setIfInBounds 4 (.int .i64 a)) T (0, 0)) : Option Obj) = some (.cells #[.int .i64 c, .int .i64 l, .int .i64 d, .int .i64 s, .int .i64 b] T (0, 0)) := by rw [h]; rfl
theorem row_s {T : TypeId} {c l d s m a b : Int} (h : a = b) : (some (.cells ((#[.int .i64 c, .int .i64 l, .int .i64 d, .int .i64 s, .int .i64 m] : Array Value).setIfInBounds 3 (.int .i64 a)) T (0, 0)) : Option Obj) = some (.cells #[.int .i64 c, .int .i64 l, .int .i64 d, .int .i64 b, .int .i64 m] T (0, 0)) := by rw [h]; rfl
theorem push_at (h : WN w b x) (o : x.Ok) : Calls Try.prog 20 #[.pointer (some ⟨b, 0, none⟩)] w (DidN b (.bool x.canPush) x.push w) := by
  obtain ⟨c, l, d, s, m⟩ := x
  obtain ⟨h1, h2, h3, h4, h5, h6, h7, h8, h9⟩ := o
  dsimp only at h1 h2 h3 h4 h5 h6 h7 h8 h9
  have h : w.heap[b]? = some (winO c l d s m) := h
  have F := hide (free_at h h1 h2 h3 (by omega) (by omega) h5)
  by_cases hp : l < d + c ∧ l < 4096
  · have f0 : (max 0 (min (d + c) 4096 - l) == 0) = false := by simp; omega
    have hcan : (⟨c, l, d, s, m⟩ : Win).canPush = true := by simp [Win.canPush, hp]
    have hpush : (⟨c, l, d, s, m⟩ : Win).push = ⟨c, l + 1, d, s, m⟩ := by simp [Win.push, hcan]
    rw [hcan, hpush]
    generalize max 0 (min (d + c) 4096 - l) = fr at F f0
    have H := hide h
    clear hcan hpush h hp
    go_enter Try.func20, Try.ntmps20
    go_wp2_with (first
      | (go_at_call 28; refine (unhide F).mono ?_; rintro e w1 ⟨rfl, k, rfl⟩; have c1 := cellAt (w := w.drewN k) (unhide H) 1 _ rfl)
      | (refine wpL_set rfl 3 (.tmp 12) (.tmp 10) rfl b 1 (.int .i64 (l + 1)) rfl rfl rfl size_int _ _ (unhide H) (by simp) ?_; intro w2 k2 g2 z2))
    go_ret
    exact ⟨rfl, ((Chg.refl _ w).drewN k).trans k2 fun _ _ e => e, by unfold WAt; rw [g2]; rfl⟩
  · have f0 : max 0 (min (d + c) 4096 - l) = 0 := by omega
    have hcan : (⟨c, l, d, s, m⟩ : Win).canPush = false := by simp [Win.canPush]; omega
    have hpush : (⟨c, l, d, s, m⟩ : Win).push = ⟨c, l, d, s, m⟩ := by simp [Win.push, hcan]
    rw [hcan, hpush]
    rw [f0] at F
    have H := hide h
    clear hcan hpush h hp f0
    go_enter Try.func20, Try.ntmps20
    go_wp2_with (first
      | (go_at_call 28; refine (unhide F).mono ?_; rintro e w1 ⟨rfl, k, rfl⟩))
    go_ret
    exact ⟨rfl, (Chg.refl _ w).drewN k, unhide H⟩
theorem ack_at (h : WN w b x) (o : x.Ok) (i : Int) (hi : -9223372036854775808 ≤ i ∧ i ≤ 9223372036854775807) : Calls Try.prog 9 #[.pointer (some ⟨b, 0, none⟩), .int .i64 i] w (DidN b (.bool (x.canAck i)) (x.ack i) w) := by
  obtain ⟨c, l, d, s, m⟩ := x
  obtain ⟨h1, h2, h3, h4, h5, h6, h7, h8, h9⟩ := o
  dsimp only at h1 h2 h3 h4 h5 h6 h7 h8 h9
  have h : w.heap[b]? = some (winO c l d s m) := h
  have D := hide (done_at h h1)
  have L := hide (last_at h h1)
  have H := hide h
  clear h
  by_cases hp : d < i
  · have e1 : decide (i ≤ d) = false := by simp; omega
    by_cases hq : i ≤ l
    · have e2 : decide (l < i) = false := by simp; omega
      have hcan : (⟨c, l, d, s, m⟩ : Win).canAck i = true := by simp [Win.canAck, hp, hq]
      have hpush : (⟨c, l, d, s, m⟩ : Win).ack i = ⟨c, l, i, s, m⟩ := by simp [Win.ack, hcan]
      rw [hcan, hpush]
      clear hcan hpush
      go_enter Try.func9, Try.ntmps9
      go_wp2_with (first
        | (go_at_call 24; refine (unhide D).mono ?_; rintro e w1 ⟨rfl, rfl⟩)
        | (go_at_call 23; refine (unhide L).mono ?_; rintro e w1 ⟨rfl, rfl⟩)
        | (refine wpL_set rfl 3 (.tmp 18) (.tmp 16) rfl b 2 (.int .i64 i) rfl rfl rfl size_int _ _ (unhide H) (by simp) ?_; intro w2 k2 g2 z2))
      go_ret
      exact ⟨rfl, k2, by unfold WAt; rw [g2]; rfl⟩
    · have e2 : decide (l < i) = true := by simp; omega
      have hcan : (⟨c, l, d, s, m⟩ : Win).canAck i = false := by simp [Win.canAck]; omega
      have hpush : (⟨c, l, d, s, m⟩ : Win).ack i = ⟨c, l, d, s, m⟩ := by simp [Win.ack, hcan]
      rw [hcan, hpush]
      clear hcan hpush
      go_enter Try.func9, Try.ntmps9
      go_wp2_with (first
        | (go_at_call 24; refine (unhide D).mono ?_; rintro e w1 ⟨rfl, rfl⟩)
        | (go_at_call 23; refine (unhide L).mono ?_; rintro e w1 ⟨rfl, rfl⟩))
      go_ret
      exact ⟨rfl, Chg.refl _ _, unhide H⟩
  · have e1 : decide (i ≤ d) = true := by simp; omega
    have hcan : (⟨c, l, d, s, m⟩ : Win).canAck i = false := by simp [Win.canAck]; omega
    have hpush : (⟨c, l, d, s, m⟩ : Win).ack i = ⟨c, l, d, s, m⟩ := by simp [Win.ack, hcan]
    rw [hcan, hpush]
    clear hcan hpush
    go_enter Try.func9, Try.ntmps9
    go_wp2_with (first
      | (go_at_call 24; refine (unhide D).mono ?_; rintro e w1 ⟨rfl, rfl⟩))
    go_ret
    exact ⟨rfl, Chg.refl _ _, unhide H⟩
theorem grant_at (h : WN w b x) (o : x.Ok) (i : Int) (hi : -9223372036854775808 ≤ i ∧ i ≤ 9223372036854775807) : Calls Try.prog 11 #[.pointer (some ⟨b, 0, none⟩), .int .i64 i] w (DidN b (.tuple #[]) (x.grant i) w) := by
  obtain ⟨c, l, d, s, m⟩ := x
  obtain ⟨h1, h2, h3, h4, h5, h6, h7, h8, h9⟩ := o
  dsimp only at h1 h2 h3 h4 h5 h6 h7 h8 h9
  have h : w.heap[b]? = some (winO c l d s m) := h
  have N := hide (none_at h h1)
  have c4 := cellAt h 4 _ rfl
  have H := hide h
  clear h
  by_cases a1 : 4112 < i
  · by_cases a2 : m < 4112
    · go_enter Try.func11, Try.ntmps11
      go_wp2_with (first
        | (go_at_call 29; refine (unhide N).mono ?_; rintro e w' ⟨rfl, rfl⟩)
        | (refine wpL_set rfl 3 (.tmp 15) (.tmp 13) rfl b 4 (.int .i64 (4112)) rfl rfl rfl size_int _ _ (unhide H) (by simp) ?_; intro w2 k2 g2 z2))
      go_end0
      exact ⟨rfl, k2, by unfold WAt; rw [g2]; exact row_m (by simp only [Win.grant]; omega)⟩
    · have a2 : 4112 ≤ m := by omega
      go_enter Try.func11, Try.ntmps11
      go_wp2_with (first
        | (go_at_call 29; refine (unhide N).mono ?_; rintro e w' ⟨rfl, rfl⟩)
        | (refine wpL_set rfl 3 (.tmp 15) (.tmp 13) rfl b 4 (.int .i64 (m)) rfl rfl rfl size_int _ _ (unhide H) (by simp) ?_; intro w2 k2 g2 z2))
      go_end0
      exact ⟨rfl, k2, by unfold WAt; rw [g2]; exact row_m (by simp only [Win.grant]; omega)⟩
  · have a1 : i ≤ 4112 := by omega
    by_cases a2 : m < i
    · go_enter Try.func11, Try.ntmps11
      go_wp2_with (first
        | (go_at_call 29; refine (unhide N).mono ?_; rintro e w' ⟨rfl, rfl⟩)
        | (refine wpL_set rfl 3 (.tmp 15) (.tmp 13) rfl b 4 (.int .i64 (i)) rfl rfl rfl size_int _ _ (unhide H) (by simp) ?_; intro w2 k2 g2 z2))
      go_end0
      exact ⟨rfl, k2, by unfold WAt; rw [g2]; exact row_m (by simp only [Win.grant]; omega)⟩
    · have a2 : i ≤ m := by omega
      go_enter Try.func11, Try.ntmps11
      go_wp2_with (first
        | (go_at_call 29; refine (unhide N).mono ?_; rintro e w' ⟨rfl, rfl⟩)
        | (refine wpL_set rfl 3 (.tmp 15) (.tmp 13) rfl b 4 (.int .i64 (m)) rfl rfl rfl size_int _ _ (unhide H) (by simp) ?_; intro w2 k2 g2 z2))
      go_end0
      exact ⟨rfl, k2, by unfold WAt; rw [g2]; exact row_m (by simp only [Win.grant]; omega)⟩
theorem next_at (h : WN w b x) (o : x.Ok) : Calls Try.prog 13 #[.pointer (some ⟨b, 0, none⟩)] w (DidN b (.tuple #[.int .i64 x.nextN, .bool x.canNext]) x.next w) := by
  obtain ⟨c, l, d, s, m⟩ := x
  obtain ⟨h1, h2, h3, h4, h5, h6, h7, h8, h9⟩ := o
  dsimp only at h1 h2 h3 h4 h5 h6 h7 h8 h9
  have h : w.heap[b]? = some (winO c l d s m) := h
  have D := hide (sent_at h h1)
  have L := hide (last_at h h1)
  have M := hide (limit_at h h1)
  have c3 := cellAt h 3 _ rfl
  have H := hide h
  clear h
  by_cases hp : s < l
  · have e1 : decide (l ≤ s) = false := by simp; omega
    by_cases hq : s < m
    · have e2 : decide (m ≤ s) = false := by simp; omega
      have hcan : (⟨c, l, d, s, m⟩ : Win).canNext = true := by simp [Win.canNext, hp, hq]
      have hpush : (⟨c, l, d, s, m⟩ : Win).next = ⟨c, l, d, s + 1, m⟩ := by simp [Win.next, hcan]
      have hn : (⟨c, l, d, s, m⟩ : Win).nextN = s + 1 := by simp [Win.nextN, hcan]
      rw [hcan, hpush, hn]
      clear hcan hpush hn
      go_enter Try.func13, Try.ntmps13
      go_wp2_with (first
        | (go_at_call 25; refine (unhide D).mono ?_; rintro e w1 ⟨rfl, rfl⟩)
        | (go_at_call 23; refine (unhide L).mono ?_; rintro e w1 ⟨rfl, rfl⟩)
        | (go_at_call 26; refine (unhide M).mono ?_; rintro e w1 ⟨rfl, rfl⟩)
        | (refine wpL_set rfl 3 (.tmp 22) (.tmp 20) rfl b 3 (.int .i64 (s + 1)) rfl rfl rfl size_int _ _ (unhide H) (by simp) ?_; intro w2 k2 g2 z2; clear c3; have c3 := cellAt g2 3 (.int .i64 (s + 1)) (by simp)))
      go_ret2
      exact ⟨rfl, k2, by unfold WAt; rw [g2]; rfl⟩
    · have e2 : decide (m ≤ s) = true := by simp; omega
      have hcan : (⟨c, l, d, s, m⟩ : Win).canNext = false := by simp [Win.canNext]; omega
      have hpush : (⟨c, l, d, s, m⟩ : Win).next = ⟨c, l, d, s, m⟩ := by simp [Win.next, hcan]
      have hn : (⟨c, l, d, s, m⟩ : Win).nextN = 0 := by simp [Win.nextN, hcan]
      rw [hcan, hpush, hn]
      clear hcan hpush hn c3
      go_enter Try.func13, Try.ntmps13
      go_wp2_with (first
        | (go_at_call 25; refine (unhide D).mono ?_; rintro e w1 ⟨rfl, rfl⟩)
        | (go_at_call 23; refine (unhide L).mono ?_; rintro e w1 ⟨rfl, rfl⟩)
        | (go_at_call 26; refine (unhide M).mono ?_; rintro e w1 ⟨rfl, rfl⟩))
      go_ret2
      exact ⟨rfl, Chg.refl _ _, unhide H⟩
  · have e1 : decide (l ≤ s) = true := by simp; omega
    have hcan : (⟨c, l, d, s, m⟩ : Win).canNext = false := by simp [Win.canNext]; omega
    have hpush : (⟨c, l, d, s, m⟩ : Win).next = ⟨c, l, d, s, m⟩ := by simp [Win.next, hcan]
    have hn : (⟨c, l, d, s, m⟩ : Win).nextN = 0 := by simp [Win.nextN, hcan]
    rw [hcan, hpush, hn]
    clear hcan hpush hn c3
    go_enter Try.func13, Try.ntmps13
    go_wp2_with (first
      | (go_at_call 25; refine (unhide D).mono ?_; rintro e w1 ⟨rfl, rfl⟩)
      | (go_at_call 23; refine (unhide L).mono ?_; rintro e w1 ⟨rfl, rfl⟩))
    go_ret2
    exact ⟨rfl, Chg.refl _ _, unhide H⟩
theorem back_at (h : WN w b x) (o : x.Ok) (i : Int) (hi : -9223372036854775808 ≤ i ∧ i ≤ 9223372036854775807) : Calls Try.prog 15 #[.pointer (some ⟨b, 0, none⟩), .int .i64 i] w (DidN b (.tuple #[]) (x.back i) w) := by
  obtain ⟨c, l, d, s, m⟩ := x
  obtain ⟨h1, h2, h3, h4, h5, h6, h7, h8, h9⟩ := o
  dsimp only at h1 h2 h3 h4 h5 h6 h7 h8 h9
  have h : w.heap[b]? = some (winO c l d s m) := h
  have N := hide (none_at h h1)
  have c4 := cellAt h 1 _ rfl
  have H := hide h
  clear h
  by_cases a1 : l < i
  · by_cases a2 : 0 < l
    · go_enter Try.func15, Try.ntmps15
      go_wp2_with (first
        | (go_at_call 29; refine (unhide N).mono ?_; rintro e w' ⟨rfl, rfl⟩)
        | (refine wpL_set rfl 3 (.tmp 15) (.tmp 13) rfl b 3 (.int .i64 (l)) rfl rfl rfl size_int _ _ (unhide H) (by simp) ?_; intro w2 k2 g2 z2))
      go_end0
      exact ⟨rfl, k2, by unfold WAt; rw [g2]; exact row_s (by simp only [Win.back]; omega)⟩
    · have a2 : l = 0 := by omega
      subst a2
      go_enter Try.func15, Try.ntmps15
      go_wp2_with (first
        | (go_at_call 29; refine (unhide N).mono ?_; rintro e w' ⟨rfl, rfl⟩)
        | (refine wpL_set rfl 3 (.tmp 15) (.tmp 13) rfl b 3 (.int .i64 (0)) rfl rfl rfl size_int _ _ (unhide H) (by simp) ?_; intro w2 k2 g2 z2))
      go_end0
      exact ⟨rfl, k2, by unfold WAt; rw [g2]; exact row_s (by simp only [Win.back]; omega)⟩
  · have a1 : i ≤ l := by omega
    by_cases a2 : 0 < i
    · go_enter Try.func15, Try.ntmps15
      go_wp2_with (first
        | (go_at_call 29; refine (unhide N).mono ?_; rintro e w' ⟨rfl, rfl⟩)
        | (refine wpL_set rfl 3 (.tmp 15) (.tmp 13) rfl b 3 (.int .i64 (i)) rfl rfl rfl size_int _ _ (unhide H) (by simp) ?_; intro w2 k2 g2 z2))
      go_end0
      exact ⟨rfl, k2, by unfold WAt; rw [g2]; exact row_s (by simp only [Win.back]; omega)⟩
    · have a2 : i ≤ 0 := by omega
      go_enter Try.func15, Try.ntmps15
      go_wp2_with (first
        | (go_at_call 29; refine (unhide N).mono ?_; rintro e w' ⟨rfl, rfl⟩)
        | (refine wpL_set rfl 3 (.tmp 15) (.tmp 13) rfl b 3 (.int .i64 (0)) rfl rfl rfl size_int _ _ (unhide H) (by simp) ?_; intro w2 k2 g2 z2))
      go_end0
      exact ⟨rfl, k2, by unfold WAt; rw [g2]; exact row_s (by simp only [Win.back]; omega)⟩
theorem renew_at (h : WN w b x) (o : x.Ok) : Calls Try.prog 17 #[.pointer (some ⟨b, 0, none⟩)] w (DidN b (.tuple #[]) x.renew w) := by
  obtain ⟨c, l, d, s, m⟩ := x
  obtain ⟨h1, h2, h3, h4, h5, h6, h7, h8, h9⟩ := o
  dsimp only at h1 h2 h3 h4 h5 h6 h7 h8 h9
  have h : w.heap[b]? = some (winO c l d s m) := h
  have N := hide (none_at h h1)
  have c4 := cellAt h 1 _ rfl
  have H := hide h
  clear h
  go_enter Try.func17, Try.ntmps17
  go_wp2_with (first
    | (go_at_call 29; refine (unhide N).mono ?_; rintro e w' ⟨rfl, rfl⟩)
    | (refine wpL_set rfl 3 (.tmp 11) (.tmp 9) rfl b 3 (.int .i64 l) rfl rfl rfl size_int _ _ (unhide H) (by simp) ?_; intro w2 k2 g2 z2; clear c4)
    | (refine wpL_set rfl 3 (.tmp 13) (.const (.int .i64 0)) rfl b 4 (.int .i64 0) rfl rfl rfl size_int _ _ g2 (by simp) ?_; intro w3 k3 g3 z3))
  go_end0
  exact ⟨rfl, k2.trans k3 fun _ _ e => e, by unfold WAt; rw [g3]; rfl⟩
/-- told: a new window, and nothing else has turned -/
def MadeW (T : TypeId) (v : Value → Value) (x : Win) (w : World) (e : Ending) (w' : World) : Prop := ∃ b, e = .returned (v (.pointer (some ⟨b, 0, none⟩))) ∧ w.heap.size ≤ b ∧ Chg noBlk w w' ∧ WAt T w' b x
theorem zero_win : (Try.prog.info? 45).bind (·.zero) = some (.agg #[.int .i64 0, .int .i64 0, .int .i64 0, .int .i64 0, .int .i64 0]) := by kernel_rfl
theorem row_one (c l d s m : Int) : (#[.int .i64 c, .int .i64 l, .int .i64 d, .int .i64 s, .int .i64 m] : Array Value).all (·.oneCell') = true := all_oneCell_toArray (cs := [.int .i64 c, .int .i64 l, .int .i64 d, .int .i64 s, .int .i64 m]) (by simp [Value.oneCell'])
theorem copy_at (h : WN w b x) (o : x.Ok) : Calls Try.prog 19 #[.pointer (some ⟨b, 0, none⟩)] w (MadeW 45 id x w) := by
  obtain ⟨c, l, d, s, m⟩ := x
  obtain ⟨h1, h2, h3, h4, h5, h6, h7, h8, h9⟩ := o
  dsimp only at h1 h2 h3 h4 h5 h6 h7 h8 h9
  have h : w.heap[b]? = some (winO c l d s m) := h
  have N := hide (none_at h h1)
  have H := hide h
  clear h
  go_enter Try.func19, Try.ntmps19
  go_wp2_with (first
    | (go_at_call 29; refine (unhide N).mono ?_; rintro e w' ⟨rfl, rfl⟩)
    | (refine wpL_load rfl 45 (.tmp 7) rfl b rfl #[.int .i64 c, .int .i64 l, .int .i64 d, .int .i64 s, .int .i64 m] 45 (0, 0) (unhide H) _ Try.underlying45 rfl (by rw [size_win]; rfl) ?_)
    | (refine wpL_alloc rfl 45 rfl _ zero_win ?_; intro b2 w2 e2 k2 g2 z2)
    | (refine wpL_store rfl 45 (.tmp 3) (.tmp 8) rfl b2 #[.int .i64 c, .int .i64 l, .int .i64 d, .int .i64 s, .int .i64 m] rfl rfl _ _ g2 (by rw [size_win]; rfl) rfl (row_one _ _ _ _ _) ?_; intro w3 k3 g3 z3))
  go_ret
  exact ⟨b2, rfl, by omega, k2.trans k3 fun i hi e => by have e : i = b2 := e; omega, g3⟩
end
end Go.Proofs.Ytfmkldhghgbciaa
