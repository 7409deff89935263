/-
  Contracts of what stands ahead of bytes, as a number, as one from -1 on, as a text, and of the document's answers beside them.
-/
import Derived.Test.YtiapkmncgafofaaCodecB
import Derived.Deep.QuietTactic
import Derived.BigQuiet
import Derived.RegionTactic
import Derived.Deep.RegionWith
import Derived.Deep.DeepCutAuto
namespace Go.Proofs.Ytiapkmncgafofaa
open Go.ChangeShapes Go.WideShapes Go.ChangeAt Go.RowKit
set_option linter.unusedVariables false
attribute [local go_sem] bs_size bs_app bs_cut bs_tl bs_at

/-- what is told of bytes as a number -/
def readT (l : List UInt8) : Nat × List UInt8 × Bool := match readL l with | some (n, r) => (n, r, true) | none => (0, [], false)
theorem readT_none {l : List UInt8} (h : readL l = none) : readT l = (0, [], false) := by unfold readT; rw [h]
theorem readT_some {l : List UInt8} {n : Nat} {r : List UInt8} (h : readL l = some (n, r)) : readT l = (n, r, true) := by unfold readT; rw [h]
abbrev three (n : Int) (k : IntKind) (r : List UInt8) (b : Bool) : Ending := .returned (.tuple #[.int k n, str r, .bool b])
def ReadTold (l : List UInt8) (w : World) (e : Ending) (w' : World) : Prop := e = three (readT l).1 .u64 (readT l).2.1 (readT l).2.2 ∧ Below w.heap.size w w'
set_option maxRecDepth 100000 in
theorem read_nil (w : World) : Calls Try.prog 53 #[str []] w (ReadTold [] w) := by
  go_enter Try.func53, Try.ntmps53
  go_wp2
  refine bodyPost_ret (results_tmp3 rfl _ _ _) rfl ?_
  rw [ReadTold, readT_none rfl]
  exact ⟨rfl, Below.refl _ _⟩
theorem below_drewN {B : Nat} {a w : World} (h : Below B a w) (n : Nat) : Below B a (w.drewN n) := ⟨h.os, h.tape, h.output, h.size, h.block⟩
theorem below_after {w w' : World} (h : Below w.drew.heap.size w.drew w') : Below w.heap.size w w' := ((Below.refl w.heap.size w).drew).trans h
set_option maxRecDepth 100000 in
theorem read_short (c : UInt8) (t : List UInt8) (h : c.toNat < 248) (hl : t.length ≤ 1048576) (w : World) : Calls Try.prog 53 #[str (c :: t)] w (ReadTold (c :: t) w) := by
  go_enter Try.func53, Try.ntmps53
  go_wp2
  go_quiet (fail)
  go_wp2
  refine bodyPost_ret (results_tmp3 rfl _ _ _) rfl ?_
  rw [ReadTold, readT_some (readL_short c t h)]
  exact ⟨rfl, below_drewN (Below.refl _ _) _⟩
set_option maxRecDepth 100000 in
theorem read_cut0 (c : UInt8) (t : List UInt8) (h : ¬ c.toNat < 248) (h1 : t.length < c.toNat - 247) (w : World) : Calls Try.prog 53 #[str (c :: t)] w (ReadTold (c :: t) w) := by
  have hc := byte_lt c
  go_enter Try.func53, Try.ntmps53
  go_wp2
  refine bodyPost_ret (results_tmp3 rfl _ _ _) rfl ?_
  rw [ReadTold, readT_none (readL_cut c t h h1)]
  exact ⟨rfl, Below.refl _ _⟩
theorem or_step (v b : Nat) (hv : v < 72057594037927936) (hb : b < 256) : bits .or .u64 (IntKind.u64.wrap ((v : Int) * 256)) (IntKind.u64.wrap (b : Int)) = ((v * 256 + b : Nat) : Int) := by
  have e1 : IntKind.u64.wrap ((v : Int) * 256) = ((v * 256 : Nat) : Int) := by rw [IntKind.wrap_u64]; omega
  have e2 : IntKind.u64.wrap (b : Int) = (b : Int) := by rw [IntKind.wrap_u64]; omega
  have t1 : (BitVec.ofInt 64 ((v * 256 : Nat) : Int)).toNat = v * 256 := by rw [BitVec.ofInt_natCast, BitVec.toNat_ofNat]; exact Nat.mod_eq_of_lt (by omega)
  have t2 : (BitVec.ofInt 64 (b : Int)).toNat = b := by rw [BitVec.ofInt_natCast, BitVec.toNat_ofNat]; exact Nat.mod_eq_of_lt (by omega)
  rw [e1, e2]
  show IntKind.u64.wrap ((BitVec.ofInt 64 ((v * 256 : Nat) : Int) ||| BitVec.ofInt 64 (b : Int)).toNat : Int) = _
  rw [BitVec.toNat_or, t1, t2]
  have e3 : v * 256 ||| b = v * 256 + b := by
    have := Nat.shiftLeft_add_eq_or_of_lt (b := b) (i := 8) hb v
    rw [Nat.shiftLeft_eq] at this; exact this.symm
  rw [e3, IntKind.wrap_u64]; omega
theorem val_step (t : List UInt8) (j : Nat) (h : j < t.length) : val (t.take (j + 1)) = val (t.take j) * 256 + t[j].toNat := by
  rw [List.take_succ_eq_append_getElem h, val_snoc]
theorem val_room (t : List UInt8) (j : Nat) (h : j < 8) : val (t.take j) < 72057594037927936 := by
  have h1 := val_lt (t.take j)
  have h2 : (t.take j).length ≤ 7 := by rw [List.length_take]; omega
  have h3 : 256 ^ (t.take j).length ≤ 256 ^ 7 := Nat.pow_le_pow_right (by omega) h2
  exact Nat.lt_of_lt_of_le h1 h3
theorem val_top (t : List UInt8) (j : Nat) (h : j ≤ 8) : val (t.take j) < top64 := by
  have h1 := val_lt (t.take j)
  have h2 : (t.take j).length ≤ 8 := by rw [List.length_take]; omega
  have h3 : 256 ^ (t.take j).length ≤ 256 ^ 8 := Nat.pow_le_pow_right (by omega) h2
  exact Nat.lt_of_lt_of_le h1 h3
set_option maxRecDepth 100000 in
theorem read_long (c : UInt8) (t : List UInt8) (h : ¬ c.toNat < 248) (h1 : ¬ t.length < c.toNat - 247) (hl : t.length ≤ 1048576) (w : World) : Calls Try.prog 53 #[str (c :: t)] w (ReadTold (c :: t) w) := by
  have hc := byte_lt c
  obtain ⟨k, hk⟩ : ∃ k, k = c.toNat - 247 := ⟨_, rfl⟩
  have hc2 : (c.toNat : Int) - 247 = k := by omega
  have hk1 : 1 ≤ k := by omega
  have hk8 : k ≤ 8 := by omega
  have hkt : k ≤ t.length := by omega
  have HK := Lib.hid hk
  clear hk
  have hd1 : decide (t.length < k) = false := by simp; omega
  have hd2 : decide ((c.toNat : Int) < 248) = false := by simp; omega
  go_enter Try.func53, Try.ntmps53
  go_wp2
  go_loop [2, 6] (fun n i => ∃ j : Nat, j ≤ k ∧ i = .int .i64 ((j : Int) + 1) ∧ n = .int .u64 (val (t.take j) : Nat)) (fun _ i => k + 1 - (intOf i).toNat)
  case atStart => exact ⟨0, by omega, rfl, rfl⟩
  case round =>
    obtain ⟨j, hj, rfl, rfl⟩ := hrel
    by_cases hlt : j < k
    · have hjt : j < t.length := by omega
      have hor := or_step (val (t.take j)) t[j].toNat (val_room t j (by omega)) (byte_lt _)
      rw [← val_step t j hjt] at hor
      go_wp2
      go_round
      case rel => exact ⟨j + 1, by omega, by go_num, rfl⟩
      case measure => simp [intOf]; omega
    · obtain rfl : j = k := by omega
      have h0t : 0 < t.length := by omega
      have hh : t.head? = some t[0] := by cases t with | nil => simp at h0t | cons a t => rfl
      have HH := Lib.hid hh
      clear hh
      by_cases hz : t[0] = 0
      · have hz1 : ((t[0].toNat : Int) == 0) = true := by rw [hz]; rfl
        have HZ := Lib.hid hz
        clear hz
        go_wp2
        refine bodyPost_ret (results_tmp3 rfl _ _ _) rfl ?_
        rw [ReadTold, readT_none (readL_bad c t h h1 (.inl (by rw [HH.out, HZ.out])))]
        exact ⟨rfl, Below.refl _ _⟩
      have hz1 : ((t[0].toNat : Int) == 0) = false := by
        simp; intro hc; exact hz (UInt8.toNat_inj.1 (by simpa using hc))
      have HZ := Lib.hid hz
      clear hz
      by_cases hv : val (t.take j) < 248
      · go_wp2
        refine bodyPost_ret (results_tmp3 rfl _ _ _) rfl ?_
        rw [ReadTold, readT_none (readL_bad c t h h1 (.inr (by rw [← HK.out]; exact hv)))]
        exact ⟨rfl, Below.refl _ _⟩
      · have hdr : List.drop (1 + j) (c :: t) = List.drop j t := by rw [Nat.add_comm]; rfl
        go_wp2
        go_quiet (fail)
        go_wp2
        refine bodyPost_ret (results_tmp3 rfl _ _ _) rfl ?_
        rw [ReadTold, readT_some (readL_good c t h h1 (by rw [← HK.out, HH.out]; rintro (h2 | h2); exact HZ.out (by simpa using h2); exact hv h2)), ← HK.out]
        exact ⟨congrArg (fun r => three ((val (t.take j) : Nat) : Int) .u64 r true) hdr, below_drewN (Below.refl _ _) _⟩
theorem read_any (l : List UInt8) (hl : l.length ≤ 1048576) (w : World) : Calls Try.prog 53 #[str l] w (ReadTold l w) := by
  cases l with
  | nil => exact read_nil w
  | cons c t =>
    have hl' : t.length ≤ 1048576 := by simp at hl; omega
    by_cases h : c.toNat < 248
    · exact read_short c t h hl' w
    by_cases h1 : t.length < c.toNat - 247
    · exact read_cut0 c t h h1 w
    · exact read_long c t h h1 hl' w

set_option maxRecDepth 100000 in
theorem rread_nil (w : World) : Calls Try.prog 57 #[str []] w (ReadTold [] w) := by
  go_enter Try.func57, Try.ntmps57
  go_wp2
  refine bodyPost_ret (results_tmp3 rfl _ _ _) rfl ?_
  rw [ReadTold, readT_none rfl]
  exact ⟨rfl, Below.refl _ _⟩
set_option maxRecDepth 100000 in
theorem rread_short (c : UInt8) (t : List UInt8) (h : c.toNat < 248) (hl : t.length ≤ 1048576) (w : World) : Calls Try.prog 57 #[str (c :: t)] w (ReadTold (c :: t) w) := by
  have hd2 : decide ((c.toNat : Int) < 248) = true := by simp; omega
  go_enter Try.func57, Try.ntmps57
  go_wp2
  go_loop [6, 7] (fun n i => n = .int .u64 0 ∧ i = .int .i64 1) (fun _ i => 0)
  case atStart => exact ⟨rfl, rfl⟩
  case round =>
    obtain ⟨rfl, rfl⟩ := hrel
    go_wp2_with fail
    have hb1 : (1 : Int) ≤ (t.length : Int) + 1 := by omega
    have hne : numL c.toNat = [c] := by rw [numL_small _ h]; simp
    have hw1 : IntKind.i64.wrap 1 = 1 := by rw [IntKind.wrap_i64]; omega
    go_region_with (go_at_call 49; refine (rnum_any _ (by unfold top64; omega) _).mono ?_; rintro e w' ⟨rfl, hb⟩)
    all_goals
      go_wp2
      go_quiet (fail)
      go_wp2
      refine bodyPost_ret (results_tmp3 rfl _ _ _) rfl ?_
      rw [ReadTold, readT_some (readL_short c t h)]
      exact ⟨rfl, below_drewN (below_after hb) _⟩
set_option maxRecDepth 100000 in
theorem rread_cut (c : UInt8) (t : List UInt8) (h : ¬ c.toNat < 248) (h1 : t.length < c.toNat - 247) (w : World) : Calls Try.prog 57 #[str (c :: t)] w (ReadTold (c :: t) w) := by
  have hc := byte_lt c
  go_enter Try.func57, Try.ntmps57
  go_wp2
  refine bodyPost_ret (results_tmp3 rfl _ _ _) rfl ?_
  rw [ReadTold, readT_none (readL_cut c t h h1)]
  exact ⟨rfl, Below.refl _ _⟩
theorem add_step (v b : Nat) (hv : v < 72057594037927936) (hb : b < 256) : IntKind.u64.wrap (IntKind.u64.wrap ((v : Int) * 256) + IntKind.u64.wrap (b : Int)) = ((v * 256 + b : Nat) : Int) := by
  have e2 : IntKind.u64.wrap (b : Int) = (b : Int) := by rw [IntKind.wrap_u64]; omega
  have e1 : IntKind.u64.wrap ((v : Int) * 256) = ((v * 256 : Nat) : Int) := by rw [IntKind.wrap_u64]; omega
  rw [e1, e2, IntKind.wrap_u64]; omega
set_option maxHeartbeats 1000000 in
set_option maxRecDepth 100000 in
theorem rread_long (c : UInt8) (t : List UInt8) (h : ¬ c.toNat < 248) (h1 : ¬ t.length < c.toNat - 247) (hl : t.length ≤ 1048576) (w : World) : Calls Try.prog 57 #[str (c :: t)] w (ReadTold (c :: t) w) := by
  have hc := byte_lt c
  obtain ⟨k, hk⟩ : ∃ k, k = c.toNat - 247 := ⟨_, rfl⟩
  have hc2 : (c.toNat : Int) - 247 = k := by omega
  have hk1 : 1 ≤ k := by omega
  have hk8 : k ≤ 8 := by omega
  have hkt : k ≤ t.length := by omega
  have HK := Lib.hid hk
  clear hk
  have hd1 : decide ((t.length : Int) + 1 < 1 + (k : Int)) = false := by simp; omega
  have hd3 : ((t.length : Int) + 1 == 0) = false := by simp; omega
  have hd2 : decide (247 < (c.toNat : Int)) = true := by simp; omega
  go_enter Try.func57, Try.ntmps57
  go_wp2
  go_loop [6, 7] (fun n i => ∃ j : Nat, j ≤ k ∧ i = .int .i64 ((j : Int) + 1) ∧ n = .int .u64 (val (t.take j) : Nat)) (fun _ i => k + 1 - (intOf i).toNat)
  case atStart => exact ⟨0, by omega, rfl, rfl⟩
  case round =>
    obtain ⟨j, hj, rfl, rfl⟩ := hrel
    by_cases hlt : j < k
    · have hjt : j < t.length := by omega
      have hor := add_step (val (t.take j)) t[j].toNat (val_room t j (by omega)) (byte_lt _)
      rw [← val_step t j hjt] at hor
      go_wp2
      go_round
      case rel => exact ⟨j + 1, by omega, by go_num, rfl⟩
      case measure => simp [intOf]; omega
    · obtain rfl : j = k := by omega
      have hw1 : IntKind.i64.wrap (1 + (j : Int)) = 1 + (j : Int) := by rw [IntKind.wrap_i64]; omega
      have hk0 : ((j : Int) == 0) = false := by simp; omega
      have hv64 : val (t.take j) < top64 := val_top t j hk8
      have hiff := num_of_long c t h h1
      rw [← HK.out] at hiff
      by_cases hg : t.head? = some 0 ∨ val (t.take j) < 248
      · have hne : (numL (val (t.take j)) == List.take (1 + j) (c :: t)) = false := by
          rw [beq_eq_false_iff_ne]; intro h2; exact (hiff.1 h2) hg
        clear hiff
        have HG := Lib.hid hg
        clear hg
        go_wp2_with fail
        go_region_with (go_at_call 49; refine (rnum_any _ hv64 _).mono ?_; rintro e w' ⟨rfl, hb⟩)
        all_goals
          go_wp2
          refine bodyPost_ret (results_tmp3 rfl _ _ _) rfl ?_
          rw [ReadTold, readT_none (readL_bad c t h h1 (by rw [← HK.out]; exact HG.out))]
          exact ⟨rfl, below_after hb⟩
      · have hne : numL (val (t.take j)) = List.take (1 + j) (c :: t) := hiff.2 hg
        clear hiff
        have HG := Lib.hid hg
        clear hg
        have hdr : List.drop (1 + j) (c :: t) = List.drop j t := by rw [Nat.add_comm]; rfl
        go_wp2_with fail
        go_region_with (go_at_call 49; refine (rnum_any _ hv64 _).mono ?_; rintro e w' ⟨rfl, hb⟩)
        all_goals
          go_wp2
          go_quiet (fail)
          go_wp2
          refine bodyPost_ret (results_tmp3 rfl _ _ _) rfl ?_
          rw [ReadTold, readT_some (readL_good c t h h1 (by rw [← HK.out]; exact HG.out)), ← HK.out]
          exact ⟨congrArg (fun r => three ((val (t.take j) : Nat) : Int) .u64 r true) hdr, below_drewN (below_after hb) _⟩
theorem rread_any (l : List UInt8) (hl : l.length ≤ 1048576) (w : World) : Calls Try.prog 57 #[str l] w (ReadTold l w) := by
  cases l with
  | nil => exact rread_nil w
  | cons c t =>
    have hl' : t.length ≤ 1048576 := by simp at hl; omega
    by_cases h : c.toNat < 248
    · exact rread_short c t h hl' w
    by_cases h1 : t.length < c.toNat - 247
    · exact rread_cut c t h h1 w
    · exact rread_long c t h h1 hl' w
end Go.Proofs.Ytiapkmncgafofaa
