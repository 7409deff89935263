/-
  Contracts of the bytes of a number, a number from -1 on, and a text, and of the document's answers beside them: the same bytes, for every number.
-/
import Derived.Test.YtiapkmncgafofaaCodecA
import Derived.Test.YtiapkmncgafofaaRows
import Derived.Test.YtiapkmncgafofaaKitA
import Derived.Test.YtiapkmncgafofaaShelf
namespace Go.Proofs.Ytiapkmncgafofaa
open Go.ChangeShapes Go.WideShapes Go.ChangeAt Go.RowKit
set_option linter.unusedVariables false
attribute [local go_sem] bs_size bs_app bs_cut

theorem str_eq {l r : List UInt8} (h : l = r) : Ending.returned (str l) = .returned (str r) := by rw [h]
theorem cells_byte (n : Nat) (h : n < 256) : cellsOf [UInt8.ofNat n] = [.int .u8 (n : Int)] := by
  simp only [cellsOf, List.map_cons, List.map_nil]; rw [byte_of n h]
set_option maxRecDepth 100000 in
theorem num_small (n : Nat) (h : n < 248) (w : World) :
    Calls Try.prog 48 #[.int .u64 (n : Int)] w fun e w' => e = .returned (str (numL n)) ∧ Below w.heap.size w w' := by
  have kc := run_text_own (P := Try.prog) (w.alloc (.cells #[.int .u8 (n : Int)] 5)) 67 9 5 Try.underlying67 Try.underlying5 Try.underlying9 (l := [UInt8.ofNat n]) (own_new (w := w) (e := 5) (cs := #[.int .u8 (n : Int)]) (n := 1) rfl (cells_byte n (by omega)).symm (by unfold maxLen; omega))
  go_enter Try.func48, Try.ntmps48
  go_wp2
  go_ret
  exact ⟨str_eq (numL_small n h).symm, (Below.refl _ _).alloc (Nat.le_refl _) _⟩
def top64 : Nat := 18446744073709551616
theorem bitLen_small : ∀ n : Fin 256, 1 ≤ n.val → 1 ≤ Lib.bitLen n.val ∧ Lib.bitLen n.val ≤ 8 := by decide +kernel
theorem len_of_bits (n : Nat) (h0 : 0 < n) (h : n < 18446744073709551616) : (Lib.bitLen n + 7) / 8 = (dz n).length := by
  induction n using Nat.strongRecOn with
  | _ n ih =>
    rcases Nat.lt_or_ge n 256 with h1 | h1
    · have hb := bitLen_small ⟨n, h1⟩ h0
      simp only at hb
      rw [dz_pos n h0, show n / 256 = 0 by omega, dz_zero]; simp; omega
    · have := ih (n / 256) (by omega) (by omega) (by omega)
      rw [dz_pos n h0, Lib.bitLen_shift8 n h1 h]; simp; omega
theorem info_u8 : (Try.prog.info? 5).map (fun i => (i.zero, i.size, i.bytes)) = some (some (.int .u8 0), 1, 1) := by kernel_rfl
theorem len64 (n : Nat) (h1 : n < top64) (w : World) : Calls Try.prog 55 #[.int .u64 (n : Int)] w fun e w' => e = .returned (.int .i64 (Lib.bitLen n : Nat)) ∧ w = w' :=
  (Try.bits_Len64 _ _ (by omega) (by unfold top64 at h1; omega)).mono fun _ _ ⟨he, hw⟩ => ⟨by simpa using he, hw.symm⟩
theorem top_zero (n m : Nat) (h : m = (dz n).length) : n / 2 ^ (8 * m) = 0 := by
  rw [Nat.div_eq_of_lt]
  rcases Nat.lt_or_ge n (2 ^ (8 * m)) with h1 | h1
  · exact h1
  · rw [Nat.pow_mul] at h1
    have := dz_len_gt m n h1; omega
def lead (m : Nat) : UInt8 := UInt8.ofNat (247 + m)
theorem one_cell (w : World) (u : Value) (t : TypeId) : ∀ (j : Nat) (v : Value), [u][j]? = some v → (w.alloc (.cells #[u] t)).cell? ((⟨w.heap.size, 0, none⟩ : Addr).add j) = some v := by
  intro j v hj
  cases j with
  | zero => simp at hj; subst hj; simp [Addr.add]
  | succ j => simp at hj
theorem step_cells (n k : Nat) (c : UInt8) (h0 : 1 ≤ k) (hk : k ≤ (dz n).length) :
    cellsOf (c :: dz (n / 2 ^ (8 * k))) ++ [Value.int .u8 (((n : Int) / 2 ^ (8 * k - 8)) % 256)] = cellsOf (c :: dz (n / 2 ^ (8 * (k - 1)))) := by
  have hp : 0 < n / 2 ^ (8 * (k - 1)) := by
    apply Nat.div_pos _ (Nat.pow_pos (by omega))
    rcases Nat.lt_or_ge n (2 ^ (8 * (k - 1))) with h1 | h1
    · rw [Nat.pow_mul] at h1
      have := dz_len_le (k - 1) n h1; omega
    · exact h1
  rw [dz_pos _ hp, Nat.div_div_eq_div_mul, show (256 : Nat) = 2 ^ 8 from rfl, ← Nat.pow_add, show 8 * (k - 1) + 8 = 8 * k by omega, ← List.cons_append, cellsOf_app, cells_byte _ (Nat.mod_lt _ (by decide))]
  congr 3
  rw [show 8 * k - 8 = 8 * (k - 1) by omega]
  simp
set_option maxRecDepth 100000 in
theorem num_large (n : Nat) (h : ¬ n < 248) (h1 : n < top64) (w : World) :
    Calls Try.prog 48 #[.int .u64 (n : Int)] w fun e w' => e = .returned (str (numL n)) ∧ Below w.heap.size w w' := by
  obtain ⟨i0, hi0, hz0, hz1, hz2⟩ := info_parts info_u8
  obtain ⟨m, hm⟩ : ∃ m, m = (dz n).length := ⟨_, rfl⟩
  have m1 : 1 ≤ m := by have := dz_len_pos n (by omega); omega
  have m8 : m ≤ 8 := by have := dz_len8 n h1; omega
  have hb0 : (Lib.bitLen n + 7) / 8 = m := by rw [hm]; exact len_of_bits n (by omega) h1
  have hb : (((Lib.bitLen n : Nat) : Int) + 7) / 8 = (m : Int) := by omega
  have hb64 : ((Lib.bitLen n : Nat) : Int) ≤ 64 := by omega
  have HM := Lib.hid hm
  clear hm hb0
  go_enter Try.func48, Try.ntmps48
  go_wp2_with (go_at_call 55; refine (len64 n h1 _).mono ?_; rintro e w' ⟨rfl, rfl⟩)
  clear hb hb64
  go_loopw [4, 5] (fun v i wr => ∃ k : Nat, k ≤ m ∧ i = .int .i64 (8 * k - 8) ∧ wr.ownsRow w.heap.size 5 1 v (1 + (m - k)) (cellsOf (lead m :: dz (n / 2 ^ (8 * k)))) ∧ Below w.heap.size w wr) (fun _ i _ => (8 + intOf i).toNat)
  case atStart =>
    refine ⟨m, Nat.le_refl _, by go_num, ?_, (Below.refl _ _).alloc (Nat.le_refl _) _⟩
    rw [show n / 2 ^ (8 * m) = 0 from top_zero n m (by rw [HM.out]), dz_zero, Nat.sub_self]
    exact own_new rfl (by unfold lead; rw [cells_byte _ (by omega)]; go_num) (by unfold maxLen; omega)
  case round =>
    obtain ⟨k, hk, rfl, hown, hbel⟩ := hrel
    by_cases h0 : 1 ≤ k
    · go_wp2_with (at_builtin; refine wpList_append_own _ rfl (.tmp 27) (.tmp 32) _ rfl w.heap.size 5 i0 (.int .u8 0) 1 1 Try.underlying67 hi0 hz0 hz1 hz2 rfl (by decide) _ (1 + (m - k)) _ rfl (hown.alloc _) ⟨wr.heap.size, 0, none⟩ 1 1 [.int .u8 (((n : Int) / 2 ^ (8 * k - 8)) % 256)] rfl rfl ?c1 ?c2 ?c3 ?c4 ?c5 ?_)
      case c1 => exact one_cell _ _ _
      case c2 => simp [Value.oneCell']
      case c3 => unfold maxLen; omega
      case c4 => omega
      case c5 => have := hbel.size; simp; omega
      intro v' w1 hown' hgrow _
      have hbel' := (hbel.alloc hbel.size (Obj.cells #[Value.int IntKind.u8 (((n : Int) / 2 ^ (8 * k - 8)) % 256)] 5)).grown hgrow (by have := hbel.size; simp; omega) (fun g hg => (hown.lt g hg).1)
      clear hgrow hown hbel
      go_wp2
      go_roundw
      case rel =>
        refine ⟨k - 1, by omega, by go_num, ?_, hbel'⟩
        have e1 : cellsOf (lead m :: dz (n / 2 ^ (8 * k))) ++ [Value.int .u8 (((n : Int) / 2 ^ (8 * k - 8)) % 256)] = cellsOf (lead m :: dz (n / 2 ^ (8 * (k - 1)))) := step_cells n k _ h0 (by rw [← HM.out]; exact hk)
        rw [← e1, show 1 + (m - (k - 1)) = 1 + (m - k) + 1 by omega]
        exact hown'
      case measure => simp [intOf]; omega
    · obtain rfl : k = 0 := by omega
      have kc := run_text_own (P := Try.prog) wr 67 9 5 Try.underlying67 Try.underlying5 Try.underlying9 hown
      go_wp2
      go_ret
      refine ⟨str_eq ?_, hbel⟩
      rw [numL_large n h, ← HM.out]; simp [lead]
theorem num_any (n : Nat) (h1 : n < top64) (w : World) :
    Calls Try.prog 48 #[.int .u64 (n : Int)] w fun e w' => e = .returned (str (numL n)) ∧ Below w.heap.size w w' := by
  by_cases h : n < 248
  · exact num_small n h w
  · exact num_large n h h1 w

/-- the row that digits hands back -/
def DigitRow (n : Nat) (w : World) (e : Ending) (w' : World) : Prop := ∃ v, e = .returned v ∧ w'.ownsRow w.heap.size 5 1 v (dz n).length (cellsOf (dz n)) ∧ Below w.heap.size w w'
set_option maxRecDepth 100000 in
theorem digits_any (n : Nat) : ∀ (w : World) (h0 : 1 ≤ n) (h1 : n < top64), Calls Try.prog 56 #[.int .u64 (n : Int)] w (DigitRow n w) := by
  induction n using Nat.strongRecOn with
  | _ n ih =>
    intro w h0 h1
    obtain ⟨i0, hi0, hz0, hz1, hz2⟩ := info_parts info_u8
    by_cases h : n < 256
    · have hd : dz n = [UInt8.ofNat n] := by rw [dz_pos n h0, show n / 256 = 0 by omega, dz_zero, show n % 256 = n by omega]; rfl
      have HD := Lib.hid hd
      clear hd ih
      go_enter Try.func56, Try.ntmps56
      go_wp2
      go_ret
      refine ⟨_, rfl, ?_, (Below.refl _ _).alloc (Nat.le_refl _) _⟩
      rw [HD.out]
      exact own_new rfl (cells_byte n h).symm (by simp [maxLen])
    · have IH := Lib.hid (ih (n / 256) (by omega))
      clear ih
      have hw : IntKind.u64.wrap ((n : Int) / 256) = ((n / 256 : Nat) : Int) := by rw [IntKind.wrap_u64]; unfold top64 at h1; omega
      have hr : IntKind.u64.wrap ((n : Int) % 256) = (n : Int) % 256 := by rw [IntKind.wrap_u64]; omega
      go_enter Try.func56, Try.ntmps56
      go_wp2_with (first
        | (go_at_call 56; refine (IH.out _ (by omega) (by unfold top64 at *; omega)).mono ?_; rintro e w1 ⟨v, rfl, hown, hbel⟩)
        | (at_builtin; refine wpList_append_own _ rfl (.tmp 10) (.tmp 14) _ rfl w.heap.size 5 i0 (.int .u8 0) 1 1 Try.underlying67 hi0 hz0 hz1 hz2 rfl (by decide) _ _ _ rfl (hown.alloc _) ⟨w1.heap.size, 0, none⟩ 1 1 [.int .u8 ((n : Int) % 256)] rfl rfl ?c1 ?c2 ?c3 ?c4 ?c5 ?_))
      case c1 => exact one_cell _ _ _
      case c2 => simp [Value.oneCell']
      case c3 => have := dz_len8 (n / 256) (by unfold top64 at h1; omega); unfold maxLen; omega
      case c4 => have := dz_len8 (n / 256) (by unfold top64 at h1; omega); omega
      case c5 => have := hbel.size; simp; omega
      intro v' w2 hown' hgrow _
      have hbel' := (hbel.alloc hbel.size (Obj.cells #[Value.int IntKind.u8 ((n : Int) % 256)] 5)).grown hgrow (by have := hbel.size; simp; omega) (fun g hg => (hown.lt g hg).1)
      clear hgrow hown hbel
      go_wp2
      go_ret
      refine ⟨_, rfl, ?_, hbel'⟩
      rw [dz_pos n h0, cellsOf_app, cells_byte _ (by omega), List.length_append]
      exact hown'

set_option maxRecDepth 100000 in
theorem rnum_any (n : Nat) (h1 : n < top64) (w : World) :
    Calls Try.prog 49 #[.int .u64 (n : Int)] w fun e w' => e = .returned (str (numL n)) ∧ Below w.heap.size w w' := by
  by_cases h : n < 248
  · have kc := run_text_own (P := Try.prog) (w.alloc (.cells #[.int .u8 (n : Int)] 5)) 67 9 5 Try.underlying67 Try.underlying5 Try.underlying9 (l := [UInt8.ofNat n]) (own_new (w := w) (e := 5) (cs := #[.int .u8 (n : Int)]) (n := 1) rfl (cells_byte n (by omega)).symm (by unfold maxLen; omega))
    go_enter Try.func49, Try.ntmps49
    go_wp2
    go_ret
    exact ⟨str_eq (numL_small n h).symm, (Below.refl _ _).alloc (Nat.le_refl _) _⟩
  · obtain ⟨i0, hi0, hz0, hz1, hz2⟩ := info_parts info_u8
    have m8 : (dz n).length ≤ 8 := dz_len8 n h1
    have m1 := dz_len_pos n (by omega)
    go_enter Try.func49, Try.ntmps49
    go_wp2_with fail
    refine (digits_any n _ (by omega) h1).mono ?_
    rintro e w1 ⟨v, rfl, hown, hbel⟩
    obtain ⟨g, cap, cur, rfl, hg⟩ : ∃ g cap cur, v = .slice (some ⟨g, 0, none⟩) (dz n).length cap ∧ w1.heap[g]? = some (.cells cur 5 (0, 0)) := by
      rcases hown.2 with ⟨_, h0⟩ | ⟨g, cap, cur, h2, _, h3, _⟩
      · omega
      · exact ⟨g, cap, cur, h2, h3⟩
    have hcells := hown.cells (g := g) rfl
    have HG := Lib.hid hg
    have HC := Lib.hid hcells
    clear hg hcells
    go_wp2_with (at_builtin; refine wpList_append_own _ rfl (.tmp 16) (.tmp 17) _ rfl w1.heap.size 5 i0 (.int .u8 0) 1 1 Try.underlying67 hi0 hz0 hz1 hz2 rfl (by decide) _ 1 (cellsOf [lead (dz n).length]) rfl (own_new rfl ?c0 (by simp [maxLen])) ⟨g, 0, none⟩ (dz n).length cap (cellsOf (dz n)) rfl (by simp [cellsOf]) ?c1 ?c2 ?c3 ?c4 ?c5 ?_)
    case c0 => unfold lead; rw [cells_byte _ (by omega)]; go_num
    case c1 =>
      intro j u hu
      have hlt : g < w1.heap.size := (hown.lt g rfl).2
      have h2 := HC.out j u hu
      rw [← h2]
      exact World.cell?_alloc_lt w1 _ _ (by unfold Addr.add; split <;> exact hlt)
    case c2 => exact cellsOf_one _
    case c3 => unfold maxLen; omega
    case c4 => omega
    case c5 => simp
    intro v' w2 hown' hgrow _
    have hbel' := (hbel.alloc hbel.size (Obj.cells #[Value.int IntKind.u8 (247 + ((dz n).length : Nat))] 5)).grown hgrow (by have := hbel.size; simp; omega) (fun k hk => by simp [Value.ownBlock] at hk; have := hbel.size; omega)
    rw [← cellsOf_app] at hown'
    have kc := run_text_own (P := Try.prog) w2 67 9 5 Try.underlying67 Try.underlying5 Try.underlying9 hown'
    clear hgrow hown hbel hown'
    go_wp2
    go_ret
    refine ⟨str_eq ?_, hbel'⟩
    rw [numL_large n h]; rfl

/-- the bytes of a number from -1 on -/
def intL (n : Int) : List UInt8 := if n < -1 ∨ n > 1099511627776 then [] else numL (n + 1).toNat
theorem intL_out (n : Int) (h : n < -1 ∨ n > 1099511627776) : intL n = [] := if_pos h
theorem intL_in (n : Int) (h : -1 ≤ n) (h' : n ≤ 1099511627776) : intL n = numL (n + 1).toNat := if_neg (by omega)
set_option maxRecDepth 100000 in
theorem int_any (n : Int) (h0 : -9223372036854775808 ≤ n) (h1 : n ≤ 9223372036854775807) (w : World) :
    Calls Try.prog 33 #[.int .i64 n] w fun e w' => e = .returned (str (intL n)) ∧ Below w.heap.size w w' := by
  by_cases ha : n < -1
  · go_enter Try.func33, Try.ntmps33
    go_wp2
    go_ret
    exact ⟨by rw [intL_out n (.inl ha)]; rfl, Below.refl _ _⟩
  by_cases hb : n > 1099511627776
  · go_enter Try.func33, Try.ntmps33
    go_wp2
    go_ret
    exact ⟨by rw [intL_out n (.inr hb)]; rfl, Below.refl _ _⟩
  obtain ⟨m, hm⟩ : ∃ m : Nat, m = (n + 1).toNat := ⟨_, rfl⟩
  have hn : n = (m : Int) - 1 := by omega
  subst hn
  have hm' : (m : Int) - 1 ≤ 1099511627776 := by omega
  have hm0 : (-1 : Int) ≤ (m : Int) - 1 := by omega
  clear h0 h1 ha hb hm
  have hc : IntKind.u64.wrap (m : Int) = (m : Int) := by rw [IntKind.wrap_u64]; omega
  go_enter Try.func33, Try.ntmps33
  go_wp2_with (go_at_call 48; refine (num_any _ (by unfold top64; omega) _).mono ?_; rintro e w' ⟨rfl, hb⟩)
  go_ret
  exact ⟨str_eq (by rw [intL_in _ hm0 hm', show ((m : Int) - 1 + 1).toNat = m by omega]), hb⟩
set_option maxRecDepth 100000 in
theorem rint_any (n : Int) (h0 : -9223372036854775808 ≤ n) (h1 : n ≤ 9223372036854775807) (w : World) :
    Calls Try.prog 34 #[.int .i64 n] w fun e w' => e = .returned (str (intL n)) ∧ Below w.heap.size w w' := by
  by_cases ha : n < -1
  · go_enter Try.func34, Try.ntmps34
    go_wp2
    go_ret
    exact ⟨by rw [intL_out n (.inl ha)]; rfl, Below.refl _ _⟩
  by_cases hb : n > 1099511627776
  · go_enter Try.func34, Try.ntmps34
    go_wp2
    go_ret
    exact ⟨by rw [intL_out n (.inr hb)]; rfl, Below.refl _ _⟩
  obtain ⟨m, hm⟩ : ∃ m : Nat, m = (n + 1).toNat := ⟨_, rfl⟩
  have hn : n = (m : Int) - 1 := by omega
  subst hn
  have hm' : (m : Int) - 1 ≤ 1099511627776 := by omega
  have hm0 : (-1 : Int) ≤ (m : Int) - 1 := by omega
  clear h0 h1 ha hb hm
  have hc : IntKind.u64.wrap (m : Int) = (m : Int) := by rw [IntKind.wrap_u64]; omega
  go_enter Try.func34, Try.ntmps34
  go_wp2_with (go_at_call 49; refine (rnum_any _ (by unfold top64; omega) _).mono ?_; rintro e w' ⟨rfl, hb⟩)
  go_ret
  exact ⟨str_eq (by rw [intL_in _ hm0 hm', show ((m : Int) - 1 + 1).toNat = m by omega]), hb⟩

/-- a text's bytes -/
def textL (l : List UInt8) : List UInt8 := numL l.length ++ l
end Go.Proofs.Ytiapkmncgafofaa
