/-
  Texts of this seat, one behind the other.
-/
import Derived.WalkKit
import Derived.Test.YtfplgmkbhpdmjaaRows
import Derived.Test.YtfplgmkbhpdmjaaKitA
import Derived.Test.YtfplgmkbhpdmjaaShelf
import Derived.Deep.QuietTactic
import Derived.BigQuiet
import Derived.RegionTactic
import Derived.Deep.RegionWith
import Derived.Deep.DeepCutAuto
/-
  Plain facts on numbers as bytes, highest first, and on what is read of bytes. No program is named here.
-/
namespace Go.Proofs.Ytfplgmkbhpdmjaa

/-- a number's bytes to the base 256, the highest first; none of 0 -/
def dz (n : Nat) : List UInt8 := if n = 0 then [] else dz (n / 256) ++ [UInt8.ofNat (n % 256)]
termination_by n
decreasing_by omega
theorem dz_zero : dz 0 = [] := by rw [dz]; rfl
theorem dz_pos (n : Nat) (h : 0 < n) : dz n = dz (n / 256) ++ [UInt8.ofNat (n % 256)] := by rw [dz, if_neg (by omega)]
/-- a number's bytes -/
def numL (n : Nat) : List UInt8 := if n < 248 then [UInt8.ofNat n] else UInt8.ofNat (247 + (dz n).length) :: dz n
/-- the number of bytes, the highest first -/
def val (l : List UInt8) : Nat := l.foldl (fun a b => a * 256 + b.toNat) 0
theorem val_nil : val [] = 0 := rfl
theorem val_snoc (l : List UInt8) (b : UInt8) : val (l ++ [b]) = val l * 256 + b.toNat := by simp [val, List.foldl_append]
theorem byte_lt (b : UInt8) : b.toNat < 256 := b.toNat_lt
theorem val_dz (n : Nat) : val (dz n) = n := by
  induction n using Nat.strongRecOn with
  | _ n ih =>
    rcases Nat.eq_zero_or_pos n with h | h
    · subst h; rw [dz_zero]; rfl
    · rw [dz_pos n h, val_snoc, ih (n / 256) (by omega), UInt8.toNat_ofNat_of_lt' (by show n % 256 < 256; omega)]; omega
theorem head_app (l r : List UInt8) (h : l ≠ []) : (l ++ r).head? = l.head? := by
  cases l with
  | nil => exact absurd rfl h
  | cons a l => rfl
theorem snoc_cases (l : List UInt8) : l = [] ∨ ∃ t b, l = t ++ [b] := by
  rcases List.eq_nil_or_concat l with h | ⟨t, b, h⟩
  · exact .inl h
  · exact .inr ⟨t, b, by rw [h, List.concat_eq_append]⟩
theorem dz_val_aux (k : Nat) : ∀ l : List UInt8, l.length = k → l.head? ≠ some 0 → dz (val l) = l := by
  induction k with
  | zero => intro l hl _; rw [List.eq_nil_of_length_eq_zero hl, val_nil, dz_zero]
  | succ k ih =>
    intro l hl hh
    rcases snoc_cases l with rfl | ⟨t, b, rfl⟩
    · simp at hl
    have hb := byte_lt b
    have hk : t.length = k := by simpa using hl
    rw [val_snoc]
    rcases Nat.eq_zero_or_pos k with h0 | h0
    · have : t = [] := List.eq_nil_of_length_eq_zero (by omega)
      subst this
      have hb0 : b.toNat ≠ 0 := by
        intro h; apply hh; simp; exact UInt8.toNat_inj.1 (by simpa using h)
      rw [val_nil, dz_pos _ (by omega), show (0 * 256 + b.toNat) / 256 = 0 by omega, dz_zero, show (0 * 256 + b.toNat) % 256 = b.toNat by omega]; simp
    · have ht : dz (val t) = t := ih t hk (by
        intro h; apply hh; rw [List.head?_append, h]; rfl)
      have hv : 0 < val t := by
        rcases Nat.eq_zero_or_pos (val t) with h | h
        · rw [h, dz_zero] at ht; rw [← ht] at hk; simp at hk; omega
        · exact h
      rw [dz_pos _ (by omega), show (val t * 256 + b.toNat) / 256 = val t by omega, ht, show (val t * 256 + b.toNat) % 256 = b.toNat by omega]; simp
theorem dz_val (l : List UInt8) (h : l.head? ≠ some 0) : dz (val l) = l := dz_val_aux _ l rfl h
theorem dz_head (n : Nat) : (dz n).head? ≠ some 0 := by
  induction n using Nat.strongRecOn with
  | _ n ih =>
    rcases Nat.eq_zero_or_pos n with h | h
    · subst h; rw [dz_zero]; simp
    · rw [dz_pos n h]
      rcases Nat.eq_zero_or_pos (n / 256) with h0 | h0
      · rw [h0, dz_zero]; simp
        intro hc
        have := congrArg UInt8.toNat hc
        rw [UInt8.toNat_ofNat_of_lt' (by show n % 256 < 256; omega)] at this
        simp at this; omega
      · have hne : dz (n / 256) ≠ [] := by rw [dz_pos _ h0]; simp
        rw [head_app _ _ hne]; exact ih _ (by omega)
theorem val_lt (l : List UInt8) : val l < 256 ^ l.length := by
  generalize hk : l.length = k
  induction k generalizing l with
  | zero => rw [List.eq_nil_of_length_eq_zero hk, val_nil]; decide
  | succ k ih =>
    rcases snoc_cases l with rfl | ⟨t, b, rfl⟩
    · simp at hk
    have := ih t (by simpa using hk)
    have hb := byte_lt b
    rw [val_snoc, Nat.pow_succ]; omega
theorem dz_len_le (k n : Nat) (h : n < 256 ^ k) : (dz n).length ≤ k := by
  induction k generalizing n with
  | zero => have : n = 0 := by simpa using h
            subst this; rw [dz_zero]; simp
  | succ k ih =>
    rcases Nat.eq_zero_or_pos n with h0 | h0
    · subst h0; rw [dz_zero]; simp
    · rw [dz_pos n h0]; simp
      exact ih (n / 256) (Nat.div_lt_of_lt_mul (by rw [Nat.pow_succ] at h; omega))
theorem dz_len_gt (k n : Nat) (h : 256 ^ k ≤ n) : k < (dz n).length := by
  induction k generalizing n with
  | zero => rw [dz_pos n h]; simp
  | succ k ih =>
    have hp : 0 < 256 ^ (k + 1) := Nat.pow_pos (by omega)
    rw [dz_pos n (by omega)]; simp
    exact ih (n / 256) ((Nat.le_div_iff_mul_le (by omega)).2 (by rw [Nat.pow_succ] at h; omega))
theorem dz_len_pos (n : Nat) (h : 0 < n) : 0 < (dz n).length := dz_len_gt 0 n h
theorem dz_len8 (n : Nat) (h : n < 18446744073709551616) : (dz n).length ≤ 8 := dz_len_le 8 n (by simpa using h)
theorem numL_small (n : Nat) (h : n < 248) : numL n = [UInt8.ofNat n] := by unfold numL; rw [if_pos h]
theorem numL_large (n : Nat) (h : ¬ n < 248) : numL n = UInt8.ofNat (247 + (dz n).length) :: dz n := by unfold numL; rw [if_neg h]
theorem numL_len (n : Nat) (h : n < 18446744073709551616) : (numL n).length ≤ 9 ∧ 0 < (numL n).length := by
  by_cases h0 : n < 248
  · rw [numL_small n h0]; simp
  · rw [numL_large n h0]; have := dz_len8 n h; simp; omega

/-- what stands ahead as a number -/
def readL : List UInt8 → Option (Nat × List UInt8)
  | [] => none
  | c :: t => if c.toNat < 248 then some (c.toNat, t)
    else if t.length < c.toNat - 247 then none
    else if t.head? = some 0 ∨ val (t.take (c.toNat - 247)) < 248 then none
    else some (val (t.take (c.toNat - 247)), t.drop (c.toNat - 247))
theorem readL_short (c : UInt8) (t : List UInt8) (h : c.toNat < 248) : readL (c :: t) = some (c.toNat, t) := by show (if _ then _ else _) = _; rw [if_pos h]
theorem readL_cut (c : UInt8) (t : List UInt8) (h : ¬ c.toNat < 248) (h1 : t.length < c.toNat - 247) : readL (c :: t) = none := by show (if _ then _ else _) = _; rw [if_neg h, if_pos h1]
theorem readL_bad (c : UInt8) (t : List UInt8) (h : ¬ c.toNat < 248) (h1 : ¬ t.length < c.toNat - 247) (h2 : t.head? = some 0 ∨ val (t.take (c.toNat - 247)) < 248) : readL (c :: t) = none := by show (if _ then _ else _) = _; rw [if_neg h, if_neg h1, if_pos h2]
theorem readL_good (c : UInt8) (t : List UInt8) (h : ¬ c.toNat < 248) (h1 : ¬ t.length < c.toNat - 247) (h2 : ¬ (t.head? = some 0 ∨ val (t.take (c.toNat - 247)) < 248)) :
    readL (c :: t) = some (val (t.take (c.toNat - 247)), t.drop (c.toNat - 247)) := by show (if _ then _ else _) = _; rw [if_neg h, if_neg h1, if_neg h2]

/-- the bytes that the first one asks for are a number's bytes just if they have no 0 ahead and no size where the number is its own byte -/
theorem num_of_long (c : UInt8) (t : List UInt8) (h : ¬ c.toNat < 248) (h1 : ¬ t.length < c.toNat - 247) :
    numL (val (t.take (c.toNat - 247))) = (c :: t).take (1 + (c.toNat - 247)) ↔ ¬ (t.head? = some 0 ∨ val (t.take (c.toNat - 247)) < 248) := by
  have hc := byte_lt c
  have e : (c :: t).take (1 + (c.toNat - 247)) = c :: t.take (c.toNat - 247) := by rw [Nat.add_comm]; rfl
  rw [e]
  have hl : (t.take (c.toNat - 247)).length = c.toNat - 247 := by rw [List.length_take]; omega
  have hh : (t.take (c.toNat - 247)).head? = t.head? := by
    rw [List.head?_take, if_neg (by omega)]
  generalize t.take (c.toNat - 247) = u at *
  constructor
  · intro he
    have hv : ¬ val u < 248 := by
      intro hv; rw [numL_small _ hv] at he; simp at he
      rw [he.2] at hl; simp at hl; omega
    rintro (h2 | h2)
    · rw [numL_large _ hv] at he; simp at he
      have := dz_head (val u); rw [he.2, hh] at this; exact this h2
    · exact hv h2
  · intro h2
    rw [numL_large _ (by omega), dz_val u (by rw [hh]; exact fun h => h2 (.inl h)), hl]
    rw [show UInt8.ofNat (247 + (c.toNat - 247)) = c from by rw [show 247 + (c.toNat - 247) = c.toNat by omega]; exact UInt8.ofNat_toNat]
theorem byte_of (n : Nat) (h : n < 256) : (UInt8.ofNat n).toNat = n := UInt8.toNat_ofNat_of_lt' h
/-- what is put is read -/
theorem read_put (n : Nat) (r : List UInt8) (h : n < 18446744073709551616) : readL (numL n ++ r) = some (n, r) := by
  by_cases h0 : n < 248
  · rw [numL_small n h0]; show readL (_ :: r) = _
    rw [readL_short _ _ (by rw [byte_of _ (by omega)]; exact h0), byte_of _ (by omega)]
  · have l8 := dz_len8 n h
    have lp := dz_len_pos n (by omega)
    rw [numL_large n h0]; show readL (_ :: (dz n ++ r)) = _
    have hb : (UInt8.ofNat (247 + (dz n).length)).toNat = 247 + (dz n).length := byte_of _ (by omega)
    have ht : (dz n ++ r).take ((UInt8.ofNat (247 + (dz n).length)).toNat - 247) = dz n := by
      rw [hb, show 247 + (dz n).length - 247 = (dz n).length by omega, List.take_left]
    rw [readL_good _ _ (by omega) (by rw [hb]; simp) (by
      rw [ht, val_dz]; rintro (h2 | h2)
      · have hne : dz n ≠ [] := by intro h; rw [h] at lp; simp at lp
        rw [head_app _ _ hne] at h2; exact dz_head n h2
      · exact h0 h2), ht, val_dz]
    all_goals (try rw [hb, show 247 + (dz n).length - 247 = (dz n).length by omega, List.drop_left])
/-- what is read has just the bytes that stood there -/
theorem put_read (l : List UInt8) (n : Nat) (r : List UInt8) (h : readL l = some (n, r)) : numL n ++ r = l ∧ n < 18446744073709551616 := by
  cases l with
  | nil => simp [readL] at h
  | cons c t =>
    have hc := byte_lt c
    by_cases h0 : c.toNat < 248
    · rw [readL_short c t h0] at h; simp at h; obtain ⟨rfl, rfl⟩ := h
      rw [numL_small _ h0]; simp; omega
    by_cases h1 : t.length < c.toNat - 247
    · rw [readL_cut c t h0 h1] at h; simp at h
    by_cases h2 : t.head? = some 0 ∨ val (t.take (c.toNat - 247)) < 248
    · rw [readL_bad c t h0 h1 h2] at h; simp at h
    · rw [readL_good c t h0 h1 h2] at h; simp at h; obtain ⟨rfl, rfl⟩ := h
      refine ⟨?_, ?_⟩
      · rw [(num_of_long c t h0 h1).2 h2, Nat.add_comm]; show c :: (List.take _ t ++ List.drop _ t) = _; rw [List.take_append_drop]
      · have := val_lt (t.take (c.toNat - 247))
        have hl : (t.take (c.toNat - 247)).length ≤ 8 := by rw [List.length_take]; omega
        have h8 : 256 ^ (t.take (c.toNat - 247)).length ≤ 256 ^ 8 := Nat.pow_le_pow_right (by omega) hl
        exact Nat.lt_of_lt_of_le this h8
/-- of what is cut off nothing is told -/
theorem read_cut (n k : Nat) (h : n < 18446744073709551616) (hk : k < (numL n).length) : readL ((numL n).take k) = none := by
  by_cases h0 : n < 248
  · rw [numL_small n h0] at hk ⊢; have : k = 0 := by simpa using hk
    subst this; rfl
  · have l8 := dz_len8 n h
    rw [numL_large n h0] at hk ⊢
    cases k with
    | zero => rfl
    | succ k =>
      rw [List.take_succ_cons]
      have hb : (UInt8.ofNat (247 + (dz n).length)).toNat = 247 + (dz n).length := byte_of _ (by omega)
      exact readL_cut _ _ (by have := dz_len_pos n (by omega); omega) (by rw [hb, List.length_take]; simp at hk; omega)
end Go.Proofs.Ytfplgmkbhpdmjaa
/-
  Contracts of the bytes of a number, a number from -1 on, and a text, and of the document's answers beside them: the same bytes, for every number.
-/
namespace Go.Proofs.Ytfplgmkbhpdmjaa
open Go.ChangeShapes Go.WideShapes Go.ChangeAt Go.RowKit
set_option linter.unusedVariables false
attribute [local go_sem] bs_size bs_app bs_cut

theorem str_eq {l r : List UInt8} (h : l = r) : Ending.returned (str l) = .returned (str r) := by rw [h]
theorem cells_byte (n : Nat) (h : n < 256) : cellsOf [UInt8.ofNat n] = [.int .u8 (n : Int)] := by
  simp only [cellsOf, List.map_cons, List.map_nil]; rw [byte_of n h]
set_option maxRecDepth 100000 in
theorem num_small (n : Nat) (h : n < 248) (w : World) :
    Calls Try.prog 61 #[.int .u64 (n : Int)] w fun e w' => e = .returned (str (numL n)) ∧ Below w.heap.size w w' := by
  have kc := run_text_own (P := Try.prog) (w.alloc (.cells #[.int .u8 (n : Int)] 5)) 90 9 5 Try.underlying90 Try.underlying5 Try.underlying9 (l := [UInt8.ofNat n]) (own_new (w := w) (e := 5) (cs := #[.int .u8 (n : Int)]) (n := 1) rfl (cells_byte n (by omega)).symm (by unfold maxLen; omega))
  go_enter Try.func61, Try.ntmps61
  go_wp2
  go_ret
  exact ⟨str_eq (numL_small n h).symm, (Below.refl _ _).alloc (Nat.le_refl _) _⟩
def top64 : Nat := 18446744073709551616
theorem bitLen_small : ∀ n : Fin 256, 1 ≤ n.val → 1 ≤ Lib.bitLen n.val ∧ Lib.bitLen n.val ≤ 8 := by decide +kernel
theorem len_of_bits (n : Nat) (h0 : 0 < n) (h : n < 18446744073709551616) : (Lib.bitLen n + 7) / 8 = (dz n).length := by
  induction n using Nat.strongRecOn with
  | _ n ih =>
    rcases Nat.lt_or_ge n 256 with h1 | h1
    · have hb := bitLen_small ⟨n, h1⟩ h0
      simp only at hb
      rw [dz_pos n h0, show n / 256 = 0 by omega, dz_zero]; simp; omega
    · have := ih (n / 256) (by omega) (by omega) (by omega)
      rw [dz_pos n h0, Lib.bitLen_shift8 n h1 h]; simp; omega
theorem info_u8 : (Try.prog.info? 5).map (fun i => (i.zero, i.size, i.bytes)) = some (some (.int .u8 0), 1, 1) := by kernel_rfl
theorem len64 (n : Nat) (h1 : n < top64) (w : World) : Calls Try.prog 69 #[.int .u64 (n : Int)] w fun e w' => e = .returned (.int .i64 (Lib.bitLen n : Nat)) ∧ w = w' :=
  (Try.bits_Len64 _ _ (by omega) (by unfold top64 at h1; omega)).mono fun _ _ ⟨he, hw⟩ => ⟨by simpa using he, hw.symm⟩
theorem top_zero (n m : Nat) (h : m = (dz n).length) : n / 2 ^ (8 * m) = 0 := by
  rw [Nat.div_eq_of_lt]
  rcases Nat.lt_or_ge n (2 ^ (8 * m)) with h1 | h1
  · exact h1
  · rw [Nat.pow_mul] at h1
    have := dz_len_gt m n h1; omega
def lead (m : Nat) : UInt8 := UInt8.ofNat (247 + m)
theorem one_cell (w : World) (u : Value) (t : TypeId) : ∀ (j : Nat) (v : Value), [u][j]? = some v → (w.alloc (.cells #[u] t)).cell? ((⟨w.heap.size, 0, none⟩ : Addr).add j) = some v := by
  intro j v hj
  cases j with
  | zero => simp at hj; subst hj; simp [Addr.add]
  | succ j => simp at hj
theorem step_cells (n k : Nat) (c : UInt8) (h0 : 1 ≤ k) (hk : k ≤ (dz n).length) :
    cellsOf (c :: dz (n / 2 ^ (8 * k))) ++ [Value.int .u8 (((n : Int) / 2 ^ (8 * k - 8)) % 256)] = cellsOf (c :: dz (n / 2 ^ (8 * (k - 1)))) := by
  have hp : 0 < n / 2 ^ (8 * (k - 1)) := by
    apply Nat.div_pos _ (Nat.pow_pos (by omega))
    rcases Nat.lt_or_ge n (2 ^ (8 * (k - 1))) with h1 | h1
    · rw [Nat.pow_mul] at h1
      have := dz_len_le (k - 1) n h1; omega
    · exact h1
  rw [dz_pos _ hp, Nat.div_div_eq_div_mul, show (256 : Nat) = 2 ^ 8 from rfl, ← Nat.pow_add, show 8 * (k - 1) + 8 = 8 * k by omega, ← List.cons_append, cellsOf_app, cells_byte _ (Nat.mod_lt _ (by decide))]
  congr 3
  rw [show 8 * k - 8 = 8 * (k - 1) by omega]
  simp
set_option maxRecDepth 100000 in
theorem num_large (n : Nat) (h : ¬ n < 248) (h1 : n < top64) (w : World) :
    Calls Try.prog 61 #[.int .u64 (n : Int)] w fun e w' => e = .returned (str (numL n)) ∧ Below w.heap.size w w' := by
  obtain ⟨i0, hi0, hz0, hz1, hz2⟩ := info_parts info_u8
  obtain ⟨m, hm⟩ : ∃ m, m = (dz n).length := ⟨_, rfl⟩
  have m1 : 1 ≤ m := by have := dz_len_pos n (by omega); omega
  have m8 : m ≤ 8 := by have := dz_len8 n h1; omega
  have hb0 : (Lib.bitLen n + 7) / 8 = m := by rw [hm]; exact len_of_bits n (by omega) h1
  have hb : (((Lib.bitLen n : Nat) : Int) + 7) / 8 = (m : Int) := by omega
  have hb64 : ((Lib.bitLen n : Nat) : Int) ≤ 64 := by omega
  have HM := Lib.hid hm
  clear hm hb0
  go_enter Try.func61, Try.ntmps61
  go_wp2_with (go_at_call 69; refine (len64 n h1 _).mono ?_; rintro e w' ⟨rfl, rfl⟩)
  clear hb hb64
  go_loopw [4, 5] (fun v i wr => ∃ k : Nat, k ≤ m ∧ i = .int .i64 (8 * k - 8) ∧ wr.ownsRow w.heap.size 5 1 v (1 + (m - k)) (cellsOf (lead m :: dz (n / 2 ^ (8 * k)))) ∧ Below w.heap.size w wr) (fun _ i _ => (8 + intOf i).toNat)
  case atStart =>
    refine ⟨m, Nat.le_refl _, by go_num, ?_, (Below.refl _ _).alloc (Nat.le_refl _) _⟩
    rw [show n / 2 ^ (8 * m) = 0 from top_zero n m (by rw [HM.out]), dz_zero, Nat.sub_self]
    exact own_new rfl (by unfold lead; rw [cells_byte _ (by omega)]; go_num) (by unfold maxLen; omega)
  case round =>
    obtain ⟨k, hk, rfl, hown, hbel⟩ := hrel
    by_cases h0 : 1 ≤ k
    · go_wp2_with (at_builtin; refine wpList_append_own _ rfl (.tmp 27) (.tmp 32) _ rfl w.heap.size 5 i0 (.int .u8 0) 1 1 Try.underlying90 hi0 hz0 hz1 hz2 rfl (by decide) _ (1 + (m - k)) _ rfl (hown.alloc _) ⟨wr.heap.size, 0, none⟩ 1 1 [.int .u8 (((n : Int) / 2 ^ (8 * k - 8)) % 256)] rfl rfl ?c1 ?c2 ?c3 ?c4 ?c5 ?_)
      case c1 => exact one_cell _ _ _
      case c2 => simp [Value.oneCell']
      case c3 => unfold maxLen; omega
      case c4 => omega
      case c5 => have := hbel.size; simp; omega
      intro v' w1 hown' hgrow _
      have hbel' := (hbel.alloc hbel.size (Obj.cells #[Value.int IntKind.u8 (((n : Int) / 2 ^ (8 * k - 8)) % 256)] 5)).grown hgrow (by have := hbel.size; simp; omega) (fun g hg => (hown.lt g hg).1)
      clear hgrow hown hbel
      go_wp2
      go_roundw
      case rel =>
        refine ⟨k - 1, by omega, by go_num, ?_, hbel'⟩
        have e1 : cellsOf (lead m :: dz (n / 2 ^ (8 * k))) ++ [Value.int .u8 (((n : Int) / 2 ^ (8 * k - 8)) % 256)] = cellsOf (lead m :: dz (n / 2 ^ (8 * (k - 1)))) := step_cells n k _ h0 (by rw [← HM.out]; exact hk)
        rw [← e1, show 1 + (m - (k - 1)) = 1 + (m - k) + 1 by omega]
        exact hown'
      case measure => simp [intOf]; omega
    · obtain rfl : k = 0 := by omega
      have kc := run_text_own (P := Try.prog) wr 90 9 5 Try.underlying90 Try.underlying5 Try.underlying9 hown
      go_wp2
      go_ret
      refine ⟨str_eq ?_, hbel⟩
      rw [numL_large n h, ← HM.out]; simp [lead]
theorem num_any (n : Nat) (h1 : n < top64) (w : World) :
    Calls Try.prog 61 #[.int .u64 (n : Int)] w fun e w' => e = .returned (str (numL n)) ∧ Below w.heap.size w w' := by
  by_cases h : n < 248
  · exact num_small n h w
  · exact num_large n h h1 w

/-- the row that digits hands back -/
def DigitRow (n : Nat) (w : World) (e : Ending) (w' : World) : Prop := ∃ v, e = .returned v ∧ w'.ownsRow w.heap.size 5 1 v (dz n).length (cellsOf (dz n)) ∧ Below w.heap.size w w'
set_option maxRecDepth 100000 in
theorem digits_any (n : Nat) : ∀ (w : World) (h0 : 1 ≤ n) (h1 : n < top64), Calls Try.prog 67 #[.int .u64 (n : Int)] w (DigitRow n w) := by
  induction n using Nat.strongRecOn with
  | _ n ih =>
    intro w h0 h1
    obtain ⟨i0, hi0, hz0, hz1, hz2⟩ := info_parts info_u8
    by_cases h : n < 256
    · have hd : dz n = [UInt8.ofNat n] := by rw [dz_pos n h0, show n / 256 = 0 by omega, dz_zero, show n % 256 = n by omega]; rfl
      have HD := Lib.hid hd
      clear hd ih
      go_enter Try.func67, Try.ntmps67
      go_wp2
      go_ret
      refine ⟨_, rfl, ?_, (Below.refl _ _).alloc (Nat.le_refl _) _⟩
      rw [HD.out]
      exact own_new rfl (cells_byte n h).symm (by simp [maxLen])
    · have IH := Lib.hid (ih (n / 256) (by omega))
      clear ih
      have hw : IntKind.u64.wrap ((n : Int) / 256) = ((n / 256 : Nat) : Int) := by rw [IntKind.wrap_u64]; unfold top64 at h1; omega
      have hr : IntKind.u64.wrap ((n : Int) % 256) = (n : Int) % 256 := by rw [IntKind.wrap_u64]; omega
      go_enter Try.func67, Try.ntmps67
      go_wp2_with (first
        | (go_at_call 67; refine (IH.out _ (by omega) (by unfold top64 at *; omega)).mono ?_; rintro e w1 ⟨v, rfl, hown, hbel⟩)
        | (at_builtin; refine wpList_append_own _ rfl (.tmp 10) (.tmp 14) _ rfl w.heap.size 5 i0 (.int .u8 0) 1 1 Try.underlying90 hi0 hz0 hz1 hz2 rfl (by decide) _ _ _ rfl (hown.alloc _) ⟨w1.heap.size, 0, none⟩ 1 1 [.int .u8 ((n : Int) % 256)] rfl rfl ?c1 ?c2 ?c3 ?c4 ?c5 ?_))
      case c1 => exact one_cell _ _ _
      case c2 => simp [Value.oneCell']
      case c3 => have := dz_len8 (n / 256) (by unfold top64 at h1; omega); unfold maxLen; omega
      case c4 => have := dz_len8 (n / 256) (by unfold top64 at h1; omega); omega
      case c5 => have := hbel.size; simp; omega
      intro v' w2 hown' hgrow _
      have hbel' := (hbel.alloc hbel.size (Obj.cells #[Value.int IntKind.u8 ((n : Int) % 256)] 5)).grown hgrow (by have := hbel.size; simp; omega) (fun g hg => (hown.lt g hg).1)
      clear hgrow hown hbel
      go_wp2
      go_ret
      refine ⟨_, rfl, ?_, hbel'⟩
      rw [dz_pos n h0, cellsOf_app, cells_byte _ (by omega), List.length_append]
      exact hown'

set_option maxRecDepth 100000 in
theorem rnum_any (n : Nat) (h1 : n < top64) (w : World) :
    Calls Try.prog 57 #[.int .u64 (n : Int)] w fun e w' => e = .returned (str (numL n)) ∧ Below w.heap.size w w' := by
  by_cases h : n < 248
  · have kc := run_text_own (P := Try.prog) (w.alloc (.cells #[.int .u8 (n : Int)] 5)) 90 9 5 Try.underlying90 Try.underlying5 Try.underlying9 (l := [UInt8.ofNat n]) (own_new (w := w) (e := 5) (cs := #[.int .u8 (n : Int)]) (n := 1) rfl (cells_byte n (by omega)).symm (by unfold maxLen; omega))
    go_enter Try.func57, Try.ntmps57
    go_wp2
    go_ret
    exact ⟨str_eq (numL_small n h).symm, (Below.refl _ _).alloc (Nat.le_refl _) _⟩
  · obtain ⟨i0, hi0, hz0, hz1, hz2⟩ := info_parts info_u8
    have m8 : (dz n).length ≤ 8 := dz_len8 n h1
    have m1 := dz_len_pos n (by omega)
    go_enter Try.func57, Try.ntmps57
    go_wp2_with fail
    refine (digits_any n _ (by omega) h1).mono ?_
    rintro e w1 ⟨v, rfl, hown, hbel⟩
    obtain ⟨g, cap, cur, rfl, hg⟩ : ∃ g cap cur, v = .slice (some ⟨g, 0, none⟩) (dz n).length cap ∧ w1.heap[g]? = some (.cells cur 5 (0, 0)) := by
      rcases hown.2 with ⟨_, h0⟩ | ⟨g, cap, cur, h2, _, h3, _⟩
      · omega
      · exact ⟨g, cap, cur, h2, h3⟩
    have hcells := hown.cells (g := g) rfl
    have HG := Lib.hid hg
    have HC := Lib.hid hcells
    clear hg hcells
    go_wp2_with (at_builtin; refine wpList_append_own _ rfl (.tmp 16) (.tmp 17) _ rfl w1.heap.size 5 i0 (.int .u8 0) 1 1 Try.underlying90 hi0 hz0 hz1 hz2 rfl (by decide) _ 1 (cellsOf [lead (dz n).length]) rfl (own_new rfl ?c0 (by simp [maxLen])) ⟨g, 0, none⟩ (dz n).length cap (cellsOf (dz n)) rfl (by simp [cellsOf]) ?c1 ?c2 ?c3 ?c4 ?c5 ?_)
    case c0 => unfold lead; rw [cells_byte _ (by omega)]; go_num
    case c1 =>
      intro j u hu
      have hlt : g < w1.heap.size := (hown.lt g rfl).2
      have h2 := HC.out j u hu
      rw [← h2]
      exact World.cell?_alloc_lt w1 _ _ (by unfold Addr.add; split <;> exact hlt)
    case c2 => exact cellsOf_one _
    case c3 => unfold maxLen; omega
    case c4 => omega
    case c5 => simp
    intro v' w2 hown' hgrow _
    have hbel' := (hbel.alloc hbel.size (Obj.cells #[Value.int IntKind.u8 (247 + ((dz n).length : Nat))] 5)).grown hgrow (by have := hbel.size; simp; omega) (fun k hk => by simp [Value.ownBlock] at hk; have := hbel.size; omega)
    rw [← cellsOf_app] at hown'
    have kc := run_text_own (P := Try.prog) w2 90 9 5 Try.underlying90 Try.underlying5 Try.underlying9 hown'
    clear hgrow hown hbel hown'
    go_wp2
    go_ret
    refine ⟨str_eq ?_, hbel'⟩
    rw [numL_large n h]; rfl

/-- the bytes of a number from -1 on -/
def intL (n : Int) : List UInt8 := if n < -1 ∨ n > 1099511627776 then [] else numL (n + 1).toNat
theorem intL_out (n : Int) (h : n < -1 ∨ n > 1099511627776) : intL n = [] := if_pos h
theorem intL_in (n : Int) (h : -1 ≤ n) (h' : n ≤ 1099511627776) : intL n = numL (n + 1).toNat := if_neg (by omega)
set_option maxRecDepth 100000 in
theorem int_any (n : Int) (h0 : -9223372036854775808 ≤ n) (h1 : n ≤ 9223372036854775807) (w : World) :
    Calls Try.prog 45 #[.int .i64 n] w fun e w' => e = .returned (str (intL n)) ∧ Below w.heap.size w w' := by
  by_cases ha : n < -1
  · go_enter Try.func45, Try.ntmps45
    go_wp2
    go_ret
    exact ⟨by rw [intL_out n (.inl ha)]; rfl, Below.refl _ _⟩
  by_cases hb : n > 1099511627776
  · go_enter Try.func45, Try.ntmps45
    go_wp2
    go_ret
    exact ⟨by rw [intL_out n (.inr hb)]; rfl, Below.refl _ _⟩
  obtain ⟨m, hm⟩ : ∃ m : Nat, m = (n + 1).toNat := ⟨_, rfl⟩
  have hn : n = (m : Int) - 1 := by omega
  subst hn
  have hm' : (m : Int) - 1 ≤ 1099511627776 := by omega
  have hm0 : (-1 : Int) ≤ (m : Int) - 1 := by omega
  clear h0 h1 ha hb hm
  have hc : IntKind.u64.wrap (m : Int) = (m : Int) := by rw [IntKind.wrap_u64]; omega
  go_enter Try.func45, Try.ntmps45
  go_wp2_with (go_at_call 61; refine (num_any _ (by unfold top64; omega) _).mono ?_; rintro e w' ⟨rfl, hb⟩)
  go_ret
  exact ⟨str_eq (by rw [intL_in _ hm0 hm', show ((m : Int) - 1 + 1).toNat = m by omega]), hb⟩
set_option maxRecDepth 100000 in
theorem rint_any (n : Int) (h0 : -9223372036854775808 ≤ n) (h1 : n ≤ 9223372036854775807) (w : World) :
    Calls Try.prog 41 #[.int .i64 n] w fun e w' => e = .returned (str (intL n)) ∧ Below w.heap.size w w' := by
  by_cases ha : n < -1
  · go_enter Try.func41, Try.ntmps41
    go_wp2
    go_ret
    exact ⟨by rw [intL_out n (.inl ha)]; rfl, Below.refl _ _⟩
  by_cases hb : n > 1099511627776
  · go_enter Try.func41, Try.ntmps41
    go_wp2
    go_ret
    exact ⟨by rw [intL_out n (.inr hb)]; rfl, Below.refl _ _⟩
  obtain ⟨m, hm⟩ : ∃ m : Nat, m = (n + 1).toNat := ⟨_, rfl⟩
  have hn : n = (m : Int) - 1 := by omega
  subst hn
  have hm' : (m : Int) - 1 ≤ 1099511627776 := by omega
  have hm0 : (-1 : Int) ≤ (m : Int) - 1 := by omega
  clear h0 h1 ha hb hm
  have hc : IntKind.u64.wrap (m : Int) = (m : Int) := by rw [IntKind.wrap_u64]; omega
  go_enter Try.func41, Try.ntmps41
  go_wp2_with (go_at_call 57; refine (rnum_any _ (by unfold top64; omega) _).mono ?_; rintro e w' ⟨rfl, hb⟩)
  go_ret
  exact ⟨str_eq (by rw [intL_in _ hm0 hm', show ((m : Int) - 1 + 1).toNat = m by omega]), hb⟩

/-- a text's bytes -/
def textL (l : List UInt8) : List UInt8 := numL l.length ++ l
set_option maxRecDepth 100000 in
theorem text_any (l : List UInt8) (h1 : l.length ≤ 1048576) (w : World) :
    Calls Try.prog 62 #[str l] w fun e w' => e = .returned (str (textL l)) ∧ Below w.heap.size w w' := by
  have hc : IntKind.u64.wrap (l.length : Int) = (l.length : Int) := by rw [IntKind.wrap_u64]; omega
  have h9 := (numL_len l.length (by omega)).1
  go_enter Try.func62, Try.ntmps62
  go_wp2_with (go_at_call 61; refine (num_any _ (by unfold top64; omega) _).mono ?_; rintro e w' ⟨rfl, hb⟩)
  go_ret
  exact ⟨rfl, hb⟩
set_option maxRecDepth 100000 in
theorem rtext_any (l : List UInt8) (h1 : l.length ≤ 1048576) (w : World) :
    Calls Try.prog 59 #[str l] w fun e w' => e = .returned (str (textL l)) ∧ Below w.heap.size w w' := by
  have hc : IntKind.u64.wrap (l.length : Int) = (l.length : Int) := by rw [IntKind.wrap_u64]; omega
  have h9 := (numL_len l.length (by omega)).1
  go_enter Try.func59, Try.ntmps59
  go_wp2_with (go_at_call 57; refine (rnum_any _ (by unfold top64; omega) _).mono ?_; rintro e w' ⟨rfl, hb⟩)
  go_ret
  exact ⟨rfl, hb⟩
end Go.Proofs.Ytfplgmkbhpdmjaa
/-
  Contracts of what stands ahead of bytes, as a number, as one from -1 on, as a text, and of the document's answers beside them.
-/
namespace Go.Proofs.Ytfplgmkbhpdmjaa
open Go.ChangeShapes Go.WideShapes Go.ChangeAt Go.RowKit
set_option linter.unusedVariables false
attribute [local go_sem] bs_size bs_app bs_cut bs_tl bs_at

/-- what is told of bytes as a number -/
def readT (l : List UInt8) : Nat × List UInt8 × Bool := match readL l with | some (n, r) => (n, r, true) | none => (0, [], false)
theorem readT_none {l : List UInt8} (h : readL l = none) : readT l = (0, [], false) := by unfold readT; rw [h]
theorem readT_some {l : List UInt8} {n : Nat} {r : List UInt8} (h : readL l = some (n, r)) : readT l = (n, r, true) := by unfold readT; rw [h]
abbrev three (n : Int) (k : IntKind) (r : List UInt8) (b : Bool) : Ending := .returned (.tuple #[.int k n, str r, .bool b])
def ReadTold (l : List UInt8) (w : World) (e : Ending) (w' : World) : Prop := e = three (readT l).1 .u64 (readT l).2.1 (readT l).2.2 ∧ Below w.heap.size w w'
set_option maxRecDepth 100000 in
theorem read_nil (w : World) : Calls Try.prog 50 #[str []] w (ReadTold [] w) := by
  go_enter Try.func50, Try.ntmps50
  go_wp2
  refine bodyPost_ret (results_tmp3 rfl _ _ _) rfl ?_
  rw [ReadTold, readT_none rfl]
  exact ⟨rfl, Below.refl _ _⟩
theorem below_drewN {B : Nat} {a w : World} (h : Below B a w) (n : Nat) : Below B a (w.drewN n) := ⟨h.os, h.tape, h.output, h.size, h.block⟩
theorem below_after {w w' : World} (h : Below w.drew.heap.size w.drew w') : Below w.heap.size w w' := ((Below.refl w.heap.size w).drew).trans h
set_option maxRecDepth 100000 in
theorem read_short (c : UInt8) (t : List UInt8) (h : c.toNat < 248) (hl : t.length ≤ 1048576) (w : World) : Calls Try.prog 50 #[str (c :: t)] w (ReadTold (c :: t) w) := by
  go_enter Try.func50, Try.ntmps50
  go_wp2
  go_quiet (fail)
  go_wp2
  refine bodyPost_ret (results_tmp3 rfl _ _ _) rfl ?_
  rw [ReadTold, readT_some (readL_short c t h)]
  exact ⟨rfl, below_drewN (Below.refl _ _) _⟩
set_option maxRecDepth 100000 in
theorem read_cut0 (c : UInt8) (t : List UInt8) (h : ¬ c.toNat < 248) (h1 : t.length < c.toNat - 247) (w : World) : Calls Try.prog 50 #[str (c :: t)] w (ReadTold (c :: t) w) := by
  have hc := byte_lt c
  go_enter Try.func50, Try.ntmps50
  go_wp2
  refine bodyPost_ret (results_tmp3 rfl _ _ _) rfl ?_
  rw [ReadTold, readT_none (readL_cut c t h h1)]
  exact ⟨rfl, Below.refl _ _⟩
theorem or_step (v b : Nat) (hv : v < 72057594037927936) (hb : b < 256) : bits .or .u64 (IntKind.u64.wrap ((v : Int) * 256)) (IntKind.u64.wrap (b : Int)) = ((v * 256 + b : Nat) : Int) := by
  have e1 : IntKind.u64.wrap ((v : Int) * 256) = ((v * 256 : Nat) : Int) := by rw [IntKind.wrap_u64]; omega
  have e2 : IntKind.u64.wrap (b : Int) = (b : Int) := by rw [IntKind.wrap_u64]; omega
  have t1 : (BitVec.ofInt 64 ((v * 256 : Nat) : Int)).toNat = v * 256 := by rw [BitVec.ofInt_natCast, BitVec.toNat_ofNat]; exact Nat.mod_eq_of_lt (by omega)
  have t2 : (BitVec.ofInt 64 (b : Int)).toNat = b := by rw [BitVec.ofInt_natCast, BitVec.toNat_ofNat]; exact Nat.mod_eq_of_lt (by omega)
  rw [e1, e2]
  show IntKind.u64.wrap ((BitVec.ofInt 64 ((v * 256 : Nat) : Int) ||| BitVec.ofInt 64 (b : Int)).toNat : Int) = _
  rw [BitVec.toNat_or, t1, t2]
  have e3 : v * 256 ||| b = v * 256 + b := by
    have := Nat.shiftLeft_add_eq_or_of_lt (b := b) (i := 8) hb v
    rw [Nat.shiftLeft_eq] at this; exact this.symm
  rw [e3, IntKind.wrap_u64]; omega
theorem val_step (t : List UInt8) (j : Nat) (h : j < t.length) : val (t.take (j + 1)) = val (t.take j) * 256 + t[j].toNat := by
  rw [List.take_succ_eq_append_getElem h, val_snoc]
theorem val_room (t : List UInt8) (j : Nat) (h : j < 8) : val (t.take j) < 72057594037927936 := by
  have h1 := val_lt (t.take j)
  have h2 : (t.take j).length ≤ 7 := by rw [List.length_take]; omega
  have h3 : 256 ^ (t.take j).length ≤ 256 ^ 7 := Nat.pow_le_pow_right (by omega) h2
  exact Nat.lt_of_lt_of_le h1 h3
theorem val_top (t : List UInt8) (j : Nat) (h : j ≤ 8) : val (t.take j) < top64 := by
  have h1 := val_lt (t.take j)
  have h2 : (t.take j).length ≤ 8 := by rw [List.length_take]; omega
  have h3 : 256 ^ (t.take j).length ≤ 256 ^ 8 := Nat.pow_le_pow_right (by omega) h2
  exact Nat.lt_of_lt_of_le h1 h3
set_option maxRecDepth 100000 in
theorem read_long (c : UInt8) (t : List UInt8) (h : ¬ c.toNat < 248) (h1 : ¬ t.length < c.toNat - 247) (hl : t.length ≤ 1048576) (w : World) : Calls Try.prog 50 #[str (c :: t)] w (ReadTold (c :: t) w) := by
  have hc := byte_lt c
  obtain ⟨k, hk⟩ : ∃ k, k = c.toNat - 247 := ⟨_, rfl⟩
  have hc2 : (c.toNat : Int) - 247 = k := by omega
  have hk1 : 1 ≤ k := by omega
  have hk8 : k ≤ 8 := by omega
  have hkt : k ≤ t.length := by omega
  have HK := Lib.hid hk
  clear hk
  have hd1 : decide (t.length < k) = false := by simp; omega
  have hd2 : decide ((c.toNat : Int) < 248) = false := by simp; omega
  go_enter Try.func50, Try.ntmps50
  go_wp2
  go_loop [2, 6] (fun n i => ∃ j : Nat, j ≤ k ∧ i = .int .i64 ((j : Int) + 1) ∧ n = .int .u64 (val (t.take j) : Nat)) (fun _ i => k + 1 - (intOf i).toNat)
  case atStart => exact ⟨0, by omega, rfl, rfl⟩
  case round =>
    obtain ⟨j, hj, rfl, rfl⟩ := hrel
    by_cases hlt : j < k
    · have hjt : j < t.length := by omega
      have hor := or_step (val (t.take j)) t[j].toNat (val_room t j (by omega)) (byte_lt _)
      rw [← val_step t j hjt] at hor
      go_wp2
      go_round
      case rel => exact ⟨j + 1, by omega, by go_num, rfl⟩
      case measure => simp [intOf]; omega
    · obtain rfl : j = k := by omega
      have h0t : 0 < t.length := by omega
      have hh : t.head? = some t[0] := by cases t with | nil => simp at h0t | cons a t => rfl
      have HH := Lib.hid hh
      clear hh
      by_cases hz : t[0] = 0
      · have hz1 : ((t[0].toNat : Int) == 0) = true := by rw [hz]; rfl
        have HZ := Lib.hid hz
        clear hz
        go_wp2
        refine bodyPost_ret (results_tmp3 rfl _ _ _) rfl ?_
        rw [ReadTold, readT_none (readL_bad c t h h1 (.inl (by rw [HH.out, HZ.out])))]
        exact ⟨rfl, Below.refl _ _⟩
      have hz1 : ((t[0].toNat : Int) == 0) = false := by
        simp; intro hc; exact hz (UInt8.toNat_inj.1 (by simpa using hc))
      have HZ := Lib.hid hz
      clear hz
      by_cases hv : val (t.take j) < 248
      · go_wp2
        refine bodyPost_ret (results_tmp3 rfl _ _ _) rfl ?_
        rw [ReadTold, readT_none (readL_bad c t h h1 (.inr (by rw [← HK.out]; exact hv)))]
        exact ⟨rfl, Below.refl _ _⟩
      · have hdr : List.drop (1 + j) (c :: t) = List.drop j t := by rw [Nat.add_comm]; rfl
        go_wp2
        go_quiet (fail)
        go_wp2
        refine bodyPost_ret (results_tmp3 rfl _ _ _) rfl ?_
        rw [ReadTold, readT_some (readL_good c t h h1 (by rw [← HK.out, HH.out]; rintro (h2 | h2); exact HZ.out (by simpa using h2); exact hv h2)), ← HK.out]
        exact ⟨congrArg (fun r => three ((val (t.take j) : Nat) : Int) .u64 r true) hdr, below_drewN (Below.refl _ _) _⟩
theorem read_any (l : List UInt8) (hl : l.length ≤ 1048576) (w : World) : Calls Try.prog 50 #[str l] w (ReadTold l w) := by
  cases l with
  | nil => exact read_nil w
  | cons c t =>
    have hl' : t.length ≤ 1048576 := by simp at hl; omega
    by_cases h : c.toNat < 248
    · exact read_short c t h hl' w
    by_cases h1 : t.length < c.toNat - 247
    · exact read_cut0 c t h h1 w
    · exact read_long c t h h1 hl' w

set_option maxRecDepth 100000 in
theorem rread_nil (w : World) : Calls Try.prog 36 #[str []] w (ReadTold [] w) := by
  go_enter Try.func36, Try.ntmps36
  go_wp2
  refine bodyPost_ret (results_tmp3 rfl _ _ _) rfl ?_
  rw [ReadTold, readT_none rfl]
  exact ⟨rfl, Below.refl _ _⟩
set_option maxRecDepth 100000 in
theorem rread_short (c : UInt8) (t : List UInt8) (h : c.toNat < 248) (hl : t.length ≤ 1048576) (w : World) : Calls Try.prog 36 #[str (c :: t)] w (ReadTold (c :: t) w) := by
  have hd2 : decide ((c.toNat : Int) < 248) = true := by simp; omega
  go_enter Try.func36, Try.ntmps36
  go_wp2
  go_loop [6, 7] (fun n i => n = .int .u64 0 ∧ i = .int .i64 1) (fun _ i => 0)
  case atStart => exact ⟨rfl, rfl⟩
  case round =>
    obtain ⟨rfl, rfl⟩ := hrel
    go_wp2_with fail
    have hb1 : (1 : Int) ≤ (t.length : Int) + 1 := by omega
    have hne : numL c.toNat = [c] := by rw [numL_small _ h]; simp
    have hw1 : IntKind.i64.wrap 1 = 1 := by rw [IntKind.wrap_i64]; omega
    go_region_with (go_at_call 57; refine (rnum_any _ (by unfold top64; omega) _).mono ?_; rintro e w' ⟨rfl, hb⟩)
    all_goals
      go_wp2
      go_quiet (fail)
      go_wp2
      refine bodyPost_ret (results_tmp3 rfl _ _ _) rfl ?_
      rw [ReadTold, readT_some (readL_short c t h)]
      exact ⟨rfl, below_drewN (below_after hb) _⟩
set_option maxRecDepth 100000 in
theorem rread_cut (c : UInt8) (t : List UInt8) (h : ¬ c.toNat < 248) (h1 : t.length < c.toNat - 247) (w : World) : Calls Try.prog 36 #[str (c :: t)] w (ReadTold (c :: t) w) := by
  have hc := byte_lt c
  go_enter Try.func36, Try.ntmps36
  go_wp2
  refine bodyPost_ret (results_tmp3 rfl _ _ _) rfl ?_
  rw [ReadTold, readT_none (readL_cut c t h h1)]
  exact ⟨rfl, Below.refl _ _⟩
theorem add_step (v b : Nat) (hv : v < 72057594037927936) (hb : b < 256) : IntKind.u64.wrap (IntKind.u64.wrap ((v : Int) * 256) + IntKind.u64.wrap (b : Int)) = ((v * 256 + b : Nat) : Int) := by
  have e2 : IntKind.u64.wrap (b : Int) = (b : Int) := by rw [IntKind.wrap_u64]; omega
  have e1 : IntKind.u64.wrap ((v : Int) * 256) = ((v * 256 : Nat) : Int) := by rw [IntKind.wrap_u64]; omega
  rw [e1, e2, IntKind.wrap_u64]; omega
set_option maxHeartbeats 1000000 in
set_option maxRecDepth 100000 in
theorem rread_long (c : UInt8) (t : List UInt8) (h : ¬ c.toNat < 248) (h1 : ¬ t.length < c.toNat - 247) (hl : t.length ≤ 1048576) (w : World) : Calls Try.prog 36 #[str (c :: t)] w (ReadTold (c :: t) w) := by
  have hc := byte_lt c
  obtain ⟨k, hk⟩ : ∃ k, k = c.toNat - 247 := ⟨_, rfl⟩
  have hc2 : (c.toNat : Int) - 247 = k := by omega
  have hk1 : 1 ≤ k := by omega
  have hk8 : k ≤ 8 := by omega
  have hkt : k ≤ t.length := by omega
  have HK := Lib.hid hk
  clear hk
  have hd1 : decide ((t.length : Int) + 1 < 1 + (k : Int)) = false := by simp; omega
  have hd3 : ((t.length : Int) + 1 == 0) = false := by simp; omega
  have hd2 : decide (247 < (c.toNat : Int)) = true := by simp; omega
  go_enter Try.func36, Try.ntmps36
  go_wp2
  go_loop [6, 7] (fun n i => ∃ j : Nat, j ≤ k ∧ i = .int .i64 ((j : Int) + 1) ∧ n = .int .u64 (val (t.take j) : Nat)) (fun _ i => k + 1 - (intOf i).toNat)
  case atStart => exact ⟨0, by omega, rfl, rfl⟩
  case round =>
    obtain ⟨j, hj, rfl, rfl⟩ := hrel
    by_cases hlt : j < k
    · have hjt : j < t.length := by omega
      have hor := add_step (val (t.take j)) t[j].toNat (val_room t j (by omega)) (byte_lt _)
      rw [← val_step t j hjt] at hor
      go_wp2
      go_round
      case rel => exact ⟨j + 1, by omega, by go_num, rfl⟩
      case measure => simp [intOf]; omega
    · obtain rfl : j = k := by omega
      have hw1 : IntKind.i64.wrap (1 + (j : Int)) = 1 + (j : Int) := by rw [IntKind.wrap_i64]; omega
      have hk0 : ((j : Int) == 0) = false := by simp; omega
      have hv64 : val (t.take j) < top64 := val_top t j hk8
      have hiff := num_of_long c t h h1
      rw [← HK.out] at hiff
      by_cases hg : t.head? = some 0 ∨ val (t.take j) < 248
      · have hne : (numL (val (t.take j)) == List.take (1 + j) (c :: t)) = false := by
          rw [beq_eq_false_iff_ne]; intro h2; exact (hiff.1 h2) hg
        clear hiff
        have HG := Lib.hid hg
        clear hg
        go_wp2_with fail
        go_region_with (go_at_call 57; refine (rnum_any _ hv64 _).mono ?_; rintro e w' ⟨rfl, hb⟩)
        all_goals
          go_wp2
          refine bodyPost_ret (results_tmp3 rfl _ _ _) rfl ?_
          rw [ReadTold, readT_none (readL_bad c t h h1 (by rw [← HK.out]; exact HG.out))]
          exact ⟨rfl, below_after hb⟩
      · have hne : numL (val (t.take j)) = List.take (1 + j) (c :: t) := hiff.2 hg
        clear hiff
        have HG := Lib.hid hg
        clear hg
        have hdr : List.drop (1 + j) (c :: t) = List.drop j t := by rw [Nat.add_comm]; rfl
        go_wp2_with fail
        go_region_with (go_at_call 57; refine (rnum_any _ hv64 _).mono ?_; rintro e w' ⟨rfl, hb⟩)
        all_goals
          go_wp2
          go_quiet (fail)
          go_wp2
          refine bodyPost_ret (results_tmp3 rfl _ _ _) rfl ?_
          rw [ReadTold, readT_some (readL_good c t h h1 (by rw [← HK.out]; exact HG.out)), ← HK.out]
          exact ⟨congrArg (fun r => three ((val (t.take j) : Nat) : Int) .u64 r true) hdr, below_drewN (below_after hb) _⟩
theorem rread_any (l : List UInt8) (hl : l.length ≤ 1048576) (w : World) : Calls Try.prog 36 #[str l] w (ReadTold l w) := by
  cases l with
  | nil => exact rread_nil w
  | cons c t =>
    have hl' : t.length ≤ 1048576 := by simp at hl; omega
    by_cases h : c.toNat < 248
    · exact rread_short c t h hl' w
    by_cases h1 : t.length < c.toNat - 247
    · exact rread_cut c t h h1 w
    · exact rread_long c t h h1 hl' w
end Go.Proofs.Ytfplgmkbhpdmjaa
/-
  Contracts of a number from -1 on, and of a text, that stand ahead of bytes, and of the document's answers beside them; the chapter's examples.
-/
namespace Go.Proofs.Ytfplgmkbhpdmjaa
open Go.ChangeShapes Go.WideShapes Go.ChangeAt Go.RowKit
set_option linter.unusedVariables false
attribute [local go_sem] bs_size bs_app bs_cut bs_tl bs_at

/-- what is told of bytes as a number from -1 on -/
def unintT (l : List UInt8) : Int × List UInt8 × Bool := match readL l with
  | some (n, r) => if (n : Int) > 1099511627777 then (0, [], false) else ((n : Int) - 1, r, true)
  | none => (0, [], false)
def UnintTold (l : List UInt8) (w : World) (e : Ending) (w' : World) : Prop := e = three (unintT l).1 .i64 (unintT l).2.1 (unintT l).2.2 ∧ Below w.heap.size w w'
theorem unintT_none {l : List UInt8} (h : readL l = none) : unintT l = (0, [], false) := by unfold unintT; rw [h]
theorem unintT_big {l : List UInt8} {n : Nat} {r : List UInt8} (h : readL l = some (n, r)) (hn : (n : Int) > 1099511627777) : unintT l = (0, [], false) := by unfold unintT; rw [h]; exact if_pos hn
theorem unintT_some {l : List UInt8} {n : Nat} {r : List UInt8} (h : readL l = some (n, r)) (hn : ¬ (n : Int) > 1099511627777) : unintT l = ((n : Int) - 1, r, true) := by unfold unintT; rw [h]; exact if_neg hn
theorem read_none {P : Program} {f : FuncId} {l : List UInt8} {w : World} (h : readL l = none) (c : Calls P f #[str l] w (ReadTold l w)) :
    Calls P f #[str l] w fun e w' => e = three 0 .u64 [] false ∧ Below w.heap.size w w' := c.mono fun e w' hh => by rw [ReadTold, readT_none h] at hh; exact hh
theorem read_some {P : Program} {f : FuncId} {l r : List UInt8} {n : Nat} {w : World} (h : readL l = some (n, r)) (c : Calls P f #[str l] w (ReadTold l w)) :
    Calls P f #[str l] w fun e w' => e = three n .u64 r true ∧ Below w.heap.size w w' := c.mono fun e w' hh => by rw [ReadTold, readT_some h] at hh; exact hh
set_option maxRecDepth 100000 in
theorem unint_any (l : List UInt8) (hl : l.length ≤ 1048576) (w : World) : Calls Try.prog 30 #[str l] w (UnintTold l w) := by
  cases hr : readL l with
  | none =>
    have HR := Lib.hid hr
    clear hr
    go_enter Try.func30, Try.ntmps30
    go_wp2_with (go_at_call 50; refine (read_none HR.out (read_any l hl _)).mono ?_; rintro e w' ⟨rfl, hb⟩)
    refine bodyPost_ret (results_tmp3 rfl _ _ _) rfl ?_
    rw [UnintTold, unintT_none HR.out]
    exact ⟨rfl, hb⟩
  | some x =>
    obtain ⟨n, r⟩ := x
    have HR := Lib.hid hr
    clear hr
    by_cases hn : (n : Int) > 1099511627777
    · go_enter Try.func30, Try.ntmps30
      go_wp2_with (go_at_call 50; refine (read_some HR.out (read_any l hl _)).mono ?_; rintro e w' ⟨rfl, hb⟩)
      refine bodyPost_ret (results_tmp3 rfl _ _ _) rfl ?_
      rw [UnintTold, unintT_big HR.out (by omega)]
      exact ⟨rfl, hb⟩
    · have hn' : (n : Int) ≤ 1099511627777 := by omega
      go_enter Try.func30, Try.ntmps30
      go_wp2_with (go_at_call 50; refine (read_some HR.out (read_any l hl _)).mono ?_; rintro e w' ⟨rfl, hb⟩)
      refine bodyPost_ret (results_tmp3 rfl _ _ _) rfl ?_
      rw [UnintTold, unintT_some HR.out (by omega)]
      exact ⟨rfl, hb⟩
set_option maxRecDepth 100000 in
theorem runint_any (l : List UInt8) (hl : l.length ≤ 1048576) (w : World) : Calls Try.prog 17 #[str l] w (UnintTold l w) := by
  cases hr : readL l with
  | none =>
    have HR := Lib.hid hr
    clear hr
    go_enter Try.func17, Try.ntmps17
    go_wp2_with (go_at_call 36; refine (read_none HR.out (rread_any l hl _)).mono ?_; rintro e w' ⟨rfl, hb⟩)
    refine bodyPost_ret (results_tmp3 rfl _ _ _) rfl ?_
    rw [UnintTold, unintT_none HR.out]
    exact ⟨rfl, hb⟩
  | some x =>
    obtain ⟨n, r⟩ := x
    have HR := Lib.hid hr
    clear hr
    by_cases hn : (n : Int) > 1099511627777
    · go_enter Try.func17, Try.ntmps17
      go_wp2_with (go_at_call 36; refine (read_some HR.out (rread_any l hl _)).mono ?_; rintro e w' ⟨rfl, hb⟩)
      refine bodyPost_ret (results_tmp3 rfl _ _ _) rfl ?_
      rw [UnintTold, unintT_big HR.out (by omega)]
      exact ⟨rfl, hb⟩
    · have hn' : (n : Int) ≤ 1099511627777 := by omega
      go_enter Try.func17, Try.ntmps17
      go_wp2_with (go_at_call 36; refine (read_some HR.out (rread_any l hl _)).mono ?_; rintro e w' ⟨rfl, hb⟩)
      refine bodyPost_ret (results_tmp3 rfl _ _ _) rfl ?_
      rw [UnintTold, unintT_some HR.out (by omega)]
      exact ⟨rfl, hb⟩
/-- what is told of bytes as a text -/
def cutT (l : List UInt8) : List UInt8 × List UInt8 × Bool := match readL l with
  | some (n, r) => if r.length < n then ([], [], false) else (r.take n, r.drop n, true)
  | none => ([], [], false)
abbrev texts (a r : List UInt8) (b : Bool) : Ending := .returned (.tuple #[str a, str r, .bool b])
def CutTold (l : List UInt8) (w : World) (e : Ending) (w' : World) : Prop := e = texts (cutT l).1 (cutT l).2.1 (cutT l).2.2 ∧ Below w.heap.size w w'
theorem cutT_none {l : List UInt8} (h : readL l = none) : cutT l = ([], [], false) := by unfold cutT; rw [h]
theorem cutT_big {l : List UInt8} {n : Nat} {r : List UInt8} (h : readL l = some (n, r)) (hn : r.length < n) : cutT l = ([], [], false) := by unfold cutT; rw [h]; exact if_pos hn
theorem cutT_some {l : List UInt8} {n : Nat} {r : List UInt8} (h : readL l = some (n, r)) (hn : ¬ r.length < n) : cutT l = (r.take n, r.drop n, true) := by unfold cutT; rw [h]; exact if_neg hn
theorem read_rest {l : List UInt8} {n : Nat} {r : List UInt8} (h : readL l = some (n, r)) : r.length ≤ l.length := by
  have := (put_read l n r h).1; rw [← this]; simp
set_option maxRecDepth 100000 in
theorem cut_any (l : List UInt8) (hl : l.length ≤ 1048576) (w : World) : Calls Try.prog 55 #[str l] w (CutTold l w) := by
  cases hr : readL l with
  | none =>
    have HR := Lib.hid hr
    clear hr
    go_enter Try.func55, Try.ntmps55
    go_wp2_with (go_at_call 50; refine (read_none HR.out (read_any l hl _)).mono ?_; rintro e w' ⟨rfl, hb⟩)
    refine bodyPost_ret (results_tmp3 rfl _ _ _) rfl ?_
    rw [CutTold, cutT_none HR.out]
    exact ⟨rfl, hb⟩
  | some x =>
    obtain ⟨n, r⟩ := x
    have hrl := read_rest hr
    have hrl2 : r.length ≤ 1048576 := by omega
    have HR := Lib.hid hr
    clear hr hrl
    have hu : IntKind.u64.wrap (r.length : Int) = (r.length : Int) := by rw [IntKind.wrap_u64]; omega
    by_cases hn : r.length < n
    · go_enter Try.func55, Try.ntmps55
      go_wp2_with (go_at_call 50; refine (read_some HR.out (read_any l hl _)).mono ?_; rintro e w' ⟨rfl, hb⟩)
      refine bodyPost_ret (results_tmp3 rfl _ _ _) rfl ?_
      rw [CutTold, cutT_big HR.out hn]
      exact ⟨rfl, hb⟩
    · have hn' : n ≤ r.length := by omega
      have hni : (n : Int) ≤ (r.length : Int) := by omega
      clear hn
      go_enter Try.func55, Try.ntmps55
      go_wp2_with (go_at_call 50; refine (read_some HR.out (read_any l hl _)).mono ?_; rintro e w' ⟨rfl, hb⟩)
      go_quiet (fail)
      go_wp2
      refine bodyPost_ret (results_tmp3 rfl _ _ _) rfl ?_
      rw [CutTold, cutT_some HR.out (by omega)]
      exact ⟨rfl, below_drewN hb _⟩
set_option maxRecDepth 100000 in
theorem rcut_any (l : List UInt8) (hl : l.length ≤ 1048576) (w : World) : Calls Try.prog 21 #[str l] w (CutTold l w) := by
  cases hr : readL l with
  | none =>
    have HR := Lib.hid hr
    clear hr
    go_enter Try.func21, Try.ntmps21
    go_wp2_with (go_at_call 36; refine (read_none HR.out (rread_any l hl _)).mono ?_; rintro e w' ⟨rfl, hb⟩)
    refine bodyPost_ret (results_tmp3 rfl _ _ _) rfl ?_
    rw [CutTold, cutT_none HR.out]
    exact ⟨rfl, hb⟩
  | some x =>
    obtain ⟨n, r⟩ := x
    have hrl := read_rest hr
    have hrl2 : r.length ≤ 1048576 := by omega
    have HR := Lib.hid hr
    clear hr hrl
    have hu : IntKind.u64.wrap (r.length : Int) = (r.length : Int) := by rw [IntKind.wrap_u64]; omega
    by_cases hn : r.length < n
    · go_enter Try.func21, Try.ntmps21
      go_wp2_with (go_at_call 36; refine (read_some HR.out (rread_any l hl _)).mono ?_; rintro e w' ⟨rfl, hb⟩)
      refine bodyPost_ret (results_tmp3 rfl _ _ _) rfl ?_
      rw [CutTold, cutT_big HR.out hn]
      exact ⟨rfl, hb⟩
    · have hn' : n ≤ r.length := by omega
      have hni : (n : Int) ≤ (r.length : Int) := by omega
      clear hn
      go_enter Try.func21, Try.ntmps21
      go_wp2_with (go_at_call 36; refine (read_some HR.out (rread_any l hl _)).mono ?_; rintro e w' ⟨rfl, hb⟩)
      go_quiet (fail)
      go_wp2
      refine bodyPost_ret (results_tmp3 rfl _ _ _) rfl ?_
      rw [CutTold, cutT_some HR.out (by omega)]
      exact ⟨rfl, below_drewN hb _⟩
end Go.Proofs.Ytfplgmkbhpdmjaa
