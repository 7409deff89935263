/-
  Plain facts on numbers as bytes, highest first, and on what is read of bytes. No program is named here.
-/
import Derived.WalkKit
namespace Go.Proofs.Ytiapkmncgafofaa

/-- a number's bytes to the base 256, the highest first; none of 0 -/
def dz (n : Nat) : List UInt8 := if n = 0 then [] else dz (n / 256) ++ [UInt8.ofNat (n % 256)]
termination_by n
decreasing_by omega
theorem dz_zero : dz 0 = [] := by rw [dz]; rfl
theorem dz_pos (n : Nat) (h : 0 < n) : dz n = dz (n / 256) ++ [UInt8.ofNat (n % 256)] := by rw [dz, if_neg (by omega)]
/-- a number's bytes -/
def numL (n : Nat) : List UInt8 := if n < 248 then [UInt8.ofNat n] else UInt8.ofNat (247 + (dz n).length) :: dz n
/-- the number of bytes, the highest first -/
def val (l : List UInt8) : Nat := l.foldl (fun a b => a * 256 + b.toNat) 0
theorem val_nil : val [] = 0 := rfl
theorem val_snoc (l : List UInt8) (b : UInt8) : val (l ++ [b]) = val l * 256 + b.toNat := by simp [val, List.foldl_append]
theorem byte_lt (b : UInt8) : b.toNat < 256 := b.toNat_lt
theorem val_dz (n : Nat) : val (dz n) = n := by
  induction n using Nat.strongRecOn with
  | _ n ih =>
    rcases Nat.eq_zero_or_pos n with h | h
    · subst h; rw [dz_zero]; rfl
    · rw [dz_pos n h, val_snoc, ih (n / 256) (by omega), UInt8.toNat_ofNat_of_lt' (by show n % 256 < 256; omega)]; omega
theorem head_app (l r : List UInt8) (h : l ≠ []) : (l ++ r).head? = l.head? := by
  cases l with
  | nil => exact absurd rfl h
  | cons a l => rfl
theorem snoc_cases (l : List UInt8) : l = [] ∨ ∃ t b, l = t ++ [b] := by
  rcases List.eq_nil_or_concat l with h | ⟨t, b, h⟩
  · exact .inl h
  · exact .inr ⟨t, b, by rw [h, List.concat_eq_append]⟩
theorem dz_val_aux (k : Nat) : ∀ l : List UInt8, l.length = k → l.head? ≠ some 0 → dz (val l) = l := by
  induction k with
  | zero => intro l hl _; rw [List.eq_nil_of_length_eq_zero hl, val_nil, dz_zero]
  | succ k ih =>
    intro l hl hh
    rcases snoc_cases l with rfl | ⟨t, b, rfl⟩
    · simp at hl
    have hb := byte_lt b
    have hk : t.length = k := by simpa using hl
    rw [val_snoc]
    rcases Nat.eq_zero_or_pos k with h0 | h0
    · have : t = [] := List.eq_nil_of_length_eq_zero (by omega)
      subst this
      have hb0 : b.toNat ≠ 0 := by
        intro h; apply hh; simp; exact UInt8.toNat_inj.1 (by simpa using h)
      rw [val_nil, dz_pos _ (by omega), show (0 * 256 + b.toNat) / 256 = 0 by omega, dz_zero, show (0 * 256 + b.toNat) % 256 = b.toNat by omega]; simp
    · have ht : dz (val t) = t := ih t hk (by
        intro h; apply hh; rw [List.head?_append, h]; rfl)
      have hv : 0 < val t := by
        rcases Nat.eq_zero_or_pos (val t) with h | h
        · rw [h, dz_zero] at ht; rw [← ht] at hk; simp at hk; omega
        · exact h
      rw [dz_pos _ (by omega), show (val t * 256 + b.toNat) / 256 = val t by omega, ht, show (val t * 256 + b.toNat) % 256 = b.toNat by omega]; simp
theorem dz_val (l : List UInt8) (h : l.head? ≠ some 0) : dz (val l) = l := dz_val_aux _ l rfl h
theorem dz_head (n : Nat) : (dz n).head? ≠ some 0 := by
  induction n using Nat.strongRecOn with
  | _ n ih =>
    rcases Nat.eq_zero_or_pos n with h | h
    · subst h; rw [dz_zero]; simp
    · rw [dz_pos n h]
      rcases Nat.eq_zero_or_pos (n / 256) with h0 | h0
      · rw [h0, dz_zero]; simp
        intro hc
        have := congrArg UInt8.toNat hc
        rw [UInt8.toNat_ofNat_of_lt' (by show n % 256 < 256; omega)] at this
        simp at this; omega
      · have hne : dz (n / 256) ≠ [] := by rw [dz_pos _ h0]; simp
        rw [head_app _ _ hne]; exact ih _ (by omega)
theorem val_lt (l : List UInt8) : val l < 256 ^ l.length := by
  generalize hk : l.length = k
  induction k generalizing l with
  | zero => rw [List.eq_nil_of_length_eq_zero hk, val_nil]; decide
  | succ k ih =>
    rcases snoc_cases l with rfl | ⟨t, b, rfl⟩
    · simp at hk
    have := ih t (by simpa using hk)
    have hb := byte_lt b
    rw [val_snoc, Nat.pow_succ]; omega
theorem dz_len_le (k n : Nat) (h : n < 256 ^ k) : (dz n).length ≤ k := by
  induction k generalizing n with
  | zero => have : n = 0 := by simpa using h
            subst this; rw [dz_zero]; simp
  | succ k ih =>
    rcases Nat.eq_zero_or_pos n with h0 | h0
    · subst h0; rw [dz_zero]; simp
    · rw [dz_pos n h0]; simp
      exact ih (n / 256) (Nat.div_lt_of_lt_mul (by rw [Nat.pow_succ] at h; omega))
theorem dz_len_gt (k n : Nat) (h : 256 ^ k ≤ n) : k < (dz n).length := by
  induction k generalizing n with
  | zero => rw [dz_pos n h]; simp
  | succ k ih =>
    have hp : 0 < 256 ^ (k + 1) := Nat.pow_pos (by omega)
    rw [dz_pos n (by omega)]; simp
    exact ih (n / 256) ((Nat.le_div_iff_mul_le (by omega)).2 (by rw [Nat.pow_succ] at h; omega))
theorem dz_len_pos (n : Nat) (h : 0 < n) : 0 < (dz n).length := dz_len_gt 0 n h
theorem dz_len8 (n : Nat) (h : n < 18446744073709551616) : (dz n).length ≤ 8 := dz_len_le 8 n (by simpa using h)
theorem numL_small (n : Nat) (h : n < 248) : numL n = [UInt8.ofNat n] := by unfold numL; rw [if_pos h]
theorem numL_large (n : Nat) (h : ¬ n < 248) : numL n = UInt8.ofNat (247 + (dz n).length) :: dz n := by unfold numL; rw [if_neg h]
theorem numL_len (n : Nat) (h : n < 18446744073709551616) : (numL n).length ≤ 9 ∧ 0 < (numL n).length := by
  by_cases h0 : n < 248
  · rw [numL_small n h0]; simp
  · rw [numL_large n h0]; have := dz_len8 n h; simp; omega

/-- what stands ahead as a number -/
def readL : List UInt8 → Option (Nat × List UInt8)
  | [] => none
  | c :: t => if c.toNat < 248 then some (c.toNat, t)
    else if t.length < c.toNat - 247 then none
    else if t.head? = some 0 ∨ val (t.take (c.toNat - 247)) < 248 then none
    else some (val (t.take (c.toNat - 247)), t.drop (c.toNat - 247))
theorem readL_short (c : UInt8) (t : List UInt8) (h : c.toNat < 248) : readL (c :: t) = some (c.toNat, t) := by show (if _ then _ else _) = _; rw [if_pos h]
theorem readL_cut (c : UInt8) (t : List UInt8) (h : ¬ c.toNat < 248) (h1 : t.length < c.toNat - 247) : readL (c :: t) = none := by show (if _ then _ else _) = _; rw [if_neg h, if_pos h1]
theorem readL_bad (c : UInt8) (t : List UInt8) (h : ¬ c.toNat < 248) (h1 : ¬ t.length < c.toNat - 247) (h2 : t.head? = some 0 ∨ val (t.take (c.toNat - 247)) < 248) : readL (c :: t) = none := by show (if _ then _ else _) = _; rw [if_neg h, if_neg h1, if_pos h2]
theorem readL_good (c : UInt8) (t : List UInt8) (h : ¬ c.toNat < 248) (h1 : ¬ t.length < c.toNat - 247) (h2 : ¬ (t.head? = some 0 ∨ val (t.take (c.toNat - 247)) < 248)) :
    readL (c :: t) = some (val (t.take (c.toNat - 247)), t.drop (c.toNat - 247)) := by show (if _ then _ else _) = _; rw [if_neg h, if_neg h1, if_neg h2]

/-- the bytes that the first one asks for are a number's bytes just if they have no 0 ahead and no size where the number is its own byte -/
theorem num_of_long (c : UInt8) (t : List UInt8) (h : ¬ c.toNat < 248) (h1 : ¬ t.length < c.toNat - 247) :
    numL (val (t.take (c.toNat - 247))) = (c :: t).take (1 + (c.toNat - 247)) ↔ ¬ (t.head? = some 0 ∨ val (t.take (c.toNat - 247)) < 248) := by
  have hc := byte_lt c
  have e : (c :: t).take (1 + (c.toNat - 247)) = c :: t.take (c.toNat - 247) := by rw [Nat.add_comm]; rfl
  rw [e]
  have hl : (t.take (c.toNat - 247)).length = c.toNat - 247 := by rw [List.length_take]; omega
  have hh : (t.take (c.toNat - 247)).head? = t.head? := by
    rw [List.head?_take, if_neg (by omega)]
  generalize t.take (c.toNat - 247) = u at *
  constructor
  · intro he
    have hv : ¬ val u < 248 := by
      intro hv; rw [numL_small _ hv] at he; simp at he
      rw [he.2] at hl; simp at hl; omega
    rintro (h2 | h2)
    · rw [numL_large _ hv] at he; simp at he
      have := dz_head (val u); rw [he.2, hh] at this; exact this h2
    · exact hv h2
  · intro h2
    rw [numL_large _ (by omega), dz_val u (by rw [hh]; exact fun h => h2 (.inl h)), hl]
    rw [show UInt8.ofNat (247 + (c.toNat - 247)) = c from by rw [show 247 + (c.toNat - 247) = c.toNat by omega]; exact UInt8.ofNat_toNat]
theorem byte_of (n : Nat) (h : n < 256) : (UInt8.ofNat n).toNat = n := UInt8.toNat_ofNat_of_lt' h
/-- what is put is read -/
theorem read_put (n : Nat) (r : List UInt8) (h : n < 18446744073709551616) : readL (numL n ++ r) = some (n, r) := by
  by_cases h0 : n < 248
  · rw [numL_small n h0]; show readL (_ :: r) = _
    rw [readL_short _ _ (by rw [byte_of _ (by omega)]; exact h0), byte_of _ (by omega)]
  · have l8 := dz_len8 n h
    have lp := dz_len_pos n (by omega)
    rw [numL_large n h0]; show readL (_ :: (dz n ++ r)) = _
    have hb : (UInt8.ofNat (247 + (dz n).length)).toNat = 247 + (dz n).length := byte_of _ (by omega)
    have ht : (dz n ++ r).take ((UInt8.ofNat (247 + (dz n).length)).toNat - 247) = dz n := by
      rw [hb, show 247 + (dz n).length - 247 = (dz n).length by omega, List.take_left]
    rw [readL_good _ _ (by omega) (by rw [hb]; simp) (by
      rw [ht, val_dz]; rintro (h2 | h2)
      · have hne : dz n ≠ [] := by intro h; rw [h] at lp; simp at lp
        rw [head_app _ _ hne] at h2; exact dz_head n h2
      · exact h0 h2), ht, val_dz]
    all_goals (try rw [hb, show 247 + (dz n).length - 247 = (dz n).length by omega, List.drop_left])
/-- what is read has just the bytes that stood there -/
theorem put_read (l : List UInt8) (n : Nat) (r : List UInt8) (h : readL l = some (n, r)) : numL n ++ r = l ∧ n < 18446744073709551616 := by
  cases l with
  | nil => simp [readL] at h
  | cons c t =>
    have hc := byte_lt c
    by_cases h0 : c.toNat < 248
    · rw [readL_short c t h0] at h; simp at h; obtain ⟨rfl, rfl⟩ := h
      rw [numL_small _ h0]; simp; omega
    by_cases h1 : t.length < c.toNat - 247
    · rw [readL_cut c t h0 h1] at h; simp at h
    by_cases h2 : t.head? = some 0 ∨ val (t.take (c.toNat - 247)) < 248
    · rw [readL_bad c t h0 h1 h2] at h; simp at h
    · rw [readL_good c t h0 h1 h2] at h; simp at h; obtain ⟨rfl, rfl⟩ := h
      refine ⟨?_, ?_⟩
      · rw [(num_of_long c t h0 h1).2 h2, Nat.add_comm]; show c :: (List.take _ t ++ List.drop _ t) = _; rw [List.take_append_drop]
      · have := val_lt (t.take (c.toNat - 247))
        have hl : (t.take (c.toNat - 247)).length ≤ 8 := by rw [List.length_take]; omega
        have h8 : 256 ^ (t.take (c.toNat - 247)).length ≤ 256 ^ 8 := Nat.pow_le_pow_right (by omega) hl
        exact Nat.lt_of_lt_of_le this h8
/-- of what is cut off nothing is told -/
theorem read_cut (n k : Nat) (h : n < 18446744073709551616) (hk : k < (numL n).length) : readL ((numL n).take k) = none := by
  by_cases h0 : n < 248
  · rw [numL_small n h0] at hk ⊢; have : k = 0 := by simpa using hk
    subst this; rfl
  · have l8 := dz_len8 n h
    rw [numL_large n h0] at hk ⊢
    cases k with
    | zero => rfl
    | succ k =>
      rw [List.take_succ_cons]
      have hb : (UInt8.ofNat (247 + (dz n).length)).toNat = 247 + (dz n).length := byte_of _ (by omega)
      exact readL_cut _ _ (by have := dz_len_pos n (by omega); omega) (by rw [hb, List.length_take]; simp at hk; omega)
end Go.Proofs.Ytiapkmncgafofaa
