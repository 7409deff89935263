/-
  Counters: in which order is added makes no difference: reckoning, without the program.
-/
import Derived.Test.YtpgmpfhhmnnejaaCountsF
namespace Go.Proofs.Ytpgmpfhhmnnejaa
open Go.ChangeShapes Go.WideShapes Go.ChangeAt Go.RowKit
set_option linter.unusedVariables false
/-- the first n numbers' sum -/
def sumN (f : Nat → Int) : Nat → Int
  | 0 => 0
  | n + 1 => sumN f n + f n
theorem sumN_shift (f : Nat → Int) (n : Nat) : sumN (fun i => f (i + 1)) n = sumN f n + f n - f 0 := by
  induction n with
  | zero => simp [sumN]
  | succ n ih => simp only [sumN, ih]; omega
theorem sumN_congr {f g : Nat → Int} (n : Nat) (h : ∀ i, i < n → f i = g i) : sumN f n = sumN g n := by
  induction n with
  | zero => rfl
  | succ n ih => simp only [sumN]; rw [ih fun i hi => h i (by omega), h n (by omega)]
/-- turned by so many -/
theorem sumN_turn (f : Nat → Int) {n : Nat} (hn : 0 < n) (m : Nat) : sumN (fun i => f ((i + m) % n)) n = sumN f n := by
  induction m with
  | zero => exact sumN_congr n fun i hi => by rw [Nat.add_zero, Nat.mod_eq_of_lt hi]
  | succ m ih =>
    have h := sumN_shift (fun i => f ((i + m) % n)) n
    have e : sumN (fun i => f ((i + (m + 1)) % n)) n = sumN (fun i => f ((i + 1 + m) % n)) n := sumN_congr n fun i _ => by rw [show i + (m + 1) = i + 1 + m by omega]
    rw [e, h, ih]
    have : (n + m) % n = (0 + m) % n := by rw [Nat.zero_add, Nat.add_mod_left]
    rw [this]; omega
theorem sumN_pos {f : Nat → Int} (h : ∀ i, 0 ≤ f i) (n : Nat) : 0 ≤ sumN f n := by
  induction n with
  | zero => exact Int.le_refl _
  | succ n ih => simp only [sumN]; have := h n; omega
/-- what an act adds to the counter j of four -/
def part (j : Nat) (a : AT) : Int := if a.y < 0 then 0 else if (a.i % 4).toNat = j then a.y else 0
theorem part_pos (j : Nat) (a : AT) : 0 ≤ part j a := by
  unfold part
  repeat' split
  all_goals omega
/-- a counter with a sum -/
def most (x : Int) : Int := if x ≤ 4611686018427387904 then x else 4611686018427387904
theorem most_up {x y : Int} (h0 : 0 ≤ x) (h1 : 0 ≤ y) : up (most x) y = most (x + y) := by
  unfold up most
  repeat' split
  all_goals omega
theorem most_zero {x : Int} (h : 0 ≤ x) : most (x + 0) = most x := by rw [Int.add_zero]
/-- four counters by their sums -/
def four (s : Nat → Int) : List Int := [most (s 0), most (s 1), most (s 2), most (s 3)]
/-- the act as it is done -/
def AT.low (a : AT) : AT := ⟨a.i % 4, a.y⟩
theorem low_ok {a : AT} (o : a.Ok) : a.low.Ok := ⟨by show _ ≤ a.i % 4 ∧ a.i % 4 ≤ _; omega, o.y0⟩
theorem four_add (s : Nat → Int) (a : AT) (h : ∀ j, 0 ≤ s j) : addL (four s) a.low = four (fun j => s j + part j a) ∧ addE (four s) a.low = if a.y < 0 then 2 else 0 := by
  have h0 := h 0
  have h1 := h 1
  have h2 := h 2
  have h3 := h 3
  by_cases hy : a.y < 0
  · have hp : ∀ j, part j a = 0 := fun j => by simp [part, hy]
    have hc : ∀ j, s j + part j a = s j := fun j => by rw [hp j]; omega
    simp [addL, addE, AT.low, hy, four, hc]
  · have hy0 : 0 ≤ a.y := by omega
    have hi : ¬ (a.i % 4 < 0) := by omega
    have : (a.i % 4).toNat = 0 ∨ (a.i % 4).toNat = 1 ∨ (a.i % 4).toNat = 2 ∨ (a.i % 4).toNat = 3 := by omega
    rcases this with e | e | e | e <;> simp [addL, addE, AT.low, hy, hi, four, part, e, most_up, h0, h1, h2, h3, hy0]
theorem four_at (s : Nat → Int) {j : Nat} (hj : j < 4) : (four s)[j]? = some (most (s j)) := by
  have : j = 0 ∨ j = 1 ∨ j = 2 ∨ j = 3 := by omega
  rcases this with rfl | rfl | rfl | rfl <;> rfl
theorem four_congr {s t : Nat → Int} (h : ∀ j, s j = t j) : four s = four t := by simp [four, h]
/-- what so many acts came to -/
def come (f : Nat → AT) (k j : Nat) : Int := sumN (fun i => part j (f i)) k
theorem come_pos (f : Nat → AT) (k j : Nat) : 0 ≤ come f k j := sumN_pos (fun i => part_pos j (f i)) k
theorem come_next (f : Nat → AT) (k : Nat) : addL (four (come f k)) (f k).low = four (come f (k + 1)) ∧ addE (four (come f k)) (f k).low = if (f k).y < 0 then 2 else 0 := four_add (come f k) (f k) (come_pos f k)
theorem come_turn (f : Nat → AT) {n : Nat} (hn : 0 < n) (m : Nat) : come (fun i => f ((i + m) % n)) n = come f n := funext fun j => sumN_turn (fun i => part j (f i)) hn m
theorem i64_and3 (n : Int) : bits .and .i64 n 3 = n % 4 := by
  have h3 : (BitVec.ofInt 64 3).toNat = 2 ^ 2 - 1 := by decide
  have key : (BitVec.ofInt 64 n &&& BitVec.ofInt 64 3).toNat = (n % ((2 ^ 64 : Nat) : Int)).toNat % 2 ^ 2 := by
    rw [BitVec.toNat_and, BitVec.toNat_ofInt, h3, Nat.and_two_pow_sub_one_eq_mod]
  show IntKind.i64.wrap ((BitVec.ofInt 64 n &&& BitVec.ofInt 64 3).toNat : Nat) = n % 4
  rw [key, IntKind.wrap_i64]
  omega
#print axioms come_turn
end Go.Proofs.Ytpgmpfhhmnnejaa
