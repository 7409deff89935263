/-
  Buckets: one as a plain thing: brought to a tick, taken from.
-/
import Derived.Test.YthnppnihpelbaaaKitM
namespace Go.Proofs.Ythnppnihpelbaaa
open Go.ChangeShapes Go.WideShapes Go.ChangeAt Go.RowKit
set_option linter.unusedVariables false
theorem hide {p : Prop} (h : p) : Hid p := h
theorem unhide {p : Prop} (h : Hid p) : p := h
/-- a bucket: its capacity, its refill, its tokens, its tick, since when the next one is waited for -/
structure Bkt where
  c : Int
  r : Int
  t : Int
  k : Int
  s : Int
structure Bkt.Ok (x : Bkt) : Prop where
  c0 : 0 ≤ x.c
  c2 : x.c ≤ 16
  r1 : 1 ≤ x.r
  r2 : x.r ≤ 1099511627776
  t0 : 0 ≤ x.t
  tc : x.t ≤ x.c
  k2 : x.k ≤ 1099511627776
  s0 : 0 ≤ x.s
  sk : x.s ≤ x.k
/-- may a token come? -/
def Bkt.may (x : Bkt) : Bool := decide (x.t < x.c) && decide (x.s + x.r ≤ x.k)
/-- a token comes -/
def Bkt.come (x : Bkt) : Bkt := { x with t := x.t + 1, s := x.s + x.r }
/-- at most n tokens come -/
def fillN : Nat → Bkt → Bkt
  | 0, x => x
  | n + 1, x => if x.may then fillN n x.come else x
/-- all that are due -/
def Bkt.fill (x : Bkt) : Bkt := fillN (x.c - x.t).toNat x
/-- its tick goes on -/
def Bkt.tick (x : Bkt) (now : Int) : Bkt := { x with k := max x.k (min now 1099511627776) }
/-- a full one waits for none -/
def Bkt.top (x : Bkt) : Bkt := if x.t = x.c then { x with s := x.k } else x
def Bkt.bring (x : Bkt) (now : Int) : Bkt := (x.tick now).fill.top
def Bkt.less (x : Bkt) : Bkt := { x with t := x.t - 1 }
def Bkt.can (x : Bkt) (now : Int) : Bool := decide ((x.bring now).t ≠ 0)
def Bkt.take (x : Bkt) (now : Int) : Bkt := if x.can now then (x.bring now).less else x.bring now
section
variable {x : Bkt}
theorem fillN_not (h : x.may = false) (n : Nat) : fillN n x = x := by
  cases n with
  | zero => rfl
  | succ n => simp [fillN, h]
theorem fill_not (h : x.may = false) : x.fill = x := fillN_not h _
theorem fill_may (h : x.may = true) : x.fill = x.come.fill := by
  have h1 : x.t < x.c := by simp [Bkt.may] at h; omega
  obtain ⟨n, hn⟩ : ∃ n, (x.c - x.t).toNat = n + 1 := ⟨(x.c - x.t).toNat - 1, by omega⟩
  have hm : (x.come.c - x.come.t).toNat = n := by simp [Bkt.come]; omega
  unfold Bkt.fill
  rw [hn, hm]
  simp [fillN, h]
theorem Bkt.Ok.come (o : x.Ok) (h : x.may = true) : x.come.Ok := by
  simp [Bkt.may] at h
  obtain ⟨h1, h2, h3, h4, h5, h6, h7, h8, h9⟩ := o
  unfold Bkt.come
  constructor <;> simp <;> omega
/-- what holds of it, and stays so when a token comes, holds of it filled -/
theorem fill_of (P : Bkt → Prop) (hs : ∀ y : Bkt, P y → y.may = true → P y.come) (h : P x) : P x.fill ∧ (x.t ≤ x.c → x.fill.may = false) := by
  have g : ∀ (n : Nat) (y : Bkt), P y → P (fillN n y) ∧ ((y.c - y.t).toNat ≤ n → y.t ≤ y.c → (fillN n y).may = false) := by
    intro n
    induction n with
    | zero =>
      intro y hy
      refine ⟨hy, fun h1 h2 => ?_⟩
      have h3 : ¬ y.t < y.c := by omega
      simp [fillN, Bkt.may, h3]
    | succ n ih =>
      intro y hy
      cases hm : y.may with
      | false => simp [fillN, hm]; exact hy
      | true =>
        obtain ⟨g1, g2⟩ := ih y.come (hs y hy hm)
        simp only [fillN, hm, if_true]
        refine ⟨g1, fun h1 h2 => g2 ?_ ?_⟩
        · simp [Bkt.come]; omega
        · simp [Bkt.may] at hm; simp [Bkt.come]; omega
  exact ⟨(g _ _ h).1, fun ht => (g _ _ h).2 (Nat.le_refl _) ht⟩
theorem Bkt.Ok.fill (o : x.Ok) : x.fill.Ok := (fill_of Bkt.Ok (fun y h hm => h.come hm) o).1
theorem Bkt.Ok.tick (o : x.Ok) (now : Int) : (x.tick now).Ok := by
  obtain ⟨h1, h2, h3, h4, h5, h6, h7, h8, h9⟩ := o
  unfold Bkt.tick
  constructor <;> simp <;> omega
theorem Bkt.Ok.top (o : x.Ok) : x.top.Ok := by
  obtain ⟨h1, h2, h3, h4, h5, h6, h7, h8, h9⟩ := o
  unfold Bkt.top
  split
  · constructor <;> dsimp only <;> omega
  · constructor <;> assumption
theorem Bkt.Ok.bring (o : x.Ok) (now : Int) : (x.bring now).Ok := (o.tick now).fill.top
theorem Bkt.Ok.less (o : x.Ok) (h : x.t ≠ 0) : x.less.Ok := by
  obtain ⟨h1, h2, h3, h4, h5, h6, h7, h8, h9⟩ := o
  unfold Bkt.less
  constructor <;> simp <;> omega
theorem Bkt.Ok.take (o : x.Ok) (now : Int) : (x.take now).Ok := by
  unfold Bkt.take
  split
  · rename_i h
    exact (o.bring now).less (by simpa [Bkt.can] using h)
  · exact o.bring now
end
#print axioms Bkt.Ok.take
end Go.Proofs.Ythnppnihpelbaaa
