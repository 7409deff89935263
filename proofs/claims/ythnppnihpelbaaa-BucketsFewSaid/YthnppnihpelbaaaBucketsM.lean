/-
  Buckets: how many tokens may be taken in how many ticks: reckoning, without the program.
-/
import Derived.Test.YthnppnihpelbaaaBucketsF
namespace Go.Proofs.Ythnppnihpelbaaa
open Go.ChangeShapes Go.WideShapes Go.ChangeAt Go.RowKit
set_option linter.unusedVariables false
/-- its tokens in ticks, and how long the next one is waited for -/
def Bkt.load (x : Bkt) : Int := x.t * x.r + (x.k - x.s)
/-- none is due -/
structure Settled (x : Bkt) : Prop where
  full : x.t = x.c → x.s = x.k
  next : x.k < x.s + x.r
section
variable {x y : Bkt} {n q m : Int} {ts : List Int}
theorem come_load : x.come.load = x.load := by
  simp only [Bkt.load, Bkt.come, Int.add_mul]
  omega
theorem fill_keeps (x : Bkt) : x.fill.load = x.load ∧ x.fill.c = x.c ∧ x.fill.r = x.r ∧ x.fill.k = x.k :=
  (fill_of (fun y => y.load = x.load ∧ y.c = x.c ∧ y.r = x.r ∧ y.k = x.k) (fun y ⟨h1, h2, h3, h4⟩ _ => ⟨come_load.trans h1, h2, h3, h4⟩) ⟨rfl, rfl, rfl, rfl⟩).1
theorem top_keeps (x : Bkt) : x.top.t = x.t ∧ x.top.c = x.c ∧ x.top.r = x.r ∧ x.top.k = x.k := by
  unfold Bkt.top
  split <;> exact ⟨rfl, rfl, rfl, rfl⟩
theorem bring_keeps (x : Bkt) (m : Int) : (x.bring m).c = x.c ∧ (x.bring m).r = x.r ∧ (x.bring m).k = max x.k (min m 1099511627776) := by
  obtain ⟨_, h2, h3, h4⟩ := fill_keeps (x.tick m)
  obtain ⟨_, g2, g3, g4⟩ := top_keeps (x.tick m).fill
  exact ⟨g2.trans h2, g3.trans h3, g4.trans h4⟩
theorem bring_load (o : x.Ok) (m : Int) : (x.bring m).load ≤ x.load + ((x.bring m).k - x.k) ∧ ((x.bring m).t ≠ x.c → (x.bring m).load = x.load + ((x.bring m).k - x.k)) := by
  have hk := (bring_keeps x m).2.2
  obtain ⟨h1, h2, h3, h4⟩ := fill_keeps (x.tick m)
  have hs := (o.tick m).fill.sk
  have ht : (x.tick m).load = x.load + ((x.bring m).k - x.k) := by
    rw [hk]; simp only [Bkt.load, Bkt.tick]; omega
  have g := h1.trans ht
  have hb : x.bring m = (x.tick m).fill.top := rfl
  rw [hb] at g hk ⊢
  generalize (x.tick m).fill = z at g hs hk h2 ⊢
  have hz : z.c = x.c := h2
  unfold Bkt.top at g hk ⊢
  by_cases e : z.t = z.c
  · rw [if_pos e] at g hk ⊢
    simp only [Bkt.load] at g ⊢
    exact ⟨by omega, fun hn => by omega⟩
  · rw [if_neg e] at g hk ⊢
    exact ⟨by omega, fun _ => g⟩
theorem bring_settled (o : x.Ok) (m : Int) : Settled (x.bring m) := by
  have o2 := (o.tick m).fill
  have hm := (fill_of (x := x.tick m) (fun _ => True) (fun _ _ _ => trivial) trivial).2 (o.tick m).tc
  have hb : x.bring m = (x.tick m).fill.top := rfl
  rw [hb]
  generalize (x.tick m).fill = z at o2 hm
  obtain ⟨h1, h2, h3, h4, h5, h6, h7, h8, h9⟩ := o2
  unfold Bkt.top
  by_cases e : z.t = z.c
  · rw [if_pos e]
    exact ⟨fun _ => rfl, by show z.k < z.k + z.r; omega⟩
  · rw [if_neg e]
    refine ⟨fun h => absurd h e, ?_⟩
    have : z.t < z.c := by omega
    simp [Bkt.may, this] at hm
    exact hm
theorem Settled.less (h : Settled x) (o : x.Ok) : Settled x.less := by
  refine ⟨fun e => ?_, h.next⟩
  have := o.tc
  have e : x.t - 1 = x.c := e
  omega
theorem less_again (h : Settled x) (o : x.Ok) (hp : 0 < x.t) (hm : m ≤ x.k) : x.less.bring m = x.less := by
  have o2 := o.tc
  have h2 := h.next
  unfold Bkt.bring
  rw [tick_old (x := x.less) hm]
  have hmay : x.less.may = false := by
    have : ¬ (x.s + x.r ≤ x.k) := by omega
    simp [Bkt.may, Bkt.less, this]
  rw [fill_not hmay]
  unfold Bkt.top
  have : ¬ x.less.t = x.less.c := by simp only [Bkt.less]; omega
  rw [if_neg this]
theorem settled_load (h : Settled x) (o : x.Ok) : x.load ≤ x.c * x.r ∧ (x.t ≠ x.c → x.load < x.c * x.r) := by
  obtain ⟨h1, h2, h3, h4, h5, h6, h7, h8, h9⟩ := o
  obtain ⟨f, g⟩ := h
  unfold Bkt.load
  by_cases e : x.t = x.c
  · have f := f e
    rw [e, f]
    exact ⟨by omega, fun h => absurd rfl h⟩
  · have : (x.t + 1) * x.r ≤ x.c * x.r := Int.mul_le_mul_of_nonneg_right (by omega) (by omega)
    rw [Int.add_mul] at this
    exact ⟨by omega, fun _ => by omega⟩
/-- in all ticks up to now no more were taken than may be -/
structure Within (n q : Int) (x : Bkt) (ts : List Int) : Prop where
  now : ∀ (i : Nat) (t : Int), ts[i]? = some t → (0 ≤ t ∧ t ≤ x.k) ∧ ((ts.length : Int) - (i : Int)) * q + x.load ≤ n * q + (x.k - t)
  two : ∀ (i j : Nat) (s t : Int), i ≤ j → ts[i]? = some s → ts[j]? = some t → s ≤ t ∧ ((j : Int) - (i : Int) + 1) * q ≤ n * q + (t - s)
theorem Within.nil : Within n q x [] := ⟨fun i t h => by simp at h, fun i j s t _ h => by simp at h⟩
theorem Within.bring (h : Within n q x ts) (o : x.Ok) (m : Int) : Within n q (x.bring m) ts := by
  have h1 := (bring_load o m).1
  have h2 := (bring_keeps x m).2.2
  refine ⟨fun i t ht => ?_, h.two⟩
  obtain ⟨g1, g2⟩ := h.now i t ht
  exact ⟨⟨g1.1, by omega⟩, by omega⟩
theorem Within.take (h : Within x.c x.r x ts) (o : x.Ok) (hs : Settled x) (hp : 0 < x.t) : Within x.c x.r x.less (ts ++ [x.k]) := by
  have hl : x.less.load = x.load - x.r := by simp only [Bkt.load, Bkt.less, Int.sub_mul]; omega
  have hk : x.less.k = x.k := rfl
  have hle := (settled_load hs o).1
  have hge : x.r ≤ x.load := by
    have h1 : 1 * x.r ≤ x.t * x.r := Int.mul_le_mul_of_nonneg_right (by omega) (by have := o.r1; omega)
    have := o.sk
    unfold Bkt.load
    omega
  have hcr : x.r ≤ x.c * x.r := by
    have h1 : 1 * x.r ≤ x.c * x.r := Int.mul_le_mul_of_nonneg_right (by have := o.tc; omega) (by have := o.r1; omega)
    omega
  have hlen : ((ts ++ [x.k]).length : Int) = (ts.length : Int) + 1 := by simp
  refine ⟨fun i t ht => ?_, fun i j s t hij hi hj => ?_⟩
  · rw [hlen, hl, hk]
    by_cases hi : i < ts.length
    · rw [List.getElem?_append_left hi] at ht
      obtain ⟨g1, g2⟩ := h.now i t ht
      refine ⟨g1, ?_⟩
      have : ((ts.length : Int) + 1 - (i : Int)) * x.r = ((ts.length : Int) - (i : Int)) * x.r + x.r := by rw [show (ts.length : Int) + 1 - (i : Int) = ((ts.length : Int) - (i : Int)) + 1 by omega, Int.add_mul]; omega
      omega
    · have hi2 : i = ts.length := by
        have := (List.getElem?_eq_some_iff.1 ht).1; simp at this; omega
      subst hi2
      simp at ht
      subst ht
      refine ⟨⟨by have := o.s0; have := o.sk; omega, Int.le_refl _⟩, ?_⟩
      have : ((ts.length : Int) + 1 - (ts.length : Int)) * x.r = x.r := by rw [show (ts.length : Int) + 1 - (ts.length : Int) = 1 by omega]; omega
      omega
  · by_cases hj2 : j < ts.length
    · rw [List.getElem?_append_left (by omega)] at hi hj
      exact h.two i j s t hij hi hj
    · have hj3 : j = ts.length := by
        have := (List.getElem?_eq_some_iff.1 hj).1; simp at this; omega
      subst hj3
      simp at hj
      subst hj
      by_cases hi2 : i < ts.length
      · rw [List.getElem?_append_left hi2] at hi
        obtain ⟨g1, g2⟩ := h.now i s hi
        refine ⟨g1.2, ?_⟩
        rw [Int.add_mul]
        omega
      · have hi3 : i = ts.length := by omega
        subst hi3
        simp at hi
        subst hi
        refine ⟨Int.le_refl _, ?_⟩
        have : ((ts.length : Int) - (ts.length : Int) + 1) * x.r = x.r := by rw [show (ts.length : Int) - (ts.length : Int) + 1 = 1 by omega]; omega
        omega
/-- what the statement asks of two of them -/
theorem Within.quo (h : Within n q x ts) (hq : 1 ≤ q) {i j : Nat} {s t : Int} (hij : i ≤ j) (hi : ts[i]? = some s) (hj : ts[j]? = some t) : s ≤ t ∧ (j : Int) - (i : Int) + 1 ≤ n + (t - s).tdiv q := by
  obtain ⟨h1, h2⟩ := h.two i j s t hij hi hj
  refine ⟨h1, ?_⟩
  rw [Int.tdiv_eq_ediv_of_nonneg (by omega)]
  have : (j : Int) - (i : Int) + 1 - n ≤ (t - s) / q := by
    rw [Int.le_ediv_iff_mul_le (by omega), Int.sub_mul]
    omega
  omega
/-- one left alone is full -/
theorem full_again (o : x.Ok) (hs : Settled x) (hk : x.k + x.c * x.r ≤ 1099511627776) : (x.bring (x.k + x.c * x.r)).t = x.c := by
  obtain ⟨k1, k2, k3⟩ := bring_keeps x (x.k + x.c * x.r)
  have hs2 := bring_settled o (x.k + x.c * x.r)
  have ho2 := o.bring (x.k + x.c * x.r)
  have hl := (bring_load o (x.k + x.c * x.r)).2
  by_cases e : (x.bring (x.k + x.c * x.r)).t = x.c
  · exact e
  · exfalso
    have h1 := hl e
    have h2 := (settled_load hs2 ho2).2 (by rw [k1]; exact e)
    rw [k1, k2] at h2
    have h3 : 0 ≤ x.load := by
      have h4 : 0 ≤ x.t * x.r := Int.mul_nonneg o.t0 (by have := o.r1; omega)
      have := o.sk
      unfold Bkt.load
      omega
    have h5 : 0 ≤ x.c * x.r := Int.mul_nonneg o.c0 (by have := o.r1; omega)
    omega
end
#print axioms full_again
#print axioms Within.quo
end Go.Proofs.Ythnppnihpelbaaa
