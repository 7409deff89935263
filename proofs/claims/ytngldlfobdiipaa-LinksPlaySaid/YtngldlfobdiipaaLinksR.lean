/-
  Links: the pairs that have mail, one after the other (maps.Keys).
-/
import Derived.Test.YtngldlfobdiipaaLinksP
import Derived.Test.YtngldlfobdiipaaLinksQ
import Derived.Shelf.AbstractIn
import Derived.RangeFuncSeq
import Derived.RangeFuncGives
import Derived.Sort.MapsRangeIn
import Derived.OwnWalkIn
import Derived.TacticsInMore
import Derived.RegionIn
import Derived.LoopNIn
import Derived.LoopIn
import Derived.Maps.AppendAt
namespace Go.Proofs.Ytngldlfobdiipaa.Lk
open Go.ChangeShapes Go.WideShapes Go.ChangeAt Go.RowKit Go.Shelf Go.Sort
set_option linter.unusedVariables false
/-- a pair, as a value -/
def encV (p : Int × Int) : Value := .agg #[.int .i64 p.1, .int .i64 p.2]
set_option maxRecDepth 100000 in
set_option maxHeartbeats 1000000 in
theorem keys1_in (F : Fence) (n : Nat) (hF0 : F.fn 40) (hro : F.round = none) (hn : 1 ≤ n) (l Bm m : Nat) (D0 : DataW Value) (J : List (Int × Int) → World → Prop)
    (hY : ∀ pre x W, J pre W → pre.length < Maps.size D0 → YieldAt F (n - 1) Try.prog l #[encV x] W fun e W' => e = .returned (.bool true) ∧ J (pre ++ [x]) W' ∧ KeepsWalks W W')
    (W : World) (hJ : AbidesFrom W.heap.size J) (hm : W.cell? ⟨Bm, 0, none⟩ = some (.map (some m))) (hown : W.ownsMap Try.prog 61 hdR m (Maps.size D0) D0) (h0 : J [] W) :
    CallsIn F n Try.prog 40 #[.func (.yield l) #[] #[], .pointer (some ⟨Bm, 0, none⟩)] W fun e W' => (∃ v, e = .returned v) ∧ ∃ (left : Lit → Bool) (ss : List (Int × Int)), (∀ k, left k = false) ∧ Seen D0 left ss ∧ J ss W' := by
  refine callsIn_of_wp Try.func40 rfl hF0 ?_ hro
  simp only [Try.ntmps40, List.size_toArray, List.length_cons, List.length_nil, Nat.reduceAdd, Nat.reduceSub, Array.replicate_succ, Array.replicate_zero, List.push_toArray, List.append_toArray, List.nil_append, List.cons_append]
  gi_wp2_with (first
    | (gi_at_range; refine wpListIn_range_own _ rfl _ 49 rfl 61 46 keyed Try.underlying49 _ m (Maps.size D0) _ rfl hown ?_; intro w0 hrg0 hg0 hs0)
    | gi_in)
  go_frame
  gi_loopw [3] (fun _ wr => ∃ (left : Lit → Bool) (cnt : Nat) (ss : List (Int × Int)), wr.ranges Try.prog 61 hdR m W.heap.size (Maps.size D0) D0 left cnt ∧ ss.length + cnt ≤ Maps.size D0 ∧ Seen D0 left ss ∧ J ss wr)
    (fun _ wr => wr.rangeLeft m W.heap.size)
  case atStart =>
    exact ⟨_, _, [], hrg0, by simp, Seen.start D0, hJ [] W w0 none h0 hg0 (fun r e => by cases e)⟩
  case round =>
    obtain ⟨left, cnt, ss, hrg, hcs, hC, hJs⟩ := hrel
    gi_wp2_with (first
      | (gi_at_next; refine wpListIn_next_ranges _ rfl _ rfl 61 keyed hdR (fun p : Int × Int => pr p.1 p.2) (fun v : Option Addr × Nat × Nat => .slice v.1 v.2.1 v.2.2) (fun key kl hk => by obtain ⟨a, b, hx, _⟩ := key_inv hk; exact ⟨(a, b), hx⟩) (fun v y hv => by obtain ⟨p, n, c, rfl, _⟩ := hdR_inv hv; exact ⟨(p, n, c), rfl⟩) m W.heap.size (Maps.size D0) _ _ _ rfl hrg ?_ ?_)
      | gi_in)
    · -- nothing is left
      intro hc0 hl0
      gi_wp2
      go_end0
      exact ⟨⟨_, rfl⟩, left, ss, hl0, hC, hJs⟩
    · -- an entry has come
      intro xa xb ad nn c kl' yd yp w2 cnt2 hkey hlk hv hat hrg2 hlt hg2 hs2 hen
      obtain ⟨xa', xb', ex, hxa, hxb, rfl⟩ := key_inv hkey
      unfold pr at ex
      simp only [Value.agg.injEq, Array.mk.injEq, List.cons.injEq, Value.int.injEq, true_and, and_true] at ex
      obtain ⟨rfl, rfl⟩ := ex
      have hJ2 : J ss w2 := hJ ss wr w2 (some W.heap.size) hJs hg2 (fun r e => by cases e; exact ⟨Nat.le_refl _, hrg.iter_walk⟩)
      clear hs2
      unfold pr at hen
      have hJ3 : J ss (w2.alloc (.cells #[.int .i64 xa, .int .i64 xb] 61)) := hJ ss w2 _ none hJ2 (World.grownBy_alloc w2 _ none) (fun r e => by cases e)
      have hrg3 := hrg2.alloc (.cells #[.int .i64 xa, .int .i64 xb] 61)
      obtain ⟨fn, tmps, assign, body, hy', hR⟩ := hY ss (xa, xb) _ hJ3 (by omega)
      have hy : (Instr.yield l #[.agg #[.int .i64 xa, .int .i64 xb]]).run Try.prog (w2.alloc (.cells #[.int .i64 xa, .int .i64 xb] 61)) = _ := hy'
      clear hy'
      gi_wp2
      refine hR.mono ?_
      rintro e W3 ⟨rfl, hJ4, hk3⟩
      gi_wp2
      have hrg4 := hrg3.of_walks hk3
      go_roundw
      case rel => exact ⟨_, cnt2, ss ++ [(xa, xb)], hrg4, by simp; omega, hC.step hxa hxb hlk hat, hJ4⟩
      case measure => rw [hrg4.left_eq, hrg.left_eq]; exact hlt
/-- what maps.Keys hands back gives the pairs that have mail -/
theorem keys_gives (F : Fence) (n : Nat) (hF0 : F.fn 40) (hro : F.round = none) (hn : 1 ≤ n) (Bm m : Nat) (D0 : DataW Value) (w : World) (hBm : Bm < w.heap.size)
    (hm : w.cell? ⟨Bm, 0, none⟩ = some (.map (some m))) (hown : w.ownsMap Try.prog 61 hdR m (Maps.size D0) D0) :
    SeqGives F n Try.prog 40 #[.pointer (some ⟨Bm, 0, none⟩)] encV (fun ss => ∃ left : Lit → Bool, (∀ k, left k = false) ∧ Seen D0 left ss) (Maps.size D0) w := fun l J W hW hJ hY h0 => by
  have hown' : W.ownsMap Try.prog 61 hdR m (Maps.size D0) D0 := by
    have hbl := hown.lt
    obtain ⟨es, clock, hb, Ft, hs, hD⟩ := hown
    exact ⟨es, clock, (hW.block m hbl).trans hb, Ft, hs, hD⟩
  refine (keys1_in F n hF0 hro hn l Bm m D0 J hY W hJ ((hW.cell (p := ⟨Bm, 0, none⟩) hBm).trans hm) hown' h0).mono ?_
  rintro e W' ⟨hv, left, ss, h1, h2, h3⟩
  exact ⟨hv, ss, ⟨left, h1, h2⟩, h3⟩
theorem keys_in (m : Nat) (w : World) : Calls Try.prog 34 #[.map (some m)] w fun e w' => e = .returned (.func (.func 40) #[] #[.pointer (some ⟨w.heap.size, 0, none⟩)]) ∧ w' = w.alloc (.cells #[.map (some m)] 49) := by
  go_enter Try.func34, Try.ntmps34
  go_wp2
  go_ret
  exact ⟨rfl, rfl⟩
end Go.Proofs.Ytngldlfobdiipaa.Lk
