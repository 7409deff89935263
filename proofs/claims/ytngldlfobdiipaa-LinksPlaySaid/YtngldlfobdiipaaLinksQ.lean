/-
  Links: pairs held against each other; a slice of pairs sorted.
-/
import Derived.Test.YtngldlfobdiipaaLinksK
import Derived.Test.YtngldlfobdiipaaIter
import Derived.Shelf.SlSortCmp.NoneTotal
namespace Go.Proofs.Ytngldlfobdiipaa.Lk
open Go.ChangeShapes Go.WideShapes Go.ChangeAt Go.RowKit Go.Shelf Go.Sort
set_option linter.unusedVariables false
theorem still_told {P : Program} {f : FuncId} {args : Array Value} {w : World} {v : Value} (h : Calls P f args w (Told v w)) : Calls P f args w fun e w'' => e = .returned v ∧ w'' = w := h.mono fun _ _ ⟨a, b⟩ => ⟨a, b.symm⟩
/-- the first that isn't 0 -/
def orI (a b : Int) : Int := if a = 0 then b else a
/-- of two ints -/
def TwoAt (w : World) (g : Nat) (a b : Int) : Prop := w.cell? ⟨g, 0, none⟩ = some (.int .i64 a) ∧ w.cell? ⟨g, 1, none⟩ = some (.int .i64 b)
theorem or_any (g : Nat) (a b : Int) (w : World) (h : TwoAt w g a b) : Calls Try.prog 41 #[.slice (some ⟨g, 0, none⟩) 2 2] w (Told (.int .i64 (orI a b)) w) := by
  obtain ⟨c0, c1⟩ := h
  by_cases ha : a = 0
  · subst ha
    have e : orI 0 b = b := rfl
    rw [e]
    go_enter Try.func41, Try.ntmps41
    go_wp2
    go_loop [8] (fun i => ∃ k : Nat, k ≤ 2 ∧ i = .int .i64 (k : Int) ∧ (k = 2 → b = 0)) (fun i => 2 - (intOf i).toNat)
    case atStart => exact ⟨0, by omega, rfl, fun e => by omega⟩
    case round =>
      obtain ⟨k, hk, rfl, hb⟩ := hrel
      have HB := hide hb
      clear hb
      rcases k with _ | _ | _ | k
      · go_wp2
        go_round
        case rel => exact ⟨1, by omega, rfl, fun e => by omega⟩
        case measure => simp [intOf]
      · by_cases h0 : b = 0
        · subst h0
          go_wp2
          go_round
          case rel => exact ⟨2, by omega, rfl, fun e => by first | rfl | trivial⟩
          case measure => simp [intOf]
        · have s1 : (b != 0) = true := by simpa using h0
          go_wp2
          go_ret
          exact ⟨rfl, rfl⟩
      · have h0 := unhide HB rfl
        subst h0
        go_wp2
        go_ret
        exact ⟨rfl, rfl⟩
      · omega
  · have e : orI a b = a := by unfold orI; rw [if_neg ha]
    rw [e]
    have s1 : (a != 0) = true := by simpa using ha
    clear e ha
    go_enter Try.func41, Try.ntmps41
    go_wp2
    go_loop [8] (fun i => i = .int .i64 0) (fun i => 0)
    case atStart => exact rfl
    case round =>
      subst hrel
      go_wp2
      go_ret
      exact ⟨rfl, rfl⟩
/-- how two pairs are held against each other -/
def cfP (x y : Int × Int) : Int := orI (Lib.compareInt x.1 y.1) (Lib.compareInt x.2 y.2)
theorem cmp_any (a b : Int) (w : World) : Calls Try.prog 42 #[.int .i64 a, .int .i64 b] w (Told (.int .i64 (Lib.compareInt a b)) w) := (Try.cmp_Compare_int a b w).mono fun _ _ ⟨h1, h2⟩ => ⟨h1, h2.symm⟩
/-- a pair's cells -/
def encP (p : Int × Int) : List Value := [.int .i64 p.1, .int .i64 p.2]
set_option maxRecDepth 100000 in
theorem order_any (x y : Int × Int) (w : World) : Calls Try.prog 35 #[.agg #[.int .i64 x.1, .int .i64 x.2], .agg #[.int .i64 y.1, .int .i64 y.2]] w (fun e w' => e = .returned (.int .i64 (cfP x y)) ∧ ∃ q os', w' = grow (w.drewN q) os') := by
  have C1 := hide (fun w => still_told (cmp_any x.1 y.1 w))
  have C2 := hide (fun w => still_told (cmp_any x.2 y.2 w))
  have CO := hide (fun g w h => or_any g (Lib.compareInt x.1 y.1) (Lib.compareInt x.2 y.2) w h)
  unfold cfP
  obtain ⟨c, hc⟩ : ∃ c, Lib.compareInt x.1 y.1 = c := ⟨_, rfl⟩
  obtain ⟨d, hd⟩ : ∃ c, Lib.compareInt x.2 y.2 = c := ⟨_, rfl⟩
  rw [hc, hd] at CO ⊢
  rw [hc] at C1
  rw [hd] at C2
  clear hc hd
  obtain ⟨r, hr⟩ : ∃ r, orI c d = r := ⟨_, rfl⟩
  rw [hr] at CO ⊢
  clear hr
  go_enter Try.func35, Try.ntmps35
  go_wp2
  have hb1 : ((w.alloc (.cells #[.int .i64 x.1, .int .i64 x.2] 61)).alloc (.cells #[.int .i64 y.1, .int .i64 y.2] 61)).heap[w.heap.size]? = some (.cells #[.int .i64 x.1, .int .i64 x.2] 61 (0, 0)) := ((Chg.refl noBlk _).alloc _).at (heap_alloc_new w _) id
  have hb2 : ((w.alloc (.cells #[.int .i64 x.1, .int .i64 x.2] 61)).alloc (.cells #[.int .i64 y.1, .int .i64 y.2] 61)).heap[w.heap.size + 1]? = some (.cells #[.int .i64 y.1, .int .i64 y.2] 61 (0, 0)) := by
    have := heap_alloc_new (w.alloc (.cells #[.int .i64 x.1, .int .i64 x.2] 61)) (.cells #[.int .i64 y.1, .int .i64 y.2] 61)
    simpa using this
  have HW := hide (show ∃ os', (w.alloc (.cells #[.int .i64 x.1, .int .i64 x.2] 61)).alloc (.cells #[.int .i64 y.1, .int .i64 y.2] 61) = grow w os' from ⟨_, by rw [alloc_eq_grow, alloc_eq_grow, grow_grow]⟩)
  generalize (w.alloc (.cells #[.int .i64 x.1, .int .i64 x.2] 61)).alloc (.cells #[.int .i64 y.1, .int .i64 y.2] 61) = W at hb1 hb2 HW ⊢
  have x0 : W.cell? ⟨w.heap.size, 0, none⟩ = some (.int .i64 x.1) := cellAt hb1 0 _ rfl
  have x1 : W.cell? ⟨w.heap.size, 1, none⟩ = some (.int .i64 x.2) := cellAt hb1 1 _ rfl
  have y0 : W.cell? ⟨w.heap.size + 1, 0, none⟩ = some (.int .i64 y.1) := cellAt hb2 0 _ rfl
  have y1 : W.cell? ⟨w.heap.size + 1, 1, none⟩ = some (.int .i64 y.2) := cellAt hb2 1 _ rfl
  clear hb1 hb2
  go_still_tail 10, (by kernel_rfl)
  still_call (unhide C1 _)
  repeat still_step
  still_call (unhide C2 _)
  refine wpStill_nil ?_
  change wpList _ _ _ _ _ W.drew
  clear x0 x1 y0 y1
  go_wp2_with (go_at_call 41; (refine (unhide CO _ _ (show TwoAt (W.drew.alloc (.cells #[.int .i64 c, .int .i64 d] 3)) W.heap.size c d from ⟨cellAt (heap_alloc_new W.drew _) 0 _ rfl, cellAt (heap_alloc_new W.drew _) 1 _ rfl⟩)).mono ?_); rintro e w2 ⟨rfl, rfl⟩)
  go_ret
  refine ⟨rfl, ?_⟩
  obtain ⟨os, h⟩ := unhide HW
  subst h
  exact ⟨1, _, by rw [alloc_eq_grow, grow_grow, drew_grow]; rfl⟩
theorem order_lays (blk off size : Nat) (w : World) : CmpLays Try.prog 35 #[] encP 2 cfP blk off size w := fun _ _ _ _ x y => order_any x y _
theorem encP_len (p : Int × Int) : (encP p).length = 2 := rfl
theorem encP_one (p : Int × Int) : ∀ u ∈ encP p, u.oneCell' = true := by intro u hu; simp [encP] at hu; rcases hu with rfl | rfl <;> rfl
/-- by who sends, then by to whom -/
def ltP (x y : Int × Int) : Bool := decide (x.1 < y.1 ∨ (x.1 = y.1 ∧ x.2 < y.2))
theorem lt_is (x y : Int × Int) : ltOf cfP x y = ltP x y := by
  unfold ltOf cfP orI ltP Lib.compareInt
  rcases Int.lt_trichotomy x.1 y.1 with h | h | h
  · simp [h]
  · rcases Int.lt_trichotomy x.2 y.2 with h2 | h2 | h2
    · simp [h, h2]
    · simp [h, h2]
    · have h3 : ¬ x.2 < y.2 := by omega
      simp [h, h2, h3]
  · have h3 : ¬ x.1 < y.1 := by omega
    have h4 : ¬ x.1 = y.1 := by omega
    simp [h, h3, h4]
theorem swo : SWO (ltOf cfP) where
  irrefl x := by rw [lt_is]; unfold ltP; simp
  trans x y z h1 h2 := by rw [lt_is] at *; unfold ltP at *; simp at *; omega
  ntrans x y z h1 h2 := by rw [lt_is] at *; unfold ltP at *; simp at *; omega
theorem lt_total (x y : Int × Int) (h1 : ltOf cfP x y = false) (h2 : ltOf cfP y x = false) : x = y := by
  rw [lt_is] at h1 h2
  unfold ltP at h1 h2
  simp at h1 h2
  exact Prod.ext (by omega) (by omega)
/-- sorted so -/
def sortP (ps : List (Int × Int)) : List (Int × Int) := ps.mergeSort fun x y => !(ltOf cfP) y x
theorem sortP_len (ps : List (Int × Int)) : (sortP ps).length = ps.length := by unfold sortP; simp
theorem flat_eq (ps : List (Int × Int)) : flatK encP 2 ps.toArray = (flatC encP ps).toArray := by
  apply Array.ext'
  apply List.ext_getElem?
  intro t
  by_cases ht : t < ps.length * 2
  · obtain ⟨x, hx⟩ : ∃ x, ps[t / 2]? = some x := ⟨_, List.getElem?_eq_getElem (by omega)⟩
    have h1 := flatC_get encP_len hx (j := t % 2) (Nat.mod_lt _ (by omega))
    rw [Nat.div_add_mod'] at h1
    show _ = (flatC encP ps)[t]?
    rw [h1]
    have hd : ps.toArray[t / 2]! = x := by
      have := (List.getElem?_eq_some_iff.1 hx)
      obtain ⟨hl, he⟩ := this
      simp [hl, he]
    unfold flatK
    rw [Array.getElem?_toList, Array.getElem?_map, Array.getElem?_range, if_pos (by simpa using ht)]
    simp only [Option.map_some]
    rw [hd]
    rcases Nat.mod_two_eq_zero_or_one t with e | e <;> rw [e] <;> rfl
  · have h2 : (flatC encP ps).length = ps.length * 2 := flatC_length encP_len ps
    rw [List.getElem?_eq_none (by unfold flatK; simp; omega), List.getElem?_eq_none (by simpa using (by omega : (flatC encP ps).length ≤ t))]
theorem holdsK_of {w : World} {g cap : Nat} {ps : List (Int × Int)} (h : OwnL w 61 encP 2 (.slice (some ⟨g, 0, none⟩) ps.length cap) ps) : HoldsK encP 2 w g 0 ps.toArray := by
  unfold HoldsK
  rw [flat_eq]
  intro j hj
  have hj : j < (flatC encP ps).length := by simpa using hj
  obtain ⟨_, _, h3⟩ := holds_own h (flatC_one encP_one ps)
  rcases h3 with ⟨h3, _⟩ | ⟨g', off, cap', e, _, _, _, hc⟩
  · cases h3
  · injection e with e _ _
    injection e with e
    injection e with e1 e2
    subst e1; subst e2
    obtain ⟨c1, c2⟩ := hc j _ (List.getElem?_eq_getElem hj)
    refine ⟨?_, c2⟩
    rw [c1]
    simp [hj]
theorem own_sorted {w : World} {g cap n : Nat} {os : Array Obj} {ps ts : List (Int × Int)} (h : OwnL w 61 encP 2 (.slice (some ⟨g, 0, none⟩) ps.length cap) ps) (hl : ts.length = ps.length) :
    OwnL (sortWorldK encP 2 w g 0 n ts.toArray os) 61 encP 2 (.slice (some ⟨g, 0, none⟩) ps.length cap) ts ∧ Chg (oneBlk g) w (sortWorldK encP 2 w g 0 n ts.toArray os) := by
  rcases h.2 with ⟨h2, _⟩ | ⟨g', cap', cur, e, hb, hg, r1, r2, r3, r4⟩
  · cases h2
  · injection e with e _ e3
    injection e with e
    injection e with e1
    subst e1; subst e3
    have hgl := lt_of_block hg
    have hfl : (flatC encP ts).length = ts.length * 2 := flatC_length encP_len ts
    unfold sortWorldK putRowK
    rw [flat_eq]
    have hh : (grow (putRow id (Sort.ahead w n) g 0 (flatC encP ts).toArray) os).heap[g]? = some (.cells (putCells id 0 (flatC encP ts).toArray cur) 61 (0, 0)) := by
      rw [heap_grow_old _ _ (by simpa using hgl)]
      simp [putRow, mapBlock, Sort.ahead, Array.getElem?_modify, hg, onCells]
    refine ⟨?_, ⟨rfl, rfl, rfl, by simp, fun k hk hne => ?_⟩⟩
    · rw [← hl]
      refine ⟨hfl, .inr ⟨g, cap, _, rfl, Nat.zero_le _, hh, by omega, r2, by simp [putCells, r3], ?_⟩⟩
      apply List.ext_getElem?
      intro j
      by_cases hj : j < ts.length * 2
      · have hj2 : j < (flatC encP ts).length := by omega
        have hj3 : j < cur.size := by omega
        rw [List.getElem?_take_of_lt hj, Array.getElem?_toList]
        simp [putCells, hj2, hj3]
      · rw [List.getElem?_take_eq_none (by omega), List.getElem?_eq_none (by omega)]
    · rw [heap_grow_old _ _ (by simpa using hk)]
      have : g ≠ k := fun e => hne (Eq.symm e)
      simp [putRow, mapBlock, Sort.ahead, Array.getElem?_modify, this]
/-- told: of the slice its pairs lie sorted -/
def SortedS (v : Value) (ps : List (Int × Int)) (w : World) (e : Ending) (w' : World) : Prop := e = .returned (.tuple #[]) ∧ OwnL w' 61 encP 2 v (sortP ps) ∧ Chg (fun k => v.ownBlock = some k) w w'
theorem sort_any {w : World} {v : Value} {ps : List (Int × Int)} (h : OwnL w 61 encP 2 v ps) (hn : ps.length ≤ 1000) :
    Calls Try.prog 39 #[v, .func (.func 35) #[] #[]] w (SortedS v ps w) := by
  rcases h.2 with ⟨rfl, h0⟩ | ⟨g, cap, cur, rfl, hb, hg, r1, r2, r3, r4⟩
  · have hp : ps = [] := List.eq_nil_of_length_eq_zero h0
    subst hp
    refine (AnyF.slices_SortFunc_none Try.sortf39 none 0 (.func (.func 35) #[] #[]) w).mono ?_
    rintro e w' ⟨rfl, rfl⟩
    exact ⟨rfl, by simpa [sortP] using h, Chg.refl _ _⟩
  · have eg : ∀ args w, (callFunc 35 args).run Try.prog w = .ok (.enter 35 args) w := enters_of Try.func35 (by kernel_rfl) rfl
    have := AnyQ.slices_SortFunc_total Try.sortf39 2 Try.isAgg61 Try.sizeOf61 encP encP_len encP_one cfP swo 35 #[] g 0 cap ps.toArray w eg (order_lays _ _ _ _) (holdsK_of h) (lt_of_block hg) (by simp; omega) lt_total
    refine (Calls.mono this ?_)
    rintro e w' ⟨rfl, n, os, rfl⟩
    obtain ⟨o, k⟩ := own_sorted (n := n) (os := os) h (sortP_len ps)
    exact ⟨rfl, o, k.mono fun i _ e => by have e : i = g := e; rw [e]; rfl⟩
end Go.Proofs.Ytngldlfobdiipaa.Lk
