/-
  Texts of this seat, one behind the other.
-/
import Derived.Test.YtfplgmkbhpdmjaaChainsF
import Derived.Test.YtfplgmkbhpdmjaaChainsIX
import Derived.Deep.RegionHeld3
import Derived.RegionTactic
import Derived.Deep.RegionLaw
import Derived.Test.YtfplgmkbhpdmjaaChainsU
import Derived.Test.YtfplgmkbhpdmjaaChainsS
import Derived.Test.YtfplgmkbhpdmjaaKitX
import Derived.Test.YtfplgmkbhpdmjaaChainsR
import Derived.Maps.RangeWalk
import Derived.Deep.DeepCutAuto
/-
  Chains: contracts of the document's leaves, Drain.
-/
namespace Go.Proofs.Ytfplgmkbhpdmjaa.Ch
open Go.ChangeShapes Go.WideShapes Go.ChangeAt Go.RowKit
set_option linter.unusedVariables false
section
variable {w : World} {ad : Option Addr} {cap : Nat} {c : CT}
theorem next_cases (c : CT) : (good c = false ∧ nextE c = 2) ∨ (good c = true ∧ (c.ep == 1099511627776) = true ∧ nextE c = 2) ∨ (good c = true ∧ (c.ep == 1099511627776) = false ∧ nextE c = 0) := by
  cases g : good c
  · exact .inl ⟨rfl, nextE_bad g⟩
  · have := (good_iff.1 g).ep2
    by_cases h : c.ep = 1099511627776
    · exact .inr (.inl ⟨rfl, beq_iff_eq.2 h, nextE_hi (by omega)⟩)
    · exact .inr (.inr ⟨rfl, beq_eq_false_iff_ne.2 h, nextE_yes g (by omega)⟩)
theorem leaves_ways (c : CT) (n : Int) : (good c = false ∧ goE c n = 2) ∨ (good c = true ∧ (c.ep == 1099511627776) = true ∧ goE c n = 2) ∨ (good c = true ∧ (c.ep == 1099511627776) = false ∧ pos n c.ms < 0 ∧ goE c n = 4) ∨ (good c = true ∧ (c.ep == 1099511627776) = false ∧ ¬ pos n c.ms < 0 ∧ c.ms.length < 2 ∧ goE c n = 72) ∨ (good c = true ∧ (c.ep == 1099511627776) = false ∧ ¬ pos n c.ms < 0 ∧ ¬ c.ms.length < 2 ∧ goE c n = 0) := by
  rcases next_cases c with ⟨g, h⟩ | ⟨g, e, h⟩ | ⟨g, e, h⟩
  · exact .inl ⟨g, by unfold goE; rw [if_pos h]⟩
  · exact .inr (.inl ⟨g, e, by unfold goE; rw [if_pos h]⟩)
  · have hl := (good_iff.1 g).len1
    rcases go_ways_ c n with ⟨q1, q⟩ | ⟨q1, q2, q⟩ | ⟨q1, q2, q3, q⟩ | ⟨q1, q2, q3, q⟩
    · omega
    · exact .inr (.inr (.inl ⟨g, e, q2, q⟩))
    · have := beq_iff_eq.1 q3
      exact .inr (.inr (.inr (.inl ⟨g, e, q2, by omega, q⟩)))
    · have := beq_eq_false_iff_ne.1 q3
      exact .inr (.inr (.inr (.inr ⟨g, e, q2, by omega, q⟩)))
end
end Go.Proofs.Ytfplgmkbhpdmjaa.Ch
/-
  Chains: a contract of the document's With.
-/
namespace Go.Proofs.Ytfplgmkbhpdmjaa.Ch
open Go.ChangeShapes Go.WideShapes Go.ChangeAt Go.RowKit
set_option linter.unusedVariables false
theorem push_le {w5 : World} {X : Obj} {k : Nat} (h : k = (w5.alloc X).drew.heap.size) : w5.heap.size ≤ k := by rw [h]; show w5.heap.size ≤ (w5.alloc X).heap.size; simp
theorem own_two {w5 W wD : World} {v1 v2 : Value} (h : Chg noBlk w5 W) (f : ∀ k, v1.ownBlock = some k → w5.heap.size ≤ k) (kD : Chg (fun k => v1.ownBlock = some k) W wD) (fD : v2.ownBlock = v1.ownBlock ∨ v2.ownBlock = some W.heap.size) :
    Chg noBlk w5 wD ∧ ∀ k, v2.ownBlock = some k → w5.heap.size ≤ k := by
  refine ⟨h.trans kD fun i hi e => by have := f i e; omega, fun k hk => ?_⟩
  rcases fD with e | e
  · exact f k (by rw [← e]; exact hk)
  · rw [e] at hk
    have := Option.some.inj hk
    have := h.size
    omega
section
variable {w : World} {ad : Option Addr} {cap : Nat} {c : CT}
theorem rwith_ways (c : CT) (n : Int) : (good c = false ∧ withE c n = 2 ∧ withF c n = cZero) ∨ (good c = true ∧ (c.ep == 1099511627776) = true ∧ withE c n = 2 ∧ withF c n = cZero) ∨ (good c = true ∧ (c.ep == 1099511627776) = false ∧ n < 0 ∧ withE c n = 2 ∧ withF c n = cZero) ∨ (good c = true ∧ (c.ep == 1099511627776) = false ∧ ¬ n < 0 ∧ 5 < n ∧ withE c n = 2 ∧ withF c n = cZero) ∨
    (good c = true ∧ (c.ep == 1099511627776) = false ∧ ¬ n < 0 ∧ ¬ 5 < n ∧ ¬ pos n c.ms < 0 ∧ withE c n = 62 ∧ withF c n = cZero) ∨ (good c = true ∧ (c.ep == 1099511627776) = false ∧ ¬ n < 0 ∧ ¬ 5 < n ∧ pos n c.ms < 0 ∧ withE c n = 0 ∧ withF c n = withC c n) := by
  rcases next_cases c with ⟨g, h⟩ | ⟨g, e, h⟩ | ⟨g, e, h⟩ <;> rcases with_ways c n with ⟨q1, q⟩ | ⟨q1, q2, q⟩ | ⟨q1, q2, q3, q⟩ | ⟨q1, q2, q3, q⟩ <;> try omega
  · exact .inl ⟨g, q⟩
  · exact .inr (.inl ⟨g, e, q⟩)
  · have := mayB_no.1 q2
    by_cases hn : n < 0
    · exact .inr (.inr (.inl ⟨g, e, hn, q⟩))
    · exact .inr (.inr (.inr (.inl ⟨g, e, hn, by omega, q⟩)))
  · have := mayB_yes.1 q2
    exact .inr (.inr (.inr (.inr (.inl ⟨g, e, by omega, by omega, q3, q⟩))))
  · have := mayB_yes.1 q2
    exact .inr (.inr (.inr (.inr (.inr ⟨g, e, by omega, by omega, q3, q⟩))))
end
end Go.Proofs.Ytfplgmkbhpdmjaa.Ch
/-
  Chains: a contract of the document's Without.
-/
namespace Go.Proofs.Ytfplgmkbhpdmjaa.Ch
open Go.ChangeShapes Go.WideShapes Go.ChangeAt Go.RowKit
set_option linter.unusedVariables false
/-- where the document's Without stands -/
structure WSt (w0 w : World) (d : Nat) (e dr : Int) (v : Value) (M : List MT) : Prop where
  ch : ChAt w d ⟨e, M, dr⟩ v
  own : OwnL w 61 MT.cells 2 v M
  new : ∀ g, v.ownBlock = some g → w0.heap.size ≤ g
  chg : Chg noBlk w0 w
  n3 : w0.heap.size ≤ d
section
variable {w0 w w' wA wD : World} {d : Nat} {e dr : Int} {v v' : Value} {M : List MT}
theorem WSt.no (h : WSt w0 w d e dr v M) (k : Chg noBlk w w') : WSt w0 w' d e dr v M := ⟨h.ch.no k, h.own.no k, h.new, h.chg.andNo k, h.n3⟩
theorem WSt.notOwn (h : WSt w0 w d e dr v M) : ¬ v.ownBlock = some d := fun hg => by
  obtain ⟨cur, hc⟩ := h.own.block hg
  exact ne_type hc h.ch (by decide) rfl
theorem WSt.put {x : MT} (h : WSt w0 w d e dr v M) (kA : Chg noBlk w wA) (kD : Chg (fun k => v.ownBlock = some k) wA wD) (oD : wD.ownsRow 0 61 2 v' (M.length + 1) (flatC MT.cells M ++ x.cells)) (fD : v'.ownBlock = v.ownBlock ∨ v'.ownBlock = some wA.heap.size) :
    WSt w0 (wD.setCell ⟨d, 1, none⟩ v') d e dr v' (M ++ [x]) := by
  have hA := h.no kA
  have cD := kD.at hA.ch hA.notOwn
  have OD := ownL_grew (c := MT.cells) (L := M) (x := x) oD
  have kS := setCell_chg wD d 1 v'
  have hS := setCell_heap (o := 1) v' cD
  have nw : ∀ g, v'.ownBlock = some g → w0.heap.size ≤ g := fun g hg => by
    rcases fD with f | f
    · exact h.new g (f ▸ hg)
    · rw [f] at hg
      have := Option.some.inj hg
      have := h.chg.size
      have := kA.size
      omega
  refine ⟨hS, OD.kept kS fun g hg x => ?_, nw, ?_, h.n3⟩
  · obtain ⟨cur, hb⟩ := OD.block hg
    exact ne_type hb cD (by decide) x
  · have k1 : Chg noBlk w0 wD := hA.chg.trans kD fun i hi x => by have := h.new i x; omega
    exact k1.past kS h.n3
theorem WSt.turn {dr' : Int} (h : WSt w0 w d e dr v M) (k : Chg (oneBlk d) w w') (g : w'.heap[d]? = some (.cells (chC ⟨e, M, dr'⟩ v) 31 (0, 0))) : WSt w0 w' d e dr' v M :=
  ⟨g, h.own.kept k (fun g hg x => by
    obtain ⟨cur, hb⟩ := h.own.block hg
    exact ne_type hb h.ch (by decide) x), h.new, h.chg.past k h.n3, h.n3⟩
end
def keepB (n : Int) (m : MT) : Bool := decide (m.node ≠ n)
theorem filt_succ {n : Int} {L : List MT} {k : Nat} {x : MT} (hx : L[k]? = some x) : (L.take (k + 1)).filter (keepB n) = (L.take k).filter (keepB n) ++ (if keepB n x then [x] else []) := by
  have hk := (List.getElem?_eq_some_iff.1 hx).1
  rw [List.take_succ_eq_append_getElem hk, List.filter_append, (List.getElem?_eq_some_iff.1 hx).2, List.filter_cons]
  split <;> simp
section
variable {w : World} {ad : Option Addr} {cap : Nat} {c : CT}
theorem rwo_ways (c : CT) (n : Int) : ((goE c n != 0) = true ∧ woF c n = cZero) ∨ (goE c n = 0 ∧ woF c n = ⟨c.ep + 1, c.ms.filter (keepB n), if c.dr = n then -1 else c.dr⟩) := by
  unfold woF
  by_cases h : goE c n = 0
  · exact .inr ⟨h, if_pos h⟩
  · exact .inl ⟨by simp [h], if_neg h⟩
end
end Go.Proofs.Ytfplgmkbhpdmjaa.Ch
/-
  Chains: the document's numbers of bytes, as a plain function; what the document's Get tells by them.
-/
namespace Go.Proofs.Ytfplgmkbhpdmjaa.Ch
open Go.ChangeShapes Go.WideShapes Go.ChangeAt Go.RowKit
set_option linter.unusedVariables false
/-- all numbers that stand there, and whether nothing else does -/
inductive Nums : List UInt8 → List Int → Prop
  | nil : Nums [] []
  | cons (l : List UInt8) (L : List Int) : l ≠ [] → tkO l = true → Nums (tkR l) L → Nums l (tkN l :: L)
theorem tk_range {l : List UInt8} (h : tkO l = true) : (-1 ≤ tkN l ∧ tkN l ≤ 1099511627776) ∧ intL (tkN l) ++ tkR l = l := ⟨tkN_range l, tk_back l h⟩
theorem intL_ne (n : Int) (h : -1 ≤ n ∧ n ≤ 1099511627776) : 0 < (intL n).length := by
  rw [intL_in n h.1 h.2]
  exact (numL_len _ (by omega)).2
theorem intL_app_ne {n : Int} {X : List UInt8} (h : -1 ≤ n ∧ n ≤ 1099511627776) : intL n ++ X ≠ [] := by
  intro e
  have h1 := intL_ne n h
  rw [(List.append_eq_nil_iff.1 e).1] at h1
  simp at h1
theorem nums_int {n : Int} {X : List UInt8} {L : List Int} (h : -1 ≤ n ∧ n ≤ 1099511627776) (hL : Nums X L) : Nums (intL n ++ X) (n :: L) := by
  obtain ⟨a, b, c⟩ := tk_put n X h
  have := Nums.cons (intL n ++ X) L (intL_app_ne h) c (by rw [b]; exact hL)
  rwa [a] at this
/-- a chain's numbers -/
def flatM : List MT → List Int
  | [] => []
  | m :: r => m.node :: m.since :: flatM r
theorem flatM_len : ∀ L : List MT, (flatM L).length = 2 * L.length
  | [] => rfl
  | m :: r => by simp [flatM, flatM_len r]; omega
theorem nums_mems : ∀ (L : List MT) {X : List UInt8} {R : List Int}, (∀ x ∈ L, (-1 ≤ x.node ∧ x.node ≤ 1099511627776) ∧ (-1 ≤ x.since ∧ x.since ≤ 1099511627776)) → Nums X R → Nums (memsL L ++ X) (flatM L ++ R)
  | [], _, _, _, h => h
  | m :: r, X, R, hm, h => by
    have ih := nums_mems r (fun x hx => hm x (by simp [hx])) h
    have p := hm m (by simp)
    simp only [memsL, memL, List.append_assoc]
    exact nums_int p.1 (nums_int p.2 ih)
theorem nums_put {c : CT} (h : Fits c) : Nums (putL c) (c.ep :: (c.ms.length : Int) :: (flatM c.ms ++ [c.dr])) := by
  rw [putL_eq]
  have hd : Nums (intL c.dr) [c.dr] := by have := nums_int (X := []) h.dr Nums.nil; rwa [List.append_nil] at this
  exact nums_int h.ep (nums_int ⟨by omega, by have := h.len; omega⟩ (nums_mems c.ms h.mem hd))
theorem nums_one {l : List UInt8} {L M : List Int} (h : Nums l L) (k : Nums l M) : L = M := by
  induction h generalizing M with
  | nil => cases k with
    | nil => rfl
    | cons _ _ h => exact absurd rfl h
  | cons l L h1 h2 h3 ih => cases k with
    | nil => exact absurd rfl h1
    | cons _ M _ _ k3 => rw [ih k3]
/-- members out of numbers, two by two -/
def pairs : List Int → List MT
  | a :: b :: r => ⟨a, b⟩ :: pairs r
  | _ => []
theorem pairs_flat (L : List MT) (d : Int) : pairs (flatM L ++ [d]) = L := by
  induction L with
  | nil => rfl
  | cons m r ih => simp [flatM, pairs, ih]
/-- the chain of numbers -/
def chOf (L : List Int) : CT := ⟨L.headD 0, pairs (L.drop 2), L.getLast?.getD 0⟩
theorem chOf_put (c : CT) : chOf (c.ep :: (c.ms.length : Int) :: (flatM c.ms ++ [c.dr])) = c := by
  unfold chOf
  have e : (c.ep :: (c.ms.length : Int) :: (flatM c.ms ++ [c.dr])).getLast? = some c.dr := by
    rw [← List.cons_append, ← List.cons_append, List.getLast?_concat]
  rw [e]
  show (⟨c.ep, pairs (flatM c.ms ++ [c.dr]), c.dr⟩ : CT) = c
  rw [pairs_flat]
theorem shape_put (c : CT) (h : 1 ≤ c.ms.length) : 5 ≤ (c.ep :: (c.ms.length : Int) :: (flatM c.ms ++ [c.dr])).length ∧ (c.ep :: (c.ms.length : Int) :: (flatM c.ms ++ [c.dr])).length % 2 = 1 := by
  simp [flatM_len]
  omega
/-- by the numbers -/
theorem got_nums {l : List UInt8} {L : List Int} (h : Nums l L) (h1 : ¬ L.length < 5) (h2 : L.length % 2 = 1) (hg : good (chOf L) = true) (hp : putL (chOf L) = l) : GotOf l (chOf L) 0 := .inl ⟨⟨hg, hp⟩, rfl⟩
theorem got_else {l : List UInt8} {L : List Int} (h : Nums l L) (h1 : L.length < 5 ∨ L.length % 2 = 0 ∨ good (chOf L) = false ∨ putL (chOf L) ≠ l) : GotOf l cZero 10 := by
  refine .inr ⟨fun d hd => ?_, rfl, rfl⟩
  obtain ⟨g, rfl⟩ := hd
  have e := nums_one h (nums_put (good_fits g))
  subst e
  have := shape_put d (good_iff.1 g).len1
  rw [chOf_put] at h1
  rcases h1 with h1 | h1 | h1 | h1
  · omega
  · omega
  · rw [g] at h1; cases h1
  · exact h1 rfl
theorem got_bad {l : List UInt8} (h : ∀ L, ¬ Nums l L) : GotOf l cZero 10 := by
  refine .inr ⟨fun d hd => ?_, rfl, rfl⟩
  obtain ⟨g, rfl⟩ := hd
  exact h _ (nums_put (good_fits g))
theorem nums_len {l : List UInt8} {L : List Int} (h : Nums l L) : L.length ≤ l.length := by
  induction h with
  | nil => simp
  | cons l L h1 h2 h3 ih =>
    obtain ⟨r, e⟩ := tk_range h2
    have := intL_ne _ r
    have := congrArg List.length e
    simp at this ⊢
    omega
theorem pairs_len (L : List Int) : (pairs L).length ≤ L.length := by
  match L with
  | [] => simp [pairs]
  | [a] => simp [pairs]
  | a :: b :: r => have := pairs_len r; simp [pairs]; omega
end Go.Proofs.Ytfplgmkbhpdmjaa.Ch
/-
  Chains: a contract of the document's numbers of bytes.
-/
namespace Go.Proofs.Ytfplgmkbhpdmjaa.Ch
open Go.ChangeShapes Go.WideShapes Go.ChangeAt Go.RowKit
set_option linter.unusedVariables false
attribute [local go_sem] bs_size bs_app bs_cut bs_tl bs_at
theorem runint_n (l : List UInt8) (hl : l.length ≤ 1048576) (w : World) : Calls Try.prog 17 #[str l] w (ToldN (.tuple #[.int .i64 (tkN l), str (tkR l), .bool (tkO l)]) w) :=
  (runint_any l hl w).mono fun _ _ ⟨a, b⟩ => ⟨a, Chg.ofBelow b⟩
theorem infx_int : (Try.prog.info? 3).map (fun i => (i.zero, i.size, i.bytes)) = some (some (.int .i64 0), 1, 8) := by kernel_rfl
/-- a slice of the call's own that has these numbers -/
structure NumAt (w0 w : World) (v : Value) (T : List Int) : Prop where
  own : w.ownsRow 0 3 1 v T.length (T.map (.int .i64 ·))
  new : ∀ g, v.ownBlock = some g → w0.heap.size ≤ g
  chg : Chg noBlk w0 w
theorem NumAt.nil (w0 : World) : NumAt w0 w0 (.slice none 0 0) [] := ⟨World.ownsRow_nil _ _ _ _, (fun g h => by simp [Value.ownBlock] at h), Chg.refl _ _⟩
theorem NumAt.no {w0 w w' : World} {v : Value} {T : List Int} (h : NumAt w0 w v T) (k : Chg noBlk w w') : NumAt w0 w' v T := ⟨owns_kept h.own k (fun _ _ => id), h.new, h.chg.andNo k⟩
theorem NumAt.push {w0 w wA wD : World} {v v' : Value} {T : List Int} {t : Int} (h : NumAt w0 w v T) (kA : Chg noBlk w wA) (kD : Chg (fun k => v.ownBlock = some k) wA wD) (oD : wD.ownsRow 0 3 1 v' (T.length + 1) (T.map (.int .i64 ·) ++ [.int .i64 t])) (fD : v'.ownBlock = v.ownBlock ∨ v'.ownBlock = some wA.heap.size) : NumAt w0 wD v' (T ++ [t]) := by
  refine ⟨by simpa using oD, fun g hg => ?_, (h.chg.andNo kA).trans kD fun i hi x => by have := h.new i x; omega⟩
  rcases fD with f | f
  · exact h.new g (f ▸ hg)
  · rw [f] at hg
    have := Option.some.inj hg
    have := h.chg.size
    have := kA.size
    omega
/-- as a slice, with its cells -/
theorem NumAt.form {w0 w : World} {v : Value} {T : List Int} (h : NumAt w0 w v T) : ∃ ad cap, v = .slice ad T.length cap ∧ T.length ≤ cap ∧ ∀ (j : Nat) t, T[j]? = some t → ∃ g, ad = some ⟨g, 0, none⟩ ∧ w.cell? ⟨g, j, none⟩ = some (.int .i64 t) := by
  rcases h.own.2 with ⟨rfl, h2⟩ | ⟨g, cap, cur, rfl, hb, hg, hn, hm, hc, ht⟩
  · have : T = [] := List.eq_nil_of_length_eq_zero h2
    subst this
    exact ⟨none, 0, rfl, by simp, fun j t hj => by simp at hj⟩
  · refine ⟨_, cap, rfl, hn, fun j t hj => ⟨g, rfl, cellAt hg j _ ?_⟩⟩
    have h1 : (T.map (Value.int .i64 ·))[j]? = some (.int .i64 t) := by simp [hj]
    rw [← ht, List.getElem?_take] at h1
    split at h1
    · simpa using h1
    · cases h1
/-- how far numbers have gone: T ahead, l left, of s -/
structure Gone (s : List UInt8) (T : List Int) (l : List UInt8) : Prop where
  on : ∀ L, Nums l L → Nums s (T ++ L)
  back : ∀ L, Nums s L → ∃ L', L = T ++ L' ∧ Nums l L'
  len : T.length + l.length ≤ s.length
theorem gone_start (s : List UInt8) : Gone s [] s := ⟨fun L h => h, fun L h => ⟨L, rfl, h⟩, by simp⟩
theorem gone_next {s l : List UInt8} {T : List Int} (h : Gone s T l) (hl : l ≠ []) (ho : tkO l = true) : Gone s (T ++ [tkN l]) (tkR l) := by
  refine ⟨fun L hL => ?_, fun L hL => ?_, ?_⟩
  · have := h.on _ (Nums.cons l L hl ho hL)
    simpa using this
  · obtain ⟨L', rfl, h2⟩ := h.back L hL
    cases h2 with
    | nil => exact absurd rfl hl
    | cons _ L2 _ _ h3 => exact ⟨L2, by simp, h3⟩
  · obtain ⟨r, e⟩ := tk_range ho
    have h1 := intL_ne _ r
    have h2 := congrArg List.length e
    have h3 := h.len
    simp at h2 ⊢
    omega
theorem gone_end {s : List UInt8} {T : List Int} (h : Gone s T []) : Nums s T := by
  have := h.on [] Nums.nil
  rwa [List.append_nil] at this
theorem gone_bad {s l : List UInt8} {T : List Int} (h : Gone s T l) (hl : l ≠ []) (ho : tkO l = false) : ∀ L, ¬ Nums s L := fun L hL => by
  obtain ⟨L', rfl, h2⟩ := h.back L hL
  cases h2 with
  | nil => exact hl rfl
  | cons _ L2 _ h3 _ => rw [ho] at h3; cases h3
def strLen : Value → Nat
  | .string b => b.size
  | _ => 0
/-- told: the numbers, or none -/
def NumsTold (s : List UInt8) (w : World) (e : Ending) (w' : World) : Prop := ∃ v T, e = .returned v ∧ NumAt w w' v T ∧ T.length ≤ s.length ∧ (Nums s T ∨ (T = [] ∧ ∀ L, ¬ Nums s L))
set_option maxRecDepth 100000 in
set_option maxHeartbeats 1000000 in
theorem numbers_any (s : List UInt8) (hs : s.length ≤ 1000) (w : World) : Calls Try.prog 38 #[str s] w (NumsTold s w) := by
  have HU := hide (fun l (hl : l.length ≤ 1048576) w' => runint_n l hl w')
  go_enter Try.func38, Try.ntmps38
  go_wp2
  go_loopw [0, 3] (fun a b wr => ∃ (l : List UInt8) (T : List Int), a = str l ∧ NumAt w wr b T ∧ Gone s T l) (fun a b wr => strLen a)
  case atStart => exact ⟨s, [], rfl, NumAt.nil w, gone_start s⟩
  case round =>
    obtain ⟨l, T, rfl, hn, hg⟩ := hrel
    have hlen := hg.len
    by_cases hl : l = []
    · subst hl
      have R := hide (gone_end hg)
      have HN := hide hn
      clear hg hn
      go_wp2
      go_ret
      exact ⟨_, T, rfl, unhide HN, by omega, .inl (unhide R)⟩
    · have h1 : 0 < l.length := by
        cases l with
        | nil => exact absurd rfl hl
        | cons a t => simp
      have h2 : (0 : Int) < (l.length : Int) := by omega
      have yl : l.length ≤ 1048576 := by omega
      cases ho : tkO l
      · have R := hide (gone_bad hg hl ho)
        have HN := hide hn
        have HU2 := hide (fun w' => (by have := unhide HU l yl w'; rw [ho] at this; exact this : Calls Try.prog 17 #[str l] w' (ToldN (.tuple #[.int .i64 (tkN l), str (tkR l), .bool false]) w')))
        clear hg hn ho hl
        go_wp2_with (go_at_call 17; (with_reducible refine (unhide HU2 _).mono ?_); rintro e w2 ⟨rfl, k2⟩)
        go_ret
        exact ⟨_, [], rfl, ⟨World.ownsRow_nil _ _ _ _, (fun g h => by simp [Value.ownBlock] at h), (unhide HN).chg.andNo k2⟩, by simp, .inr ⟨rfl, unhide R⟩⟩
      · have R := hide (gone_next hg hl ho)
        have HN := hide hn
        have HU2 := hide (fun w' => (by have := unhide HU l yl w'; rw [ho] at this; exact this : Calls Try.prog 17 #[str l] w' (ToldN (.tuple #[.int .i64 (tkN l), str (tkR l), .bool true]) w')))
        have b2 : T.length + 1 ≤ maxLen := by unfold maxLen; omega
        have b4 : (T.length + 1) * 8 ≤ 140737488355328 := by omega
        have hsh : (tkR l).length + 1 ≤ l.length := by
          obtain ⟨r, e⟩ := tk_range ho
          have h1 := intL_ne _ r
          have h2 := congrArg List.length e
          simp at h2
          omega
        clear hg hn ho hl
        go_wp2_with (first
          | (go_at_call 17; (with_reducible refine (unhide HU2 _).mono ?_); rintro e w2 ⟨rfl, k2⟩; have N2 := hide ((unhide HN).no k2))
          | ((with_reducible show wpList _ _ _ (⟨some 21, _, _, _, _, none⟩ :: _) _ _); refine wpL_append rfl (.tmp 18) (.tmp 20) 76 rfl 3 (.int .i64 0) 1 8 Try.underlying76 infx_int rfl (by decide) u3 T.length (T.map (.int .i64 ·)) (by rfl) (owns_kept (unhide N2).own ((Chg.refl noBlk w2).alloc _) (fun _ _ => id)) (.slice (some ⟨w2.heap.size, 0, none⟩) 1 1) 1 [.int .i64 (tkN l)] (by rfl) (reads_new w2 _ rfl) b2 b4 ?_; intro v5 w5 k5 o5 f5; have N5 := hide ((unhide N2).push ((Chg.refl noBlk w2).alloc (.cells #[.int .i64 (tkN l)] 3)) k5 o5 f5); clear k5 o5 f5))
        go_roundw
        case rel => exact ⟨_, _, rfl, unhide N5, unhide R⟩
        case measure => simp [strLen, bs_size]; omega
end Go.Proofs.Ytfplgmkbhpdmjaa.Ch
/-
  Chains: a contract of the document's Get.
-/
namespace Go.Proofs.Ytfplgmkbhpdmjaa.Ch
open Go.ChangeShapes Go.WideShapes Go.ChangeAt Go.RowKit
set_option linter.unusedVariables false
attribute [local go_sem] bs_size bs_app bs_cut bs_tl bs_at
theorem pairs_length : ∀ L : List Int, (pairs L).length = L.length / 2
  | [] => rfl
  | [a] => by simp [pairs]
  | a :: b :: r => by simp [pairs, pairs_length r]; omega
theorem pairs_get : ∀ (L : List Int) (k : Nat) (a b : Int), L[2 * k]? = some a → L[2 * k + 1]? = some b → (pairs L)[k]? = some ⟨a, b⟩
  | [], k, a, b, h, _ => by simp at h
  | [x], k, a, b, _, h => by simp at h
  | x :: y :: r, 0, a, b, h, h2 => by
    simp at h h2
    simp [pairs, h, h2]
  | x :: y :: r, k + 1, a, b, h, h2 => by
    have := pairs_get r k a b (by simpa [show 2 * (k + 1) = 2 * k + 1 + 1 by omega] using h) (by simpa [show 2 * (k + 1) + 1 = 2 * k + 1 + 1 + 1 by omega] using h2)
    simpa [pairs] using this
section
variable {w : World} {ad : Option Addr} {cap : Nat} {c : CT}
set_option maxRecDepth 100000 in
theorem rput_big (h : ¬ c.ms.length ≤ 6) : Calls Try.prog 39 #[chV c (.slice ad c.ms.length cap)] w (ToldN (.tuple #[str [], .int .i64 2]) w) := by
  have hb : ¬ good c = true := fun g => h (good_iff.1 g).len2
  have hb : good c = false := by simpa using hb
  have HC := hide (fun w' => (by
    have : Calls Try.prog 60 #[chV c (.slice ad c.ms.length cap)] w' (ToldN (.int .i64 (chk c)) w') := by
      by_cases h1 : c.ep < 1
      · exact rcheck_out c ad cap (.inl h1)
      by_cases h2 : 1099511627776 < c.ep
      · exact rcheck_out c ad cap (.inr (.inl ⟨h1, h2⟩))
      · exact rcheck_out c ad cap (.inr (.inr (.inr ⟨h1, h2, beq_eq_false_iff_ne.2 (by omega), by omega⟩)))
    rw [chk_no hb] at this
    exact this : Calls Try.prog 60 #[chV c (.slice ad c.ms.length cap)] w' (ToldN (.int .i64 2) w')))
  clear h hb
  go_enter Try.func39, Try.ntmps39
  go_wp2_with (first
    | (go_at_call 60; (with_reducible refine (unhide HC _).mono ?_); rintro e w2 ⟨rfl, k2⟩)
    | ((with_reducible show wpList _ _ _ (_ :: _) _ _); first
      | (refine wpL_box rfl 31 _ rfl (chC c (.slice ad c.ms.length cap)) (by rfl) ?_; intro p w1 e1 k1 g1 z1; have G1 : ChAt w1 p c (.slice ad c.ms.length cap) := g1; clear e1 z1 g1)
      | (refine wpL_load rfl 31 (.tmp 1) rfl p rfl (chC c (.slice ad c.ms.length cap)) _ _ G1 _ Try.underlying31 rfl info_ch ?_)))
  go_ret2
  exact ⟨rfl, k1.andNo k2⟩
end
/-- the call's answer where all is a number -/
theorem numbers_yes {s : List UInt8} (hs : s.length ≤ 1000) {L : List Int} (h : Nums s L) (w : World) : Calls Try.prog 38 #[str s] w (fun e w' => ∃ ad cap, e = .returned (.slice ad L.length cap) ∧ NumAt w w' (.slice ad L.length cap) L) := by
  refine (numbers_any s hs w).mono ?_
  rintro e w3 ⟨v3, T, rfl, n3, t3, r3⟩
  obtain ⟨ad, cap, rfl, room, cells⟩ := n3.form
  rcases r3 with r3 | ⟨_, r3⟩
  · obtain rfl := nums_one h r3
    exact ⟨ad, cap, rfl, n3⟩
  · exact absurd h (r3 L)
theorem numbers_no {s : List UInt8} (hs : s.length ≤ 1000) (h : ∀ L, ¬ Nums s L) (w : World) : Calls Try.prog 38 #[str s] w (fun e w' => ∃ ad cap, e = .returned (.slice ad 0 cap) ∧ Chg noBlk w w') := by
  refine (numbers_any s hs w).mono ?_
  rintro e w3 ⟨v3, T, rfl, n3, t3, r3⟩
  obtain ⟨ad, cap, rfl, room, cells⟩ := n3.form
  rcases r3 with r3 | ⟨rfl, _⟩
  · exact absurd r3 (h T)
  · exact ⟨ad, cap, rfl, n3.chg⟩
set_option maxRecDepth 100000 in
set_option maxHeartbeats 1000000 in
theorem rget_few (s : List UInt8) (R0 : GotOf s cZero 10) (n : Nat) (N0 : ∀ w, Calls Try.prog 38 #[str s] w (fun e w' => ∃ ad cap, e = .returned (.slice ad n cap) ∧ Chg noBlk w w')) (hn : decide ((n : Int) < 5) = true) (w : World) : Calls Try.prog 22 #[str s] w (Got s w) := by
  have HN := hide N0
  have R := hide R0
  clear N0 R0
  go_enter Try.func22, Try.ntmps22
  go_wp2_with (first
    | (go_at_call 38; (with_reducible refine (unhide HN _).mono ?_); rintro e w3 ⟨ad, cap, rfl, k3⟩; have g3 := k3.at g2 id)
    | ((with_reducible show wpList _ _ _ (⟨_, _, _, _, _, none⟩ :: _) _ _); first
      | (refine wpL_alloc rfl 31 rfl _ zero_ch ?_; intro q w2 e2 k2 g2 z2; have E2 := hide (show w.heap.size ≤ q from Nat.le_of_eq e2); clear e2 z2)
      | (refine wpL_store rfl 31 (.tmp 2) (.tmp 21) rfl q (chC cZero (.slice none 0 0)) rfl (by rfl) _ _ g3 info_ch rfl cZero_one ?_; intro w4 k4 g4 z4; have K4 := (k2.andNo k3).past k4 (unhide E2); clear z4)))
  refine bodyPost_ret (ret_ch2 rfl _ _ q cZero _ rfl g4) rfl ?_
  exact ⟨cZero, 10, unhide R, newCE_zero K4⟩
set_option maxRecDepth 100000 in
set_option maxHeartbeats 1000000 in
theorem rget_even (s : List UInt8) (R0 : GotOf s cZero 10) (n : Nat) (N0 : ∀ w, Calls Try.prog 38 #[str s] w (fun e w' => ∃ ad cap, e = .returned (.slice ad n cap) ∧ Chg noBlk w w')) (hn : decide ((n : Int) < 5) = false) (h2 : ((n : Int) % 2 == 0) = true) (w : World) : Calls Try.prog 22 #[str s] w (Got s w) := by
  have HN := hide N0
  have R := hide R0
  clear N0 R0
  go_enter Try.func22, Try.ntmps22
  go_wp2_with (first
    | (go_at_call 38; (with_reducible refine (unhide HN _).mono ?_); rintro e w3 ⟨ad, cap, rfl, k3⟩; have g3 := k3.at g2 id)
    | ((with_reducible show wpList _ _ _ (⟨_, _, _, _, _, none⟩ :: _) _ _); first
      | (refine wpL_alloc rfl 31 rfl _ zero_ch ?_; intro q w2 e2 k2 g2 z2; have E2 := hide (show w.heap.size ≤ q from Nat.le_of_eq e2); clear e2 z2)
      | (refine wpL_store rfl 31 (.tmp 2) (.tmp 21) rfl q (chC cZero (.slice none 0 0)) rfl (by rfl) _ _ g3 info_ch rfl cZero_one ?_; intro w4 k4 g4 z4; have K4 := (k2.andNo k3).past k4 (unhide E2); clear z4)))
  refine bodyPost_ret (ret_ch2 rfl _ _ q cZero _ rfl g4) rfl ?_
  exact ⟨cZero, 10, unhide R, newCE_zero K4⟩
end Go.Proofs.Ytfplgmkbhpdmjaa.Ch
