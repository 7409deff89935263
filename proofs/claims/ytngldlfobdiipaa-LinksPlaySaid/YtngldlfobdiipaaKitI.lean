/-
  Facts of no program: a list of ints that is the call's own, in a slice of its own; a slice of bytes, handed in.
-/
import Derived.Test.YtngldlfobdiipaaKitL
import Derived.Laws.OwnMore
import Derived.OpenShut
namespace Go.Proofs.Ytngldlfobdiipaa
open Go.ChangeShapes Go.WideShapes Go.ChangeAt Go.RowKit
set_option linter.unusedVariables false
/-- the slice v, whose block is new since w0 and not b, holds the ints ts -/
structure Ints (e : TypeId) (w0 : World) (b : Nat) (w : World) (v : Value) (ts : List Int) : Prop where
  own : w.ownsRow 0 e 1 v ts.length (ts.map (.int .i64 ·))
  new : ∀ g, v.ownBlock = some g → w0.heap.size ≤ g ∧ g ≠ b
section
variable {e : TypeId} {w0 w w' : World} {b : Nat} {v v' : Value} {ts : List Int} {S : Nat → Prop}
theorem owns_kept {base size n : Nat} {xs : List Value} (h : w.ownsRow base e size v n xs) (k : Chg S w w') (hS : ∀ g, v.ownBlock = some g → ¬ S g) : w'.ownsRow base e size v n xs := by
  refine ⟨h.1, ?_⟩
  rcases h.2 with h2 | ⟨g, cap, cur, rfl, hb, hg, rest⟩
  · exact .inl h2
  · exact .inr ⟨g, cap, cur, rfl, hb, k.at hg (hS g rfl), rest⟩
theorem Ints.nil (e : TypeId) (w0 : World) (b : Nat) (w : World) : Ints e w0 b w (.slice none 0 0) [] := ⟨World.ownsRow_nil _ _ _ _, fun g h => by simp [Value.ownBlock] at h⟩
theorem Ints.kept (h : Ints e w0 b w v ts) (k : Chg S w w') (hS : ∀ g, w0.heap.size ≤ g → g ≠ b → ¬ S g) : Ints e w0 b w' v ts :=
  ⟨owns_kept h.own k fun g hg => hS g (h.new g hg).1 (h.new g hg).2, h.new⟩
/-- as a slice, with its cells -/
theorem Ints.cells (h : Ints e w0 b w v ts) : ∃ ad cap, v = .slice ad ts.length cap ∧ ∀ (j : Nat) t, ts[j]? = some t → ∃ g, ad = some ⟨g, 0, none⟩ ∧ w.cell? ⟨g, j, none⟩ = some (.int .i64 t) := by
  rcases h.own.2 with ⟨rfl, h2⟩ | ⟨g, cap, cur, rfl, hb, hg, hn, hm, hc, ht⟩
  · refine ⟨none, 0, ?_, fun j t hj => ?_⟩
    · rw [h2]
    · have : ts = [] := List.eq_nil_of_length_eq_zero h2
      rw [this] at hj; simp at hj
  · refine ⟨_, cap, rfl, fun j t hj => ⟨g, rfl, cellAt hg j _ ?_⟩⟩
    have h1 : (ts.map (Value.int .i64 ·))[j]? = some (.int .i64 t) := by simp [hj]
    rw [← ht, List.getElem?_take] at h1
    split at h1
    · simpa using h1
    · cases h1
/-- one more behind them -/
theorem Ints.push {t : Int} (h : Ints e w0 b w v ts) (o : w'.ownsRow 0 e 1 v' (ts.length + 1) (ts.map (.int .i64 ·) ++ [.int .i64 t])) (hv : v'.ownBlock = v.ownBlock ∨ v'.ownBlock = some w.heap.size) (hw : w0.heap.size ≤ w.heap.size) (hb : b < w.heap.size) : Ints e w0 b w' v' (ts ++ [t]) := by
  refine ⟨by simpa using o, fun g hg => ?_⟩
  rcases hv with hv | hv
  · exact h.new g (hv ▸ hg)
  · rw [hv] at hg
    simp at hg
    subst hg
    exact ⟨hw, by omega⟩
/-- one int in a slice of its own -/
theorem reads_new (w : World) (x : Value) (hx : x.oneCell' = true) : Reads (w.alloc (.cells #[x] e)) 1 (.slice (some ⟨w.heap.size, 0, none⟩) 1 1) 1 [x] := by
  refine ⟨by simp, by simpa using hx, .inr ⟨_, 1, rfl, Nat.le_refl _, fun j u hu => ?_⟩⟩
  obtain ⟨rfl, rfl⟩ : j = 0 ∧ u = x := by
    match j, hu with
    | 0, hu => exact ⟨rfl, by simpa using hu.symm⟩
  rw [Addr.add_mid]
  exact cellAt (heap_alloc_new w (.cells #[u] e)) 0 _ rfl
end
/-- a byte, as a slice's element -/
def byteCells' (n : Nat) : List Value := [.int .u8 (n : Int)]
theorem trod_u8 {H : Type} {P : Program} {t : TypeId} {enc : TypeId × Value → H} {w : World} {base : Nat} {spare : Nat → Bool} {held : Bool} {fuel : Nat} {cs : List Value} {x : DataW H × List MemPlace} (hu : P.underlying t = some (.int .u8))
    (h : DataW.trod enc P w base spare held fuel t cs = some x) : ∃ n : Nat, cs = byteCells' n ∧ n ≤ 255 := by
  obtain ⟨y, hy, _, wy⟩ := DataW.trod_int hu h
  obtain ⟨p0, q0⟩ := bounds_u8 wy
  obtain ⟨q, rfl⟩ := Int.eq_ofNat_of_zero_le p0
  exact ⟨q, hy, by omega⟩
#print axioms trod_u8
end Go.Proofs.Ytngldlfobdiipaa
