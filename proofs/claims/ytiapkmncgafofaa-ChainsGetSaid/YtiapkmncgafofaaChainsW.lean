/-
  Chains: contracts of what the laws share: what is more than is gone through; the chapter's chain.
-/
import Derived.Test.YtiapkmncgafofaaChainsM
import Derived.Test.YtiapkmncgafofaaChainsN
namespace Go.Proofs.Ytiapkmncgafofaa
open Go.ChangeShapes Go.WideShapes Go.ChangeAt Go.RowKit
set_option linter.unusedVariables false
def greatB (c : CT) : Bool := decide (12 < (c.ms.length : Int))
theorem greatB_no {c : CT} (h : greatB c = false) : c.ms.length ≤ 12 := by simp [greatB] at h; omega
set_option maxRecDepth 100000 in
theorem great_any (c : CT) (ad : Option Addr) (cap : Nat) (w : World) : Calls Try.prog 8 #[chV c (.slice ad c.ms.length cap)] w (ToldN (.bool (greatB c)) w) := by
  go_enter Try.func8, Try.ntmps8
  go_wp2_with ((with_reducible show wpList _ _ _ (_ :: _) _ _); refine wpL_box rfl 24 _ rfl (chC c (.slice ad c.ms.length cap)) (by rfl) ?_; intro p w1 e1 k1 g1 z1; have G1 : ChAt w1 p c (.slice ad c.ms.length cap) := g1; have c1 := G1.c1; clear e1 z1 g1)
  go_ret
  exact ⟨rfl, k1⟩
def cL : CT := ⟨3, [⟨2, 1⟩, ⟨0, 3⟩], -1⟩
def cW : CT := ⟨4, [⟨2, 1⟩, ⟨0, 3⟩, ⟨1, 4⟩], -1⟩
def cO : CT := ⟨4, [⟨0, 3⟩], -1⟩
def cD : CT := ⟨4, [⟨2, 1⟩, ⟨0, 3⟩], 0⟩
theorem lk1 : withF cL 1 = cW ∧ withE cL 1 = 0 := by decide
theorem lk2 : woF cL 2 = cO ∧ goE cL 2 = 0 := by decide
theorem lk3 : drainF cL 0 = cD ∧ drainE cL 0 = 0 := by decide
theorem lk4 : drainF cD 2 = cZero ∧ drainE cD 2 = 62 := by decide
theorem lk5 : headF cL = 2 ∧ tailF cL = 0 ∧ stepF cL 2 1 = 0 ∧ stepF cL 2 (-1) = -1 := by decide
/-- a slice of two members -/
theorem wpL_two {ops : Array Oper} {rest : List Oper} {o : Oper} {a : Act} {w : World} {Q : Exit → Act → World → Prop} (hgd : o.guard = none) (x y : Operand) (ho : o.op = .buildSlice 22 2 #[(0, x), (1, y)]) (n1 s1 n2 s2 : Int) (hx : a.eval x = .agg #[.int .i64 n1, .int .i64 s1]) (hy : a.eval y = .agg #[.int .i64 n2, .int .i64 s2])
    (h : ∀ (b : Nat) (w' : World), w.heap.size = b → Chg noBlk w w' → w'.heap[b]? = some (.cells #[.int .i64 n1, .int .i64 s1, .int .i64 n2, .int .i64 s2] 37 (0, 0)) → w'.heap.size = b + 1 → wpList Try.prog ops Q rest (a.put o.dst (.slice (some ⟨b, 0, none⟩) 2 2)) w') : wpList Try.prog ops Q (o :: rest) a w := by
  have hi := infx_mem
  cases hq : Try.prog.info? 37 with
  | none => simp [hq] at hi
  | some i =>
    simp only [hq, Option.map_some, Option.some.injEq, Prod.mk.injEq] at hi
    obtain ⟨h1, h2, _⟩ := hi
    refine wpList_buildSlice hgd 22 37 2 #[(0, x), (1, y)] ho #[.int .i64 n1, .int .i64 s1, .int .i64 n2, .int .i64 s2] i (.agg mZero.cells.toArray) Try.underlying22 hq h1 (by rw [h2]; omega) (by rw [h2]; omega) ?_ (h _ _ rfl ((Chg.refl _ _).alloc _) (heap_alloc_new w _) (by simp))
    simp only [List.map_toArray, List.map_cons, List.map_nil, hx, hy, h2]
    have hA : ∀ A : Array Value, A.size = 4 → Instr.fill (fun i => some (i * 2, 2)) A [(0, .agg #[.int .i64 n1, .int .i64 s1]), (1, .agg #[.int .i64 n2, .int .i64 s2])] = some #[.int .i64 n1, .int .i64 s1, .int .i64 n2, .int .i64 s2] := fun A hA => by
      obtain ⟨l⟩ := A
      simp at hA
      match l, hA with
      | [a, b, c, d], _ => simp [Instr.fill, Value.cells]
    exact hA _ (by simp)
theorem sl_lit {w : World} {b : Nat} {n1 s1 n2 s2 : Int} (h : w.heap[b]? = some (.cells #[.int .i64 n1, .int .i64 s1, .int .i64 n2, .int .i64 s2] 37 (0, 0))) : Sl w (some ⟨b, 0, none⟩) 2 [⟨n1, s1⟩, ⟨n2, s2⟩] := by
  refine ⟨fun i x hx => ⟨trivial, b, 0, rfl, fun j u hu => ?_⟩, by simp, by simp, fun h => by cases h⟩
  refine cellAt h _ _ ?_
  rcases i with _ | _ | i
  · simp at hx; subst hx
    rcases j with _ | _ | j
    · simpa [MT.cells] using hu
    · simpa [MT.cells] using hu
    · simp [MT.cells] at hu
  · simp at hx; subst hx
    rcases j with _ | _ | j
    · simpa [MT.cells] using hu
    · simpa [MT.cells] using hu
    · simp [MT.cells] at hu
  · simp at hx
end Go.Proofs.Ytiapkmncgafofaa
