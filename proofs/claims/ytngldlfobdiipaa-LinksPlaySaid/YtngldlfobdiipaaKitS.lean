/-
  Facts of no program: append at a step of a region that draws its order.
-/
import Derived.Test.YtngldlfobdiipaaKitO
namespace Go.Proofs.Ytngldlfobdiipaa
open Go.ChangeShapes Go.WideShapes Go.ChangeAt Go.RowKit
set_option linter.unusedVariables false
theorem setCells_chg (w : World) (b : Nat) : ∀ (vs : List Value) (o : Nat), Chg (oneBlk b) w (w.setCells b o vs)
  | [], _ => Chg.refl _ _
  | v :: r, o => (setCell_chg w b o v).trans (setCells_chg (w.setCell ⟨b, o, none⟩ v) b r (o + 1)) fun _ _ e => e
section
variable {P : Program} {w : World}
/-- what append leads to -/
theorem run_append_any (t ty e : TypeId) (z : Value) (size bytes : Nat) (ht : P.underlying t = some (.slice e)) (hi : (P.info? e).map (fun i => (i.zero, i.size, i.bytes)) = some (some z, size, bytes)) (hzs : z.cells.size = size) (hsz : 0 < size)
    (v : Value) (n : Nat) (xs : List Value) (hown : w.ownsRow 0 e size v n xs) (y : Value) (m : Nat) (news : List Value) (hr : Reads w size y m news) (h63 : n + m ≤ maxLen) (hbytes : (n + m) * bytes ≤ 140737488355328) :
    ∃ v' w', (Builtin.append_ #[t, t] ty #[v, y]).run P w = .ok v' w' ∧ Chg (fun k => v.ownBlock = some k) w w' ∧ w'.ownsRow 0 e size v' (n + m) (xs ++ news) ∧ (v'.ownBlock = v.ownBlock ∨ v'.ownBlock = some w.heap.size) := by
  cases hq : P.info? e with
  | none => simp [hq] at hi
  | some i =>
    simp only [hq, Option.map_some, Option.some.injEq, Prod.mk.injEq] at hi
    obtain ⟨hz, hsize, hby⟩ := hi
    obtain ⟨hl, h1, hh⟩ := hr
    rcases hh with ⟨rfl, rfl⟩ | ⟨ad, cap, rfl, _, hc⟩
    · have hn : news = [] := List.eq_nil_of_length_eq_zero (by simpa using hl)
      subst hn
      refine ⟨v, w, run_append_owned_none (P := P) (w := w) 0 t ty e i size ht hq v n xs hown, Chg.refl _ _, by simpa using hown, .inl rfl⟩
    · obtain ⟨v', w', hr, h2, h3, _, h5⟩ := run_append_own_at (P := P) w 0 t ty e i z size bytes ht hq hz hsize hby hzs hsz v n xs hown ad m cap news hl hc h1 h63 hbytes (Nat.zero_le _)
      exact ⟨v', w', hr, (Chg.grown w h3).mono fun _ _ e => e.symm, h2, h5⟩
theorem step_append {ops : Array Oper} {o : Oper} {a : Act} {K : Act → World → Prop} {Q : Exit → Act → World → Prop} {E : Prop} (hgd : o.guard = none) (s x : Operand) (t : TypeId) (ho : o.op = .call { callee := .builtin .append, args := #[s, x], argTypes := #[t, t] })
    (e : TypeId) (z : Value) (size bytes : Nat) (ht : P.underlying t = some (.slice e)) (hi : (P.info? e).map (fun i => (i.zero, i.size, i.bytes)) = some (some z, size, bytes)) (hzs : z.cells.size = size) (hsz : 0 < size)
    (v : Value) (n : Nat) (xs : List Value) (hs : a.eval s = v) (hown : w.ownsRow 0 e size v n xs) (y : Value) (m : Nat) (news : List Value) (hx : a.eval x = y) (hr : Reads w size y m news) (h63 : n + m ≤ maxLen) (hbytes : (n + m) * bytes ≤ 140737488355328)
    (h : ∀ v' w', Chg (fun k => v.ownBlock = some k) w w' → w'.ownsRow 0 e size v' (n + m) (xs ++ news) → (v'.ownBlock = v.ownBlock ∨ v'.ownBlock = some w.heap.size) → K (a.put o.dst v') w') :
    if Region.wanted o (yielded ops a.tmps) = true then Oper.wp P o a w K Q else E := by
  have hw : Region.wanted o (yielded ops a.tmps) = true := by simp [Region.wanted, hgd]
  rw [if_pos hw]
  obtain ⟨v', w', hr, h2, h3, h4⟩ := run_append_any (P := P) t o.type e z size bytes ht hi hzs hsz v n xs hown y m news hr h63 hbytes
  unfold Oper.wp execOp
  simp only [ho, resolve, invoke, builtin, Sem.run_bind, Sem.run_pure, Result.andThen_ok, List.map_toArray, List.map_cons, List.map_nil, hs, hx, hr]
  exact h v' w' h2 h3 h4
theorem step_clone {ops : Array Oper} {o : Oper} {a : Act} {K : Act → World → Prop} {Q : Exit → Act → World → Prop} {E : Prop} (hgd : o.guard = none) (x : Operand) (t : TypeId) (ho : o.op = .call { callee := .builtin .append, args := #[.const (.slice none 0 0), x], argTypes := #[t, t] })
    (e : TypeId) (z : Value) (size bytes : Nat) (ht : P.underlying t = some (.slice e)) (hi : (P.info? e).map (fun i => (i.zero, i.size, i.bytes)) = some (some z, size, bytes)) (hzs : z.cells.size = size) (hsz : 0 < size)
    (y : Value) (m : Nat) (news : List Value) (hx : a.eval x = y) (hr : Reads w size y m news) (h63 : m ≤ maxLen) (hbytes : m * bytes ≤ 140737488355328)
    (h : ∀ v' w', Chg noBlk w w' → w'.ownsRow 0 e size v' m news → (∀ k, v'.ownBlock = some k → k = w.heap.size) → v'.oneCell' = true → K (a.put o.dst v') w') :
    if Region.wanted o (yielded ops a.tmps) = true then Oper.wp P o a w K Q else E := by
  refine step_append hgd _ x t ho e z size bytes ht hi hzs hsz (.slice none 0 0) 0 [] rfl (World.ownsRow_nil _ _ _ _) y m news hx hr (by omega) (by simpa using hbytes) fun v' w' k o1 o2 => ?_
  rw [Nat.zero_add, List.nil_append] at o1
  refine h v' w' (k.mono fun _ _ e => by simp [Value.ownBlock] at e) o1 (fun k hk => ?_) ?_
  · rcases o2 with o2 | o2 <;> rw [hk] at o2 <;> simp_all [Value.ownBlock]
  · rcases o1.2 with ⟨rfl, _⟩ | ⟨g, cap, cur, rfl, _⟩ <;> rfl
end
/-- cells in the midst of a block written -/
theorem wpL_store_mid {P : Program} {w : World} {ops : Array Oper} {rest : List Oper} {o : Oper} {a : Act} {Q : Exit → Act → World → Prop} (hgd : o.guard = none) (T : TypeId) (x y : Operand) (ho : o.op = .store T x y) (b k : Nat) (cs : Array Value) (hx : a.eval x = .pointer (some ⟨b, k, none⟩)) (hy : a.eval y = .agg cs)
    (ht : w.there b k cs.size) (hi : (P.info? T).map (·.size) = some cs.size) (h1 : cs.all (·.oneCell') = true)
    (h : ∀ w', Chg (oneBlk b) w w' → (∀ b' o' n', w.there b' o' n' → w'.there b' o' n') → wpList P ops Q rest (a.put o.dst undef) w') : wpList P ops Q (o :: rest) a w :=
  wpList_store_mid hgd T x y ho b k cs hx hy ht hi h1 (h _ (setCells_chg w b cs.toList k) fun b' o' n' h => World.there_setCells h _ _ _)
#print axioms step_clone
#print axioms wpL_store_mid
end Go.Proofs.Ytngldlfobdiipaa
