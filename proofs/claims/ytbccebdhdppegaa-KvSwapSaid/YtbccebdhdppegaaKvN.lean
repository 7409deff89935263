/-
  Keys with values: a swap is done, or tells why.
-/
import Derived.Test.YtbccebdhdppegaaKvM
import Derived.Deep.DeepCutAuto
namespace Go.Proofs.Ytbccebdhdppegaa
open Go.ChangeShapes Go.WideShapes Go.ChangeAt Go.RowKit
set_option linter.unusedVariables false
attribute [local go_sem] bs_size bs_app bs_cut bs_tl bs_at
attribute [local go_sem ↓] eq_res
theorem zero_op : (Try.prog.info? 29).bind (·.zero) = some (.agg (PT.cells ⟨0, [], [], 0⟩).toArray) := by kernel_rfl
theorem info_int : (Try.prog.info? 3).map (·.size) = some 1 := by kernel_rfl
/-- where the acts stand -/
def SwapAt (w0 : World) (b m q : Nat) (o : PT) (len : Nat) (i : Value) (w : World) : Prop :=
  ∃ (k : Nat) (L : List KV), k ≤ len ∧ i = .int .i64 (k : Int) ∧ StAt w b m L ∧ OpAt w q (swp o 0) ∧ L.length ≤ k ∧ Vers L ∧ Keyd L ∧ Chg noBlk w0 w
theorem set0 {w w' : World} {q : Nat} {o : PT} (h : w'.heap[q]? = some (.cells (o.cells.toArray.setIfInBounds 0 (.int .i64 4)) 29 (0, 0))) : OpAt w' q ⟨4, o.key, o.val, o.ver⟩ := h
theorem set3 {w w' : World} {q : Nat} {o : PT} (v : Int) (h : w'.heap[q]? = some (.cells (o.cells.toArray.setIfInBounds 3 (.int .i64 v)) 29 (0, 0))) : OpAt w' q ⟨o.k, o.key, o.val, v⟩ := h
set_option maxRecDepth 100000 in
set_option maxHeartbeats 4000000 in
theorem swap_out (ad : Option Addr) (l : List AT) (cap : Nat) (o : PT) (ver : Int) (w : World) (h : ActsIn w ad l) (hm : l.length ≤ 9223372036854775807) (hb : greatL l 60 = true ∨ chk (swp o 0) ≠ 0) :
    Calls Try.prog 5 #[.slice ad l.length cap, .agg o.cells.toArray, .int .u16 ver] w (ToldN (.bool true) w) := by
  have HG := hide (fun w' (c : Chg noBlk w w') => great_any ad l cap 60 w' (by omega) (fun i a e => by obtain ⟨ok, b, off, e1, e2⟩ := h i a e; exact ⟨ok, b, off, e1, range_kept e2 c⟩) hm)
  have C := fun w => check_any (swp o 0) w
  obtain ⟨n, hn⟩ : ∃ n, chk (swp o 0) = n := ⟨_, rfl⟩
  obtain ⟨g, hg⟩ : ∃ g, greatL l 60 = g := ⟨_, rfl⟩
  rw [hn] at C hb
  rw [hg] at HG hb
  have HC := hide C
  clear C h hm hn hg
  have hw : g = true ∨ (g = false ∧ (n != 0) = true) := by
    cases g
    · exact .inr ⟨rfl, by simpa using hb⟩
    · exact .inl rfl
  clear hb
  rcases hw with rfl | ⟨rfl, d1⟩
  all_goals
    have t1 : True := True.intro
    go_enter Try.func5, Try.ntmps5
    go_wp2_with (first
      | (go_at_call 6; refine (unhide HG _ K3).mono ?_; rintro e w4 ⟨rfl, k4⟩; have Q4 := Q3.no k4; have c0 : _ = some (Value.int .i64 4) := Q4.c0; have c1 := Q4.c1; have c2 := Q4.c2; have c3 : _ = some (Value.int .i64 0) := Q4.c3)
      | (go_at_call 18; refine (unhide HC _).mono ?_; rintro e w5 ⟨rfl, k5⟩)
      | (go_at_call 7; (with_reducible refine (stored_any _).mono ?_); rintro e w6 ⟨rfl, k6⟩)
      | ((with_reducible show wpList _ _ _ (_ :: _) _ _); first
        | (clear t1; refine wpL_box rfl 29 (.tmp 1) rfl o.cells.toArray rfl ?_; intro q w1 e1 k1 g1 z1; have eq0 : w.heap.size ≤ q := Nat.le_of_eq e1; clear e1 z1)
        | (refine wpL_set rfl 3 (.tmp 16) (.const (.int .i64 4)) rfl q 0 (.int .i64 4) rfl rfl rfl info_int _ _ g1 (by show 0 < 4; omega) ?_; intro w2 k2 g2 z2; have Q2 := set0 (w := w) g2; clear g2 z2)
        | (refine wpL_set rfl 3 (.tmp 17) (.const (.int .i64 0)) rfl q 3 (.int .i64 0) rfl rfl rfl info_int _ _ Q2 (by show 3 < 4; omega) ?_; intro w3 k3 g3 z3; have Q3 : OpAt w3 q (swp o 0) := set3 (w := w) 0 g3; have K3 := (k1.past k2 eq0).past k3 eq0; clear g3 z3)))
    go_ret
    first
      | exact ⟨rfl, (K3.andNo k4).andNo k6⟩
      | exact ⟨rfl, ((K3.andNo k4).andNo k5).andNo k6⟩
end Go.Proofs.Ytbccebdhdppegaa
