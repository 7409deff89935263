/-
  Keys with values: the map where it lies; what is looked up, written, taken out.
-/
import Derived.Test.YtfffgegdcgfakaaKvB
import Derived.Test.YtfffgegdcgfakaaShelf
import Derived.Deep.QuietTactic
import Derived.BigQuiet
import Derived.StringKeys
import Derived.Deep.RegionHeld3
namespace Go.Proofs.Ytfffgegdcgfakaa
open Go.ChangeShapes Go.WideShapes Go.ChangeAt Go.RowKit
set_option linter.unusedVariables false
attribute [local go_sem] bs_size bs_app bs_cut bs_tl bs_at
/-- how what stands under a key reads -/
def cellR (v : Value) : Option (DataW Unit × List MemPlace) := match v with
  | .agg cs => match cs.toList with
    | [.string s, .int .i64 a] => some (.agg [.lit (.string s.data.toList), .lit (.int .i64 a)], [])
    | _ => none
  | _ => none
theorem cellR_mk (v : List UInt8) (n : Int) : cellR (.agg #[str v, .int .i64 n]) = some (.agg [.lit (.string v), .lit (.int .i64 n)], []) := by
  show some ((DataW.agg [.lit (.string (bs v).data.toList), .lit (.int .i64 n)] : DataW Unit), ([] : List MemPlace)) = _
  rw [bs_toList]
theorem cellR_inv {x : Value} {z : DataW Unit × List MemPlace} (h : cellR x = some z) : ∃ (v : List UInt8) (n : Int), x = .agg #[str v, .int .i64 n] ∧ z = (.agg [.lit (.string v), .lit (.int .i64 n)], []) := by
  unfold cellR at h
  split at h
  · rename_i cs
    split at h
    · rename_i s a hs
      simp only [Option.some.injEq] at h
      refine ⟨s.data.toList, a, ?_, h.symm⟩
      have : cs = #[.string s, .int .i64 a] := Array.toList_inj.1 hs
      rw [this, str, ← bs_list]
    · cases h
  · cases h
theorem keyed : Maps.Keyed Try.prog 9 := Maps.string_keyed Try.underlying9
theorem key_of {k : List UInt8} (h : k.length ≤ maxLen) : keyOf Try.prog 9 (str k) = some (.string k) := by
  have := WideMaps.keyOf_string_mk (P := Try.prog) Try.underlying9 (s := bs k) (by rw [bs_size]; exact h)
  rwa [bs_toList] at this
theorem zero_cell (w : World) : (zeroValue 82).run Try.prog w = .ok (.agg #[str [], .int .i64 0]) w := by kernel_rfl
/-- a map at m that has L -/
def MapAt (w : World) (m : Nat) (L : List KV) : Prop := w.ownsMap Try.prog 9 cellR m L.length (dat L)
theorem own_tight {P : Program} {k : TypeId} {R : Value → Option (DataW Unit × List MemPlace)} {w : World} {b n : Nat} {L : List KV} (h : w.ownsMap P k R b n (dat L)) : w.ownsMap P k R b L.length (dat L) := by
  obtain ⟨es, clock, h1, h2, h3, h4⟩ := h
  refine ⟨es, clock, h1, h2, ?_, h4⟩
  have := congrArg Maps.size h4
  rw [dat_size] at this
  simp [Maps.size, length_sorted] at this
  omega
theorem chg_turned {w w' : World} {b : Nat} (h : w.mapTurned w' b) : Chg (oneBlk b) w w' ∧ w'.heap.size = w.heap.size := by
  have g := h.grown
  refine ⟨(Chg.grown w g).mono fun i _ e => (Option.some.inj e : i = b), ?_⟩
  obtain ⟨es, clock, es', clock', hb, rfl⟩ := h
  simp [ChangeMaps.setBlock]
theorem chg_grows {w w' : World} {b : Option Nat} (h : Chg (fun k => some k = b) w w') : w.grownBy w' b := ⟨h.os, h.tape, h.output, h.size, fun i hi e => h.block i hi e⟩
section
variable {w w' : World} {m : Nat} {L : List KV} {S : Nat → Prop}
theorem MapAt.lt (h : MapAt w m L) : m < w.heap.size := World.ownsMap.lt h
theorem MapAt.kept (h : MapAt w m L) (k : Chg S w w') (hn : ¬ S m) : MapAt w' m L := by
  obtain ⟨es, clock, h1, h2⟩ := h
  exact ⟨es, clock, k.at h1 hn, h2⟩
theorem MapAt.no (h : MapAt w m L) (k : Chg noBlk w w') : MapAt w' m L := h.kept k id
theorem MapAt.rise (h : MapAt w m L) : Rise L := dat_rise (h.canon keyed)
theorem MapAt.look_ok (h : MapAt w m L) {k : List UInt8} (hk : k.length ≤ maxLen) : (Instr.lookup 77 (.map (some m)) (str k) true).run Try.prog w = .ok (.tuple #[.agg #[str (look L k 0).val, .int .i64 (look L k 0).ver], .bool (fnd L k).isSome]) w := by
  obtain ⟨v, ps, hrun, hR⟩ := World.ownsMap.look_ok h keyed Try.underlying77 (zero_cell w) (cellR_mk [] 0) (key_of hk)
  rw [hrun, dat_has]
  obtain ⟨u, n, rfl, hz⟩ := cellR_inv hR
  rw [dat_at] at hz
  cases hf : fnd L k with
  | none =>
    rw [hf] at hz
    simp at hz
    rw [look_none hf, hz.1.1, hz.1.2]
  | some c =>
    rw [hf] at hz
    simp [ent] at hz
    rw [look_some hf, hz.1.1, hz.1.2]
theorem MapAt.look1 (h : MapAt w m L) {k : List UInt8} (hk : k.length ≤ maxLen) : (Instr.lookup 77 (.map (some m)) (str k) false).run Try.prog w = .ok (.agg #[str (look L k 0).val, .int .i64 (look L k 0).ver]) w := by
  obtain ⟨v, ps, hrun, hR⟩ := World.ownsMap.lookup h keyed Try.underlying77 (zero_cell w) (cellR_mk [] 0) (key_of hk)
  rw [hrun]
  obtain ⟨u, n, rfl, hz⟩ := cellR_inv hR
  rw [dat_at] at hz
  cases hf : fnd L k with
  | none =>
    rw [hf] at hz
    simp at hz
    rw [look_none hf, hz.1.1, hz.1.2]
  | some c =>
    rw [hf] at hz
    simp [ent] at hz
    rw [look_some hf, hz.1.1, hz.1.2]
theorem MapAt.upd (h : MapAt w m L) (c : KV) (hk : c.key.length ≤ maxLen) (hn : L.length < maxLen) : ∃ w', (Instr.mapUpdate 77 (.map (some m)) (str c.key) (.agg #[str c.val, .int .i64 c.ver])).run Try.prog w = .ok () w' ∧ MapAt w' m (put L c) ∧ Chg (oneBlk m) w w' ∧ w'.heap.size = w.heap.size := by
  obtain ⟨w', h1, h2, h3⟩ := World.ownsMap.store h keyed Try.underlying77 hn (key_of hk) (cellR_mk c.val c.ver)
  have h2' : w'.ownsMap Try.prog 9 cellR m (L.length + 1) (dat (put L c)) := by rw [← dat_put]; exact h2
  exact ⟨w', h1, own_tight h2', (chg_turned h3).1, (chg_turned h3).2⟩
theorem MapAt.drop (h : MapAt w m L) {k : List UInt8} (hk : k.length ≤ maxLen) (ty : TypeId) : ∃ w', (Builtin.delete_ #[77, 9] ty #[.map (some m), str k]).run Try.prog w = .ok (.tuple #[]) w' ∧ MapAt w' m (del L k) ∧ Chg (oneBlk m) w w' ∧ w'.heap.size = w.heap.size := by
  obtain ⟨w', h1, h2, h3⟩ := World.ownsMap.drop h keyed Try.underlying77 (key_of hk) ty
  rw [dat_del] at h2
  exact ⟨w', h1, own_tight h2, (chg_turned h3).1, (chg_turned h3).2⟩
theorem MapAt.len (h : MapAt w m L) (ty : TypeId) : (Builtin.len_ #[77] ty #[.map (some m)]).run Try.prog w = .ok (.int .i64 (L.length : Int)) w := by
  rw [World.ownsMap.len h Try.underlying77 ty, dat_size]
end
theorem map_made (w : World) : MapAt (w.alloc (.map #[] 0)) w.heap.size [] := World.ownsMap_made w Try.prog 9 cellR
theorem run_map_nil {P : Program} (w : World) (t k e : TypeId) (p : Option Nat) (h : P.underlying t = some (.map k e)) : (binOp .eql t (.map p) (.map none)).run P w = .ok (.bool p.isNone) w := by
  have e : ∀ d, (Op.equalIn (d + 1) t (.map p) (.map none)).run P w = .ok p.isNone w := fun d => by
    cases p <;> simp [Op.equalIn, run_underlying h]
  have e := e 9999
  simp only [binOp]
  simp [show Op.equal t (.map p) (.map none) = Op.equalIn (9999 + 1) t (.map p) (.map none) from rfl, e]
theorem run_map_some (w : World) (m : Nat) : (binOp .eql 77 (.map (some m)) (.map none)).run Try.prog w = .ok (.bool false) w := run_map_nil w _ _ _ (some m) Try.underlying77
theorem run_map_none (w : World) : (binOp .eql 77 (.map none) (.map none)).run Try.prog w = .ok (.bool true) w := run_map_nil w _ _ _ none Try.underlying77
/-- a store at b, its map at m, that has L -/
structure StAt (w : World) (b m : Nat) (L : List KV) : Prop where
  p : w.heap[b]? = some (.cells #[.map (some m)] 79 (0, 0))
  m : MapAt w m L
section
variable {w w' : World} {b m : Nat} {L : List KV} {S : Nat → Prop}
theorem StAt.lt (h : StAt w b m L) : b < w.heap.size := lt_of_block h.p
theorem StAt.ne (h : StAt w b m L) : b ≠ m := fun e => by
  obtain ⟨es, clock, h1, _⟩ := h.m
  have := h.p
  rw [e, h1] at this
  cases this
theorem StAt.c0 (h : StAt w b m L) : w.cell? ⟨b, 0, none⟩ = some (.map (some m)) := cellAt h.p 0 _ rfl
theorem StAt.kept (h : StAt w b m L) (k : Chg S w w') (hb : ¬ S b) (hm : ¬ S m) : StAt w' b m L := ⟨k.at h.p hb, h.m.kept k hm⟩
theorem StAt.no (h : StAt w b m L) (k : Chg noBlk w w') : StAt w' b m L := h.kept k id id
theorem isnone_at (h : StAt w b m L) : Calls Try.prog 39 #[.pointer (some ⟨b, 0, none⟩)] w (Told (.bool false) w) := by
  have c0 := h.c0
  have hq := fun w => run_map_some w m
  clear h
  go_enter Try.func39, Try.ntmps39
  go_wp2
  go_ret
  exact ⟨rfl, rfl⟩
theorem isnone_nil (w : World) : Calls Try.prog 39 #[.pointer none] w (Told (.bool true) w) := by
  go_enter Try.func39, Try.ntmps39
  go_wp2
  go_ret
  exact ⟨rfl, rfl⟩
theorem isnone_zero (c0 : w.cell? ⟨b, 0, none⟩ = some (.map none)) : Calls Try.prog 39 #[.pointer (some ⟨b, 0, none⟩)] w (Told (.bool true) w) := by
  have hq := fun w => run_map_none w
  go_enter Try.func39, Try.ntmps39
  go_wp2
  go_ret
  exact ⟨rfl, rfl⟩
end
theorem clone_n (l : List UInt8) (h : l.length ≤ 1048576) (w : World) : Calls Try.prog 33 #[str l] w (ToldN (str l) w) := by
  have C := fun w => Try.stringslite_Clone (bs l) w (by rw [bs_size]; omega)
  have HC := hide C
  clear C
  go_enter Try.func33, Try.ntmps33
  go_wp2_with (go_at_call 47; (with_reducible refine (unhide HC _).mono ?_); rintro e w1 ⟨rfl, hb⟩)
  go_ret
  exact ⟨rfl, Chg.ofBelow hb⟩
end Go.Proofs.Ytfffgegdcgfakaa
