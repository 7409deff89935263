/-
  Keys with values: the document's cells as a slice; what it tells of a key.
-/
import Derived.Test.YtfffgegdcgfakaaLogsM
import Derived.Test.YtfffgegdcgfakaaKitS
import Derived.StillTailTactics
namespace Go.Proofs.Ytfffgegdcgfakaa
open Go.ChangeShapes Go.WideShapes Go.ChangeAt Go.RowKit
set_option linter.unusedVariables false
attribute [local go_sem] bs_size bs_app bs_cut bs_tl bs_at
abbrev CellsIn (w : World) (ad : Option Addr) (L : List KV) : Prop := RowsIn KV.cells (fun _ => True) 3 w ad L
/-- a slice of the document's cells -/
structure SlC (w : World) (ad : Option Addr) (cap : Nat) (L : List KV) : Prop where
  le : L.length ≤ cap
  few : cap ≤ maxLen
  nil : ad = none → cap = 0
  at_ : ∀ a, ad = some a → ∃ g off, a = ⟨g, off, none⟩
  cells : CellsIn w ad L
  ty : ∀ g off, ad = some ⟨g, off, none⟩ → ∃ cur f, w.heap[g]? = some (.cells cur 87 f)
section
variable {w w' : World} {ad : Option Addr} {cap : Nat} {L : List KV}
theorem cells_no (h : CellsIn w ad L) (k : Chg noBlk w w') : CellsIn w' ad L := fun i c hc => by
  obtain ⟨t, g, off, e, hr⟩ := h i c hc
  exact ⟨t, g, off, e, range_kept hr k⟩
theorem SlC.no (h : SlC w ad cap L) (k : Chg noBlk w w') : SlC w' ad cap L := ⟨h.le, h.few, h.nil, h.at_, cells_no h.cells k, fun g off e => by
  obtain ⟨cur, f, hb⟩ := h.ty g off e
  exact ⟨cur, f, k.at hb id⟩⟩
theorem slc_nil (w : World) : SlC w none 0 [] := ⟨by simp, by unfold maxLen; omega, fun _ => rfl, (fun a h => by cases h), (fun i c h => by simp at h), (fun g off h => by cases h)⟩
/-- the cells one behind the other -/
def flat (L : List KV) : List Value := (L.map KV.cells).flatten
theorem flat_cells (L : List KV) : ∀ c ∈ L.map KV.cells, c.length = 3 := fun c hc => by
  obtain ⟨x, _, rfl⟩ := List.mem_map.1 hc; rfl
theorem flat_length (L : List KV) : (flat L).length = L.length * 3 := by
  unfold flat; rw [flat_len 3 _ (flat_cells L), List.length_map]
theorem flat_one (L : List KV) : ∀ u ∈ flat L, u.oneCell' = true := fun u hu => by
  obtain ⟨c, hc, hu⟩ := List.mem_flatten.1 hu
  obtain ⟨x, _, rfl⟩ := List.mem_map.1 hc
  exact x.one u hu
theorem flat_app (L M : List KV) : flat L ++ flat M = flat (L ++ M) := by unfold flat; simp
theorem flat_get {L : List KV} {i : Nat} {c : KV} (h : L[i]? = some c) {j : Nat} (hj : j < 3) : (flat L)[i * 3 + j]? = c.cells[j]? := by
  unfold flat
  exact flat_at 3 _ (flat_cells L) i c.cells (by rw [List.getElem?_map, h]; rfl) j hj
theorem flat_inv {L : List KV} {q : Nat} {u : Value} (h : (flat L)[q]? = some u) : ∃ c, L[q / 3]? = some c ∧ c.cells[q % 3]? = some u := by
  have hq : q < L.length * 3 := by have := (List.getElem?_eq_some_iff.1 h).1; rwa [flat_length] at this
  have hi : q / 3 < L.length := by omega
  refine ⟨L[q / 3], List.getElem?_eq_getElem hi, ?_⟩
  have := flat_get (List.getElem?_eq_getElem hi) (j := q % 3) (by omega)
  rw [show q / 3 * 3 + q % 3 = q by omega, h] at this
  exact this.symm
theorem SlC.reads (h : SlC w ad cap L) : Reads w 3 (.slice ad L.length cap) L.length (flat L) := by
  refine ⟨flat_length L, flat_one L, ?_⟩
  cases ad with
  | none =>
    have hc := h.nil rfl
    have hl := h.le
    subst hc
    have : L.length = 0 := by omega
    rw [this]
    exact .inl ⟨rfl, rfl⟩
  | some a =>
    refine .inr ⟨a, cap, rfl, h.le, fun q u hu => ?_⟩
    obtain ⟨c, hc, hcu⟩ := flat_inv hu
    obtain ⟨_, g, off, e, hr⟩ := h.cells _ c hc
    obtain rfl : a = ⟨g, off, none⟩ := Option.some.inj e
    have := hr _ u hcu
    rw [Addr.add_mid]
    rwa [Nat.add_assoc, show q / 3 * 3 + q % 3 = q by omega] at this
theorem SlC.own {base : Nat} {v : Value} (h : w.ownsRow base 87 3 v L.length (flat L)) : ∃ ad cap, v = .slice ad L.length cap ∧ SlC w ad cap L := by
  rcases h.2 with ⟨rfl, hz⟩ | ⟨g, cap, cur, rfl, hbase, hb, r1, r2, r3, r4⟩
  · have : L = [] := List.eq_nil_of_length_eq_zero hz
    subst this
    exact ⟨none, 0, rfl, slc_nil w⟩
  · refine ⟨some ⟨g, 0, none⟩, cap, rfl, r1, r2, (fun e => by cases e), (fun a e => ⟨g, 0, (Option.some.inj e).symm⟩), fun i c hc => ⟨trivial, g, 0, rfl, fun j v hv => ?_⟩, fun g2 off e => ?_⟩
    · have hj : j < 3 := (List.getElem?_eq_some_iff.1 hv).1
      have e := flat_get hc hj
      rw [hv] at e
      have := World.ownsRow.cells h (g := g) rfl (i * 3 + j) v e
      rwa [Addr.add_mid, ← Nat.add_assoc] at this
    · simp only [Option.some.injEq, Addr.mk.injEq, and_true] at e
      obtain ⟨rfl, rfl⟩ := e
      exact ⟨cur, _, hb⟩
theorem SlC.take (h : SlC w ad cap L) (k : Nat) : SlC w ad cap (L.take k) :=
  ⟨Nat.le_trans (by simp; omega) h.le, h.few, h.nil, h.at_, fun i c hc => h.cells i c (by
    rw [List.getElem?_take] at hc
    split at hc
    · exact hc
    · cases hc), h.ty⟩
theorem SlC.drop {g off : Nat} (h : SlC w (some ⟨g, off, none⟩) cap L) (k : Nat) (hk : k ≤ L.length) : SlC w (some ⟨g, off + k * 3, none⟩) (cap - k) (L.drop k) :=
  ⟨by have := h.le; simp; omega, by have := h.few; omega, (fun e => by cases e), (fun a e => ⟨g, off + k * 3, (Option.some.inj e).symm⟩), fun i c hc => by
    rw [List.getElem?_drop] at hc
    obtain ⟨_, g2, o2, e, hr⟩ := h.cells _ c hc
    simp only [Option.some.injEq, Addr.mk.injEq, and_true] at e
    obtain ⟨rfl, rfl⟩ := e
    refine ⟨trivial, g, off + k * 3, rfl, ?_⟩
    rw [Nat.add_mul, ← Nat.add_assoc] at hr
    exact hr, fun g2 off2 e => by
    simp only [Option.some.injEq, Addr.mk.injEq, and_true] at e
    obtain ⟨rfl, rfl⟩ := e
    exact h.ty g off rfl⟩
end
theorem look_hit {L : List KV} {k : List UInt8} {i : Nat} {c : KV} (hb : ∀ (j : Nat) (y : KV), j < i → L[j]? = some y → y.key ≠ k) (hc : L[i]? = some c) (hk : c.key = k) (a : Int) : look L k a = ⟨1, c.val, c.ver, a⟩ := by
  refine look_some ?_ a
  have hi := (List.getElem?_eq_some_iff.1 hc).1
  have e : L[i] = c := by rw [List.getElem?_eq_getElem hi] at hc; simpa using hc
  unfold fnd
  rw [← List.take_append_drop i L, List.find?_append, List.drop_eq_getElem_cons hi, e]
  have : (L.take i).find? (fun c => c.key == k) = none := List.find?_eq_none.2 fun y hy => by
    obtain ⟨j, hj, e⟩ := List.getElem_of_mem hy
    have hj' : j < i := by simp at hj; omega
    have := hb j y hj' (by rw [List.getElem_take] at e; rw [List.getElem?_eq_getElem (by omega), e])
    simpa using this
  rw [this]
  simp [hk]
theorem look_miss {L : List KV} {k : List UInt8} (hb : ∀ (j : Nat) (y : KV), j < L.length → L[j]? = some y → y.key ≠ k) (a : Int) : look L k a = ⟨2, [], 0, a⟩ := by
  refine look_none ?_ a
  unfold fnd
  refine List.find?_eq_none.2 fun y hy => ?_
  obtain ⟨j, hj, e⟩ := List.getElem_of_mem hy
  have := hb j y hj (by rw [List.getElem?_eq_getElem hj, e])
  simpa using this
set_option maxRecDepth 100000 in
set_option maxHeartbeats 4000000 in
theorem rlook_at {ad : Option Addr} {cap : Nat} {L : List KV} {w : World} (h : SlC w ad cap L) (hl : L.length ≤ 1000) (k : List UInt8) (a : Int) :
    Calls Try.prog 30 #[.slice ad L.length cap, str k, .int .i64 a] w (ToldN (.agg (look L k a).cells.toArray) w) := by
  have HS := hide h.cells
  clear h
  have t1 : True := True.intro
  go_enter Try.func30, Try.ntmps30
  go_wp2_with ((with_reducible show wpList _ _ _ (_ :: _) _ _); clear t1; refine wpL_alloc rfl 38 rfl _ zero_res ?_; intro p w1 e1 k1 g1 z1; have e0 : w.heap.size ≤ p := Nat.le_of_eq e1; clear e1 z1)
  go_loopw [7] (fun i wr => ∃ n : Nat, n ≤ L.length ∧ i = .int .i64 (n : Int) ∧ (∀ (j : Nat) (y : KV), j < n → L[j]? = some y → y.key ≠ k) ∧ Chg noBlk w1 wr) (fun i wr => L.length - (intOf i).toNat)
  case atStart => exact ⟨0, by omega, rfl, (fun j y hj => by omega), Chg.refl _ _⟩
  case round =>
    obtain ⟨n, hn, rfl, hb, kw⟩ := hrel
    have K1 := hide (k1.andNo kw)
    have G1 := hide (kw.at g1 id)
    have KW := hide kw
    clear kw
    have HB := hide hb
    clear hb
    by_cases hlt : n < L.length
    · have d1 : decide (n < L.length) = true := by simpa using hlt
      obtain ⟨c, hc⟩ : ∃ c, L[n]? = some c := ⟨_, List.getElem?_eq_getElem hlt⟩
      obtain ⟨_, g, off, rfl, hr⟩ := unhide HS n c hc
      have hr1 := range_kept hr (unhide K1)
      have c0 : wr.cell? ⟨g, off + n * 3, none⟩ = some (str c.key) := hr1 0 _ rfl
      have c1 : wr.cell? ⟨g, off + n * 3 + 1, none⟩ = some (str c.val) := hr1 1 _ rfl
      have c2 : wr.cell? ⟨g, off + n * 3 + 2, none⟩ = some (.int .i64 c.ver) := hr1 2 _ rfl
      have i1 : (0 : Int) ≤ (n : Int) := by omega
      have i2 : (n : Int) < (L.length : Int) := by omega
      have HC := hide hc
      clear hc hr hr1
      by_cases he : c.key = k
      · have dq : (c.key == k) = true := by simpa using he
        have HR := hide (look_hit (unhide HB) (unhide HC) he a)
        clear he HB HC
        go_wp2
        go_still_tail 12, (by kernel_rfl)
        change wpList _ _ _ _ _ wr.drew
        have g2 : wr.drew.heap[p]? = _ := unhide G1
        have K2 := (unhide K1).drew
        generalize wr.drew = w2 at g2 K2 ⊢
        go_wp2_with ((with_reducible show wpList _ _ _ (_ :: _) _ _); refine wpL_store rfl 38 (.tmp 6) (.tmp 32) rfl p (RT.cells ⟨1, c.val, c.ver, a⟩).toArray rfl rfl _ _ g2 info_res rfl (all_oneCell_toArray (RT.one _)) ?_; intro w6 k6 g7 z7)
        refine bodyPost_ret (ret_res rfl _ _ p _ _ _ rfl g7) rfl ?_
        exact ⟨by rw [unhide HR], K2.past k6 e0⟩
      · have dq : (c.key == k) = false := by simpa using he
        have HE := hide he
        clear he
        go_wp2
        go_roundw
        case rel =>
          refine ⟨n + 1, by omega, by go_num, fun j y hj hy => ?_, unhide KW⟩
          by_cases e : j = n
          · subst e
            rw [unhide HC] at hy
            obtain rfl := Option.some.inj hy
            exact unhide HE
          · exact unhide HB j y (by omega) hy
        case measure => simp [intOf]; omega
    · obtain rfl : n = L.length := by omega
      have HR := hide (look_miss (unhide HB) a)
      clear HB
      go_wp2_with ((with_reducible show wpList _ _ _ (_ :: _) _ _); refine wpL_store rfl 38 (.tmp 6) (.tmp 34) rfl p (RT.cells ⟨2, [], 0, a⟩).toArray rfl rfl _ _ (unhide G1) info_res rfl (all_oneCell_toArray (RT.one _)) ?_; intro w6 k6 g7 z7)
      refine bodyPost_ret (ret_res rfl _ _ p _ _ _ rfl g7) rfl ?_
      exact ⟨by rw [unhide HR], (unhide K1).past k6 e0⟩
end Go.Proofs.Ytfffgegdcgfakaa
