/-
  Logs: a log as one thing; acts as arguments; are they more than is gone through? An act's entry.
-/
import Derived.Test.YtfffgegdcgfakaaLogsH
import Derived.OpenShut
import Derived.Laws.BitsLemmas
namespace Go.Proofs.Ytfffgegdcgfakaa
open Go.ChangeShapes Go.WideShapes Go.ChangeAt Go.RowKit
set_option linter.unusedVariables false
attribute [local go_sem] bs_size bs_app bs_cut bs_tl bs_at
/-! ### a log as one thing -/
/-- blocks of S' are of S, or new -/
def Grew (S : Nat → Prop) (w : World) (S' : Nat → Prop) (w' : World) : Prop := ∀ k, S' k → (S k ∨ w.heap.size ≤ k) ∧ k < w'.heap.size
/-- the value p is a log with the entries E, in blocks of S -/
def IsLog (w : World) (S : Nat → Prop) (p : Value) (E : List ET) : Prop := (∀ k, S k → k < w.heap.size) ∧ ∃ b sb sm ve vr, p = .pointer (some ⟨b, 0, none⟩) ∧ LogAt w b sb sm ve vr E ∧ InS S b sb sm ve vr
section
variable {w w' : World} {S T : Nat → Prop} {p p2 : Value} {E F : List ET}
theorem IsLog.kept (h : IsLog w S p E) (k : Chg T w w') (hd : ∀ i, S i → ¬ T i) : IsLog w' S p E := by
  obtain ⟨h0, b, sb, sm, ve, vr, rfl, hl, hi⟩ := h
  exact ⟨fun i hi => k.lt (h0 i hi), b, sb, sm, ve, vr, rfl, hl.but k (hi.mono hd), hi⟩
theorem IsLog.no (h : IsLog w S p E) (k : Chg noBlk w w') : IsLog w' S p E := h.kept k fun _ _ => id
theorem IsLog.lt (h : IsLog w S p E) : ∀ k, S k → k < w.heap.size := h.1
theorem IsLog.fit (h : IsLog w S p E) : Fit E := by obtain ⟨h0, b, sb, sm, ve, vr, rfl, hl, hi⟩ := h; exact hl.fit
/-- told: a new log -/
def MadeL (E : List ET) (w : World) (e : Ending) (w' : World) : Prop := ∃ p S, e = .returned p ∧ (∀ k, S k → w.heap.size ≤ k) ∧ IsLog w' S p E ∧ Chg noBlk w w' ∧ ∃ b, p = .pointer (some ⟨b, 0, none⟩)
theorem NewLog.made {e : Ending} (h : NewLog E w e w') : MadeL E w e w' := by
  obtain ⟨b, sb, sm, ve, vr, rfl, k, hl, hi⟩ := h
  refine ⟨_, fun k => w.heap.size ≤ k ∧ k < w'.heap.size, rfl, fun k h => h.1, ⟨fun k h => h.2, b, sb, sm, ve, vr, rfl, hl, ?_⟩, k, b, rfl⟩
  have l := hl.lts
  exact ⟨⟨hi.b, l.b⟩, ⟨hi.sb, l.sb⟩, ⟨hi.sm, l.sm⟩, fun g hg => ⟨hi.ve g hg, l.ve g hg⟩, fun g hg => ⟨hi.vr g hg, l.vr g hg⟩⟩
theorem log_new (w : World) : Calls Try.prog 8 #[] w (MadeL [] w) := (lnew_any w).mono fun _ _ h => h.made
theorem log_copy (h : IsLog w S p E) : Calls Try.prog 9 #[p] w (MadeL E w) := by
  obtain ⟨h0, b, sb, sm, ve, vr, rfl, hl, hi⟩ := h
  exact (lcopy_at hl).mono fun _ _ h => h.made
theorem log_len (h : IsLog w S p E) : Calls Try.prog 13 #[p] w (Told (.int .i64 (E.length : Int)) w) := by
  obtain ⟨h0, b, sb, sm, ve, vr, rfl, hl, hi⟩ := h
  exact llen_at hl
theorem log_at (h : IsLog w S p E) {k : Nat} {x : ET} (hx : E[k]? = some x) : Calls Try.prog 18 #[p, .int .i64 ((k : Int) + 1)] w (ToldN (.tuple #[.agg x.cells.toArray, .bool true]) w) := by
  obtain ⟨h0, b, sb, sm, ve, vr, rfl, hl, hi⟩ := h
  exact at_yes hl hx
theorem log_at_no (h : IsLog w S p E) {i : Int} (hx : hasB E i = false) : Calls Try.prog 18 #[p, .int .i64 i] w (ToldN (.tuple #[.agg eZero.cells.toArray, .bool false]) w) := by
  obtain ⟨h0, b, sb, sm, ve, vr, rfl, hl, hi⟩ := h
  exact at_no hl hx
theorem log_res (h : IsLog w S p E) {k : Nat} (hx : k < E.length) : Calls Try.prog 19 #[p, .int .i64 ((k : Int) + 1)] w (ToldN (.tuple #[.agg (resN E k).cells.toArray, .bool true]) w) := by
  obtain ⟨h0, b, sb, sm, ve, vr, rfl, hl, hi⟩ := h
  exact res_yes hl hx
theorem log_res_no (h : IsLog w S p E) {i : Int} (hx : hasB E i = false) : Calls Try.prog 19 #[p, .int .i64 i] w (ToldN (.tuple #[.agg rZero.cells.toArray, .bool false]) w) := by
  obtain ⟨h0, b, sb, sm, ve, vr, rfl, hl, hi⟩ := h
  exact res_no hl hx
theorem log_last (h : IsLog w S p E) (c : Int) : Calls Try.prog 20 #[p, .int .i64 c] w (ToldN (.tuple #[.int .i64 (seqL E c), .int .i64 (lastN E c E.length : Int)]) w) := by
  obtain ⟨h0, b, sb, sm, ve, vr, rfl, hl, hi⟩ := h
  exact last_at hl c
theorem log_look (h : IsLog w S p E) {k : List UInt8} (hk : k.length ≤ maxLen) : Calls Try.prog 10 #[p, str k] w (ToldN (.agg (look (cellsN E E.length) k (E.length : Int)).cells.toArray) w) := by
  obtain ⟨h0, b, sb, sm, ve, vr, rfl, hl, hi⟩ := h
  exact llook_at hl hk
theorem log_entries (h : IsLog w S p E) : Calls Try.prog 21 #[p] w (NewL 34 ET.cells 7 E w) := by
  obtain ⟨h0, b, sb, sm, ve, vr, rfl, hl, hi⟩ := h
  exact entries_at hl
theorem log_begins (h : IsLog w S p E) (h2 : IsLog w T p2 F) : Calls Try.prog 16 #[p, p2] w (ToldQ (.bool (begB E F)) w) := by
  obtain ⟨h0, b, sb, sm, ve, vr, rfl, hl, hi⟩ := h
  obtain ⟨h0', b', sb', sm', ve', vr', rfl, hl', hi'⟩ := h2
  exact begins_at hl hl'
/-- the entries behind an appending, and what it tells -/
def appE (E : List ET) (x : ET) : List ET := if lchk E x = 0 then E ++ [x] else E
def appX (E : List ET) (x : ET) : RT := if lchk E x = 0 then appR (cellsN E E.length) ((E.length : Int) + 1) x.op else rZero
/-- told: what became of it; and the log has this -/
def DoneL (S : Nat → Prop) (p : Value) (E : List ET) (x : ET) (w : World) (e : Ending) (w' : World) : Prop :=
  e = .returned (.tuple #[.agg (appX E x).cells.toArray, .int .i64 (lchk E x)]) ∧ Chg S w w' ∧ ∃ S', Grew S w S' w' ∧ IsLog w' S' p (appE E x)
theorem log_append (h : IsLog w S p E) (x : ET) : Calls Try.prog 12 #[p, .agg x.cells.toArray] w (DoneL S p E x w) := by
  obtain ⟨h0, b, sb, sm, ve, vr, rfl, hl, hi⟩ := h
  by_cases hx : lchk E x = 0
  · refine (lappend_yes hl x hx).mono ?_
    rintro e w' ⟨ve', vr', rfl, k, hl', n1, n2⟩
    have hS : ∀ i, logBlk b sm ve vr i → S i := fun i h => by
      rcases h with rfl | rfl | h | h
      · exact hi.b
      · exact hi.sm
      · exact hi.ve i h
      · exact hi.vr i h
    have l := hl'.lts
    refine ⟨by unfold appX; rw [if_pos hx, hx], k.mono fun i _ h => hS i h, fun k => (S k ∨ w.heap.size ≤ k) ∧ k < w'.heap.size, fun k h => h, fun k h => h.2, b, sb, sm, ve', vr', rfl, by unfold appE; rw [if_pos hx]; exact hl', ⟨⟨.inl hi.b, l.b⟩, ⟨.inl hi.sb, l.sb⟩, ⟨.inl hi.sm, l.sm⟩, fun g hg => ⟨?_, l.ve g hg⟩, fun g hg => ⟨?_, l.vr g hg⟩⟩⟩
    · exact (n1 g hg).imp (fun h => hi.ve g h) id
    · exact (n2 g hg).imp (fun h => hi.vr g h) id
  · refine (lappend_no hl x hx).mono ?_
    rintro e w' ⟨rfl, k⟩
    exact ⟨by unfold appX; rw [if_neg hx], k.no _, S, fun i h => ⟨.inl h, k.lt (h0 i h)⟩, fun i h => k.lt (h0 i h), b, sb, sm, ve, vr, rfl, by unfold appE; rw [if_neg hx]; exact hl.no k, hi⟩
end
/-! ### acts -/
structure PT.Ok (o : PT) : Prop where
  kb : -9223372036854775808 ≤ o.k ∧ o.k ≤ 9223372036854775807
  vb : -9223372036854775808 ≤ o.ver ∧ o.ver ≤ 9223372036854775807
  kl : o.key.length ≤ 9223372036854775807
  vl : o.val.length ≤ 9223372036854775807
theorem trod_op {H : Type} {enc : TypeId × Value → H} {w : World} {base : Nat} {spare : Nat → Bool} {held : Bool} {fuel : Nat} {cs : List Value} {x : DataW H × List MemPlace}
    (h : DataW.trod enc Try.prog w base spare held fuel 32 cs = some x) : ∃ o : PT, cs = o.cells ∧ o.Ok := by
  have hu := Try.underlying32
  have hlen : cs.length = 4 := (struct_len hu h).trans (by kernel_rfl)
  obtain ⟨k, hk, wk⟩ := int_at hu h 0 0 3 rfl (k := .i64) Try.underlying3 (by kernel_rfl)
  obtain ⟨s, hs, ws⟩ := string_at hu h 1 1 9 rfl Try.underlying9 (by kernel_rfl)
  obtain ⟨v, hv, wv⟩ := string_at hu h 2 2 9 rfl Try.underlying9 (by kernel_rfl)
  obtain ⟨n, hn, wn⟩ := int_at hu h 3 3 3 rfl (k := .i64) Try.underlying3 (by kernel_rfl)
  refine ⟨⟨k, s.data.toList, v.data.toList, n⟩, ?_, bounds_i64 wk, bounds_i64 wn, ?_, ?_⟩
  · match cs, hlen with
    | [a, b, c, d], _ =>
      simp at hk hs hv hn
      rw [hk, hs, hv, hn]
      show _ = [Value.int .i64 k, .string (bs s.data.toList), .string (bs v.data.toList), .int .i64 n]
      rw [← bs_list, ← bs_list]
  · unfold maxLen at ws
    show s.data.toList.length ≤ _
    rw [Array.length_toList]; exact ws
  · unfold maxLen at wv
    show v.data.toList.length ≤ _
    rw [Array.length_toList]; exact wv
/-- an entry's numbers -/
structure ET.Ok (e : ET) : Prop where
  i0 : -9223372036854775808 ≤ e.idx ∧ e.idx ≤ 9223372036854775807
  c0 : -9223372036854775808 ≤ e.cl ∧ e.cl ≤ 9223372036854775807
  s0 : -9223372036854775808 ≤ e.seq ∧ e.seq ≤ 9223372036854775807
  o0 : e.op.Ok
theorem trod_ent {H : Type} {enc : TypeId × Value → H} {w : World} {base : Nat} {spare : Nat → Bool} {held : Bool} {fuel : Nat} {cs : List Value} {x : DataW H × List MemPlace}
    (h : DataW.trod enc Try.prog w base spare held fuel 34 cs = some x) : ∃ e : ET, cs = e.cells ∧ e.Ok := by
  have hu := Try.underlying34
  have hlen : cs.length = 7 := (struct_len hu h).trans (by kernel_rfl)
  obtain ⟨k, hk, wk⟩ := int_at hu h 0 0 3 rfl (k := .i64) Try.underlying3 (by kernel_rfl)
  obtain ⟨i, hi, wi⟩ := int_at hu h 1 1 3 rfl (k := .i64) Try.underlying3 (by kernel_rfl)
  obtain ⟨n, hn, wn⟩ := int_at hu h 2 2 3 rfl (k := .i64) Try.underlying3 (by kernel_rfl)
  obtain ⟨sub, m, y, hy, hj⟩ := field_sub hu h 3 3 32 4 rfl (by kernel_rfl)
  obtain ⟨o, rfl, ho⟩ := trod_op hy
  have j0 := hj 0 (by omega)
  have j1 := hj 1 (by omega)
  have j2 := hj 2 (by omega)
  have j3 := hj 3 (by omega)
  refine ⟨⟨k, i, n, o⟩, ?_, bounds_i64 wk, bounds_i64 wi, bounds_i64 wn, ho⟩
  match cs, hlen with
  | [a, b, c, d, e, f, g], _ =>
    simp [PT.cells] at hk hi hn j0 j1 j2 j3
    rw [hk, hi, hn, ← j0, ← j1, ← j2, ← j3]
    rfl
/-- an act: its kind, its entry -/
structure AT where
  k : Int
  e : ET
def AT.cells (a : AT) : List Value := [.int .u8 a.k, .int .i64 a.e.idx, .int .i64 a.e.cl, .int .i64 a.e.seq, .int .i64 a.e.op.k, str a.e.op.key, str a.e.op.val, .int .i64 a.e.op.ver]
structure AT.Ok (a : AT) : Prop where
  k0 : 0 ≤ a.k ∧ a.k ≤ 255
  e0 : a.e.Ok
theorem trod_act {H : Type} {enc : TypeId × Value → H} {w : World} {base : Nat} {spare : Nat → Bool} {held : Bool} {fuel : Nat} {cs : List Value} {x : DataW H × List MemPlace}
    (h : DataW.trod enc Try.prog w base spare held fuel 36 cs = some x) : ∃ a : AT, cs = a.cells ∧ a.Ok := by
  have hu := Try.underlying36
  have hlen : cs.length = 8 := (struct_len hu h).trans (by kernel_rfl)
  obtain ⟨k, hk, wk⟩ := int_at hu h 0 0 5 rfl (k := .u8) Try.underlying5 (by kernel_rfl)
  obtain ⟨sub, m, y, hy, hj⟩ := field_sub hu h 1 1 34 7 rfl (by kernel_rfl)
  obtain ⟨o, rfl, ho⟩ := trod_ent hy
  have j0 := hj 0 (by omega)
  have j1 := hj 1 (by omega)
  have j2 := hj 2 (by omega)
  have j3 := hj 3 (by omega)
  have j4 := hj 4 (by omega)
  have j5 := hj 5 (by omega)
  have j6 := hj 6 (by omega)
  refine ⟨⟨k, o⟩, ?_, bounds_u8 wk, ho⟩
  match cs, hlen with
  | [a, b, c, d, e, f, g, i], _ =>
    simp [ET.cells] at hk j0 j1 j2 j3 j4 j5 j6
    rw [hk, ← j0, ← j1, ← j2, ← j3, ← j4, ← j5, ← j6]
    rfl
abbrev ActsIn (w : World) (ad : Option Addr) (l : List AT) : Prop := RowsIn AT.cells AT.Ok 8 w ad l
theorem size_act : (Try.prog.info? 36).map (·.size) = some 8 := by kernel_rfl
def aZero : AT := ⟨0, eZero⟩
theorem zero_act : (Try.prog.info? 36).bind (·.zero) = some (.agg aZero.cells.toArray) := by kernel_rfl
theorem AT.one (a : AT) : ∀ u ∈ a.cells, u.oneCell' = true := by intro u hu; simp [AT.cells] at hu; rcases hu with rfl | rfl | rfl | rfl | rfl | rfl | rfl | rfl <;> rfl
theorem act_ent {w : World} {b o : Nat} {a : AT} (h : w.rangeAt b o a.cells) : w.rangeAt b (o + 1) a.e.cells := fun j v hj => by
  have e : a.cells[1 + j]? = some v := by rw [Nat.add_comm]; exact hj
  have := h (1 + j) v e
  rwa [← Nat.add_assoc] at this
theorem ent_op {w : World} {b o : Nat} {a : ET} (h : w.rangeAt b o a.cells) : w.rangeAt b (o + 3) a.op.cells := fun j v hj => by
  have e : a.cells[3 + j]? = some v := by rw [Nat.add_comm]; exact hj
  have := h (3 + j) v e
  rwa [← Nat.add_assoc] at this
theorem act_op {w : World} {b o : Nat} {a : AT} (h : w.rangeAt b o a.cells) : w.rangeAt b (o + 1 + 3) a.e.op.cells := ent_op (act_ent h)
/-- is it more than is gone through? -/
def greatB (o : PT) : Bool := decide (300 < o.key.length) || decide (300 < o.val.length)
theorem great_yes {o : PT} : greatB o = true ↔ 300 < o.key.length ∨ 300 < o.val.length := by unfold greatB; simp
theorem great_no {o : PT} : greatB o = false ↔ o.key.length ≤ 300 ∧ o.val.length ≤ 300 := by unfold greatB; simp
set_option maxRecDepth 100000 in
theorem great_op (o : PT) (w : World) : Calls Try.prog 22 #[.agg o.cells.toArray] w (ToldN (.bool (greatB o)) w) := by
  have hw : (∃ b, greatB o = b ∧ ((b = true ∧ decide ((300 : Int) < (o.key.length : Int)) = true) ∨ (b = true ∧ decide ((300 : Int) < (o.key.length : Int)) = false ∧ decide ((300 : Int) < (o.val.length : Int)) = true) ∨ (b = false ∧ decide ((300 : Int) < (o.key.length : Int)) = false ∧ decide ((300 : Int) < (o.val.length : Int)) = false))) := by
    refine ⟨_, rfl, ?_⟩
    by_cases h1 : 300 < o.key.length
    · exact .inl ⟨great_yes.2 (.inl h1), decide_eq_true (by omega)⟩
    by_cases h2 : 300 < o.val.length
    · exact .inr (.inl ⟨great_yes.2 (.inr h2), by simp; omega, decide_eq_true (by omega)⟩)
    · exact .inr (.inr ⟨great_no.2 ⟨by omega, by omega⟩, by simp; omega, by simp; omega⟩)
  obtain ⟨b, hb, hw⟩ := hw
  rw [hb]
  clear hb
  rcases hw with ⟨rfl, d1⟩ | ⟨rfl, d1, d2⟩ | ⟨rfl, d1, d2⟩
  all_goals
    have tk : True := True.intro
    go_enter Try.func22, Try.ntmps22
    go_wp2_with ((with_reducible show wpList _ _ _ (_ :: _) _ _); clear tk; refine wpL_box rfl 32 (.tmp 0) rfl o.cells.toArray rfl ?_; intro b w1 e1 k1 g1 z1; have G1 : OpAt w1 b o := g1; have c1 := G1.c1; have c2 := G1.c2; clear g1 z1 e1 G1)
    go_ret
    exact ⟨rfl, k1⟩
/-- are these more than is gone through? -/
def greatL (l : List AT) (n : Nat) : Bool := l.any (fun a => greatB a.e.op) || decide (n < l.length)
theorem greatL_hit {l : List AT} {k : Nat} {a : AT} (n : Nat) (h : l[k]? = some a) (hg : greatB a.e.op = true) : greatL l n = true := by
  unfold greatL
  rw [List.any_eq_true.2 ⟨a, List.mem_of_getElem? h, hg⟩]; rfl
theorem greatL_end {l : List AT} (n : Nat) (h : ∀ (i : Nat) (a : AT), i < l.length → l[i]? = some a → greatB a.e.op = false) : greatL l n = decide (n < l.length) := by
  unfold greatL
  have : l.any (fun a => greatB a.e.op) = false := List.any_eq_false.2 fun a ha => by
    obtain ⟨i, hi, e⟩ := List.getElem_of_mem ha
    simp [h i a hi (by rw [List.getElem?_eq_getElem hi, e])]
  rw [this]; rfl
theorem greatL_no {l : List AT} {n : Nat} (h : greatL l n = false) : l.length ≤ n ∧ ∀ (i : Nat) (a : AT), l[i]? = some a → greatB a.e.op = false := by
  unfold greatL at h
  rw [Bool.or_eq_false_iff] at h
  refine ⟨by simpa using h.2, fun i a ha => ?_⟩
  have := List.any_eq_false.1 h.1 a (List.mem_of_getElem? ha)
  simpa using this
set_option maxRecDepth 100000 in
set_option maxHeartbeats 1000000 in
theorem great_any (ad : Option Addr) (l : List AT) (cap n : Nat) (w : World) (hn : n ≤ 1000) (h : ActsIn w ad l) (hm : l.length ≤ 9223372036854775807) :
    Calls Try.prog 6 #[.slice ad l.length cap, .int .i64 (n : Int)] w (ToldN (.bool (greatL l n)) w) := by
  have HA := hide h
  have HM := hide hm
  clear h hm
  go_enter Try.func6, Try.ntmps6
  go_wp2
  go_loopw [5] (fun i wr => ∃ k : Nat, k ≤ l.length ∧ i = .int .i64 (k : Int) ∧ (∀ j a, j < k → l[j]? = some a → greatB a.e.op = false) ∧ Chg noBlk w wr) (fun i wr => l.length - (intOf i).toNat)
  case atStart => exact ⟨0, by omega, rfl, fun j a hj => by omega, Chg.refl _ _⟩
  case round =>
    obtain ⟨k, hk, rfl, hg, kw⟩ := hrel
    have KW := hide kw
    have HG := hide hg
    clear kw hg
    by_cases hlt : k < l.length
    · have d1 : decide (k < l.length) = true := by simpa using hlt
      obtain ⟨a, ha⟩ : ∃ a, l[k]? = some a := ⟨_, List.getElem?_eq_getElem hlt⟩
      obtain ⟨hok, bb, off, rfl, hrng⟩ := unhide HA k a ha
      have i1 : (0 : Int) ≤ (k : Int) := by omega
      have i2 : (k : Int) < (l.length : Int) := by omega
      have i3 : (k : Int) < 9223372036854775807 := by have := unhide HM; omega
      have hr1 := hide (act_op (range_kept hrng (unhide KW)))
      have HAA := hide ha
      obtain ⟨g, hgb⟩ : ∃ g, greatB a.e.op = g := ⟨_, rfl⟩
      have HC := hide (fun w => great_op a.e.op w)
      rw [hgb] at HC
      have HGB := hide hgb
      clear ha hok hrng hgb
      cases g
      · go_wp2_with (first
          | (go_at_call 22; refine (unhide HC _).mono ?_; rintro e w2 ⟨rfl, k2⟩; have K2 := hide k2; clear k2)
          | ((with_reducible show wpList _ _ _ (_ :: _) _ _); refine wpList_load_mid rfl 32 (.tmp 16) rfl bb (off + k * 8 + 1 + 3) rfl a.e.op.cells _ (unhide hr1) Try.underlying32 rfl (by rw [info_op4]; rfl) ?_))
        go_roundw
        case rel =>
          refine ⟨k + 1, by omega, by go_num, fun j b hj hb => ?_, (unhide KW).andNo (unhide K2)⟩
          by_cases e : j = k
          · subst e
            have := unhide HAA
            rw [this] at hb
            obtain rfl : a = b := Option.some.inj hb
            exact unhide HGB
          · exact unhide HG j b (by omega) hb
        case measure => simp [intOf]; omega
      · have HE := hide (greatL_hit n (unhide HAA) (unhide HGB))
        go_wp2_with (first
          | (go_at_call 22; refine (unhide HC _).mono ?_; rintro e w2 ⟨rfl, k2⟩; have K2 := hide k2; clear k2)
          | ((with_reducible show wpList _ _ _ (_ :: _) _ _); refine wpList_load_mid rfl 32 (.tmp 16) rfl bb (off + k * 8 + 1 + 3) rfl a.e.op.cells _ (unhide hr1) Try.underlying32 rfl (by rw [info_op4]; rfl) ?_))
        go_ret
        exact ⟨by rw [unhide HE]; rfl, (unhide KW).andNo (unhide K2)⟩
    · obtain rfl : k = l.length := by omega
      have HE := hide (greatL_end n (unhide HG))
      go_wp2
      go_ret
      refine ⟨?_, unhide KW⟩
      rw [unhide HE]
      rfl
/-! ### an act's entry -/
/-- behind so many -/
def nextE (a : AT) (n : Int) : ET := if a.k % 9 < 6 then ⟨n + 1, a.e.cl, a.e.seq, a.e.op⟩ else a.e
/-- an act at b -/
def ActAt (w : World) (b : Nat) (a : AT) : Prop := w.heap[b]? = some (.cells a.cells.toArray 36 (0, 0))
section
variable {w w' : World} {b : Nat} {a : AT}
theorem ActAt.no (h : ActAt w b a) (k : Chg noBlk w w') : ActAt w' b a := k.at h id
theorem ActAt.lt (h : ActAt w b a) : b < w.heap.size := lt_of_block h
theorem ActAt.c0 (h : ActAt w b a) : w.cell? ⟨b, 0, none⟩ = some (.int .u8 a.k) := cellAt h 0 _ rfl
theorem ActAt.c2 (h : ActAt w b a) : w.cell? ⟨b, 2, none⟩ = some (.int .i64 a.e.cl) := cellAt h 2 _ rfl
theorem ActAt.c5 (h : ActAt w b a) : w.cell? ⟨b, 5, none⟩ = some (str a.e.op.key) := cellAt h 5 _ rfl
theorem ActAt.range (h : ActAt w b a) : w.rangeAt b 0 a.cells := fun j v hv => by
  rw [Nat.zero_add]
  exact cellAt h j v (by simpa using hv)
theorem ActAt.ent (h : ActAt w b a) : w.rangeAt b 1 a.e.cells := by
  have := act_ent h.range
  rwa [Nat.zero_add] at this
theorem ActAt.all (h : ActAt w b a) (ok : a.Ok) : ActsIn w (some ⟨b, 0, none⟩) [a] := fun i c hc => by
  rcases i with _ | i
  · obtain rfl : a = c := by simpa using hc
    exact ⟨ok, b, 0, rfl, by simpa using h.range⟩
  · simp at hc
end
/-- an entry's block -/
theorem ret_ent {fn : Func} {p : Tmp} (h : fn.results = #[.cell p 34]) (tmps : Array Value) (w : World) (g : Nat) (r : ET) (t : TypeId) (fr : Nat × Nat) (hp : tmps.getD p undef = .pointer (some ⟨g, 0, none⟩)) (hg : w.heap[g]? = some (.cells r.cells.toArray t fr)) :
    (results fn tmps).run Try.prog w = .ok (.agg r.cells.toArray) w := by
  rw [results_one h, hp]
  simp only [asAddr, Sem.run_pure, Result.andThen_ok, run_loadVar_row w g t 34 r.cells.toArray fr _ hg Try.underlying34 rfl info_ent]
theorem set_idx {w w' : World} {q : Nat} {o : ET} (v : Int) (h : w'.heap[q]? = some (.cells (o.cells.toArray.setIfInBounds 0 (.int .i64 v)) 34 (0, 0))) : EntAt w' q ⟨v, o.cl, o.seq, o.op⟩ := h
set_option maxRecDepth 100000 in
set_option maxHeartbeats 1000000 in
theorem next_any (a : AT) (ok : 0 ≤ a.k) (n : Nat) (hn : n ≤ 100000) (w : World) : Calls Try.prog 14 #[.agg a.cells.toArray, .int .i64 (n : Int)] w (ToldN (.agg (nextE a (n : Int)).cells.toArray) w) := by
  by_cases hk : a.k % 9 < 6
  · have he : nextE a (n : Int) = ⟨(n : Int) + 1, a.e.cl, a.e.seq, a.e.op⟩ := by unfold nextE; rw [if_pos hk]
    have HE := hide he
    have d1 : decide (a.k % 9 < 6) = true := decide_eq_true hk
    clear he hk
    have t1 : True := True.intro
    have t2 : True := True.intro
    go_enter Try.func14, Try.ntmps14
    go_wp2_with ((with_reducible show wpList _ _ _ (_ :: _) _ _); first
      | (clear t1; refine wpL_box rfl 36 (.tmp 0) rfl a.cells.toArray rfl ?_; intro q w1 e1 k1 g1 z1; have eq0 : w.heap.size ≤ q := Nat.le_of_eq e1; have G1 : ActAt w1 q a := g1; clear e1 z1 g1)
      | (clear t2; refine wpL_alloc rfl 34 rfl _ zero_ent ?_; intro p w2 e2 k2 g2 z2; have ep0 : w.heap.size ≤ p := Nat.le_trans k1.size (Nat.le_of_eq e2); have G2 := G1.no k2; clear e2 z2)
      | (refine wpList_load_mid rfl 34 (.tmp 6) rfl q 1 rfl a.e.cells _ G2.ent Try.underlying34 rfl (by rw [info_ent]; rfl) ?_)
      | (refine wpL_alloc rfl 34 rfl _ zero_ent ?_; intro p2 w3 e3 k3 g3 z3; have ep2 : w2.heap.size ≤ p2 := Nat.le_of_eq e3; have G3 := G2.no k3; have g3b := k3.at g2 id; clear e3 z3)
      | (refine wpL_store rfl 34 (.tmp 5) (.tmp 7) rfl p2 a.e.cells.toArray rfl rfl _ _ g3 info_ent rfl (all_oneCell_toArray (ET.one _)) ?_; intro w4 k4 g4 z4; have k5 := k3.past k4 ep2; have G4 := G2.no k5; have c0 := G4.c0; have g4b := k5.at g2 id)
      | (refine wpL_set rfl 3 (.tmp 14) (.tmp 13) rfl p2 0 (.int .i64 ((n : Int) + 1)) rfl rfl rfl info_int _ _ g4 (by show 0 < 7; omega) ?_; intro w6 k6 g6 z6; have G6 := set_idx (w := w) _ g6; have g6b := k6.at g4b (fun e => by have e : p = p2 := e; have := lt_of_block g2; omega))
      | (refine wpL_load rfl 34 (.tmp 5) rfl p2 rfl _ _ _ G6 _ Try.underlying34 rfl info_ent ?_)
      | (refine wpL_store rfl 34 (.tmp 4) (.tmp 15) rfl p (ET.cells ⟨(n : Int) + 1, a.e.cl, a.e.seq, a.e.op⟩).toArray rfl rfl _ _ g6b info_ent rfl (all_oneCell_toArray (ET.one _)) ?_; intro w7 k7 g7 z7))
    refine bodyPost_ret (ret_ent rfl _ _ p _ _ _ rfl g7) rfl ?_
    exact ⟨by rw [unhide HE], (((k1.andNo k2).andNo k5).past k6 (Nat.le_trans (k1.andNo k2).size ep2)).past k7 ep0⟩
  · have he : nextE a (n : Int) = a.e := by unfold nextE; rw [if_neg hk]
    have HE := hide he
    have d1 : decide (a.k % 9 < 6) = false := decide_eq_false hk
    clear he hk
    have t1 : True := True.intro
    have t2 : True := True.intro
    go_enter Try.func14, Try.ntmps14
    go_wp2_with ((with_reducible show wpList _ _ _ (_ :: _) _ _); first
      | (clear t1; refine wpL_box rfl 36 (.tmp 0) rfl a.cells.toArray rfl ?_; intro q w1 e1 k1 g1 z1; have eq0 : w.heap.size ≤ q := Nat.le_of_eq e1; have G1 : ActAt w1 q a := g1; clear e1 z1 g1)
      | (clear t2; refine wpL_alloc rfl 34 rfl _ zero_ent ?_; intro p w2 e2 k2 g2 z2; have ep0 : w.heap.size ≤ p := Nat.le_trans k1.size (Nat.le_of_eq e2); have G2 := G1.no k2; clear e2 z2)
      | (refine wpList_load_mid rfl 34 (.tmp 6) rfl q 1 rfl a.e.cells _ G2.ent Try.underlying34 rfl (by rw [info_ent]; rfl) ?_)
      | (refine wpL_alloc rfl 34 rfl _ zero_ent ?_; intro p2 w3 e3 k3 g3 z3; have ep2 : w2.heap.size ≤ p2 := Nat.le_of_eq e3; have G3 := G2.no k3; have g3b := k3.at g2 id; clear e3 z3)
      | (refine wpL_store rfl 34 (.tmp 5) (.tmp 7) rfl p2 a.e.cells.toArray rfl rfl _ _ g3 info_ent rfl (all_oneCell_toArray (ET.one _)) ?_; intro w4 k4 g4 z4; have k5 := k3.past k4 ep2; have G4 := G2.no k5; have c0 := G4.c0; have g4b := k5.at g2 id)
      | (refine wpL_load rfl 34 (.tmp 5) rfl p2 rfl _ _ _ g4 _ Try.underlying34 rfl info_ent ?_)
      | (refine wpL_store rfl 34 (.tmp 4) (.tmp 15) rfl p a.e.cells.toArray rfl rfl _ _ g4b info_ent rfl (all_oneCell_toArray (ET.one _)) ?_; intro w7 k7 g7 z7))
    refine bodyPost_ret (ret_ent rfl _ _ p _ _ _ rfl g7) rfl ?_
    exact ⟨by rw [unhide HE], ((k1.andNo k2).andNo k5).past k7 ep0⟩
end Go.Proofs.Ytfffgegdcgfakaa
