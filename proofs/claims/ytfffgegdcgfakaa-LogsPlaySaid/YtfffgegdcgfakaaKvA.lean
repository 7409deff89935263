/-
  Keys with values, as plain functions: an operation, what is wrong with it; a result; what stands under keys, rising.
-/
import Derived.Test.YtfffgegdcgfakaaRows
import Derived.Test.YtfffgegdcgfakaaKitA
import Derived.Test.YtfffgegdcgfakaaKitM
import Derived.Maps.OwnSet
import Derived.Maps.Ext
import Derived.Sort.KeysCollected
namespace Go.Proofs.Ytfffgegdcgfakaa
open Go.ChangeShapes Go.WideShapes Go.ChangeAt Go.RowKit
set_option linter.unusedVariables false
theorem hide {p : Prop} (h : p) : Hid p := h
theorem unhide {p : Prop} (h : Hid p) : p := h
theorem ret_int {k : IntKind} {a b : Int} (h : a = b) : Ending.returned (.int k a) = .returned (.int k b) := by rw [h]
/-- told: v, and of what was there nothing has turned -/
def ToldN (v : Value) (w : World) (e : Ending) (w' : World) : Prop := e = .returned v ∧ Chg noBlk w w'
theorem ToldN.below {v : Value} {w w' : World} {e : Ending} (h : ToldN v w e w') : e = .returned v ∧ Below w.heap.size w w' := ⟨h.1, h.2.belowNo⟩
/-- an operation -/
structure PT where
  k : Int
  key : List UInt8
  val : List UInt8
  ver : Int
def PT.cells (o : PT) : List Value := [.int .i64 o.k, str o.key, str o.val, .int .i64 o.ver]
/-- none: zero -/
def pZero : PT := ⟨0, [], [], 0⟩
theorem PT.one (o : PT) : ∀ u ∈ o.cells, u.oneCell' = true := by intro u hu; simp [PT.cells] at hu; rcases hu with rfl | rfl | rfl | rfl <;> rfl
/-- an operation at b -/
def OpAt (w : World) (b : Nat) (o : PT) : Prop := w.heap[b]? = some (.cells o.cells.toArray 32 (0, 0))
theorem info_op : (Try.prog.info? 32).map (·.size) = some 4 := by kernel_rfl
section
variable {w w' : World} {b : Nat} {o : PT}
theorem OpAt.no (h : OpAt w b o) (k : Chg noBlk w w') : OpAt w' b o := k.at h id
theorem OpAt.lt (h : OpAt w b o) : b < w.heap.size := lt_of_block h
theorem OpAt.c0 (h : OpAt w b o) : w.cell? ⟨b, 0, none⟩ = some (.int .i64 o.k) := cellAt h 0 _ rfl
theorem OpAt.c1 (h : OpAt w b o) : w.cell? ⟨b, 1, none⟩ = some (str o.key) := cellAt h 1 _ rfl
theorem OpAt.c2 (h : OpAt w b o) : w.cell? ⟨b, 2, none⟩ = some (str o.val) := cellAt h 2 _ rfl
theorem OpAt.c3 (h : OpAt w b o) : w.cell? ⟨b, 3, none⟩ = some (.int .i64 o.ver) := cellAt h 3 _ rfl
end
/-- has such an operation a value? -/
def hv (k : Int) : Bool := k == 2 || k == 4
/-- has it a version? -/
def hn (k : Int) : Bool := k == 4
theorem hv_yes {k : Int} : hv k = true ↔ k = 2 ∨ k = 4 := by unfold hv; simp
theorem hv_no {k : Int} : hv k = false ↔ k ≠ 2 ∧ k ≠ 4 := by unfold hv; simp
theorem hn_yes {k : Int} : hn k = true ↔ k = 4 := by unfold hn; simp
theorem hn_no {k : Int} : hn k = false ↔ k ≠ 4 := by unfold hn; simp
/-- what may not be -/
def PT.bad (o : PT) : Prop := o.k < 1 ∨ 4 < o.k ∨ o.key = [] ∨ o.ver < 0 ∨ 4096 < o.ver ∨ (o.ver ≠ 0 ∧ o.k ≠ 4) ∨ (o.val ≠ [] ∧ o.k ≠ 2 ∧ o.k ≠ 4)
/-- what is too long -/
def PT.long (o : PT) : Prop := 16 < o.key.length ∨ 64 < o.val.length
/-- what may be -/
structure PT.fit (o : PT) : Prop where
  k1 : 1 ≤ o.k
  k4 : o.k ≤ 4
  key : o.key ≠ []
  v0 : 0 ≤ o.ver
  v1 : o.ver ≤ 4096
  ver : o.k ≠ 4 → o.ver = 0
  val : o.k ≠ 2 → o.k ≠ 4 → o.val = []
  l1 : o.key.length ≤ 16
  l2 : o.val.length ≤ 64
/-- what is wrong with it -/
def chk (o : PT) : Int := if (decide (o.k < 1) || decide (4 < o.k) || o.key.isEmpty || decide (o.ver < 0) || decide (4096 < o.ver) || (o.ver != 0 && !hn o.k) || (!o.val.isEmpty && !hv o.k)) = true then 2 else if (decide (16 < o.key.length) || decide (64 < o.val.length)) = true then 3 else 0
theorem bad_iff {o : PT} : o.bad ↔ (decide (o.k < 1) || decide (4 < o.k) || o.key.isEmpty || decide (o.ver < 0) || decide (4096 < o.ver) || (o.ver != 0 && !hn o.k) || (!o.val.isEmpty && !hv o.k)) = true := by
  unfold PT.bad hn hv
  simp [or_assoc]
theorem long_iff {o : PT} : o.long ↔ (decide (16 < o.key.length) || decide (64 < o.val.length)) = true := by unfold PT.long; simp
theorem chk_eq (o : PT) : chk o = if (decide (o.k < 1) || decide (4 < o.k) || o.key.isEmpty || decide (o.ver < 0) || decide (4096 < o.ver) || (o.ver != 0 && !hn o.k) || (!o.val.isEmpty && !hv o.k)) = true then 2 else if (decide (16 < o.key.length) || decide (64 < o.val.length)) = true then 3 else 0 := rfl
theorem chk_bad {o : PT} (h : o.bad) : chk o = 2 := by rw [chk_eq, if_pos (bad_iff.1 h)]
theorem chk_long {o : PT} (h : ¬ o.bad) (h2 : o.long) : chk o = 3 := by rw [chk_eq, if_neg (fun e => h (bad_iff.2 e)), if_pos (long_iff.1 h2)]
theorem chk_ok {o : PT} (h : ¬ o.bad) (h2 : ¬ o.long) : chk o = 0 := by rw [chk_eq, if_neg (fun e => h (bad_iff.2 e)), if_neg (fun e => h2 (long_iff.2 e))]
theorem chk_fit {o : PT} : chk o = 0 ↔ o.fit := by
  constructor
  · intro h
    by_cases hb : o.bad
    · rw [chk_bad hb] at h; omega
    by_cases hl : o.long
    · rw [chk_long hb hl] at h; omega
    unfold PT.bad at hb
    unfold PT.long at hl
    exact ⟨by omega, by omega, fun h => hb (.inr (.inr (.inl h))), by omega, by omega, fun h => by omega, fun h1 h2 => Classical.byContradiction fun h3 => hb (.inr (.inr (.inr (.inr (.inr (.inr ⟨h3, h1, h2⟩)))))), by omega, by omega⟩
  · rintro ⟨h1, h2, h3, h4, h5, h6, h7, h8, h9⟩
    refine chk_ok ?_ ?_
    · rintro (h | h | h | h | h | ⟨h, h'⟩ | ⟨h, h', h''⟩)
      · omega
      · omega
      · exact h3 h
      · omega
      · omega
      · exact h (h6 h')
      · exact h (h7 h' h'')
    · rintro (h | h) <;> omega
theorem chk_len (o : PT) : chk o = if o.k < 1 ∨ 4 < o.k ∨ o.key.length = 0 ∨ o.ver < 0 ∨ 4096 < o.ver ∨ (o.ver ≠ 0 ∧ o.k ≠ 4) ∨ (o.val.length ≠ 0 ∧ o.k ≠ 2 ∧ o.k ≠ 4) then 2 else if 16 < o.key.length ∨ 64 < o.val.length then 3 else 0 := by
  have e1 : o.bad ↔ (o.k < 1 ∨ 4 < o.k ∨ o.key.length = 0 ∨ o.ver < 0 ∨ 4096 < o.ver ∨ (o.ver ≠ 0 ∧ o.k ≠ 4) ∨ (o.val.length ≠ 0 ∧ o.k ≠ 2 ∧ o.k ≠ 4)) := by
    unfold PT.bad
    simp only [ne_eq, List.length_eq_zero_iff]
  by_cases h1 : o.bad
  · rw [chk_bad h1, if_pos (e1.1 h1)]
  rw [if_neg (fun h => h1 (e1.2 h))]
  by_cases h2 : o.long
  · rw [chk_long h1 h2]
    unfold PT.long at h2
    rw [if_pos h2]
  · rw [chk_ok h1 h2]
    unfold PT.long at h2
    rw [if_neg h2]
theorem chk_cases (o : PT) : chk o = 0 ∨ chk o = 2 ∨ chk o = 3 := by
  by_cases hb : o.bad
  · rw [chk_bad hb]; omega
  by_cases hl : o.long
  · rw [chk_long hb hl]; omega
  · rw [chk_ok hb hl]; omega

/-- a result -/
structure RT where
  code : Int
  val : List UInt8
  ver : Int
  at_ : Int
def RT.cells (r : RT) : List Value := [.int .i64 r.code, str r.val, .int .i64 r.ver, .int .i64 r.at_]
/-- none: zero -/
def rZero : RT := ⟨0, [], 0, 0⟩
theorem RT.one (o : RT) : ∀ u ∈ o.cells, u.oneCell' = true := by intro u hu; simp [RT.cells] at hu; rcases hu with rfl | rfl | rfl | rfl <;> rfl
/-- a key, what it has, its version -/
structure KV where
  key : List UInt8
  val : List UInt8
  ver : Int
def KV.cells (c : KV) : List Value := [str c.key, str c.val, .int .i64 c.ver]
theorem KV.one (o : KV) : ∀ u ∈ o.cells, u.oneCell' = true := by intro u hu; simp [KV.cells] at hu; rcases hu with rfl | rfl | rfl <;> rfl
/-- what stands under a key -/
def fnd (L : List KV) (k : List UInt8) : Option KV := L.find? fun c => c.key == k
/-- without a key -/
def del (L : List KV) (k : List UInt8) : List KV := L.filter fun c => !(c.key == k)
/-- laid in, where it belongs -/
def ins (c : KV) : List KV → List KV
  | [] => [c]
  | y :: r => if bytesBefore c.key y.key then c :: y :: r else y :: ins c r
/-- with a key, in its place -/
def put (L : List KV) (c : KV) : List KV := ins c (del L c.key)
/-- rising by their keys -/
def Rise (L : List KV) : Prop := L.Pairwise fun a b => bytesBefore a.key b.key = true
theorem fnd_key {L : List KV} {k : List UInt8} {c : KV} (h : fnd L k = some c) : c.key = k := by
  unfold fnd at h
  simpa using List.find?_some h
theorem fnd_none {L : List KV} {k : List UInt8} (h : fnd L k = none) : ∀ c ∈ L, c.key ≠ k := by
  unfold fnd at h
  intro c hc
  simpa using List.find?_eq_none.1 h c hc
theorem del_none {L : List KV} {k : List UInt8} (h : fnd L k = none) : del L k = L :=
  List.filter_eq_self.2 fun c hc => by simpa using fnd_none h c hc
theorem del_key {L : List KV} {k : List UInt8} : ∀ c ∈ del L k, c.key ≠ k := fun c hc => by
  have := (List.mem_filter.1 hc).2
  simpa using this
theorem del_len (L : List KV) (k : List UInt8) : (del L k).length ≤ L.length := List.length_filter_le _ _
theorem ins_len (c : KV) : ∀ L, (ins c L).length = L.length + 1
  | [] => rfl
  | y :: r => by unfold ins; split <;> simp [ins_len c r]
theorem put_len (L : List KV) (c : KV) : (put L c).length ≤ L.length + 1 := by
  unfold put; rw [ins_len]; have := del_len L c.key; omega
theorem ins_at (c : KV) : ∀ (L : List KV) (k : Nat), k ≤ L.length → (∀ y ∈ L, y.key ≠ c.key) → (∀ (i : Nat) (y : KV), i < k → L[i]? = some y → bytesBefore y.key c.key = true) → (∀ y, L[k]? = some y → bytesBefore y.key c.key = false) → ins c L = L.take k ++ c :: L.drop k
  | [], k, hk, _, _, _ => by
    have : k = 0 := by simpa using hk
    subst this; rfl
  | y :: r, 0, _, hne, _, h2 => by
    have e := h2 y (by simp)
    have : bytesBefore c.key y.key = true := (WideAt.bytes_total c.key y.key (fun e => hne y (by simp) e.symm)).resolve_right (by rw [e]; simp)
    unfold ins; rw [if_pos this]; rfl
  | y :: r, k + 1, hk, hne, h1, h2 => by
    have e := h1 0 y (by omega) rfl
    have : ¬ bytesBefore c.key y.key = true := fun e2 => by
      have := WideShapes.bytes_trans _ _ _ e e2
      rw [WideAt.bytes_irrefl] at this; cases this
    unfold ins; rw [if_neg this, ins_at c r k (by simpa using hk) (fun z hz => hne z (by simp [hz])) (fun i z hi hz => h1 (i + 1) z (by omega) (by simpa using hz)) (fun z hz => h2 z (by simpa using hz))]
    rfl
/-- what a key has, behind so many entries -/
def look (L : List KV) (k : List UInt8) (at_ : Int) : RT := match fnd L k with
  | some c => ⟨1, c.val, c.ver, at_⟩
  | none => ⟨2, [], 0, at_⟩
def lookX (x : Option KV) (at_ : Int) : RT := match x with
  | some c => ⟨1, c.val, c.ver, at_⟩
  | none => ⟨2, [], 0, at_⟩
theorem look_eq (L : List KV) (k : List UInt8) (at_ : Int) : look L k at_ = lookX (fnd L k) at_ := rfl
theorem look_some {L : List KV} {k : List UInt8} {c : KV} (h : fnd L k = some c) (at_ : Int) : look L k at_ = ⟨1, c.val, c.ver, at_⟩ := by unfold look; rw [h]
theorem look_none {L : List KV} {k : List UInt8} (h : fnd L k = none) (at_ : Int) : look L k at_ = ⟨2, [], 0, at_⟩ := by unfold look; rw [h]
/-- may an operation be applied as this entry? -/
def may (i : Int) (o : PT) : Bool := decide (1 ≤ i) && decide (i ≤ 4096) && decide (chk o = 0)
theorem may_yes {i : Int} {o : PT} : may i o = true ↔ 1 ≤ i ∧ i ≤ 4096 ∧ chk o = 0 := by unfold may; simp [and_assoc]
theorem may_no {i : Int} {o : PT} : may i o = false ↔ ¬ (1 ≤ i ∧ i ≤ 4096 ∧ chk o = 0) := by rw [← may_yes]; simp
/-- does it put? -/
def puts (L : List KV) (o : PT) : Bool := o.k == 2 || (o.k == 4 && (look L o.key 0).ver == o.ver)
/-- what stands there behind an operation -/
def appL (L : List KV) (i : Int) (o : PT) : List KV :=
  if may i o then if puts L o then put L ⟨o.key, o.val, i⟩ else if o.k = 3 then del L o.key else L else L
/-- what became of it -/
def appR (L : List KV) (i : Int) (o : PT) : RT :=
  if may i o then if puts L o then ⟨1, [], i, i⟩ else if o.k = 3 then (match fnd L o.key with | some _ => ⟨1, [], 0, i⟩ | none => ⟨2, [], 0, i⟩) else if o.k = 4 then ⟨3, (look L o.key 0).val, (look L o.key 0).ver, i⟩ else look L o.key i else rZero
/-- the seven ways of an operation -/
theorem app_ways (L : List KV) (i : Int) (o : PT) :
    (may i o = false ∧ appL L i o = L ∧ appR L i o = rZero) ∨
    (may i o = true ∧ o.k = 2 ∧ appL L i o = put L ⟨o.key, o.val, i⟩ ∧ appR L i o = ⟨1, [], i, i⟩) ∨
    (may i o = true ∧ o.k = 3 ∧ fnd L o.key = none ∧ appL L i o = L ∧ appR L i o = ⟨2, [], 0, i⟩) ∨
    (may i o = true ∧ o.k = 3 ∧ (∃ c, fnd L o.key = some c) ∧ appL L i o = del L o.key ∧ appR L i o = ⟨1, [], 0, i⟩) ∨
    (may i o = true ∧ o.k = 4 ∧ (look L o.key 0).ver ≠ o.ver ∧ appL L i o = L ∧ appR L i o = ⟨3, (look L o.key 0).val, (look L o.key 0).ver, i⟩) ∨
    (may i o = true ∧ o.k = 4 ∧ (look L o.key 0).ver = o.ver ∧ appL L i o = put L ⟨o.key, o.val, i⟩ ∧ appR L i o = ⟨1, [], i, i⟩) ∨
    (may i o = true ∧ o.k = 1 ∧ appL L i o = L ∧ appR L i o = look L o.key i) := by
  unfold appL appR
  cases hm : may i o
  · exact .inl ⟨rfl, rfl, rfl⟩
  refine .inr ?_
  have f := chk_fit.1 (may_yes.1 hm).2.2
  have k1 := f.k1
  have k4 := f.k4
  by_cases e2 : o.k = 2
  · have hp : puts L o = true := by unfold puts; simp [e2]
    exact .inl ⟨rfl, e2, by simp [hp], by simp [hp]⟩
  by_cases e3 : o.k = 3
  · have hp : puts L o = false := by unfold puts; simp [e3]
    cases hf : fnd L o.key with
    | none => exact .inr (.inl ⟨rfl, e3, rfl, by simp [hp, e3, del_none hf], by simp [hp, e3]⟩)
    | some c => exact .inr (.inr (.inl ⟨rfl, e3, ⟨c, rfl⟩, by simp [hp, e3], by simp [hp, e3]⟩))
  by_cases e4 : o.k = 4
  · by_cases ev : (look L o.key 0).ver = o.ver
    · have hp : puts L o = true := by unfold puts; simp [e4, ev]
      exact .inr (.inr (.inr (.inr (.inl ⟨rfl, e4, ev, by simp [hp], by simp [hp]⟩))))
    · have hp : puts L o = false := by unfold puts; simp [e4, ev]
      exact .inr (.inr (.inr (.inl ⟨rfl, e4, ev, by simp [hp, e4], by simp [hp, e4]⟩)))
  · have e1 : o.k = 1 := by omega
    have hp : puts L o = false := by unfold puts; simp [e1]
    exact .inr (.inr (.inr (.inr (.inr ⟨rfl, e1, by simp [hp, e1], by simp [hp, e1]⟩))))
theorem appL_len (L : List KV) (i : Int) (o : PT) : (appL L i o).length ≤ L.length + 1 := by
  rcases app_ways L i o with ⟨_, h, _⟩ | ⟨_, _, h, _⟩ | ⟨_, _, _, h, _⟩ | ⟨_, _, _, h, _⟩ | ⟨_, _, _, h, _⟩ | ⟨_, _, _, h, _⟩ | ⟨_, _, h, _⟩ <;> rw [h]
  · omega
  · exact put_len ..
  · omega
  · exact Nat.le_succ_of_le (del_len ..)
  · omega
  · exact put_len ..
  · omega
/-! ### as a map reads -/
def ent (c : KV) : Lit × DataW Unit := (.string c.key, .agg [.lit (.string c.val), .lit (.int .i64 c.ver)])
def dat (L : List KV) : DataW Unit := .map (L.map ent)
theorem ent_same (c : KV) (k : List UInt8) : (ent c).1.sameKey (.string k) = (c.key == k) := rfl
theorem dat_has (L : List KV) (k : List UInt8) : Maps.has (dat L) (.string k) = (fnd L k).isSome := by
  show (L.map ent).any _ = _
  unfold fnd
  induction L with
  | nil => rfl
  | cons c r ih =>
    simp only [List.map_cons, List.any_cons, List.find?_cons, ent_same]
    rw [ih]
    cases c.key == k <;> rfl
theorem dat_at (L : List KV) (k : List UInt8) (z : DataW Unit) : (dat L).atKey (.string k) z = match fnd L k with | some c => (ent c).2 | none => z := by
  have e : (L.map ent).find? (fun p => p.1.sameKey (.string k)) = (fnd L k).map ent := by
    unfold fnd
    rw [List.find?_map]
    rfl
  unfold dat DataW.atKey
  simp only [e]
  cases fnd L k <;> rfl
theorem dat_size (L : List KV) : Maps.size (dat L) = L.length := by show (L.map ent).length = _; simp
theorem dat_del (L : List KV) (k : List UInt8) : (dat L).del (.string k) = dat (del L k) := by
  show DataW.map ((L.map ent).filter _) = .map _
  unfold del
  rw [List.filter_map]
  congr 1
theorem ent_ins (c : KV) : ∀ L : List KV, DataW.insert (ent c) (L.map ent) = (ins c L).map ent
  | [] => rfl
  | y :: r => by
    have e : (ent c).1.before (ent y).1 = bytesBefore c.key y.key := rfl
    simp only [List.map_cons, DataW.insert, ins, e]
    split
    · rfl
    · rw [ent_ins c r]; rfl
theorem dat_put (L : List KV) (c : KV) : (dat L).put (.string c.key) (ent c).2 = dat (put L c) := by
  have h := dat_del L c.key
  have h : (L.map ent).filter (fun p => !p.1.sameKey (.string c.key)) = (del L c.key).map ent := by
    have := h
    unfold dat DataW.del at this
    injection this
  show DataW.map (DataW.insert (ent c) ((L.map ent).filter _)) = .map _
  rw [h, ent_ins]; rfl
theorem dat_keys (L : List KV) : strKeys (dat L) = L.map (·.key) := by
  show (L.map ent).map _ = _
  rw [List.map_map]
  rfl
theorem dat_nil : dat [] = .map [] := rfl
theorem dat_rise {L : List KV} (h : Maps.Canon (dat L)) : Rise L := by
  obtain ⟨es, h1, h2, _⟩ := h
  unfold dat at h1
  injection h1 with h1
  subst h1
  exact List.pairwise_map.1 h2
theorem bytes_le {a b : List UInt8} (h : bytesBefore a b = true) : a ≤ b := by
  induction a generalizing b with
  | nil => exact List.nil_le _
  | cons x r ih =>
    cases b with
    | nil => simp [bytesBefore] at h
    | cons y s =>
      simp only [bytesBefore, Bool.or_eq_true, Bool.and_eq_true, decide_eq_true_eq, beq_iff_eq] at h
      rw [List.cons_le_cons_iff]
      rcases h with h | ⟨h1, h2⟩
      · exact .inl h
      · exact .inr ⟨h1, ih h2⟩
theorem rise_keys {L : List KV} (h : Rise L) {ss : List (List UInt8)} (hp : ss.Perm (L.map (·.key))) : ss.mergeSort (fun x y => decide (x ≤ y)) = L.map (·.key) := by
  have e := mergeSort_of_perm hp
  rw [e]
  refine List.mergeSort_of_pairwise ?_
  rw [List.pairwise_map]
  exact h.imp fun hab => by simpa [leB] using bytes_le hab
theorem rise_apart {L : List KV} (h : Rise L) : L.Pairwise fun a b => a.key ≠ b.key :=
  h.imp fun hab e => by rw [e, WideAt.bytes_irrefl] at hab; cases hab
theorem fnd_mem {L : List KV} (h : Rise L) {c : KV} (hc : c ∈ L) : fnd L c.key = some c := by
  induction L with
  | nil => cases hc
  | cons y r ih =>
    unfold fnd
    rw [List.find?_cons]
    have h' := List.pairwise_cons.1 h
    by_cases e : y.key = c.key
    · have hyc : y = c := by
        rcases List.mem_cons.1 hc with rfl | hc
        · rfl
        · have := h'.1 c hc
          rw [e, WideAt.bytes_irrefl] at this; cases this
      simp [hyc]
    · have hc' : c ∈ r := by
        rcases List.mem_cons.1 hc with rfl | hc
        · exact absurd rfl e
        · exact hc
      have : (y.key == c.key) = false := by simpa using e
      rw [this]
      exact ih h'.2 hc'
end Go.Proofs.Ytfffgegdcgfakaa
