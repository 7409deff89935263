/-
  Links: the map where it lies: under each pair that has mail, its texts, in a slice of the links' own.
-/
import Derived.Test.YtngldlfobdiipaaLinksB
import Derived.Sort.KeysCollected
namespace Go.Proofs.Ytngldlfobdiipaa.Lk
open Go.ChangeShapes Go.WideShapes Go.ChangeAt Go.RowKit
set_option linter.unusedVariables false
/-! ### how many -/
/-- as many as these pairs have -/
theorem sum_sel (L : List ML) : ∀ (ps : List (Int × Int)), ps.Nodup → (ps.map fun p => (sel L p.1 p.2).length).sum = (L.filter fun m => ps.contains (m.fr, m.to)).length
  | [], _ => by
    rw [List.filter_eq_nil_iff.2 (by simp)]
    rfl
  | p :: r, h => by
    obtain ⟨h1, h2⟩ := List.nodup_cons.1 h
    rw [List.map_cons, List.sum_cons, sum_sel L r h2]
    clear h h2
    induction L with
    | nil => rfl
    | cons m s ih =>
      have e0 : (isP p.1 p.2 m = true) ↔ (m.fr, m.to) = p := by
        rw [isP_yes]
        exact ⟨fun e => Prod.ext e.1 e.2, fun e => by rw [← e]; exact ⟨rfl, rfl⟩⟩
      by_cases hp : (m.fr, m.to) = p
      · have hr : r.contains (m.fr, m.to) = false := by rw [hp]; simpa using h1
        have hc : (p :: r).contains (m.fr, m.to) = true := by simp [hp]
        rw [sel_cons_hit s (e0.2 hp), List.filter_cons_of_neg (by simpa using hr), List.filter_cons_of_pos (by simpa using hc)]
        simp only [List.length_cons]
        omega
      · have hn : isP p.1 p.2 m = false := by
          cases hh : isP p.1 p.2 m
          · rfl
          · exact absurd (e0.1 hh) hp
        rw [sel_cons_miss s hn]
        have hc : (p :: r).contains (m.fr, m.to) = r.contains (m.fr, m.to) := by
          rw [List.contains_cons]
          have : ((m.fr, m.to) == p) = false := by simpa using hp
          rw [this, Bool.false_or]
        by_cases hr : r.contains (m.fr, m.to) = true
        · rw [List.filter_cons_of_pos (by simpa using hr), List.filter_cons_of_pos (by rw [hc]; simpa using hr)]
          simp only [List.length_cons]
          omega
        · rw [List.filter_cons_of_neg (by simpa using hr), List.filter_cons_of_neg (by rw [hc]; simpa using hr)]
          exact ih
theorem sum_all {L : List ML} {ps : List (Int × Int)} (h : ps.Nodup) (hm : ∀ m ∈ L, (m.fr, m.to) ∈ ps) : (ps.map fun p => (sel L p.1 p.2).length).sum = L.length := by
  rw [sum_sel L ps h]
  congr 1
  rw [List.filter_eq_self]
  intro m hm'
  simpa using hm m hm'
theorem len_le_sum : ∀ (ps : List Nat), (∀ n ∈ ps, 1 ≤ n) → ps.length ≤ ps.sum
  | [], _ => by simp
  | n :: r, h => by
    have := len_le_sum r fun x hx => h x (by simp [hx])
    have := h n (by simp)
    simp only [List.length_cons, List.sum_cons]
    omega
theorem pairs_few {L : List ML} {ps : List (Int × Int)} (h : ps.Nodup) (hm : ∀ p ∈ ps, sel L p.1 p.2 ≠ []) : ps.length ≤ L.length := by
  have h1 := len_le_sum (ps.map fun p => (sel L p.1 p.2).length) (fun n hn => by
    obtain ⟨p, hp, rfl⟩ := List.mem_map.1 hn
    have := List.length_pos_iff.2 (hm p hp)
    omega)
  rw [List.length_map, sum_sel L ps h] at h1
  exact Nat.le_trans h1 (List.length_filter_le _ _)
/-! ### the map's entries -/
/-- what stands under each pair -/
abbrev Hd := Int → Int → Value
def fset (F : Hd) (a b : Int) (v : Value) : Hd := fun c d => if c = a ∧ d = b then v else F c d
theorem fset_same (F : Hd) (a b : Int) (v : Value) : fset F a b v a b = v := by unfold fset; rw [if_pos ⟨rfl, rfl⟩]
theorem fset_other (F : Hd) {a b c d : Int} (v : Value) (h : ¬ (c = a ∧ d = b)) : fset F a b v c d = F c d := by unfold fset; rw [if_neg h]
/-- the datum D holds F under those pairs that have mail -/
structure Says (D : DataW Value) (F : Hd) (L : List ML) : Prop where
  at_ : ∀ a b, wfI a → wfI b → D.atKey (kl a b) (.held nilS) = .held (F a b)
  has : ∀ a b, wfI a → wfI b → Maps.has D (kl a b) = !(sel L a b).isEmpty
theorem says_nil : Says (.map []) (fun _ _ => nilS) [] := ⟨fun a b _ _ => rfl, fun a b _ _ => rfl⟩
section
variable {D : DataW Value} {F : Hd} {L M : List ML} {a b : Int}
theorem Says.put (h : Says D F L) (hD : Maps.IsMap D) (ha : wfI a) (hb : wfI b) (v : Value) (hm : sel M a b ≠ []) (ho : ∀ c d, ¬ (c = a ∧ d = b) → (sel M c d).isEmpty = (sel L c d).isEmpty) : Says (D.put (kl a b) (.held v)) (fset F a b v) M := by
  refine ⟨fun c d hc hd => ?_, fun c d hc hd => ?_⟩
  · by_cases e : c = a ∧ d = b
    · obtain ⟨rfl, rfl⟩ := e
      rw [Maps.atKey_put_same hD (kl_key hc hd), fset_same]
    · rw [Maps.atKey_put_other (fun e' => e (kl_inj hc hd ha hb e')), fset_other F v e, h.at_ c d hc hd]
  · by_cases e : c = a ∧ d = b
    · obtain ⟨rfl, rfl⟩ := e
      rw [Maps.has_put_same hD (kl_key hc hd)]
      cases hs : sel M c d with
      | nil => exact absurd hs hm
      | cons x r => rfl
    · rw [Maps.has_put_other (fun e' => e (kl_inj hc hd ha hb e')), h.has c d hc hd, ho c d e]
theorem Says.del (h : Says D F L) (ha : wfI a) (hb : wfI b) (hm : sel M a b = []) (ho : ∀ c d, ¬ (c = a ∧ d = b) → (sel M c d).isEmpty = (sel L c d).isEmpty) : Says (D.del (kl a b)) (fset F a b nilS) M := by
  refine ⟨fun c d hc hd => ?_, fun c d hc hd => ?_⟩
  · by_cases e : c = a ∧ d = b
    · obtain ⟨rfl, rfl⟩ := e
      rw [Maps.atKey_del_same, fset_same]
    · rw [Maps.atKey_del_other (fun e' => e (kl_inj hc hd ha hb e')), fset_other F _ e, h.at_ c d hc hd]
  · by_cases e : c = a ∧ d = b
    · obtain ⟨rfl, rfl⟩ := e
      rw [Maps.has_del_same, hm]
      rfl
    · rw [Maps.has_del_other (fun e' => e (kl_inj hc hd ha hb e')), h.has c d hc hd, ho c d e]
end
theorem own_tight {P : Program} {k : TypeId} {R : Value → Option (DataW Value × List MemPlace)} {w : World} {b n : Nat} {D : DataW Value} (h : w.ownsMap P k R b n D) : w.ownsMap P k R b (Maps.size D) D := by
  obtain ⟨es, clock, h1, h2, h3, h4⟩ := h
  refine ⟨es, clock, h1, h2, ?_, h4⟩
  have := congrArg Maps.size h4
  simp [Maps.size, length_sorted] at this
  show es.size ≤ Maps.size D
  unfold Maps.size
  omega
theorem chg_turned {w w' : World} {b : Nat} (h : w.mapTurned w' b) : Chg (oneBlk b) w w' ∧ w'.heap.size = w.heap.size := by
  have g := h.grown
  refine ⟨(Chg.grown w g).mono fun i _ e => (Option.some.inj e : i = b), ?_⟩
  obtain ⟨es, clock, es', clock', hb, rfl⟩ := h
  simp [ChangeMaps.setBlock]
theorem chg_set {w : World} {b : Nat} {es : Array MapEntry} {clock : Nat} (es' : Array MapEntry) (clock' : Nat) (h : w.heap[b]? = some (.map es clock)) : Chg (oneBlk b) w (ChangeMaps.setBlock w b (.map es' clock')) ∧ (ChangeMaps.setBlock w b (.map es' clock')).heap.size = w.heap.size ∧ (ChangeMaps.setBlock w b (.map es' clock')).heap[b]? = some (.map es' clock') :=
  ⟨(chg_turned ⟨es, clock, es', clock', h, rfl⟩).1, (chg_turned ⟨es, clock, es', clock', h, rfl⟩).2, ChangeMaps.heap_setBlock_same h _⟩
/-- the pairs of a map's datum -/
theorem datum_pairs {w : World} {m n : Nat} {D : DataW Value} {F : Hd} {L : List ML} (h : w.ownsMap Try.prog 61 hdR m n D) (hs : Says D F L) : ∃ ps : List (Int × Int), ps.Nodup ∧ ps.length = Maps.size D ∧ ∀ p ∈ ps, sel L p.1 p.2 ≠ [] := by
  obtain ⟨es, hD, hpw, hk⟩ := h.entries keyed
  obtain ⟨es', hD', hko⟩ := h.keysOf
  obtain rfl : es = es' := by rw [hD] at hD'; simpa using hD'
  have key : ∀ l : List (Lit × DataW Value), (∀ p ∈ l, Maps.KeysOf Try.prog 61 p.1) → ∃ ps : List (Int × Int), (∀ p ∈ ps, wfI p.1 ∧ wfI p.2) ∧ l.map (·.1) = ps.map fun p => kl p.1 p.2 := by
    intro l
    induction l with
    | nil => intro _; exact ⟨[], by simp, rfl⟩
    | cons x r ih =>
      intro hx
      obtain ⟨ps, h1, h2⟩ := ih fun p hp => hx p (by simp [hp])
      obtain ⟨v, hv⟩ := hx x (by simp)
      obtain ⟨a, b, rfl, wa, wb, hl⟩ := key_inv hv
      refine ⟨(a, b) :: ps, fun p hp => ?_, by rw [List.map_cons, List.map_cons, h2, hl]⟩
      rcases List.mem_cons.1 hp with rfl | hp
      · exact ⟨wa, wb⟩
      · exact h1 p hp
  obtain ⟨ps, h1, h2⟩ := key es hko
  have hl : ps.length = es.length := by have := congrArg List.length h2; simpa using this.symm
  have hn : (es.map (·.1)).Nodup := List.pairwise_map.2 hpw
  refine ⟨ps, ?_, by rw [hl, hD]; rfl, fun p hp => ?_⟩
  · rw [h2] at hn
    exact (List.pairwise_map.1 hn).imp fun hne e => hne (by rw [e])
  · have hmem : kl p.1 p.2 ∈ es.map (·.1) := by rw [h2]; exact List.mem_map.2 ⟨p, hp, rfl⟩
    obtain ⟨x, hx, hxe⟩ := List.mem_map.1 hmem
    have hh : Maps.has D (kl p.1 p.2) = true := by
      rw [hD, Maps.has_eq, List.any_eq_true]
      exact ⟨x, hx, by rw [hxe]; exact WideAt.sameKey_self (kl_key (h1 p hp).1 (h1 p hp).2)⟩
    rw [hs.has _ _ (h1 p hp).1 (h1 p hp).2] at hh
    intro e
    rw [e] at hh
    cases hh
/-! ### the slices -/
/-- a text's cell -/
def txC (t : List UInt8) : List Value := [str t]
theorem txC_len (t : List UInt8) : (txC t).length = 1 := rfl
theorem txC_one (t : List UInt8) : ∀ u ∈ txC t, u.oneCell' = true := by intro u hu; simp [txC] at hu; rw [hu]; rfl
/-- a slice of texts of the call's own -/
abbrev OwnT (w : World) (v : Value) (T : List (List UInt8)) : Prop := OwnL w 9 txC 1 v T
/-- under each pair its texts, in slices that are two where the pairs are -/
structure RowsF (w : World) (F : Hd) (L : List ML) : Prop where
  row : ∀ a b, OwnT w (F a b) (sel L a b)
  apart : ∀ a b c d g, (F a b).ownBlock = some g → (F c d).ownBlock = some g → a = c ∧ b = d
theorem rows_nil (w : World) : RowsF w (fun _ _ => nilS) [] := ⟨fun a b => ownL_nil _ _ _ _, fun a b c d g h => by cases h⟩
section
variable {w w' : World} {F : Hd} {L M : List ML} {S : Nat → Prop} {a b : Int}
theorem RowsF.kept (h : RowsF w F L) (k : Chg S w w') (hS : ∀ a b g, (F a b).ownBlock = some g → ¬ S g) : RowsF w' F L := ⟨fun a b => (h.row a b).kept k (hS a b), h.apart⟩
theorem RowsF.no (h : RowsF w F L) (k : Chg noBlk w w') : RowsF w' F L := h.kept k fun _ _ _ _ => id
theorem RowsF.lt (h : RowsF w F L) {g : Nat} (hg : (F a b).ownBlock = some g) : g < w.heap.size := (h.row a b).lt hg
/-- one pair's slice turned -/
theorem RowsF.set (h : RowsF w F L) (k : Chg (fun i => (F a b).ownBlock = some i) w w') {v : Value} (hv : OwnT w' v (sel M a b)) (hb : ∀ g, v.ownBlock = some g → (F a b).ownBlock = some g ∨ w.heap.size ≤ g) (ho : ∀ c d, ¬ (c = a ∧ d = b) → sel M c d = sel L c d) : RowsF w' (fset F a b v) M := by
  refine ⟨fun c d => ?_, fun c d e f g h1 h2 => ?_⟩
  · by_cases e : c = a ∧ d = b
    · obtain ⟨rfl, rfl⟩ := e
      rw [fset_same]; exact hv
    · rw [fset_other F v e, ho c d e]
      exact (h.row c d).kept k fun g hg he => e (h.apart c d a b g hg he)
  · by_cases x : c = a ∧ d = b
    · obtain ⟨rfl, rfl⟩ := x
      rw [fset_same] at h1
      by_cases y : e = c ∧ f = d
      · exact ⟨y.1.symm, y.2.symm⟩
      · rw [fset_other F v y] at h2
        rcases hb g h1 with h1 | h1
        · exact h.apart c d e f g h1 h2
        · have := h.lt h2
          omega
    · rw [fset_other F v x] at h1
      by_cases y : e = a ∧ f = b
      · obtain ⟨rfl, rfl⟩ := y
        rw [fset_same] at h2
        rcases hb g h2 with h2 | h2
        · exact h.apart c d e f g h1 h2
        · have := h.lt h1
          omega
      · rw [fset_other F v y] at h2
        exact h.apart c d e f g h1 h2
end
/-- a map at m: all mail, by pairs -/
structure MapAt (w : World) (m : Nat) (L : List ML) (F : Hd) : Prop where
  own : ∃ D, w.ownsMap Try.prog 61 hdR m (Maps.size D) D ∧ Says D F L
  rows : RowsF w F L
theorem map_made (w : World) : MapAt (w.alloc (.map #[] 0)) w.heap.size [] (fun _ _ => nilS) := ⟨⟨.map [], World.ownsMap_made w Try.prog 61 hdR, says_nil⟩, rows_nil _⟩
section
variable {w w' : World} {m : Nat} {F : Hd} {L M : List ML} {S : Nat → Prop} {a b : Int}
theorem MapAt.lt (h : MapAt w m L F) : m < w.heap.size := by obtain ⟨D, h1, _⟩ := h.own; exact World.ownsMap.lt h1
theorem own_kept {D : DataW Value} (h : w.ownsMap Try.prog 61 hdR m (Maps.size D) D) (e : w'.heap[m]? = w.heap[m]?) : w'.ownsMap Try.prog 61 hdR m (Maps.size D) D := by
  obtain ⟨es, clock, h1, h2⟩ := h
  exact ⟨es, clock, e.trans h1, h2⟩
theorem MapAt.kept (h : MapAt w m L F) (k : Chg S w w') (hm : ¬ S m) (hS : ∀ a b g, (F a b).ownBlock = some g → ¬ S g) : MapAt w' m L F := by
  have hl := h.lt
  obtain ⟨⟨D, h1, h2⟩, h3⟩ := h
  exact ⟨⟨D, own_kept h1 (k.block m hl hm), h2⟩, h3.kept k hS⟩
theorem MapAt.no (h : MapAt w m L F) (k : Chg noBlk w w') : MapAt w' m L F := h.kept k id fun _ _ _ _ => id
theorem MapAt.block (h : MapAt w m L F) : ∃ es clock, w.heap[m]? = some (.map es clock) := by obtain ⟨D, ⟨es, clock, h1, _⟩, _⟩ := h.own; exact ⟨es, clock, h1⟩
/-- the map's block is no slice's -/
theorem MapAt.ne (h : MapAt w m L F) {g : Nat} (hg : (F a b).ownBlock = some g) : g ≠ m := fun e => by
  obtain ⟨cur, hb⟩ := (h.rows.row a b).block hg
  obtain ⟨es, clock, h1⟩ := h.block
  rw [e, h1] at hb
  cases hb
theorem MapAt.few (h : MapAt w m L F) {D : DataW Value} (h1 : w.ownsMap Try.prog 61 hdR m (Maps.size D) D) (h2 : Says D F L) : Maps.size D ≤ L.length := by
  obtain ⟨ps, p1, p2, p3⟩ := datum_pairs h1 h2
  rw [← p2]
  exact pairs_few p1 p3
/-- what stands under a pair -/
theorem MapAt.look (h : MapAt w m L F) (ha : wfI a) (hb : wfI b) : (Instr.lookup 49 (.map (some m)) (pr a b) false).run Try.prog w = .ok (F a b) w := by
  obtain ⟨D, h1, h2⟩ := h.own
  obtain ⟨v, ps, hrun, hR⟩ := World.ownsMap.lookup h1 keyed Try.underlying49 (zero_sl w) (hdR_mk none 0 0) (key_of ha hb)
  rw [hrun]
  obtain ⟨p, n, c, rfl, hz⟩ := hdR_inv hR
  have e := h2.at_ a b ha hb
  unfold nilS at e
  rw [e] at hz
  simp only [Prod.mk.injEq, DataW.held.injEq] at hz
  rw [hz.1]
/-- a pair's entry taken for writing, and written -/
theorem MapAt.entry (h : MapAt w m L F) (ha : wfI a) (hb : wfI b) (hn : L.length < maxLen) : ∃ (st : Nat) (w1 : World), (Instr.mapEntry 49 (.map (some m)) (pr a b)).run Try.prog w = .ok (.tuple #[F a b, .int .i64 st]) w1 ∧ Chg (oneBlk m) w w1 ∧ w1.heap.size = w.heap.size ∧ (∃ es clock, w1.heap[m]? = some (.map es clock)) ∧
    ∀ (w2 : World) (p : Option Addr) (n c : Nat), w2.heap[m]? = w1.heap[m]? → ∃ w3, (Instr.entryStore 49 (.map (some m)) (.int .i64 st) (.slice p n c)).run Try.prog w2 = .ok () w3 ∧ Chg (oneBlk m) w2 w3 ∧ w3.heap.size = w2.heap.size ∧
      ∀ M, sel M a b ≠ [] → (∀ c d, ¬ (c = a ∧ d = b) → sel M c d = sel L c d) → ∃ D, w3.ownsMap Try.prog 61 hdR m (Maps.size D) D ∧ Says D (fset F a b (.slice p n c)) M := by
  have hlk := h.look ha hb
  obtain ⟨D, h1, h2⟩ := h.own
  have hfew := h.few h1 h2
  have h1' := h1
  obtain ⟨es, clock, hbk, hF, hsz, hD⟩ := h1
  obtain ⟨v0, st, es1, clock1, hrun, hv0, hback⟩ := WideElems.entry_then_store law Try.underlying49 zero_sl hbk hF (key_of ha hb)
  obtain ⟨c1, c2, c3⟩ := chg_set es1 clock1 hbk
  have e0 : v0 = F a b := by
    rcases Maps.fit_look false keyed Try.underlying49 (zero_sl w) hbk hF (key_of ha hb) with ⟨hr, hno, _⟩ | ⟨e1, y, he1, hk1, hr, _⟩
    · rw [hlk] at hr
      have hr := (Result.ok.inj hr).1
      rcases hv0 with ⟨e2, he2, hk2, _⟩ | ⟨_, rfl⟩
      · exact absurd hk2 (hno e2 he2)
      · exact hr.symm
    · rw [hlk] at hr
      have hr := (Result.ok.inj hr).1
      rcases hv0 with ⟨e2, he2, hk2, rfl⟩ | ⟨hno, _⟩
      · have := entry_eq_of_key ((MapKept.stamped_iff es clock).1 hF.stamped).2.2 he1 he2 (hk1.trans hk2.symm)
        subst this
        exact hr.symm
      · exact absurd hk1 (hno e1 he1)
  subst e0
  refine ⟨st, _, hrun, c1, c2, ⟨_, _, c3⟩, fun w2 p n c hw2 => ?_⟩
  have hw2' := hw2.trans c3
  obtain ⟨es', clock', hst, hup⟩ := hback w2 (.slice p n c) hw2'
  obtain ⟨d1, d2, d3⟩ := chg_set es' clock' hw2'
  refine ⟨_, hst, d1, d2, fun M hM ho => ?_⟩
  obtain ⟨w', hu, hown, _⟩ := World.ownsMap.update h1' keyed Try.underlying49 (by omega) (key_of ha hb) (hdR_mk p n c)
  rw [hup] at hu
  obtain rfl := (Result.ok.inj hu).2
  refine ⟨_, own_kept (own_tight hown) (d3.trans (ChangeMaps.heap_setBlock_same hbk _).symm), h2.put h1'.isMap ha hb _ hM fun c d e => by rw [ho c d e]⟩
/-- a pair's slice written -/
theorem MapAt.upd (h : ∃ D, w.ownsMap Try.prog 61 hdR m (Maps.size D) D ∧ Says D F L) (ha : wfI a) (hb : wfI b) (hn : L.length < maxLen) (p : Option Addr) (n c : Nat) : ∃ w', (Instr.mapUpdate 49 (.map (some m)) (pr a b) (.slice p n c)).run Try.prog w = .ok () w' ∧ Chg (oneBlk m) w w' ∧ w'.heap.size = w.heap.size ∧
    ∀ M, sel M a b ≠ [] → (∀ c d, ¬ (c = a ∧ d = b) → (sel M c d).isEmpty = (sel L c d).isEmpty) → ∃ D, w'.ownsMap Try.prog 61 hdR m (Maps.size D) D ∧ Says D (fset F a b (.slice p n c)) M := by
  obtain ⟨D, h1, h2⟩ := h
  obtain ⟨ps, p1, p2, p3⟩ := datum_pairs h1 h2
  have hfew := pairs_few p1 p3
  obtain ⟨w', hu, hown, ht⟩ := World.ownsMap.store h1 keyed Try.underlying49 (by omega) (key_of ha hb) (hdR_mk p n c)
  exact ⟨w', hu, (chg_turned ht).1, (chg_turned ht).2, fun M hM ho => ⟨_, own_tight hown, h2.put h1.isMap ha hb _ hM ho⟩⟩
/-- a pair's entry struck -/
theorem MapAt.drop (h : ∃ D, w.ownsMap Try.prog 61 hdR m (Maps.size D) D ∧ Says D F L) (ha : wfI a) (hb : wfI b) (ty : TypeId) : ∃ w', (Builtin.delete_ #[49, 61] ty #[.map (some m), pr a b]).run Try.prog w = .ok (.tuple #[]) w' ∧ Chg (oneBlk m) w w' ∧ w'.heap.size = w.heap.size ∧
    ∀ M, sel M a b = [] → (∀ c d, ¬ (c = a ∧ d = b) → (sel M c d).isEmpty = (sel L c d).isEmpty) → ∃ D, w'.ownsMap Try.prog 61 hdR m (Maps.size D) D ∧ Says D (fset F a b nilS) M := by
  obtain ⟨D, h1, h2⟩ := h
  obtain ⟨w', hu, hown, ht⟩ := World.ownsMap.drop h1 keyed Try.underlying49 (key_of ha hb) ty
  exact ⟨w', hu, (chg_turned ht).1, (chg_turned ht).2, fun M hM ho => ⟨_, own_tight hown, h2.del ha hb hM ho⟩⟩
end
end Go.Proofs.Ytngldlfobdiipaa.Lk
