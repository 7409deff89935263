/-
  Rings: whatever is done with one.
-/
import Derived.Test.YtbhjeakaedbanaaRingsQ
import Derived.Deep.DeepCutAuto
namespace Go.Proofs.Ytbhjeakaedbanaa
open Go.ChangeShapes Go.WideShapes Go.ChangeAt Go.RowKit
set_option linter.unusedVariables false
attribute [local go_sem ↓] ldFr_pre stFr_pre
/-- the two rings, alike, and apart -/
structure Both (w0 w : World) (S T : Nat → Prop) (p q : Value) (cap : Nat) (L : List Fr) : Prop where
  r : Ring w S p cap L
  q : RefQ w T q (cap : Int) L
  ty : ∀ f ∈ L, f.Ty
  newS : ∀ j, S j → w0.heap.size ≤ j
  newT : ∀ j, T j → w0.heap.size ≤ j
  apart : ∀ j, S j → ¬ T j
  kept : Chg noBlk w0 w
theorem Both.no {w0 w w' : World} {S T : Nat → Prop} {p q : Value} {cap : Nat} {L : List Fr} (h : Both w0 w S T p q cap L) (k : Chg noBlk w w') : Both w0 w' S T p q cap L :=
  ⟨h.r.keptNo k, h.q.keptNo k, h.ty, h.newS, h.newT, h.apart, h.kept.andNo k⟩
/-- a block of somebody else -/
def Out (S T : Nat → Prop) (x : Nat) : Prop := ¬ S x ∧ ¬ T x
theorem Both.out {w0 w : World} {S T : Nat → Prop} {p q : Value} {cap : Nat} {L : List Fr} (h : Both w0 w S T p q cap L) {x : Nat} (hx : w.heap.size ≤ x) : Out S T x :=
  ⟨fun hs => by have := h.r.lt x hs; omega, fun hs => by have := h.q.lt x hs; omega⟩
/-- a new block written -/
theorem Both.one {w0 w w' : World} {S T : Nat → Prop} {p q : Value} {cap : Nat} {L : List Fr} {x : Nat} (h : Both w0 w S T p q cap L) (k : Chg (oneBlk x) w w') (o : Out S T x) (hx : w0.heap.size ≤ x) : Both w0 w' S T p q cap L :=
  ⟨h.r.kept k fun i hi e => o.1 (by rw [← show i = x from e]; exact hi), h.q.kept k fun i hi e => o.2 (by rw [← show i = x from e]; exact hi), h.ty, h.newS, h.newT, h.apart, h.kept.trans k fun i hi e => by have e : i = x := e; omega⟩
/-- where the acts stand -/
def PlayAt (w0 : World) (p q : Value) (cap len : Nat) (i : Value) (w : World) : Prop := ∃ (k : Nat) (S T : Nat → Prop) (L : List Fr), k ≤ len ∧ i = .int .i64 (k : Int) ∧ Both w0 w S T p q cap L
/-- the acts lie in the slice's cells, each as it should -/
def Acts (w : World) (ad : Option Addr) (l : List AT) : Prop := ActsIn w ad l ∧ ∀ (i : Nat) a, l[i]? = some a → a.Ok w
theorem not_big {l : List AT} {most : Nat} (h : greatB l most = false) {i : Nat} {a : AT} (ha : l[i]? = some a) : a.n ≤ 10 ∨ ¬ ∃ ad cap, a.c[24]? = some (.slice ad a.n cap) := by
  by_cases hc : ∃ ad cap, a.c[24]? = some (.slice ad a.n cap)
  · left
    obtain ⟨ad, cap, hc⟩ := hc
    have hb : big a.c = false := by
      cases hb : big a.c with
      | false => rfl
      | true => rw [great_big ha hb] at h; cases h
    have : nmAt a.c = a.n := by simp [nmAt, hc]
    unfold big at hb
    rw [this] at hb
    simp at hb
    omega
  · exact .inr hc
theorem size_ac : (Try.prog.info? 44).map (·.size) = some 31 := size_act
theorem zero_act : (Try.prog.info? 44).bind (·.zero) = some (.agg zeroAct.toArray) := by kernel_rfl
theorem AT.one {a : AT} (h : Typed a.c) : a.cells.toArray.all (·.oneCell') = true := all_oneCell_toArray fun v hv => by
  simp only [AT.cells, List.mem_cons, List.mem_append, List.not_mem_nil, or_false] at hv
  rcases hv with rfl | hv | rfl
  · rfl
  · exact h.one v hv
  · rfl
/-- any ring: something pushed, something popped -/
theorem any_push {w : World} {S : Nat → Prop} {p : Value} {cap : Nat} {L : List Fr} {f : Fr} (h : Ring w S p cap L) (o : f.Ok) {c : List Value} (hf : FrR w c f) (hap : ∀ s i, c[24]? = some s → s.ownBlock = some i → 0 < f.n → ¬ S i) :
    Calls Try.prog 17 #[p, .agg c.toArray] w (fun e w' => ∃ b S' L', e = .returned (.bool b) ∧ Chg S w w' ∧ Grew S w S' w' ∧ Ring w' S' p cap L') := by
  by_cases hn : L.length < cap
  · refine (ring_push h hn o hf hap).mono ?_
    rintro e w' ⟨rfl, k, S', g, r⟩
    exact ⟨true, S', _, rfl, k, g, r⟩
  · have := h.full.1
    refine (ring_push_no h (by omega) c).mono ?_
    rintro e w' ⟨rfl, k⟩
    exact ⟨false, S, L, rfl, k.no S, fun j hj => ⟨.inl hj, k.lt (h.lt j hj)⟩, h.keptNo k⟩
theorem any_pop {w : World} {S : Nat → Prop} {p : Value} {cap : Nat} {L : List Fr} (h : Ring w S p cap L) : Calls Try.prog 10 #[p] w (fun e w' => ∃ c b L', e = .returned (.tuple #[.agg c, .bool b]) ∧ Chg S w w' ∧ Ring w' S p cap L') := by
  cases L with
  | nil =>
    refine (ring_pop_no h).mono ?_
    rintro e w' ⟨rfl, k⟩
    exact ⟨_, _, [], rfl, k.no S, h.keptNo k⟩
  | cons f L =>
    refine (ring_pop h).mono ?_
    rintro e w' ⟨c, rfl, _, k, r⟩
    exact ⟨_, _, L, rfl, k, r⟩
theorem front_pick {w : World} {S : Nat → Prop} {p : Value} {cap : Nat} {L : List Fr} (h : Ring w S p cap L) : Calls Try.prog 12 #[p] w (ToldP (fun k => w.heap.size ≤ k) (pick L 0) w) := by
  cases L with
  | nil => exact (ring_front_no h).mono fun e w' h => ⟨zeroFr, h.1, zeroF_h _ _, h.2⟩
  | cons f L => exact ring_front h
/-- told: a frame and whether there was one; of the ring's blocks some have turned -/
def GotR (S : Nat → Prop) (p : Value) (cap : Nat) (f : Fr) (ok : Bool) (L : List Fr) (w : World) (e : Ending) (w' : World) : Prop :=
  ∃ c, e = .returned (.tuple #[.agg c.toArray, .bool ok]) ∧ FrH w' (fun k => w.heap.size ≤ k) c f ∧ Chg S w w' ∧ Ring w' S p cap L
def GotQ (T : Nat → Prop) (q : Value) (cap : Int) (f : Fr) (ok : Bool) (L : List Fr) (w : World) (e : Ending) (w' : World) : Prop :=
  ∃ c, e = .returned (.tuple #[.agg c.toArray, .bool ok]) ∧ FrH w' T c f ∧ Chg T w w' ∧ RefQ w' T q cap L
/-- what popping tells, and leaves -/
def popL : List Fr → Fr × Bool × List Fr
  | [] => (zeroF, false, [])
  | f :: L => (f, true, L)
theorem got_pop {w : World} {S : Nat → Prop} {p : Value} {cap : Nat} {L : List Fr} (h : Ring w S p cap L) : Calls Try.prog 10 #[p] w (GotR S p cap (popL L).1 (popL L).2.1 (popL L).2.2 w) := by
  cases L with
  | nil => exact (ring_pop_no h).mono fun e w' k => ⟨zeroFr, k.1, zeroF_h _ _, k.2.no S, h.keptNo k.2⟩
  | cons f L => exact ring_pop h
theorem got_rpop {w : World} {T : Nat → Prop} {q : Value} {cap : Int} {L : List Fr} (h : RefQ w T q cap L) (hL : L.length ≤ 999) : Calls Try.prog 11 #[q] w (GotQ T q cap (popL L).1 (popL L).2.1 (popL L).2.2 w) := by
  cases L with
  | nil => exact (rpop_no T q cap w h).mono fun e w' k => ⟨zeroFr, k.1, zeroF_h _ _, k.2.no T, h.keptNo k.2⟩
  | cons f L => exact rpop_yes T q cap f L (by simp at hL; omega) w h
theorem got_at {w : World} {S : Nat → Prop} {p : Value} {cap : Nat} {L : List Fr} (h : Ring w S p cap L) (i : Int) : Calls Try.prog 14 #[p, .int .i64 i] w (GotR S p cap (pick L i).1 (pick L i).2 L w) :=
  (ring_pick h i).mono fun e w' ⟨c, h1, h2, h3⟩ => ⟨c, h1, h2, h3.no S, h.keptNo h3⟩
theorem got_front {w : World} {S : Nat → Prop} {p : Value} {cap : Nat} {L : List Fr} (h : Ring w S p cap L) : Calls Try.prog 12 #[p] w (GotR S p cap (pick L 0).1 (pick L 0).2 L w) :=
  (front_pick h).mono fun e w' ⟨c, h1, h2, h3⟩ => ⟨c, h1, h2, h3.no S, h.keptNo h3⟩
theorem got_rat {w : World} {T : Nat → Prop} {q : Value} {cap : Int} {L : List Fr} (h : RefQ w T q cap L) (hL : L.length ≤ 1000) (i : Int) : Calls Try.prog 13 #[q, .int .i64 i] w (GotQ T q cap (pick L i).1 (pick L i).2 L w) :=
  (refq_pick h hL i).mono fun e w' ⟨c, h1, h2, h3⟩ => ⟨c, h1, h2, h3.no T, h.keptNo h3⟩
theorem popL_ok {L : List Fr} (h : ∀ f ∈ L, f.Ok) : (popL L).1.Ok := by cases L with | nil => exact zeroF_ok | cons f L => exact h f (by simp)
theorem popL_ty {L : List Fr} (h : ∀ f ∈ L, f.Ty) : (popL L).1.Ty := by cases L with | nil => exact zeroF_ty | cons f L => exact h f (by simp)
theorem popL_sub {L : List Fr} {g : Fr} (h : g ∈ (popL L).2.2) : g ∈ L := by
  cases L with
  | nil => exact h
  | cons f L => exact List.mem_cons_of_mem _ h
/-- the members of a frame that came lie where something lay -/
theorem fr_old {w : World} {c : List Value} {f : Fr} (h : FrR w c f) (o : f.Ok) {s : Value} {i : Nat} (hs : c[24]? = some s) (hi : s.ownBlock = some i) (hn : 0 < f.n) : i < w.heap.size := by
  obtain ⟨u, rfl, _, hl, _, hh⟩ := h
  have hu : u = s := by
    have : (f.c.set 24 u)[24]? = some u := by simp [o.len]
    rw [this] at hs; simpa using hs
  subst hu
  rcases hh with ⟨_, h0⟩ | ⟨ad, cap, rfl, _, hc⟩
  · omega
  · have g0 : f.xs[0]? = some (f.xs[0]'(by omega)) := List.getElem?_eq_getElem (by omega)
    have hb := World.block_lt_of_cell? w _ (hc 0 _ g0)
    have e : (ad.add 0).block = ad.block := by unfold Addr.add; split <;> rfl
    rw [e] at hb
    have : ad.block = i := by simpa [Value.ownBlock] using hi
    omega
def pushL (cap : Nat) (L : List Fr) (f : Fr) : List Fr := if L.length < cap then L ++ [f] else L
theorem pushL_mem {cap : Nat} {L : List Fr} {f g : Fr} (h : g ∈ pushL cap L f) : g ∈ L ∨ g = f := by
  unfold pushL at h
  split at h
  · simpa using h
  · exact .inl h
def PutR (S : Nat → Prop) (p : Value) (cap : Nat) (ok : Bool) (L : List Fr) (w : World) (e : Ending) (w' : World) : Prop := ∃ S', e = .returned (.bool ok) ∧ Chg S w w' ∧ Grew S w S' w' ∧ Ring w' S' p cap L
def PutQ (T : Nat → Prop) (q : Value) (cap : Int) (ok : Bool) (L : List Fr) (w : World) (e : Ending) (w' : World) : Prop := ∃ T', e = .returned (.bool ok) ∧ Chg T w w' ∧ Grew T w T' w' ∧ RefQ w' T' q cap L
theorem got_push {w : World} {S : Nat → Prop} {p : Value} {cap : Nat} {L : List Fr} {f : Fr} (h : Ring w S p cap L) (o : f.Ok) {c : List Value} (hf : FrR w c f) (hap : ∀ s i, c[24]? = some s → s.ownBlock = some i → 0 < f.n → ¬ S i) :
    Calls Try.prog 17 #[p, .agg c.toArray] w (PutR S p cap (decide (L.length < cap)) (pushL cap L f) w) := by
  by_cases hn : L.length < cap
  · refine (ring_push h hn o hf hap).mono ?_
    rintro e w' ⟨rfl, k, S', g, r⟩
    exact ⟨S', by simp [hn], k, g, by unfold pushL; rw [if_pos hn]; exact r⟩
  · have := h.full.1
    refine (ring_push_no h (by omega) c).mono ?_
    rintro e w' ⟨rfl, k⟩
    exact ⟨S, by simp [hn], k.no S, fun j hj => ⟨.inl hj, k.lt (h.lt j hj)⟩, by unfold pushL; rw [if_neg hn]; exact h.keptNo k⟩
theorem got_rpush {w : World} {T : Nat → Prop} {q : Value} {cap : Nat} {L : List Fr} {f : Fr} (h : RefQ w T q (cap : Int) L) (hL : L.length ≤ cap) (hcap : cap ≤ 64) (o : f.Ok) {c : List Value} (hf : FrR w c f) :
    Calls Try.prog 18 #[q, .agg c.toArray] w (PutQ T q (cap : Int) (decide (L.length < cap)) (pushL cap L f) w) := by
  by_cases hn : L.length < cap
  · refine (rpush_yes T q cap L f o c hn hcap w h hf).mono ?_
    rintro e w' ⟨rfl, k, T', g, r⟩
    exact ⟨T', by simp [hn], k, g, by unfold pushL; rw [if_pos hn]; exact r⟩
  · refine (rpush_no T q cap L c (by omega) w h).mono ?_
    rintro e w' ⟨rfl, k⟩
    exact ⟨T, by simp [hn], k.no T, fun j hj => ⟨.inl hj, k.lt (h.lt j hj)⟩, by unfold pushL; rw [if_neg hn]; exact h.keptNo k⟩
theorem zero_frr {w : World} {x : Nat} {ob : Obj} {c : List Value} {f : Fr} (_ : w.heap[x]? = some ob) (hc : c = zeroFr) (hf : f = zeroF) : FrR w c f := by rw [hc, hf]; exact (zeroF_h _ noBlk).reads
theorem zero_is : Is29 zeroFr.toArray := ⟨rfl, zero_one⟩
theorem AT.f_ok {a : AT} {w : World} (h : a.Ok w) (hn : a.n ≤ 10) : a.f.Ok := frOf_ok h.ty (by omega)
theorem AT.f_ty {a : AT} {w : World} (h : a.Ok w) : a.f.Ty := by
  refine ⟨⟨by simp [AT.f, frOf, h.ty.len], fun i hi => ?_, fun i hi => ?_, ⟨none, 0, 0, ?_⟩⟩, h.xs⟩
  · obtain ⟨x, e⟩ := h.ty.ints i hi
    refine ⟨x, ?_⟩
    have : i ≠ 24 := by rintro rfl; simp at hi
    simp only [AT.f, frOf]; rw [List.getElem?_set_ne (Ne.symm this)]; exact e
  · obtain ⟨s, e, m⟩ := h.ty.strs i hi
    refine ⟨s, ?_, m⟩
    have : i ≠ 24 := by rintro rfl; simp at hi
    simp only [AT.f, frOf]; rw [List.getElem?_set_ne (Ne.symm this)]; exact e
  · simp [AT.f, frOf, h.ty.len]
/-- both, behind what turned the one, and the other -/
theorem Both.mk2 {w0 w w' : World} {S T S' T' : Nat → Prop} {p q : Value} {cap : Nat} {L L' : List Fr} (h : Both w0 w S T p q cap L) (hr : Ring w' S' p cap L') (hq : RefQ w' T' q (cap : Int) L') (ty : ∀ f ∈ L', f.Ty) (hS : ∀ j, S' j → w0.heap.size ≤ j) (hT : ∀ j, T' j → w0.heap.size ≤ j) (ha : ∀ j, S' j → ¬ T' j) (k : Chg noBlk w0 w') : Both w0 w' S' T' p q cap L' :=
  ⟨hr, hq, ty, hS, hT, ha, k⟩
theorem refq_clear {w w' : World} {T : Nat → Prop} {b : Nat} {cap : Int} {L : List Fr} (h : RefQ w T (.pointer (some ⟨b, 0, none⟩)) cap L) (k : Chg (oneBlk b) w w') (g : w'.heap[b]? = some (refC cap (.slice none 0 0))) : RefQ w' T (.pointer (some ⟨b, 0, none⟩)) cap [] := by
  obtain ⟨b', s, rows, e, h2, h3, h4, _⟩ := h
  cases e
  exact ⟨b, .slice none 0 0, [], rfl, h2, g, fun i hi => k.lt (h4 i hi), Holds.nil _ _ _, rfl, by simp, by simp, by simp⟩
theorem refq_at {w : World} {T : Nat → Prop} {q : Value} {cap : Int} {L : List Fr} (h : RefQ w T q cap L) : ∃ b s, q = .pointer (some ⟨b, 0, none⟩) ∧ T b ∧ w.heap[b]? = some (refC cap s) := by
  obtain ⟨b, s, rows, e, h2, h3, _⟩ := h
  exact ⟨b, s, e, h2, h3⟩
/-- a frame of new blocks, behind what turned others -/
theorem FrH.far {w w' : World} {m : Nat} {U : Nat → Prop} {c : List Value} {f : Fr} (h : FrH w (fun k => m ≤ k) c f) (k : Chg U w w') (hU : ∀ i, m ≤ i → ¬ U i) : FrH w' (fun k => m ≤ k) c f := h.kept k fun i _ hi => hU i hi
set_option maxRecDepth 100000 in
set_option maxHeartbeats 4000000 in
theorem play_out (n : Int) (hn : -9223372036854775808 ≤ n ∧ n ≤ 9223372036854775807) (ad : Option Addr) (l : List AT) (lcap : Nat) (w : World) (hl : l.length ≤ 9223372036854775807) (h : Acts w ad l) (hx : greatB l 200 = true ∨ (n < 1 ∨ 64 < n)) :
    Calls Try.prog 3 #[.int .i64 n, .slice ad l.length lcap] w (ToldB true w) := by
  have GC := hide (great_any ad l lcap 200 w hl (by omega) h.1)
  have HA := hide h
  clear h
  by_cases hg : greatB l 200 = true
  · go_enter Try.func3, Try.ntmps3
    go_wp2_with (first
      | (go_at_call 6; refine (unhide GC).mono ?_; rintro e w1 ⟨rfl, k1⟩)
      | (go_at_call 7; refine (ringed_any _).mono ?_; rintro e w2 ⟨rfl, k2⟩))
    go_ret
    exact ⟨rfl, k1.andNo k2⟩
  have hg' : greatB l 200 = false := by simpa using hg
  have HG := hide hg'
  clear hg
  have hrange : n < 1 ∨ 64 < n := by
    rcases hx with hx | hx
    · rw [hx] at hg'; cases hg'
    · exact hx
  clear hx
  · have NN := hide (fun w => new_no n hrange w)
    have RN := hide (fun w => rnew_no n hrange w)
    go_enter Try.func3, Try.ntmps3
    go_wp2_with (first
      | (go_at_call 6; refine (unhide GC).mono ?_; rintro e w1 ⟨rfl, k1⟩)
      | (go_at_call 8; refine (unhide NN _).mono ?_; rintro e w' ⟨rfl, rfl⟩)
      | (go_at_call 9; refine (unhide RN _).mono ?_; rintro e w' ⟨rfl, rfl⟩)
      | (go_at_call 7; refine (ringed_any _).mono ?_; rintro e w2 ⟨rfl, k2⟩))
    go_ret
    exact ⟨rfl, k1.andNo k2⟩
end Go.Proofs.Ytbhjeakaedbanaa
