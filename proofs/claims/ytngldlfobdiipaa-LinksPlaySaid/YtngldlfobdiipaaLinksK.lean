/-
  Links: links as one thing; the chapter's.
-/
import Derived.Test.YtngldlfobdiipaaLinksJ
import Derived.OpenShut
import Derived.Laws.BitsLemmas
namespace Go.Proofs.Ytngldlfobdiipaa.Lk
open Go.ChangeShapes Go.WideShapes Go.ChangeAt Go.RowKit
set_option linter.unusedVariables false
attribute [local go_sem] bs_size bs_app bs_cut bs_tl bs_at
/-- blocks of S' are of S, or new -/
def Grew (S : Nat → Prop) (w : World) (S' : Nat → Prop) (w' : World) : Prop := ∀ k, S' k → (S k ∨ w.heap.size ≤ k) ∧ k < w'.heap.size
/-- the value p is links with the mail L, in blocks of S -/
def IsLk (w : World) (S : Nat → Prop) (p : Value) (cap : Nat) (L : List ML) : Prop := (∀ k, S k → k < w.heap.size) ∧ ∃ b m F, p = .pointer (some ⟨b, 0, none⟩) ∧ LkAt w b m cap L F ∧ S b ∧ S m ∧ ∀ c d g, (F c d).ownBlock = some g → S g
section
variable {w w' : World} {S T : Nat → Prop} {p p2 : Value} {cap : Nat} {L M : List ML}
theorem IsLk.kept (h : IsLk w S p cap L) (k : Chg T w w') (hd : ∀ i, S i → ¬ T i) : IsLk w' S p cap L := by
  obtain ⟨h0, b, m, F, rfl, hl, hb, hm, hF⟩ := h
  exact ⟨fun i hi => k.lt (h0 i hi), b, m, F, rfl, hl.kept k (hd b hb) (hd m hm) fun c d g hg => hd g (hF c d g hg), hb, hm, hF⟩
theorem IsLk.no (h : IsLk w S p cap L) (k : Chg noBlk w w') : IsLk w' S p cap L := h.kept k fun _ _ => id
theorem IsLk.lt (h : IsLk w S p cap L) : ∀ k, S k → k < w.heap.size := h.1
theorem IsLk.fit (h : IsLk w S p cap L) : Fit cap L := by obtain ⟨h0, b, m, F, rfl, hl, _⟩ := h; exact hl.fit
theorem IsLk.out (h : IsLk w S p cap L) {q : Nat} (hq : w.heap.size ≤ q) : ¬ S q := fun e => by have := h.lt q e; omega
theorem Grew.out {S S' : Nat → Prop} {w w' : World} {q : Nat} (h : Grew S w S' w') (hq : ¬ S q) (hl : q < w.heap.size) : ¬ S' q := fun e => by
  rcases (h q e).1 with e | e
  · exact hq e
  · omega
theorem Grew.new {S S' : Nat → Prop} {w w' : World} {n : Nat} (h : Grew S w S' w') (hS : ∀ k, S k → n ≤ k) (hn : n ≤ w.heap.size) : ∀ k, S' k → n ≤ k := fun k e => by
  rcases (h k e).1 with e | e
  · exact hS k e
  · omega
/-- told: new links -/
def MadeK (cap : Nat) (w : World) (e : Ending) (w' : World) : Prop := ∃ b S, e = .returned (.tuple #[.pointer (some ⟨b, 0, none⟩), .int .i64 0]) ∧ (∀ k, S k → w.heap.size ≤ k) ∧ IsLk w' S (.pointer (some ⟨b, 0, none⟩)) cap [] ∧ Chg noBlk w w'
theorem lk_new (cap : Nat) (w : World) (h1 : 1 ≤ cap) (h2 : cap ≤ 64) : Calls Try.prog 8 #[.int .i64 (cap : Int)] w (MadeK cap w) := by
  refine (new_yes cap w h1 h2).mono ?_
  rintro e w' ⟨b, m, rfl, hb, hm, k, hl⟩
  exact ⟨b, fun k => w.heap.size ≤ k ∧ k < w'.heap.size, rfl, fun k h => h.1, ⟨fun k h => h.2, b, m, _, rfl, hl, ⟨hb, hl.lt⟩, ⟨hm, hl.m.lt⟩, fun c d g hg => by cases hg⟩, k⟩
/-- told: r; and the links have L now -/
def DoneK (S : Nat → Prop) (p : Value) (r : Ending) (cap : Nat) (L : List ML) (w : World) (e : Ending) (w' : World) : Prop := e = r ∧ Chg S w w' ∧ ∃ S', Grew S w S' w' ∧ IsLk w' S' p cap L
theorem DidK.done {r e : Ending} {b m : Nat} {F : Hd} {x y : Int} (h : DidK r b m cap F (F x y) M w e w') (hb : S b) (hm : S m) (hF : ∀ c d g, (F c d).ownBlock = some g → S g) : DoneK S (.pointer (some ⟨b, 0, none⟩)) r cap M w e w' := by
  obtain ⟨F', he, k, hl, hF'⟩ := h
  refine ⟨he, k.mono fun i _ h => ?_, fun k => (S k ∨ w.heap.size ≤ k) ∧ k < w'.heap.size, fun k h => h, fun k h => h.2, b, m, F', rfl, hl, ⟨.inl hb, hl.lt⟩, ⟨.inl hm, hl.m.lt⟩, fun c d g hg => ⟨?_, hl.m.rows.lt hg⟩⟩
  · rcases h with rfl | h
    · exact hm
    · exact hF _ _ _ h
  · exact (hF' c d g hg).imp (fun ⟨c', d', h⟩ => hF _ _ _ h) id
theorem lk_send (h : IsLk w S p cap L) (x : ML) (hf : L.length ≤ 999) : Calls Try.prog 16 #[p, .agg x.cells.toArray] w (DoneK S p (.returned (.int .i64 (snd cap L x))) cap (sndL cap L x) w) := by
  obtain ⟨h0, b, m, F, rfl, hl, hb, hm, hF⟩ := h
  exact (send_any hl x hf).mono fun _ _ k => k.done hb hm hF
theorem lk_deliver (h : IsLk w S p cap L) (hf : L.length ≤ 999) {x y : Int} (hx : wfI x) (hy : wfI y) (i : Int) : Calls Try.prog 10 #[p, .int .i64 x, .int .i64 y, .int .i64 i] w (DoneK S p (.returned (.tuple #[.agg (fndM L x y i).cells.toArray, .int .i64 (fndE L x y i)])) cap (dlv L x y i) w) := by
  obtain ⟨h0, b, m, F, rfl, hl, hb, hm, hF⟩ := h
  exact (deliver_any hl (by omega) hx hy i).mono fun _ _ k => k.done hb hm hF
theorem lk_drop (h : IsLk w S p cap L) (hf : L.length ≤ 999) {x y : Int} (hx : wfI x) (hy : wfI y) (i : Int) : Calls Try.prog 12 #[p, .int .i64 x, .int .i64 y, .int .i64 i] w (DoneK S p (.returned (.int .i64 (fndE L x y i))) cap (dlv L x y i) w) := by
  obtain ⟨h0, b, m, F, rfl, hl, hb, hm, hF⟩ := h
  exact (drop_any hl (by omega) hx hy i).mono fun _ _ k => k.done hb hm hF
theorem lk_double (h : IsLk w S p cap L) (hf : L.length ≤ 999) {x y : Int} (hx : wfI x) (hy : wfI y) (i : Int) : Calls Try.prog 13 #[p, .int .i64 x, .int .i64 y, .int .i64 i] w (DoneK S p (.returned (.int .i64 (dblE cap L x y i))) cap (dblL cap L x y i) w) := by
  obtain ⟨h0, b, m, F, rfl, hl, hb, hm, hF⟩ := h
  exact (double_any hl hf hx hy i).mono fun _ _ k => k.done hb hm hF
theorem lk_count (h : IsLk w S p cap L) {x y : Int} (hx : wfI x) (hy : wfI y) : Calls Try.prog 20 #[p, .int .i64 x, .int .i64 y] w (Told (.int .i64 ((sel L x y).length : Int)) w) := by
  obtain ⟨h0, b, m, F, rfl, hl, hb, hm, hF⟩ := h
  exact count_at hl hx hy
theorem lk_list (h : IsLk w S p cap L) (hf : L.length ≤ 1000) {x y : Int} (hx : wfI x) (hy : wfI y) : Calls Try.prog 21 #[p, .int .i64 x, .int .i64 y] w (NewT (sel L x y) w) := by
  obtain ⟨h0, b, m, F, rfl, hl, hb, hm, hF⟩ := h
  exact list_at hl hf hx hy
theorem lk_isnone (h : IsLk w S p cap L) : Calls Try.prog 26 #[p] w (Told (.bool false) w) := by
  obtain ⟨h0, b, m, F, rfl, hl, hb, hm, hF⟩ := h
  exact isnone_at hl
end
/-! ### the chapter's links -/
def xa : ML := ⟨0, 1, [97]⟩
def xb : ML := ⟨0, 1, [98]⟩
def xc : ML := ⟨0, 1, [99]⟩
def x0 : ML := ⟨0, 0, []⟩
def x6 : ML := ⟨6, 0, []⟩
theorem s1 : snd 2 [] xa = 0 ∧ sndL 2 [] xa = [xa] := by constructor <;> rfl
theorem s2 : snd 2 [xa] xb = 0 ∧ sndL 2 [xa] xb = [xa, xb] := by constructor <;> rfl
theorem s3 : snd 2 [xa, xb] xc = 60 ∧ sndL 2 [xa, xb] xc = [xa, xb] := by constructor <;> rfl
theorem s4 : dblE 2 [xa, xb] 0 1 0 = 60 ∧ dblL 2 [xa, xb] 0 1 0 = [xa, xb] := by constructor <;> rfl
theorem s5 : fndM [xa, xb] 0 1 1 = xb ∧ fndE [xa, xb] 0 1 1 = 0 ∧ dlv [xa, xb] 0 1 1 = [xa] := by refine ⟨?_, ?_, ?_⟩ <;> rfl
theorem s6 : dblE 2 [xa] 0 1 0 = 0 ∧ dblL 2 [xa] 0 1 0 = [xa, xa] := by constructor <;> rfl
theorem s7 : sel [xa, xa] 0 1 = [[97], [97]] := by rfl
theorem s8 : snd 2 [xa, xa] x0 = 2 ∧ sndL 2 [xa, xa] x0 = [xa, xa] := by constructor <;> rfl
theorem s9 : snd 2 [xa, xa] x6 = 2 ∧ sndL 2 [xa, xa] x6 = [xa, xa] := by constructor <;> rfl
theorem s10 : fndE [xa, xa] 1 0 0 = 4 ∧ dlv [xa, xa] 1 0 0 = [xa, xa] := by constructor <;> rfl
set_option maxRecDepth 100000 in
theorem eq_mail (a b : Int) (s : ByteArray) (w : World) : (Op.equalIn 10000 33 (.agg #[.int .i64 a, .int .i64 b, .string s]) (.agg #[.int .i64 a, .int .i64 b, .string s])).run Try.prog w = .ok true w := by
  rw [run_equalIn_struct w 9999 _ _ _ Try.underlying33 (by kernel_rfl)]
  simp [go_sem, Op.eqFields]
end Go.Proofs.Ytngldlfobdiipaa.Lk
