/-
  Contracts of rings: a ring as one thing; one made.
-/
import Derived.Test.YtbhjeakaedbanaaRingsE
namespace Go.Proofs.Ytbhjeakaedbanaa
open Go.ChangeShapes Go.WideShapes Go.ChangeAt Go.RowKit
set_option linter.unusedVariables false
/-- blocks of S' are of S, or new -/
def Grew (S : Nat → Prop) (w : World) (S' : Nat → Prop) (w' : World) : Prop := ∀ k, S' k → (S k ∨ w.heap.size ≤ k) ∧ k < w'.heap.size
theorem Grew.not {S S' : Nat → Prop} {w w' : World} (h : Grew S w S' w') {k : Nat} (hk : ¬ S k) (hl : k < w.heap.size) : ¬ S' k := fun hs => by
  rcases (h k hs).1 with h1 | h1
  · exact hk h1
  · omega
/-- the value p is a ring of capacity cap with the frames L, in blocks of S -/
def Ring (w : World) (S : Nat → Prop) (p : Value) (cap : Nat) (L : List Fr) : Prop :=
  (∀ k, S k → k < w.heap.size) ∧ ∃ b bp first ps, p = .pointer (some ⟨b, 0, none⟩) ∧ RingAt w S b bp first cap ps L
section
variable {w w' : World} {S T : Nat → Prop} {p : Value} {cap : Nat} {L : List Fr} {f : Fr}
theorem RingAt.mono {b bp first : Nat} {ps : List (List Value)} (h : RingAt w S b bp first cap ps L) (k : ∀ i, i < w.heap.size → S i → T i) : RingAt w T b bp first cap ps L :=
  ⟨k b (lt_of_block h.own) h.sb, k bp h.rows.lt h.sp, h.ne, h.own, h.rows, h.len, h.lo, h.hi, h.fst, h.full, h.ok, fun i f hf => by
    obtain ⟨c, h1, h2⟩ := h.fr i f hf
    exact ⟨c, h1, h2.mono fun j hj hs => ⟨k j hj hs.1, hs.2⟩⟩⟩
theorem Ring.lt (h : Ring w S p cap L) : ∀ k, S k → k < w.heap.size := h.1
theorem Ring.kept (h : Ring w S p cap L) (k : Chg T w w') (hd : ∀ i, S i → ¬ T i) : Ring w' S p cap L := by
  obtain ⟨h0, b, bp, first, ps, rfl, hr⟩ := h
  exact ⟨fun i hi => k.lt (h0 i hi), b, bp, first, ps, rfl, hr.kept k fun i _ hi => hd i hi⟩
theorem Ring.keptNo (h : Ring w S p cap L) (k : Chg noBlk w w') : Ring w' S p cap L := h.kept k fun _ _ => id
theorem Ring.full (h : Ring w S p cap L) : L.length ≤ cap ∧ 1 ≤ cap ∧ cap ≤ 64 := by obtain ⟨h0, b, bp, first, ps, rfl, hr⟩ := h; exact ⟨hr.full, hr.lo, hr.hi⟩
theorem Ring.ok (h : Ring w S p cap L) : ∀ f ∈ L, f.Ok := by obtain ⟨h0, b, bp, first, ps, rfl, hr⟩ := h; exact hr.ok
/-- one pushed -/
def PushedR (S : Nat → Prop) (p : Value) (cap : Nat) (L : List Fr) (w : World) (e : Ending) (w' : World) : Prop :=
  e = .returned (.bool true) ∧ Chg S w w' ∧ ∃ S', Grew S w S' w' ∧ Ring w' S' p cap L
theorem ring_push (h : Ring w S p cap L) (hn : L.length < cap) (o : f.Ok) {c : List Value} (hf : FrR w c f) (hap : ∀ s i, c[24]? = some s → s.ownBlock = some i → 0 < f.n → ¬ S i) :
    Calls Try.prog 17 #[p, .agg c.toArray] w (PushedR S p cap (L ++ [f]) w) := by
  obtain ⟨h0, b, bp, first, ps, rfl, hr⟩ := h
  refine (push_yes S b bp first cap ps L f o c w hr hn hf hap).mono ?_
  rintro e w' ⟨rfl, k, ps', r⟩
  refine ⟨rfl, k.mono fun i _ hi => ?_, fun k => (S k ∨ w.heap.size ≤ k) ∧ k < w'.heap.size, fun i hi => hi, fun i hi => hi.2, b, bp, first, ps', rfl, r.mono fun i hi hs => ⟨hs, hi⟩⟩
  rcases hi with rfl | rfl
  · exact hr.sb
  · exact hr.sp
theorem ring_len (h : Ring w S p cap L) : Calls Try.prog 21 #[p] w (fun e w' => e = .returned (.int .i64 (L.length : Int)) ∧ w = w') := by
  obtain ⟨h0, b, bp, first, ps, rfl, hr⟩ := h
  exact len_at b _ first L.length w hr.own
theorem ring_cap (h : Ring w S p cap L) : Calls Try.prog 22 #[p] w (fun e w' => e = .returned (.int .i64 (cap : Int)) ∧ w = w') := by
  obtain ⟨h0, b, bp, first, ps, rfl, hr⟩ := h
  exact cap_at b _ cap cap first L.length w hr.own
theorem ring_push_no (h : Ring w S p cap L) (hn : L.length = cap) (c : List Value) : Calls Try.prog 17 #[p, .agg c.toArray] w (ToldB false w) := by
  refine push_no p c L.length w (fun w' k => ring_len (h.keptNo k)) (fun w' k => ?_)
  have := ring_cap (h.keptNo k)
  rw [← hn] at this; exact this
theorem ring_tell (h : Ring w S p cap L) (i : Nat) (hf : L[i]? = some f) : Calls Try.prog 14 #[p, .int .i64 (i : Int)] w (ToldF f w) := by
  obtain ⟨h0, b, bp, first, ps, rfl, hr⟩ := h
  exact ring_at hr i f hf
theorem ring_tell_no (h : Ring w S p cap L) (i : Int) (hi : i < 0 ∨ (L.length : Int) ≤ i) : Calls Try.prog 14 #[p, .int .i64 i] w (ToldN w) := by
  obtain ⟨h0, b, bp, first, ps, rfl, hr⟩ := h
  exact ring_no hr i hi
theorem ring_front (h : Ring w S p cap (f :: L)) : Calls Try.prog 12 #[p] w (ToldF f w) :=
  front_yes p f (h.ok f (by simp)) w fun w' k => ring_tell (h.keptNo k) 0 (by simp)
theorem ring_front_no (h : Ring w S p cap []) : Calls Try.prog 12 #[p] w (ToldN w) :=
  front_no p w fun w' k => ring_tell_no (h.keptNo k) 0 (by simp)
/-- one popped -/
def PoppedR (S : Nat → Prop) (p : Value) (cap : Nat) (f : Fr) (L : List Fr) (w : World) (e : Ending) (w' : World) : Prop :=
  ∃ c, e = .returned (.tuple #[.agg c.toArray, .bool true]) ∧ FrH w' (fun k => w.heap.size ≤ k) c f ∧ Chg S w w' ∧ Ring w' S p cap L
theorem ring_pop (h : Ring w S p cap (f :: L)) : Calls Try.prog 10 #[p] w (PoppedR S p cap f L w) := by
  obtain ⟨h0, b, bp, first, ps, rfl, hr⟩ := h
  refine (pop_yes S b bp first cap ps L f w hr h0).mono ?_
  rintro e w' ⟨c, rfl, h1, k, first', ps', r⟩
  refine ⟨c, rfl, h1, k.mono fun i _ hi => ?_, fun i hi => k.lt (h0 i hi), b, bp, first', ps', rfl, r⟩
  rcases hi with rfl | rfl
  · exact hr.sb
  · exact hr.sp
theorem ring_pop_no (h : Ring w S p cap []) : Calls Try.prog 10 #[p] w (ToldN w) :=
  pop_no p w fun w' k => ring_front_no (h.keptNo k)
end
theorem info_fr : (Try.prog.info? 42).map (fun i => (i.zero, i.size, i.bytes)) = some (some (.agg zeroFr.toArray), zeroFr.length, 288) := by kernel_rfl
theorem built_ring (b n : Nat) : Try.prog.built 60 [(0, .slice (some ⟨b, 0, none⟩) n n)] = some #[.slice (some ⟨b, 0, none⟩) n n, .int .i64 0, .int .i64 0] := by kernel_rfl
theorem built_bare : Try.prog.built 60 [] = some #[.slice none 0 0, .int .i64 0, .int .i64 0] := by kernel_rfl
/-- a frame with nothing but its Seq -/
def seqFr (x : Int) : List Value := zeroFr.set 3 (.int .i64 x)
def seqF (x : Int) : Fr := ⟨seqFr x, 0, []⟩
theorem built_seq (x : Int) : Try.prog.built 42 [(3, .int .i64 x)] = some (seqFr x).toArray := by kernel_rfl
theorem seq_ok (x : Int) : (seqF x).Ok := ⟨rfl, all_set zero_all rfl 3, by show 0 ≤ 1000; omega⟩
theorem seq_fr (x : Int) (w : World) : FrR w (seqFr x) (seqF x) := ⟨.slice none 0 0, rfl, rfl, Reads.nil _ _⟩
theorem seq_ap (x : Int) (S : Nat → Prop) : ∀ s i, (seqFr x)[24]? = some s → s.ownBlock = some i → 0 < (seqF x).n → ¬ S i := fun s i h hi => by
  have : s = .slice none 0 0 := by simpa [seqFr, zeroFr] using h.symm
  rw [this] at hi; simp [Value.ownBlock] at hi
theorem seq_is (x : Int) : Is29 (seqFr x).toArray := (seq_fr x default).is29 (seq_ok x)
theorem seq_get {w : World} {c : List Value} {x : Int} (h : FrR w c (seqF x)) : c.toArray[3]? = some (.int .i64 x) := by
  obtain ⟨s, rfl, _⟩ := h; simp [seqF, seqFr, zeroFr]
/-- told: a new ring -/
def MadeR (n : Nat) (w : World) (e : Ending) (w' : World) : Prop := ∃ p S', e = .returned (.tuple #[p, .int .i64 0]) ∧ (∀ k, S' k → w.heap.size ≤ k) ∧ Ring w' S' p n [] ∧ Chg noBlk w w'
theorem new_no (n : Int) (hn : n < 1 ∨ 64 < n) (w : World) : Calls Try.prog 8 #[.int .i64 n] w (fun e w' => e = .returned (.tuple #[.pointer none, .int .i64 2]) ∧ w = w') := by
  by_cases h : n < 1
  · have d1 : decide (n < 1) = true := by simpa using h
    go_enter Try.func8, Try.ntmps8
    go_wp2
    go_ret2
    exact ⟨rfl, rfl⟩
  · have d1 : decide (n < 1) = false := by simpa using h
    have d2 : decide (64 < n) = true := by simp; omega
    go_enter Try.func8, Try.ntmps8
    go_wp2
    go_ret2
    exact ⟨rfl, rfl⟩
set_option maxRecDepth 100000 in
theorem new_yes (n : Nat) (h1 : 1 ≤ n) (h2 : n ≤ 64) (w : World) : Calls Try.prog 8 #[.int .i64 (n : Int)] w (MadeR n w) := by
  have d1 : decide ((n : Int) < 1) = false := by simp; omega
  have d2 : decide (64 < (n : Int)) = false := by simp; omega
  go_enter Try.func8, Try.ntmps8
  go_wp2_with (first
    | (refine wpL_make rfl 48 (.tmp 10) (.tmp 10) rfl 42 zeroFr 288 Try.underlying48 info_fr (by decide) n rfl rfl (by omega) (by omega) ?_; intro bp w1 e1 k1 g1 z1)
    | (refine wpL_build rfl 60 #[(0, .tmp 11)] rfl #[.slice (some ⟨bp, 0, none⟩) n n, .int .i64 0, .int .i64 0] (built_ring bp n) ?_)
    | (refine wpL_box rfl 60 (.tmp 12) rfl _ rfl ?_; intro b w2 e2 k2 g2 z2))
  go_ret2
  refine ⟨_, fun k => k = b ∨ k = bp, rfl, fun k hk => by rcases hk with rfl | rfl <;> omega, ⟨fun k hk => by rcases hk with rfl | rfl <;> omega, b, bp, 0, List.replicate n zeroFr, rfl, ?_⟩, k1.andNo k2⟩
  exact ⟨.inl rfl, .inr rfl, by omega, g2, ⟨k2.at g1 id, fun c hc => by rw [List.eq_of_mem_replicate hc]; rfl⟩, by simp, h1, h2, by omega, by simp, by simp, by simp⟩
end Go.Proofs.Ytbhjeakaedbanaa
