/-
  The document's ring.
-/
import Derived.Test.YtbhjeakaedbanaaRingsL
namespace Go.Proofs.Ytbhjeakaedbanaa
open Go.ChangeShapes Go.WideShapes Go.ChangeAt Go.RowKit
set_option linter.unusedVariables false
attribute [local go_sem ↓] ldFr_pre stFr_pre
abbrev refT : TypeId := 50
abbrev refC (cap : Int) (s : Value) : Obj := .cells #[.int .i64 cap, s] refT (0, 0)
/-- the value q is the document's ring with the frames L, in blocks of T -/
def RefQ (w : World) (T : Nat → Prop) (q : Value) (cap : Int) (L : List Fr) : Prop :=
  ∃ (b : Nat) (s : Value) (rows : List (List Value)), q = .pointer (some ⟨b, 0, none⟩) ∧ T b ∧ w.heap[b]? = some (refC cap s) ∧ (∀ k, T k → k < w.heap.size) ∧ Holds w (fun k => T k ∧ k ≠ b) 29 s L.length rows.flatten ∧ rows.length = L.length ∧ (∀ c ∈ rows, c.length = 29) ∧
    (∀ (i : Nat) f, L[i]? = some f → ∃ c, rows[i]? = some c ∧ FrH w (fun k => T k ∧ k ≠ b) c f) ∧ ∀ f ∈ L, f.Ok
section
variable {w w' : World} {T U : Nat → Prop} {q : Value} {cap : Int} {L : List Fr} {f : Fr}
theorem RefQ.lt (h : RefQ w T q cap L) : ∀ k, T k → k < w.heap.size := by obtain ⟨b, s, rows, _, _, _, h, _⟩ := h; exact h
theorem RefQ.ok (h : RefQ w T q cap L) : ∀ f ∈ L, f.Ok := by obtain ⟨b, s, rows, _, _, _, _, _, _, _, _, h⟩ := h; exact h
theorem RefQ.kept (h : RefQ w T q cap L) (k : Chg U w w') (hd : ∀ i, T i → ¬ U i) : RefQ w' T q cap L := by
  obtain ⟨b, s, rows, h1, h2, h3, h4, h5, h6, h7, h8, h9⟩ := h
  exact ⟨b, s, rows, h1, h2, k.at h3 (hd b h2), fun i hi => k.lt (h4 i hi), h5.kept k (fun i _ hi => hd i hi.1), h6, h7, fun i f hf => by
    obtain ⟨c, e1, e2⟩ := h8 i f hf
    exact ⟨c, e1, e2.kept k fun j _ hj => hd j hj.1⟩, h9⟩
theorem RefQ.keptNo (h : RefQ w T q cap L) (k : Chg noBlk w w') : RefQ w' T q cap L := h.kept k fun _ _ => id
end
/-- told: a frame as f, of T, and true -/
def ToldT (T : Nat → Prop) (f : Fr) (w : World) (e : Ending) (w' : World) : Prop := ∃ c, e = .returned (.tuple #[.agg c.toArray, .bool true]) ∧ FrH w' T c f ∧ Chg noBlk w w'
theorem rnew_no (n : Int) (hn : n < 1 ∨ 64 < n) (w : World) : Calls Try.prog 9 #[.int .i64 n] w (fun e w' => e = .returned (.tuple #[.pointer none, .int .i64 2]) ∧ w = w') := by
  by_cases h : n < 1
  · have d1 : decide (n < 1) = true := by simpa using h
    go_enter Try.func9, Try.ntmps9
    go_wp2
    go_ret2
    exact ⟨rfl, rfl⟩
  · have d1 : decide (n < 1) = false := by simpa using h
    have d2 : decide (64 < n) = true := by simp; omega
    go_enter Try.func9, Try.ntmps9
    go_wp2
    go_ret2
    exact ⟨rfl, rfl⟩
theorem built_ref (n : Int) : Try.prog.built 50 [(0, .int .i64 n)] = some #[.int .i64 n, .slice none 0 0] := by kernel_rfl
/-- told: a new one -/
def MadeQ (n : Int) (w : World) (e : Ending) (w' : World) : Prop := ∃ q T, e = .returned (.tuple #[q, .int .i64 0]) ∧ (∀ k, T k → w.heap.size ≤ k) ∧ RefQ w' T q n [] ∧ Chg noBlk w w'
set_option maxRecDepth 100000 in
theorem rnew_yes (n : Nat) (h1 : 1 ≤ n) (h2 : n ≤ 64) (w : World) : Calls Try.prog 9 #[.int .i64 (n : Int)] w (MadeQ n w) := by
  have d1 : decide ((n : Int) < 1) = false := by simp; omega
  have d2 : decide (64 < (n : Int)) = false := by simp; omega
  go_enter Try.func9, Try.ntmps9
  go_wp2_with (first
    | (refine wpL_build rfl 50 #[(0, .tmp 10)] (by rfl) #[.int .i64 (n : Int), .slice none 0 0] (by exact built_ref n) ?_)
    | (refine wpL_box rfl 50 (.tmp 11) rfl _ rfl ?_; intro b w2 e2 k2 g2 z2))
  go_ret2
  exact ⟨_, fun k => k = b, rfl, fun k hk => by rw [hk]; omega, ⟨b, .slice none 0 0, [], rfl, rfl, g2, fun k hk => by rw [hk]; omega, Holds.nil _ _ _, rfl, by simp, by simp, by simp⟩, k2⟩
set_option maxRecDepth 100000 in
theorem rtell_no (T : Nat → Prop) (q : Value) (cap : Int) (L : List Fr) (hL : L.length ≤ 1000) (i : Int) (hi : i < 0 ∨ (L.length : Int) ≤ i) (w : World) (h : RefQ w T q cap L) : Calls Try.prog 13 #[q, .int .i64 i] w (ToldN w) := by
  obtain ⟨b, s, rows, rfl, h2, h3, h4, h5, h6, h7, h8, h9⟩ := h
  obtain ⟨a, cp, rfl⟩ : ∃ a cp, s = .slice a L.length cp := by
    rcases h5.2.2 with ⟨h, h0⟩ | ⟨g, off, cp, h, _⟩
    · exact ⟨none, 0, by rw [h, h0]⟩
    · exact ⟨_, _, h⟩
  have hb := lt_of_block h3
  have H3 := hide h3
  clear h2 h3 h4 h5 h6 h7 h8 h9
  by_cases hi0 : i < 0
  · have d1 : decide (i < 0) = true := by simpa using hi0
    go_enter Try.func13, Try.ntmps13
    go_wp2_with (first
      | (refine wpL_alloc rfl 42 rfl _ zero_fr ?_; intro b2 w2 e2 k2 g2 z2)
      | (refine wpL_build rfl 42 #[] rfl zeroFr.toArray build_fr ?_)
      | (refine wpL_store rfl 42 (.tmp 4) (.tmp 17) rfl b2 zeroFr.toArray rfl rfl _ _ g2 (by rw [size_fr]; rfl) rfl zero_one ?_; intro w5 k5 g5 z5))
    refine bodyPost_ret (results_row_tmp rfl _ _ b2 _ _ (0, 0) _ rfl g5 Try.underlying42 rfl (by rw [size_fr]; rfl)) rfl ?_
    exact ⟨rfl, k2.trans k5 fun i hi e => by have e : i = b2 := e; omega⟩
  · have d1 : decide (i < 0) = false := by simpa using hi0
    have d2 : decide ((L.length : Int) ≤ i) = true := by simp; omega
    go_enter Try.func13, Try.ntmps13
    go_wp2_with (first
      | (refine wpL_alloc rfl 42 rfl _ zero_fr ?_; intro b2 w2 e2 k2 g2 z2; have c1 := cellAt (k2.at (unhide H3) id) 1 _ rfl)
      | (refine wpL_build rfl 42 #[] rfl zeroFr.toArray build_fr ?_)
      | (refine wpL_store rfl 42 (.tmp 4) (.tmp 17) rfl b2 zeroFr.toArray rfl rfl _ _ g2 (by rw [size_fr]; rfl) rfl zero_one ?_; intro w5 k5 g5 z5))
    refine bodyPost_ret (results_row_tmp rfl _ _ b2 _ _ (0, 0) _ rfl g5 Try.underlying42 rfl (by rw [size_fr]; rfl)) rfl ?_
    exact ⟨rfl, k2.trans k5 fun i hi e => by have e : i = b2 := e; omega⟩
theorem ptr_ne {b i : Nat} (h : i ≠ b) : (Value.pointer (some ⟨b, 0, none⟩)) ≠ .pointer (some ⟨i, 0, none⟩) := by
  intro e; cases e; exact h rfl
/-- a slice's row of cells -/
theorem row_range {w : World} {S : Nat → Prop} {m : Nat} {s : Value} {n i : Nat} {rows : List (List Value)} {c : List Value} (h : Holds w S m s n rows.flatten) (hr : ∀ c ∈ rows, c.length = m) (hc : rows[i]? = some c) (hi : i < n) :
    ∃ g off cap, s = .slice (some ⟨g, off, none⟩) n cap ∧ S g ∧ w.rangeAt g (off + i * m) c := by
  obtain ⟨h1, h2, h3⟩ := h
  rcases h3 with ⟨_, h0⟩ | ⟨g, off, cap, hs, hS, _, _, hcell⟩
  · omega
  · refine ⟨g, off, cap, hs, hS, fun j v hv => ?_⟩
    have hj : j < m := by have := (List.getElem?_eq_some_iff.1 hv).1; have := hr c (List.mem_of_getElem? hc); omega
    have := (hcell (i * m + j) v (by rw [flat_at m rows hr i c hc j hj]; exact hv)).1
    rwa [← Nat.add_assoc] at this
set_option maxRecDepth 100000 in
theorem rtell (T : Nat → Prop) (q : Value) (cap : Int) (L : List Fr) (f : Fr) (hL : L.length ≤ 1000) (i : Nat) (hi : L[i]? = some f) (w : World) (h : RefQ w T q cap L) : Calls Try.prog 13 #[q, .int .i64 (i : Int)] w (ToldT (fun k => T k ∧ q ≠ .pointer (some ⟨k, 0, none⟩)) f w) := by
  have hlt : i < L.length := (List.getElem?_eq_some_iff.1 hi).1
  obtain ⟨b, s, rows, rfl, h2, h3, h4, h5, h6, h7, h8, h9⟩ := h
  obtain ⟨c, hc, hf⟩ := h8 i f hi
  obtain ⟨g, off, cp, rfl, hg, hrng⟩ := row_range h5 h7 hc hlt
  have o := h9 f (List.mem_of_getElem? hi)
  have hb := lt_of_block h3
  have H3 := hide h3
  have HF := hide hf
  have HR := hide hrng
  have h29 := hf.reads.is29 o
  have H4 := hide h4
  have hl29 := hf.reads.len o
  have d1 : decide ((i : Int) < 0) = false := by simp
  have d2 : decide (L.length ≤ i) = false := by simp; omega
  have i1 : (0 : Int) ≤ (i : Int) := by omega
  have i2 : (i : Int) < (L.length : Int) := by omega
  clear h2 h3 h4 h5 h6 h7 h8 h9 hc hf hi hrng
  go_enter Try.func13, Try.ntmps13
  go_wp2_with (first
    | (refine wpL_alloc rfl 42 rfl _ zero_fr ?_; intro b2 w2 e2 k2 g2 z2; have c1 := cellAt (k2.at (unhide H3) id) 1 _ rfl; have la := run_ldFr (range_kept (unhide HR) k2) hl29)
    | (refine wpL_store rfl 42 (.tmp 4) (.tmp 24) rfl b2 c.toArray rfl rfl _ _ g2 (by rw [size_fr, h29.1]) (by rw [h29.1]; rfl) h29.2 ?_; intro w5 k5 g5 z5))
  refine bodyPost_ret (results_row_tmp rfl _ _ b2 _ _ (0, 0) _ rfl g5 Try.underlying42 rfl (by rw [size_fr, h29.1])) rfl ?_
  refine ⟨c, rfl, (((unhide HF).kept k2 fun _ _ _ => id).kept k5 fun i hi h e => ?_).mono fun i _ hi => ⟨hi.1, ptr_ne hi.2⟩, k2.trans k5 fun i hi e => by have e : i = b2 := e; omega⟩
  have e : i = b2 := e
  have := unhide H4 i h.1
  omega
end Go.Proofs.Ytbhjeakaedbanaa
