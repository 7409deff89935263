/-
  Contracts of rings' own frames: a frame's members copied.
-/
import Derived.Test.YtbhjeakaedbanaaRows
import Derived.Test.YtbhjeakaedbanaaKitM
namespace Go.Proofs.Ytbhjeakaedbanaa
open Go.ChangeShapes Go.WideShapes Go.ChangeAt Go.RowKit
set_option linter.unusedVariables false
/-- a frame's zero -/
def zeroFr : List Value := [.int .i64 0, .int .i64 0, .int .i64 0, .int .i64 0, .int .i64 0, .int .i64 0, .int .i64 0, .int .i64 0, .string ByteArray.empty, .string ByteArray.empty, .int .i64 0, .int .i64 0, .string ByteArray.empty, .int .i64 0, .int .i64 0, .int .i64 0, .int .i64 0, .int .i64 0, .int .i64 0, .int .i64 0, .string ByteArray.empty, .string ByteArray.empty, .int .i64 0, .int .i64 0, .slice none 0 0, .int .i64 0, .int .i64 0, .int .i64 0, .int .i64 0]
theorem zero_fr : (Try.prog.info? 42).bind (·.zero) = some (.agg zeroFr.toArray) := by kernel_rfl
theorem size_fr : (Try.prog.info? 42).map (·.size) = some 29 := by kernel_rfl
theorem size_sl : (Try.prog.info? 38).map (·.size) = some 1 := by kernel_rfl
theorem info_mb : (Try.prog.info? 54).map (fun i => (i.zero, i.size, i.bytes)) = some (some (.agg #[.int .i64 0, .int .i64 0]), 2, 16) := by kernel_rfl
theorem size_arr {c : List Value} (hc : c.length = 29) : (Try.prog.info? 42).map (·.size) = some c.toArray.size := by rw [size_fr, List.size_toArray, hc]
theorem all_set {c : List Value} (h1 : ∀ v ∈ c, v.oneCell' = true) {s : Value} (hs : s.oneCell' = true) (i : Nat) : ∀ v ∈ c.set i s, v.oneCell' = true := fun v hv => by
  rcases List.mem_or_eq_of_mem_set hv with h | h
  · exact h1 v h
  · rw [h]; exact hs
/-- the frame with the cells c is told with another slice in its place: as many members, the same, in a block of its own -/
def OwnT (c : List Value) (n : Nat) (xs : List Value) (w : World) (e : Ending) (w' : World) : Prop :=
  ∃ s', e = .returned (.agg (c.set 24 s').toArray) ∧ s'.oneCell' = true ∧ w'.ownsRow 0 54 2 s' n xs ∧ (∀ k, s'.ownBlock = some k → w.heap.size ≤ k) ∧ Chg noBlk w w'
set_option maxRecDepth 100000 in
theorem own_any (c : List Value) (hc : c.length = 29) (h1 : ∀ v ∈ c, v.oneCell' = true) (s : Value) (n : Nat) (xs : List Value) (hs : c[24]? = some s) (w : World)
    (hr : Reads w 2 s n xs) (hn : n ≤ 1000) : Calls Try.prog 24 #[.agg c.toArray] w (OwnT c n xs w) := by
  have hc24 : c.toArray[24]? = some s := by simpa using hs
  have hset : ∀ s', (c.toArray.setIfInBounds 24 s') = (c.set 24 s').toArray := fun s' => by simp
  have hall : ∀ s', s'.oneCell' = true → (c.toArray.setIfInBounds 24 s').all (·.oneCell') = true := fun s' h => by rw [hset]; exact all_oneCell_toArray (all_set h1 h 24)
  go_enter Try.func24, Try.ntmps24
  go_wp2_with (first
    | (refine wpL_box rfl 42 _ rfl c.toArray rfl ?_; intro b1 w1 e1 k1 g1 z1)
    | (refine wpL_alloc rfl 42 rfl _ zero_fr ?_; intro b2 w2 e2 k2 g2 z2; replace g1 := k2.at g1 id)
    | (refine wpL_get rfl 38 (.tmp 4) rfl b1 24 rfl _ _ _ g1 _ Try.underlying38 rfl s hc24 ?_)
    | (refine wpL_clone rfl (.tmp 5) 38 rfl 54 _ 2 16 Try.underlying38 info_mb rfl (by decide) s n xs rfl ((hr.kept k1 fun _ _ _ => id).kept k2 fun _ _ _ => id) (by unfold maxLen; omega) (by omega) ?_; intro s' w3 k3 o3 f3 v3; replace g1 := k3.at g1 id; replace g2 := k3.at g2 id)
    | (refine wpL_set rfl 38 (.tmp 8) (.tmp 6) rfl b1 24 s' rfl rfl v3 size_sl _ _ g1 (by simp [hc]) ?_; intro w4 k4 g4 z4; replace g2 := k4.at g2 (by show ¬ (_ = _); omega))
    | (refine wpL_load rfl 42 (.tmp 1) rfl b1 rfl _ _ _ g4 _ Try.underlying42 rfl (by rw [size_fr]; simp [hc]) ?_)
    | (refine wpL_store rfl 42 (.tmp 2) (.tmp 9) rfl b2 _ rfl rfl _ _ g2 (by rw [size_fr]; simp [hc]) (by simp [hc, zeroFr]) (hall _ v3) ?_; intro w5 k5 g5 z5))
  refine bodyPost_ret (results_cell_row rfl _ _ b2 _ _ (0, 0) _ rfl g5 Try.underlying42 rfl (by rw [size_fr]; simp [hc])) rfl ?_
  have hb1 : w.heap.size ≤ b1 := by omega
  have hb2 : w.heap.size ≤ b2 := by omega
  refine ⟨s', by rw [hset], v3, ?_, fun k hk => ?_, ?_⟩
  · have f1 : s'.ownBlock = none ∨ s'.ownBlock ≠ some b1 := by
      right; intro h; have := f3 _ h; omega
    have f2 : s'.ownBlock = none ∨ s'.ownBlock ≠ some b2 := by
      right; intro h; have := f3 _ h; omega
    exact (o3.kept ⟨k4.os, k4.tape, k4.output, k4.size, fun k hk hn => k4.block k hk (fun e => hn (by rw [e]))⟩ f1).kept ⟨k5.os, k5.tape, k5.output, k5.size, fun k hk hn => k5.block k hk (fun e => hn (by rw [e]))⟩ f2
  · have := f3 k hk; omega
  · exact ((((k1.andNo k2).andNo k3).trans k4 fun i hi e => by have e : i = b1 := e; omega).trans k5 fun i hi e => by have e : i = b2 := e; omega)
/-- a frame: its cells, nil in the place of its members; these, and how many -/
structure Fr where
  c : List Value
  n : Nat
  xs : List Value
structure Fr.Ok (f : Fr) : Prop where
  len : f.c.length = 29
  one : ∀ v ∈ f.c, v.oneCell' = true
  few : f.n ≤ 1000
/-- the cells c read as the frame f -/
def FrR (w : World) (c : List Value) (f : Fr) : Prop := ∃ s, c = f.c.set 24 s ∧ s.oneCell' = true ∧ Reads w 2 s f.n f.xs
/-- and its members lie in a block of S -/
def FrH (w : World) (S : Nat → Prop) (c : List Value) (f : Fr) : Prop := ∃ s, c = f.c.set 24 s ∧ s.oneCell' = true ∧ Holds w S 2 s f.n f.xs
section
variable {w w' : World} {S T : Nat → Prop} {c : List Value} {f : Fr}
theorem FrH.reads (h : FrH w S c f) : FrR w c f := by obtain ⟨s, h1, h2, h3⟩ := h; exact ⟨s, h1, h2, h3.reads⟩
theorem FrH.kept (h : FrH w S c f) (k : Chg T w w') (hd : ∀ i, i < w.heap.size → S i → ¬ T i) : FrH w' S c f := by obtain ⟨s, h1, h2, h3⟩ := h; exact ⟨s, h1, h2, h3.kept k hd⟩
theorem FrH.mono (h : FrH w S c f) (k : ∀ i, i < w.heap.size → S i → T i) : FrH w T c f := by obtain ⟨s, h1, h2, h3⟩ := h; exact ⟨s, h1, h2, h3.mono k⟩
theorem FrR.len (h : FrR w c f) (o : f.Ok) : c.length = 29 := by obtain ⟨s, rfl, _⟩ := h; simp [o.len]
theorem FrR.one (h : FrR w c f) (o : f.Ok) : ∀ v ∈ c, v.oneCell' = true := by obtain ⟨s, rfl, h2, _⟩ := h; exact all_set o.one h2 24
theorem FrR.kept (h : FrR w c f) (o : f.Ok) (k : Chg T w w') (hd : ∀ s i, c[24]? = some s → s.ownBlock = some i → 0 < f.n → ¬ T i) : FrR w' c f := by
  obtain ⟨s, rfl, h2, h3⟩ := h; exact ⟨s, rfl, h2, h3.kept k fun i => hd s i (by simp [o.len])⟩
end
/-- told: a frame as f, of its own -/
def OwnF (f : Fr) (w : World) (e : Ending) (w' : World) : Prop := ∃ c, e = .returned (.agg c.toArray) ∧ FrH w' (fun k => w.heap.size ≤ k) c f ∧ Chg noBlk w w'
theorem own_fr (c : List Value) (f : Fr) (o : f.Ok) (w : World) (h : FrR w c f) : Calls Try.prog 24 #[.agg c.toArray] w (OwnF f w) := by
  have hl := h.len o
  have h1 := h.one o
  obtain ⟨s, rfl, h2, h3⟩ := h
  refine (own_any _ hl h1 s f.n f.xs (by simp [o.len]) w h3 o.few).mono ?_
  rintro e w' ⟨s', rfl, h4, h5, h6, h7⟩
  refine ⟨_, rfl, ⟨s', by simp, h4, (holds_own h5 h3.2.1).mono fun i _ hi => h6 i hi⟩, h7⟩
/-- a frame read, written: met whole -/
def ldFr (x : Value) : Sem Value := Instr.loadAt 42 x
def stFr (x y : Value) : Sem Unit := Instr.storeAt 42 x y
theorem ldFr_pre (x : Value) : Instr.loadAt 42 x = ldFr x := rfl
theorem stFr_pre (x y : Value) : Instr.storeAt 42 x y = stFr x y := rfl
/-- as many cells as a frame has -/
def Is29 (cs : Array Value) : Prop := cs.size = 29 ∧ cs.all (·.oneCell') = true
theorem is29 {c : List Value} (h : c.length = 29) (h1 : ∀ v ∈ c, v.oneCell' = true) : Is29 c.toArray := ⟨by simpa using h, all_oneCell_toArray h1⟩
theorem FrR.is29 {w : World} {c : List Value} {f : Fr} (h : FrR w c f) (o : f.Ok) : Is29 c.toArray := Go.Proofs.Ytbhjeakaedbanaa.is29 (h.len o) (h.one o)
theorem run_ldFr {w : World} {b o : Nat} {c : List Value} (h : w.rangeAt b o c) (hl : c.length = 29) : (ldFr (.pointer (some ⟨b, o, none⟩))).run Try.prog w = .ok (.agg c.toArray) w :=
  run_loadAt_mid w b o _ c _ h Try.underlying42 rfl (by rw [size_fr, hl])
theorem run_stFr {w : World} {b o : Nat} {cs : Array Value} (h : w.there b o 29) (hl : Is29 cs) : (stFr (.pointer (some ⟨b, o, none⟩)) (.agg cs)).run Try.prog w = .ok () (w.setCells b o cs.toList) :=
  run_storeAt_mid w b o _ cs (by rw [hl.1]; exact h) (by rw [size_fr, hl.1]) hl.2
end Go.Proofs.Ytbhjeakaedbanaa
