/-
  Contracts of rings: how many frames, places; where a frame stands; what is told of one.
-/
import Derived.Test.YtbhjeakaedbanaaRingsA
import Derived.Test.YtbhjeakaedbanaaKitR
import Derived.Deep.DrawnRows
import Derived.Deep.QuietTactic
import Derived.BigQuiet
import Derived.Deep.RegionHeld3
namespace Go.Proofs.Ytbhjeakaedbanaa
open Go.ChangeShapes Go.WideShapes Go.ChangeAt Go.RowKit
set_option linter.unusedVariables false
abbrev ringT : TypeId := 60
/-- a ring's own cells -/
abbrev ringC (pl : Value) (first count : Nat) : Obj := .cells #[pl, .int .i64 (first : Int), .int .i64 (count : Int)] ringT (0, 0)
theorem hide {p : Prop} (h : p) : Hid p := h
theorem unhide {p : Prop} (h : Hid p) : p := h
theorem len_nil (w : World) : Calls Try.prog 21 #[.pointer none] w (fun e w' => e = .returned (.int .i64 0) ∧ w = w') := by
  go_enter Try.func21, Try.ntmps21
  go_wp2
  go_ret
  exact ⟨rfl, rfl⟩
theorem len_at (b : Nat) (pl : Value) (first count : Nat) (w : World) (h : w.heap[b]? = some (ringC pl first count)) : Calls Try.prog 21 #[.pointer (some ⟨b, 0, none⟩)] w (fun e w' => e = .returned (.int .i64 (count : Int)) ∧ w = w') := by
  have c2 := cellAt h 2 _ rfl
  clear h
  go_enter Try.func21, Try.ntmps21
  go_wp2
  go_ret
  exact ⟨rfl, rfl⟩
theorem cap_nil (w : World) : Calls Try.prog 22 #[.pointer none] w (fun e w' => e = .returned (.int .i64 0) ∧ w = w') := by
  go_enter Try.func22, Try.ntmps22
  go_wp2
  go_ret
  exact ⟨rfl, rfl⟩
theorem cap_at (b : Nat) (ad : Option Addr) (n cap : Nat) (first count : Nat) (w : World) (h : w.heap[b]? = some (ringC (.slice ad n cap) first count)) : Calls Try.prog 22 #[.pointer (some ⟨b, 0, none⟩)] w (fun e w' => e = .returned (.int .i64 (n : Int)) ∧ w = w') := by
  have c2 := cellAt h 0 _ rfl
  clear h
  go_enter Try.func22, Try.ntmps22
  go_wp2
  go_ret
  exact ⟨rfl, rfl⟩
/-- told: a number; only the order was drawn -/
def NumQ (n : Nat) (w : World) (e : Ending) (w' : World) : Prop := e = .returned (.int .i64 (n : Int)) ∧ ∃ d, w' = w.drewN d
theorem place_at (b : Nat) (ad : Option Addr) (cap : Nat) (first count i : Nat) (hc : 1 ≤ cap) (hc2 : cap ≤ 64) (hf : first ≤ 64) (hi : i ≤ 64) (w : World) (h : w.heap[b]? = some (ringC (.slice ad cap cap) first count)) :
    Calls Try.prog 23 #[.pointer (some ⟨b, 0, none⟩), .int .i64 (i : Int)] w (NumQ ((first + i) % cap) w) := by
  have c0 := cellAt h 0 _ rfl
  have c1 := cellAt h 1 _ rfl
  clear h
  go_enter Try.func23, Try.ntmps23
  go_wp2
  go_quiet (fail)
  go_wp2
  go_ret
  refine ⟨?_, _, rfl⟩
  congr 2
/-- told: a frame that reads as f, of its own, and true -/
def ToldF (f : Fr) (w : World) (e : Ending) (w' : World) : Prop := ∃ c, e = .returned (.tuple #[.agg c.toArray, .bool true]) ∧ FrH w' (fun k => w.heap.size ≤ k) c f ∧ Chg noBlk w w'
def ToldN (w : World) (e : Ending) (w' : World) : Prop := e = .returned (.tuple #[.agg zeroFr.toArray, .bool false]) ∧ Chg noBlk w w'
theorem build_fr : Try.prog.built 42 [] = some zeroFr.toArray := by kernel_rfl
theorem zero_one : zeroFr.toArray.all (·.oneCell') = true := all_oneCell_toArray (by simp [zeroFr, Value.oneCell'])
attribute [local go_sem ↓] Go.wp_at_zero Go.wp_at_succ
set_option maxRecDepth 100000 in
/-- nothing is told: the number is below 0, or not below the length -/
theorem at_no (p : Value) (i : Int) (n : Nat) (w : World) (hl : ∀ w', Chg noBlk w w' → Calls Try.prog 21 #[p] w' (fun e w'' => e = .returned (.int .i64 (n : Int)) ∧ w' = w'')) (h : i < 0 ∨ (n : Int) ≤ i) : Calls Try.prog 14 #[p, .int .i64 i] w (ToldN w) := by
  have HL := hide hl
  clear hl
  by_cases hi : i < 0
  · have d1 : decide (i < 0) = true := by simpa using hi
    go_enter Try.func14, Try.ntmps14
    go_wp2_with (first
      | (refine wpL_alloc rfl 42 rfl _ zero_fr ?_; intro b2 w2 e2 k2 g2 z2)
      | (refine wpL_build rfl 42 #[] rfl zeroFr.toArray build_fr ?_)
      | (refine wpL_store rfl 42 (.tmp 4) (.tmp 14) rfl b2 zeroFr.toArray rfl rfl _ _ g2 (by rw [size_fr]; rfl) rfl zero_one ?_; intro w5 k5 g5 z5))
    refine bodyPost_ret (results_row_tmp rfl _ _ b2 _ _ (0, 0) _ rfl g5 Try.underlying42 rfl (by rw [size_fr]; rfl)) rfl ?_
    exact ⟨rfl, k2.trans k5 fun i hi e => by have e : i = b2 := e; omega⟩
  · have d1 : decide (i < 0) = false := by simpa using hi
    have d2 : decide ((n : Int) ≤ i) = true := by simp; omega
    go_enter Try.func14, Try.ntmps14
    go_wp2_with (first
      | (refine wpL_alloc rfl 42 rfl _ zero_fr ?_; intro b2 w2 e2 k2 g2 z2)
      | (go_at_call 21; refine (unhide HL _ k2).mono ?_; rintro e w' ⟨rfl, rfl⟩)
      | (refine wpL_build rfl 42 #[] rfl zeroFr.toArray build_fr ?_)
      | (refine wpL_store rfl 42 (.tmp 4) (.tmp 14) rfl b2 zeroFr.toArray rfl rfl _ _ g2 (by rw [size_fr]; rfl) rfl zero_one ?_; intro w5 k5 g5 z5))
    refine bodyPost_ret (results_row_tmp rfl _ _ b2 _ _ (0, 0) _ rfl g5 Try.underlying42 rfl (by rw [size_fr]; rfl)) rfl ?_
    exact ⟨rfl, k2.trans k5 fun i hi e => by have e : i = b2 := e; omega⟩
attribute [local go_sem ↓] ldFr_pre stFr_pre
abbrev BaseF (w1 : World) (b : Nat) (w : World) : Prop := Base w1 b 42 29 w
theorem BaseF.set {w1 w : World} {b : Nat} (h : BaseF w1 b w) {cs : Array Value} (hcs : Is29 cs) : BaseF w1 b (w.setCells b 0 cs.toList) := h.setCells Try.prog hcs.1 hcs.2
/-- what the reading of a frame in its place needs -/
theorem at_keep {w1 w' : World} {b bp b4 cap first n k : Nat} {ps : List (List Value)} {c : List Value} (hk : BaseF w1 b4 w') (h : w1.heap[b]? = some (ringC (.slice (some ⟨bp, 0, none⟩) cap cap) first n)) (hr : RowsAt w1 bp 42 29 ps) (hc : ps[k]? = some c)
    (n1 : b ≠ b4) (n2 : bp ≠ b4) : BaseF w1 b4 w' ∧ w'.cell? ⟨b, 0, none⟩ = some (.slice (some ⟨bp, 0, none⟩) cap cap) ∧ (ldFr (.pointer (some ⟨bp, k * 29, none⟩))).run Try.prog w' = .ok (.agg c.toArray) w' ∧
      (∀ cs, Is29 cs → (stFr (.pointer (some ⟨b4, 0, none⟩)) (.agg cs)).run Try.prog w' = .ok () (w'.setCells b4 0 cs.toList)) :=
  ⟨hk, cellAt (hk.1.at h n1) 0 _ rfl, run_ldFr ((hr.kept hk.1 n2).range hc) (hr.len c (List.mem_of_getElem? hc)), fun cs hcs => run_stFr hk.2.there hcs⟩
theorem len_at' (b : Nat) (pl : Value) (first count : Nat) (w : World) (h : w.heap[b]? = some (ringC pl first count)) : ∀ w', Chg noBlk w w' → Calls Try.prog 21 #[.pointer (some ⟨b, 0, none⟩)] w' (fun e w'' => e = .returned (.int .i64 (count : Int)) ∧ w' = w'') :=
  fun w' k => len_at b pl first count w' (k.at h id)
set_option maxRecDepth 100000 in
set_option maxHeartbeats 1000000 in
theorem at_yes (b bp cap first n i : Nat) (ps : List (List Value)) (c : List Value) (f : Fr) (S : Nat → Prop) (w : World) (h : w.heap[b]? = some (ringC (.slice (some ⟨bp, 0, none⟩) cap cap) first n)) (hr : RowsAt w bp 42 29 ps) (hps : ps.length = cap)
    (h1 : 1 ≤ cap) (h2 : cap ≤ 64) (h3 : first < cap) (h5 : n ≤ cap) (hi : i < n) (hc : ps[(first + i) % cap]? = some c) (hf : FrH w S c f) (ho : f.Ok) : Calls Try.prog 14 #[.pointer (some ⟨b, 0, none⟩), .int .i64 (i : Int)] w (ToldF f w) := by
  have d1 : decide ((i : Int) < 0) = false := by simp
  have d2 : decide (n ≤ i) = false := by simp; omega
  have p1 : (0 : Int) ≤ (((first + i) % cap : Nat) : Int) := by omega
  have p2 : ((((first + i) % cap : Nat) : Int)) < (cap : Int) := by have := Nat.mod_lt (first + i) h1; omega
  obtain ⟨k, hk⟩ : ∃ k, k = (first + i) % cap := ⟨_, rfl⟩
  rw [← hk] at hc p1 p2
  have LN := hide (len_at' b _ first n w h)
  have H := hide h
  have HR := hide hr
  have HK := hide hk
  have HC := hide hc
  have HF := hide hf
  have hl := hf.reads.len ho
  have hsz : (Try.prog.info? 42).map (·.size) = some c.length := by rw [size_fr, hl]
  have hu := Try.underlying42
  clear h hr hk hf hc hps
  have hb0 := lt_of_block (unhide H)
  have hb1 := (unhide HR).lt
  go_enter Try.func14, Try.ntmps14
  go_wp2_with (first
    | (refine wpL_alloc rfl 42 rfl _ zero_fr ?_; intro b4 w1 e2 k2 g2 z2)
    | (go_at_call 21; refine (unhide LN _ k2).mono ?_; rintro e w' ⟨rfl, rfl⟩))
  have KE := hide (fun w' (hk : BaseF w1 b4 w') => at_keep hk (k2.at (unhide H) id) ((unhide HR).kept k2 id) (unhide HC) (by omega) (by omega))
  have B0 : BaseF w1 b4 w1 := Base.mk' ⟨_, g2, rfl⟩
  have FK := hide (fun w' (hk : BaseF w1 b4 w') => FrH.reads ((unhide HF).kept (T := oneBlk b4) ((k2.no (oneBlk b4)).trans hk.1 fun _ _ e => e) (fun i hi _ e => by have e : i = b4 := e; omega)))
  have PK := hide (fun w' (hk : BaseF w1 b4 w') => place_at b (some ⟨bp, 0, none⟩) cap first n i h1 h2 (by omega) (by omega) w' (hk.1.at (k2.at (unhide H) id) (by show ¬ (_ = _); omega)))
  rw [← unhide HK] at PK
  go_region_held3 (fun w' => BaseF w1 b4 w' ∧ w'.cell? ⟨b, 0, none⟩ = some (.slice (some ⟨bp, 0, none⟩) cap cap) ∧ (ldFr (.pointer (some ⟨bp, k * 29, none⟩))).run Try.prog w' = .ok (.agg c.toArray) w' ∧ (∀ cs, Is29 cs → (stFr (.pointer (some ⟨b4, 0, none⟩)) (.agg cs)).run Try.prog w' = .ok () (w'.setCells b4 0 cs.toList)))
    ((refine unhide KE _ ?_; go_split_ands; first | assumption | exact Base.drew (by assumption) | exact Base.drewN (by assumption) _ | exact Base.andNo (by assumption) (by assumption) | exact BaseF.set (by assumption) (by assumption)))
    (first | (go_at_call 23; refine (unhide PK _ (by go_split_ands; first | assumption | exact Base.drew (by assumption) | exact Base.drewN (by assumption) _)).mono ?_; rintro e w' ⟨rfl, d, rfl⟩) | (go_at_call 24; refine (own_fr c f ho _ (unhide FK _ (by go_split_ands; first | assumption | exact Base.drew (by assumption) | exact Base.drewN (by assumption) _))).mono ?_; rintro e w' ⟨c', rfl, hf', kf⟩; have h29 := hf'.reads.is29 ho))
  go_wp2
  have B1 : BaseF w1 b4 w' := Base.andNo (Base.drewN B0 _) kf
  obtain ⟨r1, r2⟩ := B1.2.setCells Try.prog h29.1 h29.2
  refine bodyPost_ret (results_row_tmp rfl _ _ b4 _ _ (0, 0) _ rfl r1 Try.underlying42 rfl (by rw [size_fr, h29.1])) rfl ?_
  rw [heap_drewN] at hf'
  refine ⟨c', rfl, (hf'.kept r2 fun i _ hi e => ?_).mono fun i _ hi => ?_, (k2.trans (B1.1.trans r2 fun _ _ e => e) fun i hi e => ?_)⟩
  · have e : i = b4 := e; omega
  · show w.heap.size ≤ i; omega
  · have e : i = b4 := e; omega
end Go.Proofs.Ytbhjeakaedbanaa
