/-
  Logs: contracts of New, Copy, Begins.
-/
import Derived.Test.YtfffgegdcgfakaaLogsC
namespace Go.Proofs.Ytfffgegdcgfakaa
open Go.ChangeShapes Go.WideShapes Go.ChangeAt Go.RowKit
set_option linter.unusedVariables false
attribute [local go_sem] bs_size bs_app bs_cut bs_tl bs_at
/-- a log's blocks are of S -/
structure InS (S : Nat → Prop) (b sb sm : Nat) (ve vr : Value) : Prop where
  b : S b
  sb : S sb
  sm : S sm
  ve : ∀ g, ve.ownBlock = some g → S g
  vr : ∀ g, vr.ownBlock = some g → S g
theorem InS.mono {S T : Nat → Prop} {b sb sm : Nat} {ve vr : Value} (h : InS S b sb sm ve vr) (k : ∀ i, S i → T i) : InS T b sb sm ve vr := ⟨k _ h.b, k _ h.sb, k _ h.sm, fun g hg => k _ (h.ve g hg), fun g hg => k _ (h.vr g hg)⟩
theorem LogAt.but {w w' : World} {b sb sm : Nat} {ve vr : Value} {E : List ET} {S : Nat → Prop} (h : LogAt w b sb sm ve vr E) (k : Chg S w w') (i : InS (fun k => ¬ S k) b sb sm ve vr) : LogAt w' b sb sm ve vr E := h.kept k i.b i.sb i.sm i.ve i.vr
theorem LogAt.lts {w : World} {b sb sm : Nat} {ve vr : Value} {E : List ET} (h : LogAt w b sb sm ve vr E) : InS (fun k => k < w.heap.size) b sb sm ve vr := ⟨h.lt, h.st.lt, h.st.m.lt, fun g hg => h.ent.lt hg, fun g hg => h.res.lt hg⟩
/-- told: a new log that has E -/
def NewLog (E : List ET) (w : World) (e : Ending) (w' : World) : Prop := ∃ b sb sm ve vr, e = .returned (.pointer (some ⟨b, 0, none⟩)) ∧ Chg noBlk w w' ∧ LogAt w' b sb sm ve vr E ∧ InS (fun k => w.heap.size ≤ k) b sb sm ve vr
set_option maxRecDepth 100000 in
theorem lnew_any (w : World) : Calls Try.prog 8 #[] w (NewLog [] w) := by
  go_enter Try.func8, Try.ntmps8
  go_wp2_with (first
    | (go_at_call 23; (with_reducible refine (new_any _).mono ?_); rintro e w2 ⟨sb, sm, rfl, esb, esm, k2, s2⟩)
    | ((with_reducible show wpList _ _ _ (_ :: _) _ _); first
      | (refine wpL_build rfl 59 #[(2, .tmp 1)] rfl (logC (.slice none 0 0) (.slice none 0 0) sb []).toArray (by kernel_rfl) ?_)
      | (refine wpL_box rfl 59 (.tmp 2) rfl (logC (.slice none 0 0) (.slice none 0 0) sb []).toArray rfl ?_; intro b w3 e3 k3 g3 z3)))
  go_ret
  have := k2.size
  exact ⟨b, sb, sm, _, _, rfl, k2.andNo k3, ⟨g3, ownL_nil _ _ _ _, ownL_nil _ _ _ _, s2.no k3, fit_nil⟩, ⟨by omega, esb, esm, (fun g hg => by cases hg), (fun g hg => by cases hg)⟩⟩
section
variable {w w' : World} {b sb sm : Nat} {ve vr : Value} {E : List ET} {S : Nat → Prop}
theorem log_keep (h : LogAt w b sb sm ve vr E) (k : Chg noBlk w w') : Chg noBlk w w' ∧ w'.cell? ⟨b, 0, none⟩ = some ve ∧ w'.cell? ⟨b, 1, none⟩ = some vr ∧ w'.cell? ⟨b, 2, none⟩ = some (.pointer (some ⟨sb, 0, none⟩)) ∧ w'.cell? ⟨b, 3, none⟩ = some (.int .i64 (lastN E 0 E.length : Int)) ∧ w'.cell? ⟨b, 4, none⟩ = some (.int .i64 (lastN E 1 E.length : Int)) ∧ w'.cell? ⟨b, 5, none⟩ = some (.int .i64 (lastN E 2 E.length : Int)) ∧ w'.cell? ⟨b, 6, none⟩ = some (.int .i64 (lastN E 3 E.length : Int)) ∧ w'.cell? ⟨b, 7, none⟩ = some (.int .i64 (lastN E 4 E.length : Int)) ∧ w'.cell? ⟨b, 8, none⟩ = some (.int .i64 (lastN E 5 E.length : Int)) :=
  ⟨k, (h.no k).c0, (h.no k).c1, (h.no k).c2, (h.no k).cl 0 (by omega), (h.no k).cl 1 (by omega), (h.no k).cl 2 (by omega), (h.no k).cl 3 (by omega), (h.no k).cl 4 (by omega), (h.no k).cl 5 (by omega)⟩
set_option maxRecDepth 100000 in
set_option maxHeartbeats 1000000 in
theorem lcopy_at (h : LogAt w b sb sm ve vr E) : Calls Try.prog 9 #[.pointer (some ⟨b, 0, none⟩)] w (NewLog E w) := by
  have hin := hide (lnone_at h)
  have HF := hide h.fit
  have hf := h.fit.few
  have HE := hide (fun w' (k : Chg noBlk w w') => eclone_any ((h.no k).ent.reads ET.one) (by omega))
  have HR := hide (fun w' (k : Chg noBlk w w') => rclone_any ((h.no k).res.reads RT.one) (by rw [ress_len]; omega))
  have HC := hide (fun w' (k : Chg noBlk w w') => copy_at (h.no k).st)
  have KE := hide (fun w' k => log_keep (w' := w') h k)
  have B0 := Chg.refl noBlk w
  obtain ⟨i0, hi0⟩ : ∃ i, lastN E 0 E.length = i := ⟨_, rfl⟩
  obtain ⟨i1, hi1⟩ : ∃ i, lastN E 1 E.length = i := ⟨_, rfl⟩
  obtain ⟨i2, hi2⟩ : ∃ i, lastN E 2 E.length = i := ⟨_, rfl⟩
  obtain ⟨i3, hi3⟩ : ∃ i, lastN E 3 E.length = i := ⟨_, rfl⟩
  obtain ⟨i4, hi4⟩ : ∃ i, lastN E 4 E.length = i := ⟨_, rfl⟩
  obtain ⟨i5, hi5⟩ : ∃ i, lastN E 5 E.length = i := ⟨_, rfl⟩
  rw [hi0, hi1, hi2, hi3, hi4, hi5] at KE
  have HI := hide (And.intro hi0 (And.intro hi1 (And.intro hi2 (And.intro hi3 (And.intro hi4 hi5)))))
  clear h hi0 hi1 hi2 hi3 hi4 hi5
  go_enter Try.func9, Try.ntmps9
  go_wp2_with (go_at_call 24; (with_reducible refine (unhide hin).mono ?_); rintro e w2 ⟨rfl, rfl⟩)
  go_region_held3 (fun w' => Chg noBlk w w' ∧ w'.cell? ⟨b, 0, none⟩ = some ve ∧ w'.cell? ⟨b, 1, none⟩ = some vr ∧ w'.cell? ⟨b, 2, none⟩ = some (.pointer (some ⟨sb, 0, none⟩)) ∧ w'.cell? ⟨b, 3, none⟩ = some (.int .i64 (i0 : Int)) ∧ w'.cell? ⟨b, 4, none⟩ = some (.int .i64 (i1 : Int)) ∧ w'.cell? ⟨b, 5, none⟩ = some (.int .i64 (i2 : Int)) ∧ w'.cell? ⟨b, 6, none⟩ = some (.int .i64 (i3 : Int)) ∧ w'.cell? ⟨b, 7, none⟩ = some (.int .i64 (i4 : Int)) ∧ w'.cell? ⟨b, 8, none⟩ = some (.int .i64 (i5 : Int)))
    ((refine unhide KE _ ?_; go_split_ands; first | assumption | exact Chg.drew (by assumption) | exact Chg.drewN (by assumption) _ | exact Chg.andNo (by assumption) (by assumption) | exact Chg.alloc (by assumption) _))
    (first
      | (go_at_call 25; (with_reducible refine (unhide HE _ B0.drew).mono ?_); rintro e w3 ⟨v3, rfl, k3, o3, f3⟩; obtain ⟨a3, c3, rfl, _, _, _⟩ := o3.form ET.len)
      | (go_at_call 26; (with_reducible refine (unhide HR _ (B0.drew.andNo k3)).mono ?_); rintro e w4 ⟨v4, rfl, k4, o4, f4⟩; obtain ⟨a4, c4, rfl, _, _, _⟩ := o4.form RT.len; rw [ress_len] at *)
      | (go_at_call 27; (with_reducible refine (unhide HC _ ((B0.drew.andNo k3).andNo k4)).mono ?_); rintro e w5 ⟨sb2, sm2, rfl, eb5, em5, k5, s5⟩))
  rename_i hH
  obtain ⟨K9, _, _, _, _, _, _, _, _, _⟩ := hH
  go_wp2_with fail
  go_ret
  have K5 := ((B0.drew.andNo k3).andNo k4).andNo k5
  have z3 : w.heap.size ≤ w3.heap.size := k3.size
  have z4 := k4.size
  have z5 := k5.size
  obtain ⟨hi0, hi1, hi2, hi3, hi4, hi5⟩ := unhide HI
  have e5 : Chg noBlk w5 (w5.alloc (.cells (logC (.slice a3 E.length c3) (.slice a4 E.length c4) sb2 E).toArray 59)) := (Chg.refl _ _).alloc _
  have hA := heap_alloc_new w5 (.cells (logC (.slice a3 E.length c3) (.slice a4 E.length c4) sb2 E).toArray 59)
  have key : NewLog E w (.returned (.pointer (some ⟨w5.heap.size, 0, none⟩))) (w5.alloc (.cells (logC (.slice a3 E.length c3) (.slice a4 E.length c4) sb2 E).toArray 59)) :=
    ⟨w5.heap.size, sb2, sm2, _, _, rfl, K5.alloc _, ⟨hA, ((o3.no k4).no k5).no e5, (o4.no k5).no e5, s5.no e5, unhide HF⟩, ⟨by omega, by omega, by omega, (fun g hg => f3 g hg), (fun g hg => by have := f4 g hg; omega)⟩⟩
  unfold logC at key
  rw [hi0, hi1, hi2, hi3, hi4, hi5] at key
  exact key
end
/-! ### two entries, two results compared -/
def eqEb (a b : ET) : Bool := decide (a = b)
def eqRb (a b : RT) : Bool := decide (a = b)
theorem eqEb_self (a : ET) : eqEb a a = true := by unfold eqEb; simp
theorem eqRb_self (a : RT) : eqRb a a = true := by unfold eqRb; simp
theorem eq_op9 (k k' v v' : Int) (y l y' l' : List UInt8) (w : World) : (Op.equalIn 9999 32 (.agg #[.int .i64 k, str y, str l, .int .i64 v]) (.agg #[.int .i64 k', str y', str l', .int .i64 v'])).run Try.prog w = .ok (decide (k = k' ∧ y = y' ∧ l = l' ∧ v = v')) w := by
  rw [run_equalIn_struct w 9998 _ _ _ Try.underlying32 (by kernel_rfl)]
  by_cases h1 : k = k' <;> by_cases h2 : y = y' <;> by_cases h3 : l = l' <;> by_cases h4 : v = v' <;> simp [go_sem, Op.eqFields, h1, h2, h3, h4]
theorem eq_ent (i c s i' c' s' k k' v v' : Int) (y l y' l' : List UInt8) (w : World) : (Op.equalIn 10000 34 (.agg #[.int .i64 i, .int .i64 c, .int .i64 s, .int .i64 k, str y, str l, .int .i64 v]) (.agg #[.int .i64 i', .int .i64 c', .int .i64 s', .int .i64 k', str y', str l', .int .i64 v'])).run Try.prog w = .ok (eqEb ⟨i, c, s, k, y, l, v⟩ ⟨i', c', s', k', y', l', v'⟩) w := by
  rw [run_equalIn_struct w 9999 _ _ _ Try.underlying34 (by kernel_rfl)]
  have e : eqEb ⟨i, c, s, k, y, l, v⟩ ⟨i', c', s', k', y', l', v'⟩ = decide (i = i' ∧ c = c' ∧ s = s' ∧ k = k' ∧ y = y' ∧ l = l' ∧ v = v') := by
    unfold eqEb
    congr 1
    simp
  rw [e]
  by_cases h1 : i = i' <;> by_cases h2 : c = c' <;> by_cases h3 : s = s' <;> simp [go_sem, Op.eqFields, h1, h2, h3, eq_op9]
  by_cases h4 : k = k' <;> by_cases h5 : y = y' <;> by_cases h6 : l = l' <;> by_cases h7 : v = v' <;> simp [h4, h5, h6, h7]
theorem eq_res (c n t c' n' t' : Int) (v v' : List UInt8) (w : World) : (Op.equalIn 10000 38 (.agg #[.int .i64 c, str v, .int .i64 n, .int .i64 t]) (.agg #[.int .i64 c', str v', .int .i64 n', .int .i64 t'])).run Try.prog w = .ok (eqRb ⟨c, v, n, t⟩ ⟨c', v', n', t'⟩) w := by
  rw [run_equalIn_struct w 9999 _ _ _ Try.underlying38 (by kernel_rfl)]
  have e : eqRb ⟨c, v, n, t⟩ ⟨c', v', n', t'⟩ = decide (c = c' ∧ v = v' ∧ n = n' ∧ t = t') := by
    unfold eqRb
    congr 1
    simp
  rw [e]
  simp only [str]
  by_cases h1 : c = c' <;> by_cases h2 : v = v' <;> by_cases h3 : n = n' <;> by_cases h4 : t = t' <;> simp [go_sem, Op.eqFields, h1, h2, h3, h4]
end Go.Proofs.Ytfffgegdcgfakaa
