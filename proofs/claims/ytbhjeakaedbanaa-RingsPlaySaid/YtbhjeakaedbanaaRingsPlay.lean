/-
  Proved here: for every int and every slice of acts, the law of stage 3 that whatever is done with a ring each answer, and all frames, are the document's, and that what a copy does, and what is done to what is handed in, or told, makes no difference, returns true, and leaves its arguments as they were. Conditions: none.
-/
import Derived.Test.YtbhjeakaedbanaaRows
import Derived.Test.YtbhjeakaedbanaaRingsS
import Derived.WalkKit
import Derived.ProofKit
import Derived.OpenShut
import Derived.ShutString
import Derived.ChangeOld
import Derived.Carry
namespace Go.Proofs.Ytbhjeakaedbanaa.ringsPlay
open Go.ChangeShapes Go.WideShapes Go.ChangeAt Go.RowKit
open Go.ChangeMaps (open_string shut_string)
set_option linter.unusedVariables false

theorem own : ownKnob Try.prog.godebug = none := by kernel_rfl
theorem laidOut : laidOutB Try.prog = true := by kernel_rfl

theorem acts_in {H : Type} {enc : TypeId × Value → H} {w : World} {ad : Option Addr} {len cap fuel : Nat} {x : DataW H × List MemPlace} (h : DataW.trod enc Try.prog w 0 (fun _ => true) true fuel 22 [.slice ad len cap] = some x) :
    ∃ l : List AT, l.length = len ∧ len ≤ 9223372036854775807 ∧ Acts w ad l := by
  rcases slice_rows (m := 31) (by kernel_rfl) Try.underlying22 h with h0 | ⟨a, ln, cp, rows, h0, hl, hm, hrl, hrows⟩
  · simp only [List.cons.injEq, Value.slice.injEq, and_true] at h0
    obtain ⟨rfl, rfl, rfl⟩ := h0
    exact ⟨[], rfl, by omega, fun i a h => by simp at h, fun i a h => by simp at h⟩
  · simp only [List.cons.injEq, Value.slice.injEq, and_true] at h0
    obtain ⟨rfl, rfl, rfl⟩ := h0
    have hsub : ∀ k, k ≤ rows.length → ∃ l : List AT, l.length = k ∧ ∀ (i : Nat) (a : AT), l[i]? = some a → rows[i]? = some a.cells ∧ a.Ok w := by
      intro k
      induction k with
      | zero => intro _; exact ⟨[], rfl, by simp⟩
      | succ k ih =>
        intro hk
        obtain ⟨l, h1, h2⟩ := ih (by omega)
        have hr := List.getElem?_eq_getElem (l := rows) (i := k) (by omega)
        obtain ⟨_, ⟨n, y, ht⟩, _⟩ := hrows k _ hr
        obtain ⟨b, hb, hok⟩ := trod_act ht
        refine ⟨l ++ [b], by simp [h1], fun i c hc => ?_⟩
        by_cases hi : i < l.length
        · rw [List.getElem?_append_left hi] at hc; exact h2 i c hc
        · have hi2 : i = l.length := by
            have := (List.getElem?_eq_some_iff.1 hc).1; simp at this; omega
          subst hi2
          simp at hc
          subst hc
          rw [h1, hr, hb]; exact ⟨rfl, hok⟩
    obtain ⟨l, h1, h2⟩ := hsub rows.length (Nat.le_refl _)
    refine ⟨l, by omega, by unfold maxLen at hm; omega, fun i b hb => ?_, fun i b hb => (h2 i b hb).2⟩
    obtain ⟨e1, e2⟩ := h2 i b hb
    refine ⟨e2.ty, ?_⟩
    obtain ⟨_, _, hcell⟩ := hrows i _ e1
    obtain ⟨r0, hr0⟩ : ∃ r, rows[0]? = some r := by
      have := (List.getElem?_eq_some_iff.1 e1).1
      exact ⟨_, List.getElem?_eq_getElem (by omega)⟩
    obtain ⟨l0, _, hc0⟩ := hrows 0 r0 hr0
    obtain ⟨g, off, rfl⟩ := spot_none (hc0 0 _ (List.getElem?_eq_getElem (by omega)))
    refine ⟨g, off, rfl, fun j v hv => ?_⟩
    have := hcell j v hv
    rw [Addr.add_mid] at this
    rwa [Nat.add_assoc]
set_option maxRecDepth 100000 in
theorem walk {H : Type} {enc : TypeId × Value → H} (base : Nat) (w : World) (a0 : Int) (w0 : (Lit.int .i64 a0).wf = true) {d1 : DataW H} {p1 : List MemPlace} (v1 : Value) (ok1 : Value.okWide Try.prog w .any base 22 v1) (h1 : DataW.Trod enc Try.prog w 0 (fun _ => true) true 22 v1 d1 p1) :
    Calls Try.prog 3 #[.int .i64 a0, v1] w fun e w' => e = .returned (.bool true) ∧ Below w.heap.size w w' := by
  have b0 := bounds_i64 w0
  obtain ⟨ad, len, cap, rfl⟩ := okWide_slice Try.underlying22 ok1
  obtain ⟨fuel, hf⟩ := h1
  obtain ⟨l, rfl, hl, hA⟩ := acts_in (cap := cap) hf
  by_cases hx : greatB l 200 = true ∨ (a0 < 1 ∨ 64 < a0)
  · exact (play_out a0 b0 ad l cap w hl hA hx).mono fun e w' h => ⟨h.1, h.2.belowNo⟩
  · obtain ⟨n, rfl⟩ := Int.eq_ofNat_of_zero_le (show 0 ≤ a0 by omega)
    have hg : greatB l 200 = false := by
      cases hg : greatB l 200 with
      | false => rfl
      | true => exact absurd (.inl hg) hx
    exact (play_in n (by omega) (by omega) ad l cap w hl hA hg).mono fun e w' h => ⟨h.1, h.2.belowNo⟩

set_option maxRecDepth 100000 in
theorem lifted (os : Os) (started : os.Started) (H : Type) (enc : TypeId × Value → H) :
    ReturnsInHanded {} Try.checked os 3 .any (Rows.ringsPlaySpec.pre6 enc Try.prog Try.f3 Rows.ringsPlayRow.domain false) (Rows.ringsPlaySpec.post enc Try.prog Try.f3 false true false false) := by
  refine returnsInHanded_of_change (C := Try.checked) own started (by kernel_rfl) Try.func3
    (ChangeSpec.witness6 (enc := enc) (C := Try.checked) false ⟨#[], #[.int .i64 0, .slice none 0 0], []⟩ 8 (by kernel_rfl) (by kernel_rfl) (by kernel_rfl) (by kernel_rfl)) ?_
  intro W base args ds gs before hval0 hW hcnd _
  have hval : ∀ (j : Nat) t v, Try.f3.params[j]? = some t → args[j]? = some v → Value.okWide Try.prog W .any base t v := hval0
  have hW' := hW
  obtain ⟨p, q, hA0, hV, rfl, hfz, hnd⟩ := hW
  have hA : DataW.TrodAll enc Try.prog W 0 (fun _ => true) true Try.f3.params.toList args.toList ds p := hA0
  rw [Try.params3] at hA hval
  obtain ⟨v0, vs0, d0, ds0, p0, q0, hargs, rfl, rfl, h0, r0⟩ := trodAll_cons hA
  obtain ⟨v1, vs1, d1, ds1, p1, q1, rfl, rfl, rfl, h1, r1⟩ := trodAll_cons r0
  obtain ⟨rfl, rfl, rfl⟩ := trodAll_nil r1
  obtain rfl : args = #[v0, v1] := by cases args; simp_all
  obtain ⟨rfl, rfl⟩ := trodVars_none hV
  have k0 := h0
  have lt0 : ∀ x ∈ p0, x.block < W.heap.size := by obtain ⟨m, hm⟩ := k0; exact DataW.trod_lt m _ _ _ hm
  have k1 := h1
  have lt1 : ∀ x ∈ p1, x.block < W.heap.size := by obtain ⟨m, hm⟩ := k1; exact DataW.trod_lt m _ _ _ hm
  obtain ⟨a0, rfl, rfl, rfl, w0⟩ := open_int Try.underlying3 (hval 0 3 v0 rfl rfl) h0
  clear hA0 hval0
  refine (walk base W a0 w0 v1 (hval 1 22 v1 rfl rfl) h1).mono fun e W' ⟨he, bel⟩ => ?_
  subst he
  exact ⟨_, rfl, _, _, _, [], _, [], hW', trodAll_mk1 (shut_bool Try.underlying4 _), (trodAll_cons_mk (Below.trod laidOut (by kernel_rfl) (of_decide_eq_true (by kernel_rfl)) k0 bel lt0) (trodAll_cons_mk (Below.trod laidOut (by kernel_rfl) (of_decide_eq_true (by kernel_rfl)) k1 bel lt1) trodAll_mk0)), rfl, bel.frame _, fun h => by cases h⟩

theorem over : Rows.ringsPlayRow.holds Try.pinned (OpenSpec.ofChange Rows.ringsPlaySpec) :=
  OpenClaim.holds_of_wide 3 Try.f3 rfl rfl rfl rfl rfl rfl rfl ⟨rfl, rfl, rfl, rfl, rfl⟩ rfl rfl rfl rfl rfl (by kernel_rfl) Try.func3 (by kernel_rfl)
    (of_decide_eq_true (by kernel_rfl)) (by unfold Func.isWrapper; first | (rw [if_pos (by decide +kernel)]; kernel_rfl) | (rw [if_neg (by decide +kernel)]; exact ⟨rfl, rfl⟩))
    (fun os started H enc _ => lifted os started H enc)

theorem proved : Rows.RingsPlaySaid := over
#print axioms proved
end Go.Proofs.Ytbhjeakaedbanaa.ringsPlay
