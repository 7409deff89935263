/-
  Chains: a contract of the document's Get.
-/
import Derived.Test.YtiapkmncgafofaaChainsGB
import Derived.Test.YtiapkmncgafofaaChainsR
import Derived.Test.YtiapkmncgafofaaChainsRC
import Derived.RegionTactic
import Derived.Deep.RegionHeld3
import Derived.Maps.RangeWalk
import Derived.Deep.DeepCutAuto
namespace Go.Proofs.Ytiapkmncgafofaa
open Go.ChangeShapes Go.WideShapes Go.ChangeAt Go.RowKit
set_option linter.unusedVariables false
attribute [local go_sem] bs_size bs_app bs_cut bs_tl bs_at
theorem pairs_length : ∀ L : List Int, (pairs L).length = L.length / 2
  | [] => rfl
  | [a] => by simp [pairs]
  | a :: b :: r => by simp [pairs, pairs_length r]; omega
theorem pairs_get : ∀ (L : List Int) (k : Nat) (a b : Int), L[2 * k]? = some a → L[2 * k + 1]? = some b → (pairs L)[k]? = some ⟨a, b⟩
  | [], k, a, b, h, _ => by simp at h
  | [x], k, a, b, _, h => by simp at h
  | x :: y :: r, 0, a, b, h, h2 => by
    simp at h h2
    simp [pairs, h, h2]
  | x :: y :: r, k + 1, a, b, h, h2 => by
    have := pairs_get r k a b (by simpa [show 2 * (k + 1) = 2 * k + 1 + 1 by omega] using h) (by simpa [show 2 * (k + 1) + 1 = 2 * k + 1 + 1 + 1 by omega] using h2)
    simpa [pairs] using this
section
variable {w : World} {ad : Option Addr} {cap : Nat} {c : CT}
set_option maxRecDepth 100000 in
theorem rput_big (h : ¬ c.ms.length ≤ 6) : Calls Try.prog 12 #[chV c (.slice ad c.ms.length cap)] w (ToldN (.tuple #[str [], .int .i64 2]) w) := by
  have hb : ¬ good c = true := fun g => h (good_iff.1 g).len2
  have hb : good c = false := by simpa using hb
  have HC := hide (fun w' => (by
    have : Calls Try.prog 14 #[chV c (.slice ad c.ms.length cap)] w' (ToldN (.int .i64 (chk c)) w') := by
      by_cases h1 : c.ep < 1
      · exact rcheck_out c ad cap (.inl h1)
      by_cases h2 : 1099511627776 < c.ep
      · exact rcheck_out c ad cap (.inr (.inl ⟨h1, h2⟩))
      · exact rcheck_out c ad cap (.inr (.inr (.inr ⟨h1, h2, beq_eq_false_iff_ne.2 (by omega), by omega⟩)))
    rw [chk_no hb] at this
    exact this : Calls Try.prog 14 #[chV c (.slice ad c.ms.length cap)] w' (ToldN (.int .i64 2) w')))
  clear h hb
  go_enter Try.func12, Try.ntmps12
  go_wp2_with (first
    | (go_at_call 14; (with_reducible refine (unhide HC _).mono ?_); rintro e w2 ⟨rfl, k2⟩)
    | ((with_reducible show wpList _ _ _ (_ :: _) _ _); first
      | (refine wpL_box rfl 24 _ rfl (chC c (.slice ad c.ms.length cap)) (by rfl) ?_; intro p w1 e1 k1 g1 z1; have G1 : ChAt w1 p c (.slice ad c.ms.length cap) := g1; clear e1 z1 g1)
      | (refine wpL_load rfl 24 (.tmp 1) rfl p rfl (chC c (.slice ad c.ms.length cap)) _ _ G1 _ Try.underlying24 rfl info_ch ?_)))
  go_ret2
  exact ⟨rfl, k1.andNo k2⟩
end
/-- the call's answer where all is a number -/
theorem numbers_yes {s : List UInt8} (hs : s.length ≤ 1000) {L : List Int} (h : Nums s L) (w : World) : Calls Try.prog 46 #[str s] w (fun e w' => ∃ ad cap, e = .returned (.slice ad L.length cap) ∧ NumAt w w' (.slice ad L.length cap) L) := by
  refine (numbers_any s hs w).mono ?_
  rintro e w3 ⟨v3, T, rfl, n3, t3, r3⟩
  obtain ⟨ad, cap, rfl, room, cells⟩ := n3.form
  rcases r3 with r3 | ⟨_, r3⟩
  · obtain rfl := nums_one h r3
    exact ⟨ad, cap, rfl, n3⟩
  · exact absurd h (r3 L)
theorem numbers_no {s : List UInt8} (hs : s.length ≤ 1000) (h : ∀ L, ¬ Nums s L) (w : World) : Calls Try.prog 46 #[str s] w (fun e w' => ∃ ad cap, e = .returned (.slice ad 0 cap) ∧ Chg noBlk w w') := by
  refine (numbers_any s hs w).mono ?_
  rintro e w3 ⟨v3, T, rfl, n3, t3, r3⟩
  obtain ⟨ad, cap, rfl, room, cells⟩ := n3.form
  rcases r3 with r3 | ⟨rfl, _⟩
  · exact absurd r3 (h T)
  · exact ⟨ad, cap, rfl, n3.chg⟩
set_option maxRecDepth 100000 in
set_option maxHeartbeats 1000000 in
theorem rget_few (s : List UInt8) (R0 : GotOf s cZero 10) (n : Nat) (N0 : ∀ w, Calls Try.prog 46 #[str s] w (fun e w' => ∃ ad cap, e = .returned (.slice ad n cap) ∧ Chg noBlk w w')) (hn : decide ((n : Int) < 5) = true) (w : World) : Calls Try.prog 24 #[str s] w (Got s w) := by
  have HN := hide N0
  have R := hide R0
  clear N0 R0
  go_enter Try.func24, Try.ntmps24
  go_wp2_with (first
    | (go_at_call 46; (with_reducible refine (unhide HN _).mono ?_); rintro e w3 ⟨ad, cap, rfl, k3⟩; have g3 := k3.at g2 id)
    | ((with_reducible show wpList _ _ _ (⟨_, _, _, _, _, none⟩ :: _) _ _); first
      | (refine wpL_alloc rfl 24 rfl _ zero_ch ?_; intro q w2 e2 k2 g2 z2; have E2 := hide (show w.heap.size ≤ q from Nat.le_of_eq e2); clear e2 z2)
      | (refine wpL_store rfl 24 (.tmp 2) (.tmp 21) rfl q (chC cZero (.slice none 0 0)) rfl (by rfl) _ _ g3 info_ch rfl cZero_one ?_; intro w4 k4 g4 z4; have K4 := (k2.andNo k3).past k4 (unhide E2); clear z4)))
  refine bodyPost_ret (ret_ch2 rfl _ _ q cZero _ rfl g4) rfl ?_
  exact ⟨cZero, 10, unhide R, newCE_zero K4⟩
set_option maxRecDepth 100000 in
set_option maxHeartbeats 1000000 in
theorem rget_even (s : List UInt8) (R0 : GotOf s cZero 10) (n : Nat) (N0 : ∀ w, Calls Try.prog 46 #[str s] w (fun e w' => ∃ ad cap, e = .returned (.slice ad n cap) ∧ Chg noBlk w w')) (hn : decide ((n : Int) < 5) = false) (h2 : ((n : Int) % 2 == 0) = true) (w : World) : Calls Try.prog 24 #[str s] w (Got s w) := by
  have HN := hide N0
  have R := hide R0
  clear N0 R0
  go_enter Try.func24, Try.ntmps24
  go_wp2_with (first
    | (go_at_call 46; (with_reducible refine (unhide HN _).mono ?_); rintro e w3 ⟨ad, cap, rfl, k3⟩; have g3 := k3.at g2 id)
    | ((with_reducible show wpList _ _ _ (⟨_, _, _, _, _, none⟩ :: _) _ _); first
      | (refine wpL_alloc rfl 24 rfl _ zero_ch ?_; intro q w2 e2 k2 g2 z2; have E2 := hide (show w.heap.size ≤ q from Nat.le_of_eq e2); clear e2 z2)
      | (refine wpL_store rfl 24 (.tmp 2) (.tmp 21) rfl q (chC cZero (.slice none 0 0)) rfl (by rfl) _ _ g3 info_ch rfl cZero_one ?_; intro w4 k4 g4 z4; have K4 := (k2.andNo k3).past k4 (unhide E2); clear z4)))
  refine bodyPost_ret (ret_ch2 rfl _ _ q cZero _ rfl g4) rfl ?_
  exact ⟨cZero, 10, unhide R, newCE_zero K4⟩
end Go.Proofs.Ytiapkmncgafofaa
