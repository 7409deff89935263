/-
  Chains: a contract of Get, whatever the bytes.
-/
import Derived.Test.YtfplgmkbhpdmjaaChainsU
namespace Go.Proofs.Ytfplgmkbhpdmjaa.Ch
open Go.ChangeShapes Go.WideShapes Go.ChangeAt Go.RowKit
set_option linter.unusedVariables false
attribute [local go_sem] bs_size bs_app bs_cut bs_tl bs_at
set_option maxRecDepth 100000 in
set_option maxHeartbeats 2000000 in
theorem get_big (w : World) (s : List UInt8) (hs : s.length ≤ 1000) (hz : 6 < gSize s) : Calls Try.prog 34 #[str s] w (Got s w) := by
  have hmf : ∀ (fn : Fn) (first cap : Array Value) (w : World), (Instr.makeFunc fn first cap).run Try.prog w = .ok (.func fn first cap) w := fun _ _ _ _ => rfl
  have HT := hide (fun w' b1 b2 l o (h : TkAt w' b1 b2 l o) (hl : l.length ≤ 1048576) => take_any h hl)
  have z0 : s.length ≤ 1048576 := by omega
  have y1 : (tkR s).length ≤ 1048576 := by have := tkR_len s; omega
  have R := hide (got_big hz)
  replace hz : 6 < tkN (tkR s) := hz
  go_enter Try.func34, Try.ntmps34
  go_wp2_with (first
    | (go_at_call 53; (with_reducible refine (unhide HT _ _ _ _ _ (unhide H6).tk y1).mono ?_); rintro e w7 ⟨rfl, k7, t7⟩; have H7 := hide ((unhide H6).take k7 t7); have q7 := (unhide H7).ch; clear k7 t7)
    | (go_at_call 53; (with_reducible refine (unhide HT _ _ _ _ _ (unhide H4).tk z0).mono ?_); rintro e w5 ⟨rfl, k5, t5⟩; have H5 := hide ((unhide H4).take k5 t5); have q5 := (unhide H5).ch; clear k5 t5)
    | ((with_reducible show wpList _ _ _ (_ :: _) _ _); first
      | (refine wpL_box1 rfl 9 (.tmp 0) rfl (str s) (by rfl) rfl ?_; intro b1 w1 e1 k1 g1 z1; clear z1)
      | (refine wpL_alloc rfl 31 rfl _ zero_ch ?_; intro q w2 e2 k2 g2 z2; clear z2)
      | (refine wpL_alloc1 rfl 4 rfl (.bool false) zero_bool rfl ?_; intro b2 w3 e3 k3 g3 z3; clear z3)
      | (refine wpL_set rfl 4 (.tmp 4) (.const (.bool true)) rfl b2 0 (.bool true) rfl (by rfl) rfl (by kernel_rfl) _ _ g3 (by simp) ?_; intro w4 k4 g4 z4; have H4 := hide (gst_new e1 k1 g1 e2 k2 g2 e3 k3 k4 g4); clear e1 k1 g1 e2 k2 g2 e3 k3 k4 g4 z4 g3)
      | (refine wpL_set rfl 3 (.tmp 10) (.tmp 9) rfl q 0 (.int .i64 (tkN s)) rfl (by rfl) rfl (by kernel_rfl) _ _ q5 (by simp) ?_; intro w6 k6 g6 z6; have H6 := hide ((unhide H5).turn (e' := tkN s) k6 g6); clear q5 z6)
      | (refine wpL_store rfl 31 (.tmp 2) (.tmp 15) rfl q (chC cZero (.slice none 0 0)) rfl (by rfl) _ _ q7 info_ch rfl cZero_one ?_; intro w10 k10 g10 z10)))
  refine bodyPost_ret (ret_ch2 rfl _ _ q cZero _ rfl g10) rfl ?_
  exact ⟨cZero, 10, unhide R, newCE_zero ((unhide H7).chg.past k10 (unhide H7).n3)⟩
theorem get_any (w : World) (s : List UInt8) (hs : s.length ≤ 1000) : Calls Try.prog 34 #[str s] w (Got s w) := by
  by_cases hz : gSize s ≤ 6
  · exact get_in w s hs hz
  · exact get_big w s hs (by omega)
end Go.Proofs.Ytfplgmkbhpdmjaa.Ch
