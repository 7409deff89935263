/-
  Frames: a contract of Same of two that are the same.
-/
import Derived.Test.YtfplgmkbhpdmjaaFramesJ
import Derived.Test.YtfplgmkbhpdmjaaChainsN
import Derived.Laws.StructEq
namespace Go.Proofs.Ytfplgmkbhpdmjaa.Fm
open Go.ChangeShapes Go.WideShapes Go.ChangeAt Go.RowKit
set_option linter.unusedVariables false
attribute [local go_sem] bs_size bs_app bs_cut bs_tl bs_at
theorem eq_op (k v : Int) (y l : List UInt8) (w : World) : (Op.equalIn 10000 24 (.agg #[.int .i64 k, str y, str l, .int .i64 v]) (.agg #[.int .i64 k, str y, str l, .int .i64 v])).run Try.prog w = .ok true w := by
  rw [run_equalIn_struct w 9999 _ _ _ Try.underlying24 (by kernel_rfl)]
  simp [go_sem, Op.eqFields]
theorem eq_res (c n t : Int) (v : List UInt8) (w : World) : (Op.equalIn 10000 26 (.agg #[.int .i64 c, str v, .int .i64 n, .int .i64 t]) (.agg #[.int .i64 c, str v, .int .i64 n, .int .i64 t])).run Try.prog w = .ok true w := by
  rw [run_equalIn_struct w 9999 _ _ _ Try.underlying26 (by kernel_rfl)]
  simp [go_sem, Op.eqFields]
theorem eq_ent (i c s k v : Int) (y l : List UInt8) (w : World) : (Op.equalIn 10000 28 (.agg #[.int .i64 i, .int .i64 c, .int .i64 s, .int .i64 k, str y, str l, .int .i64 v]) (.agg #[.int .i64 i, .int .i64 c, .int .i64 s, .int .i64 k, str y, str l, .int .i64 v])).run Try.prog w = .ok true w := by
  rw [run_equalIn_struct w 9999 _ _ _ Try.underlying28 (by kernel_rfl)]
  simp [go_sem, Op.eqFields]
attribute [local go_sem ↓] eq_op eq_res eq_ent
set_option maxRecDepth 100000 in
set_option maxHeartbeats 4000000 in
theorem same_self (f : FT) {a1 a2 : Option Addr} {c1 c2 : Nat} {w : World} (h1 : Ch.Sl w a1 c1 f.ch.ms) (h2 : Ch.Sl w a2 c2 f.ch.ms) : Calls Try.prog 13 #[frV f (.slice a1 f.ch.ms.length c1), frV f (.slice a2 f.ch.ms.length c2)] w (ToldN (.bool true) w) := by
  have C := fun w' (k : Chg noBlk w w') => Ch.same_any (h1.no k) (h2.no k)
  rw [show Ch.sameB f.ch f.ch = true by simp [Ch.sameB]] at C
  have HC := hide C
  clear C h1 h2
  have ta : True := True.intro
  go_enter Try.func13, Try.ntmps13
  go_upto_region 1 with (first
    | (clear ta; refine wpL_box rfl 33 _ rfl (f.cells (.slice a1 f.ch.ms.length c1)).toArray rfl ?_; intro b1 w1 p1 k1 g1 z1)
    | (refine wpL_box rfl 33 _ rfl (f.cells (.slice a2 f.ch.ms.length c2)).toArray rfl ?_; intro b2 w2 p2 k2 g2 z2; have G1 := k2.at g1 id; have G2 := g2))
  have q0 : w2.cell? ⟨b1, 0, none⟩ = some (.int .i64 (f.n 0)) := cellAt G1 0 _ rfl
  have t0 : w2.cell? ⟨b2, 0, none⟩ = some (.int .i64 (f.n 0)) := cellAt G2 0 _ rfl
  have q1 : w2.cell? ⟨b1, 1, none⟩ = some (.int .i64 (f.n 1)) := cellAt G1 1 _ rfl
  have t1 : w2.cell? ⟨b2, 1, none⟩ = some (.int .i64 (f.n 1)) := cellAt G2 1 _ rfl
  have q2 : w2.cell? ⟨b1, 2, none⟩ = some (.int .i64 (f.n 2)) := cellAt G1 2 _ rfl
  have t2 : w2.cell? ⟨b2, 2, none⟩ = some (.int .i64 (f.n 2)) := cellAt G2 2 _ rfl
  have q3 : w2.cell? ⟨b1, 3, none⟩ = some (.int .i64 (f.n 3)) := cellAt G1 3 _ rfl
  have t3 : w2.cell? ⟨b2, 3, none⟩ = some (.int .i64 (f.n 3)) := cellAt G2 3 _ rfl
  have q4 : w2.cell? ⟨b1, 4, none⟩ = some (.int .i64 (f.n 4)) := cellAt G1 4 _ rfl
  have t4 : w2.cell? ⟨b2, 4, none⟩ = some (.int .i64 (f.n 4)) := cellAt G2 4 _ rfl
  have q5 : w2.cell? ⟨b1, 5, none⟩ = some (.int .i64 (f.n 5)) := cellAt G1 5 _ rfl
  have t5 : w2.cell? ⟨b2, 5, none⟩ = some (.int .i64 (f.n 5)) := cellAt G2 5 _ rfl
  have q6 : w2.cell? ⟨b1, 6, none⟩ = some (.int .i64 (f.n 6)) := cellAt G1 6 _ rfl
  have t6 : w2.cell? ⟨b2, 6, none⟩ = some (.int .i64 (f.n 6)) := cellAt G2 6 _ rfl
  have q7 : w2.cell? ⟨b1, 7, none⟩ = some (.int .i64 (f.op.k)) := cellAt G1 7 _ rfl
  have t7 : w2.cell? ⟨b2, 7, none⟩ = some (.int .i64 (f.op.k)) := cellAt G2 7 _ rfl
  have q8 : w2.cell? ⟨b1, 8, none⟩ = some (str f.op.key) := cellAt G1 8 _ rfl
  have t8 : w2.cell? ⟨b2, 8, none⟩ = some (str f.op.key) := cellAt G2 8 _ rfl
  have q9 : w2.cell? ⟨b1, 9, none⟩ = some (str f.op.val) := cellAt G1 9 _ rfl
  have t9 : w2.cell? ⟨b2, 9, none⟩ = some (str f.op.val) := cellAt G2 9 _ rfl
  have q10 : w2.cell? ⟨b1, 10, none⟩ = some (.int .i64 (f.op.ver)) := cellAt G1 10 _ rfl
  have t10 : w2.cell? ⟨b2, 10, none⟩ = some (.int .i64 (f.op.ver)) := cellAt G2 10 _ rfl
  have q11 : w2.cell? ⟨b1, 11, none⟩ = some (.int .i64 (f.re.code)) := cellAt G1 11 _ rfl
  have t11 : w2.cell? ⟨b2, 11, none⟩ = some (.int .i64 (f.re.code)) := cellAt G2 11 _ rfl
  have q12 : w2.cell? ⟨b1, 12, none⟩ = some (str f.re.val) := cellAt G1 12 _ rfl
  have t12 : w2.cell? ⟨b2, 12, none⟩ = some (str f.re.val) := cellAt G2 12 _ rfl
  have q13 : w2.cell? ⟨b1, 13, none⟩ = some (.int .i64 (f.re.ver)) := cellAt G1 13 _ rfl
  have t13 : w2.cell? ⟨b2, 13, none⟩ = some (.int .i64 (f.re.ver)) := cellAt G2 13 _ rfl
  have q14 : w2.cell? ⟨b1, 14, none⟩ = some (.int .i64 (f.re.pt)) := cellAt G1 14 _ rfl
  have t14 : w2.cell? ⟨b2, 14, none⟩ = some (.int .i64 (f.re.pt)) := cellAt G2 14 _ rfl
  have q15 : w2.cell? ⟨b1, 15, none⟩ = some (.int .i64 (f.n 15)) := cellAt G1 15 _ rfl
  have t15 : w2.cell? ⟨b2, 15, none⟩ = some (.int .i64 (f.n 15)) := cellAt G2 15 _ rfl
  have q16 : w2.cell? ⟨b1, 16, none⟩ = some (.int .i64 (f.n 16)) := cellAt G1 16 _ rfl
  have t16 : w2.cell? ⟨b2, 16, none⟩ = some (.int .i64 (f.n 16)) := cellAt G2 16 _ rfl
  have q17 : w2.cell? ⟨b1, 17, none⟩ = some (.int .i64 (f.n 17)) := cellAt G1 17 _ rfl
  have t17 : w2.cell? ⟨b2, 17, none⟩ = some (.int .i64 (f.n 17)) := cellAt G2 17 _ rfl
  have q18 : w2.cell? ⟨b1, 18, none⟩ = some (.int .i64 (f.n 18)) := cellAt G1 18 _ rfl
  have t18 : w2.cell? ⟨b2, 18, none⟩ = some (.int .i64 (f.n 18)) := cellAt G2 18 _ rfl
  have q19 : w2.cell? ⟨b1, 19, none⟩ = some (.int .i64 (f.eop.k)) := cellAt G1 19 _ rfl
  have t19 : w2.cell? ⟨b2, 19, none⟩ = some (.int .i64 (f.eop.k)) := cellAt G2 19 _ rfl
  have q20 : w2.cell? ⟨b1, 20, none⟩ = some (str f.eop.key) := cellAt G1 20 _ rfl
  have t20 : w2.cell? ⟨b2, 20, none⟩ = some (str f.eop.key) := cellAt G2 20 _ rfl
  have q21 : w2.cell? ⟨b1, 21, none⟩ = some (str f.eop.val) := cellAt G1 21 _ rfl
  have t21 : w2.cell? ⟨b2, 21, none⟩ = some (str f.eop.val) := cellAt G2 21 _ rfl
  have q22 : w2.cell? ⟨b1, 22, none⟩ = some (.int .i64 (f.eop.ver)) := cellAt G1 22 _ rfl
  have t22 : w2.cell? ⟨b2, 22, none⟩ = some (.int .i64 (f.eop.ver)) := cellAt G2 22 _ rfl
  have q23 : w2.cell? ⟨b1, 23, none⟩ = some (.int .i64 (f.ch.ep)) := cellAt G1 23 _ rfl
  have t23 : w2.cell? ⟨b2, 23, none⟩ = some (.int .i64 (f.ch.ep)) := cellAt G2 23 _ rfl
  have q25 : w2.cell? ⟨b1, 25, none⟩ = some (.int .i64 (f.ch.dr)) := cellAt G1 25 _ rfl
  have t25 : w2.cell? ⟨b2, 25, none⟩ = some (.int .i64 (f.ch.dr)) := cellAt G2 25 _ rfl
  have q26 : w2.cell? ⟨b1, 26, none⟩ = some (.int .i64 (f.n 26)) := cellAt G1 26 _ rfl
  have t26 : w2.cell? ⟨b2, 26, none⟩ = some (.int .i64 (f.n 26)) := cellAt G2 26 _ rfl
  have q27 : w2.cell? ⟨b1, 27, none⟩ = some (.int .i64 (f.n 27)) := cellAt G1 27 _ rfl
  have t27 : w2.cell? ⟨b2, 27, none⟩ = some (.int .i64 (f.n 27)) := cellAt G2 27 _ rfl
  have q28 : w2.cell? ⟨b1, 28, none⟩ = some (.int .i64 (f.n 28)) := cellAt G1 28 _ rfl
  have t28 : w2.cell? ⟨b2, 28, none⟩ = some (.int .i64 (f.n 28)) := cellAt G2 28 _ rfl
  have q24 : w2.cell? ⟨b1, 24, none⟩ = some (.slice a1 f.ch.ms.length c1) := cellAt G1 24 _ rfl
  have t24 : w2.cell? ⟨b2, 24, none⟩ = some (.slice a2 f.ch.ms.length c2) := cellAt G2 24 _ rfl
  have K2 := k1.andNo k2
  clear g1 g2 G1 G2 p1 p2 z1 z2 k1 k2
  go_wp2_with (go_at_call 29; (refine (unhide HC _ K2).mono ?_); rintro e w3 ⟨rfl, k3⟩; have r26 := k3.cell q26 id; have s26 := k3.cell t26 id; have r27 := k3.cell q27 id; have s27 := k3.cell t27 id; have r28 := k3.cell q28 id; have s28 := k3.cell t28 id)
  go_ret
  exact ⟨rfl, K2.andNo k3⟩
#print axioms same_self
end Go.Proofs.Ytfplgmkbhpdmjaa.Fm
