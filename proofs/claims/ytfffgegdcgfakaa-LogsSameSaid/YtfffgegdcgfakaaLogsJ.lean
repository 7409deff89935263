/-
  Logs: the chapter's log.
-/
import Derived.Test.YtfffgegdcgfakaaLogsI
namespace Go.Proofs.Ytfffgegdcgfakaa
open Go.ChangeShapes Go.WideShapes Go.ChangeAt Go.RowKit
set_option linter.unusedVariables false
attribute [local go_sem] bs_size bs_app bs_cut bs_tl bs_at
theorem eq_ents (a b : ET) (w : World) : (Op.equalIn 10000 34 (.agg a.cells.toArray) (.agg b.cells.toArray)).run Try.prog w = .ok (eqEb a b) w := eq_ent a.idx a.cl a.seq b.idx b.cl b.seq a.op.k b.op.k a.op.ver b.op.ver a.op.key a.op.val b.op.key b.op.val w
theorem eq_ress (a b : RT) (w : World) : (Op.equalIn 10000 38 (.agg a.cells.toArray) (.agg b.cells.toArray)).run Try.prog w = .ok (eqRb a b) w := eq_res a.code a.ver a.at_ b.code b.ver b.at_ a.val b.val w
theorem eq_same (c n a : Int) (s : ByteArray) (w : World) : (Op.equalIn 10000 38 (.agg #[.int .i64 c, .string s, .int .i64 n, .int .i64 a]) (.agg #[.int .i64 c, .string s, .int .i64 n, .int .i64 a])).run Try.prog w = .ok true w := by
  rw [run_equalIn_struct w 9999 _ _ _ Try.underlying38 (by kernel_rfl)]
  simp [go_sem, Op.eqFields]
attribute [local go_sem ↓] eq_ress eq_same
attribute [local go_sem] eqRb_self
section
variable {w : World} {S : Nat → Prop} {p : Value} {E F : List ET} {x : ET} {r : RT} {n : Int}
theorem append_no (h : IsLog w S p E) (hx : lchk E x = n) (hn : n ≠ 0) : Calls Try.prog 12 #[p, .agg x.cells.toArray] w (ToldN (.tuple #[.agg rZero.cells.toArray, .int .i64 n]) w) := by
  obtain ⟨h0, b, sb, sm, ve, vr, rfl, hl, hi⟩ := h
  have := lappend_no hl x (by rw [hx]; exact hn)
  rw [hx] at this
  exact this
/-- told: what became of it; and the log has this -/
def NowL (S : Nat → Prop) (p : Value) (F : List ET) (r : RT) (w : World) (e : Ending) (w' : World) : Prop :=
  e = .returned (.tuple #[.agg r.cells.toArray, .int .i64 0]) ∧ Chg S w w' ∧ ∃ S', Grew S w S' w' ∧ IsLog w' S' p F
theorem append_ok (h : IsLog w S p E) (hx : lchk E x = 0) (hF : E ++ [x] = F) (hr : appR (cellsN E E.length) ((E.length : Int) + 1) x.op = r) : Calls Try.prog 12 #[p, .agg x.cells.toArray] w (NowL S p F r w) := by
  refine (log_append h x).mono ?_
  rintro e w' ⟨rfl, k, S', g, hl⟩
  have e1 : appE E x = F := by unfold appE; rw [if_pos hx, hF]
  have e2 : appX E x = r := by unfold appX; rw [if_pos hx, hr]
  rw [e1] at hl
  exact ⟨by rw [e2, hx], k, S', g, hl⟩
end
/-! ### the chapter's log -/
def xo : PT := ⟨2, [107], [118], 0⟩
def xg : PT := ⟨1, [107], [], 0⟩
def x1 : ET := ⟨1, 0, 3, xo⟩
def x2 : ET := ⟨3, 0, 4, xo⟩
def x3 : ET := ⟨2, 0, 3, xo⟩
def x4 : ET := ⟨2, 1, 1, xg⟩
theorem a1 : lchk [] x1 = 0 := by rfl
theorem a1r : appR (cellsN [] 0) (0 + 1) x1.op = ⟨1, [], 1, 1⟩ := by rfl
theorem a2 : lchk [x1] x2 = 70 := by rfl
theorem a3 : lchk [x1] x3 = 71 := by rfl
theorem a4 : lchk [x1] x4 = 2 := by rfl
theorem a5 : seqL [x1] 0 = 3 ∧ lastN [x1] 0 1 = 1 := by constructor <;> rfl
theorem a6 : look (cellsN [x1] 1) [107] 1 = ⟨1, [118], 1, 1⟩ := by rfl
theorem Grew.out {S S' : Nat → Prop} {w w' : World} {q : Nat} (h : Grew S w S' w') (hq : ¬ S q) (hl : q < w.heap.size) : ¬ S' q := fun e => by
  rcases (h q e).1 with e | e
  · exact hq e
  · omega
theorem out_of {w : World} {S : Nat → Prop} {p : Value} {E : List ET} {q : Nat} (h : IsLog w S p E) (hq : w.heap.size ≤ q) : ¬ S q := fun e => by
  have := h.lt q e
  omega
theorem zero_opz : (Try.prog.info? 32).bind (·.zero) = some (.agg pZero.cells.toArray) := by kernel_rfl
set_option maxRecDepth 100000 in
set_option maxHeartbeats 1000000 in
theorem logged_any (w : World) : Calls Try.prog 7 #[] w (ToldN (.bool true) w) := by
  have HN := hide (log_new w)
  have H1 := hide (fun (w : World) S p (h : IsLog w S p []) => (show Calls Try.prog 12 #[p, .agg #[.int .i64 1, .int .i64 0, .int .i64 3, .int .i64 2, .string ⟨#[107]⟩, .string ⟨#[118]⟩, .int .i64 0]] w (fun e w' => e = .returned (.tuple #[.agg #[.int .i64 1, .string ⟨#[]⟩, .int .i64 1, .int .i64 1], .int .i64 0]) ∧ Chg S w w' ∧ ∃ S', Grew S w S' w' ∧ IsLog w' S' p [x1]) from append_ok (E := []) (F := [x1]) (x := x1) (r := ⟨1, [], 1, 1⟩) h a1 rfl a1r))
  have H2 := hide (fun (w : World) S p (h : IsLog w S p [x1]) => (show Calls Try.prog 12 #[p, .agg #[.int .i64 3, .int .i64 0, .int .i64 4, .int .i64 2, .string ⟨#[107]⟩, .string ⟨#[118]⟩, .int .i64 0]] w (ToldN (.tuple #[.agg rZero.cells.toArray, .int .i64 70]) w) from append_no (E := [x1]) (x := x2) (n := 70) h a2 (by decide)))
  have H3 := hide (fun (w : World) S p (h : IsLog w S p [x1]) => (show Calls Try.prog 12 #[p, .agg #[.int .i64 2, .int .i64 0, .int .i64 3, .int .i64 2, .string ⟨#[107]⟩, .string ⟨#[118]⟩, .int .i64 0]] w (ToldN (.tuple #[.agg rZero.cells.toArray, .int .i64 71]) w) from append_no (E := [x1]) (x := x3) (n := 71) h a3 (by decide)))
  have H4 := hide (fun (w : World) S p (h : IsLog w S p [x1]) => (show Calls Try.prog 12 #[p, .agg #[.int .i64 2, .int .i64 1, .int .i64 1, .int .i64 1, .string ⟨#[107]⟩, .string ⟨#[]⟩, .int .i64 0]] w (ToldN (.tuple #[.agg rZero.cells.toArray, .int .i64 2]) w) from append_no (E := [x1]) (x := x4) (n := 2) h a4 (by decide)))
  have H5 := hide (fun (w : World) S p (h : IsLog w S p [x1]) => (show Calls Try.prog 20 #[p, .int .i64 0] w (ToldN (.tuple #[.int .i64 3, .int .i64 1]) w) from log_last h 0))
  have H6 := hide (fun (w : World) S p (h : IsLog w S p [x1]) => (show Calls Try.prog 10 #[p, .string ⟨#[107]⟩] w (ToldN (.agg #[.int .i64 1, .string ⟨#[118]⟩, .int .i64 1, .int .i64 1]) w) from log_look h (k := [107]) (by unfold maxLen; simp)))
  have t1 : True := True.intro
  have t2 : True := True.intro
  have t3 : True := True.intro
  have t4 : True := True.intro
  have u1 : True := True.intro
  have u2 : True := True.intro
  have u3 : True := True.intro
  have u4 : True := True.intro
  go_enter Try.func7, Try.ntmps7
  go_wp2_with (first
    | (go_at_call 8; refine (unhide HN).mono ?_; rintro e w1 ⟨p0, S1, rfl, f1, l1, k1, b0, rfl⟩)
    | (clear t1; go_at_call 12; (with_reducible refine (unhide H1 _ _ _ (l1.no k3)).mono ?_); rintro e w4 ⟨rfl, k4, S4, gr4, l4⟩; have QQ := k4.at Q3 (out_of l1 eq1); have K4 : Chg noBlk w w4 := (k1.andNo k3).trans k4 (fun i hi e => absurd (f1 i e) (Nat.not_le_of_lt hi)); have KK := Chg.refl noBlk w4)
    | (clear t2; go_at_call 12; (with_reducible refine (unhide H2 _ _ _ (l4.no KK)).mono ?_); rintro e wz ⟨rfl, kz⟩; have KK := KK.andNo kz; have QQ := kz.at QQ id; have RR := kz.at RR id)
    | (clear t3; go_at_call 12; (with_reducible refine (unhide H3 _ _ _ (l4.no KK)).mono ?_); rintro e wz ⟨rfl, kz⟩; have KK := KK.andNo kz; have QQ := kz.at QQ id; have RR := kz.at RR id)
    | (clear t4; go_at_call 12; (with_reducible refine (unhide H4 _ _ _ (l4.no KK)).mono ?_); rintro e wz ⟨rfl, kz⟩; have KK := KK.andNo kz; have QQ := kz.at QQ id; have RR := kz.at RR id)
    | (go_at_call 20; (with_reducible refine (unhide H5 _ _ _ (l4.no KK)).mono ?_); rintro e wz ⟨rfl, kz⟩; have KK := KK.andNo kz; have RR := kz.at RR id)
    | (go_at_call 10; (with_reducible refine (unhide H6 _ _ _ (l4.no KK)).mono ?_); rintro e wz ⟨rfl, kz⟩; have KK := KK.andNo kz)
    | ((with_reducible show wpList _ _ _ (_ :: _) _ _); first
      | (refine wpL_alloc rfl 32 rfl _ zero_opz ?_; intro q w2 e2 k2 g2 z2; have eq1 : w1.heap.size ≤ q := Nat.le_of_eq e2; clear e2 z2)
      | (refine wpL_store rfl 32 (.tmp 2) (.tmp 14) rfl q #[.int .i64 2, .string ⟨#[107]⟩, .string ⟨#[118]⟩, .int .i64 0] rfl rfl _ _ g2 info_op4 rfl (all_oneCell_toArray (by simp [Value.oneCell'])) ?_; intro w3 k3' Q3 z3; have k3 := k2.past k3' eq1)
      | (refine wpL_load rfl 32 (.tmp 2) rfl q rfl #[.int .i64 2, .string ⟨#[107]⟩, .string ⟨#[118]⟩, .int .i64 0] _ _ QQ _ Try.underlying32 rfl info_op4 ?_)
      | (refine wpL_load rfl 32 (.tmp 2) rfl q rfl #[.int .i64 2, .string ⟨#[107]⟩, .string ⟨#[118]⟩, .int .i64 0] _ _ Q3 _ Try.underlying32 rfl info_op4 ?_)
      | (refine wpL_load rfl 38 (.tmp 3) rfl p3 rfl #[.int .i64 1, .string ⟨#[]⟩, .int .i64 1, .int .i64 1] _ _ RR _ Try.underlying38 rfl info_res ?_)
      | (clear u1; refine wpL_alloc rfl 38 rfl _ zero_res ?_; intro p3 wa ea ka ga za; have ea : w4.heap.size ≤ p3 := Nat.le_of_eq ea; have KA := ka)
      | (refine wpL_store rfl 38 (.tmp 3) (.tmp 20) rfl p3 #[.int .i64 1, .string ⟨#[]⟩, .int .i64 1, .int .i64 1] rfl rfl _ _ ga info_res rfl (all_oneCell_toArray (by simp [Value.oneCell'])) ?_; intro wb kb gb zb; have RR := gb; have KK := KA.past kb ea; have QQ := KK.at QQ id)
      | (refine wpL_alloc rfl 38 rfl _ zero_res ?_; intro pp wa ea ka ga za; have ea := Nat.le_of_eq ea; have KA := ka)
      | (refine wpL_store rfl 38 (.tmp 5) (.tmp 27) rfl pp rZero.cells.toArray rfl rfl _ _ ga info_res rfl (all_oneCell_toArray (RT.one _)) ?_; intro wb kb gb zb; have kc := KA.past kb ea; have KK := KK.andNo kc; have QQ := kc.at QQ id; have RR := kc.at RR id)
      | (refine wpL_store rfl 38 (.tmp 7) (.tmp 34) rfl pp rZero.cells.toArray rfl rfl _ _ ga info_res rfl (all_oneCell_toArray (RT.one _)) ?_; intro wb kb gb zb; have kc := KA.past kb ea; have KK := KK.andNo kc; have QQ := kc.at QQ id; have RR := kc.at RR id)
      | (refine wpL_store rfl 38 (.tmp 9) (.tmp 41) rfl pp rZero.cells.toArray rfl rfl _ _ ga info_res rfl (all_oneCell_toArray (RT.one _)) ?_; intro wb kb gb zb; have kc := KA.past kb ea; have KK := KK.andNo kc; have QQ := kc.at QQ id; have RR := kc.at RR id)))
  go_ret
  exact ⟨rfl, K4.andNo KK⟩
end Go.Proofs.Ytfffgegdcgfakaa
