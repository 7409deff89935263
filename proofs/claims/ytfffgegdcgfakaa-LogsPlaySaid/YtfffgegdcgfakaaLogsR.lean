/-
  Logs: a log is the document's.
-/
import Derived.Test.YtfffgegdcgfakaaLogsQ
namespace Go.Proofs.Ytfffgegdcgfakaa
open Go.ChangeShapes Go.WideShapes Go.ChangeAt Go.RowKit
set_option linter.unusedVariables false
attribute [local go_sem] bs_size bs_app bs_cut bs_tl bs_at
theorem eq_sameE (i c s k n : Int) (y v : ByteArray) (w : World) : (Op.equalIn 10000 34 (.agg #[.int .i64 i, .int .i64 c, .int .i64 s, .int .i64 k, .string y, .string v, .int .i64 n]) (.agg #[.int .i64 i, .int .i64 c, .int .i64 s, .int .i64 k, .string y, .string v, .int .i64 n])).run Try.prog w = .ok true w := by
  rw [run_equalIn_struct w 9999 _ _ _ Try.underlying34 (by kernel_rfl)]
  simp [go_sem, Op.eqFields]
attribute [local go_sem ↓] eq_same eq_sameE
set_option maxRecDepth 100000 in
set_option maxHeartbeats 8000000 in
theorem alike_at {w : World} {S : Nat → Prop} {p : Value} {b : Nat} {v : Value} {E : List ET} (ha : IsLog w S p E) (h : RefAt w b v E) (hl : E.length ≤ 400) :
    Calls Try.prog 17 #[p, .pointer (some ⟨b, 0, none⟩)] w (ToldN (.bool true) w) := by
  obtain ⟨ad, cap, rfl, le, few, R⟩ := h.ent.form ET.len
  have HA := hide ha
  have HH := hide h
  have HRW := hide R
  have HCE := hide (rcells_at h hl)
  have HEN := hide (fun w' (c : Chg noBlk w w') => log_entries (ha.no c))
  have HLN := hide (fun w' (c : Chg noBlk w w') => log_len (ha.no c))
  have hc0 := hide (fun w' (c : Chg noBlk w w') => (h.no c).c0)
  have HRL := hide (ress_len E E.length)
  clear ha h R
  go_enter Try.func17, Try.ntmps17
  go_wp2_with (first
    | (go_at_call 29; refine (unhide HCE).mono ?_; rintro e w2 ⟨adc, capc, vr, rfl, k2, s2, o2⟩; obtain ⟨ad3, cap3, rfl, _, _, rw3⟩ := o2.form RT.len; rw [unhide HRL] at *; clear s2)
    | (go_at_call 21; (with_reducible refine (unhide HEN _ k2).mono ?_); rintro e w4 ⟨vm, rfl, k4, o4, f4⟩; obtain ⟨ad4, cap4, rfl, _, _, rw4⟩ := o4.form ET.len; have b0 := unhide hc0 _ (k2.andNo k4); clear f4))
  have K4 := hide (k2.andNo k4)
  have RW3 := hide (rows_no rw3 k4)
  have RW4 := hide rw4
  clear o2 o4 k2 k4 rw3 rw4 HCE HEN
  have d0 : ((E.length : Int) != (E.length : Int)) = false := by simp
  go_quiet ((go_at_call 13; (with_reducible exact quiet_told (unhide HLN _ ((unhide K4).drewN _)))))
  have K5 := hide ((unhide K4).drewN nq)
  have RW5 := hide (rows_no (unhide RW3) ((Chg.refl noBlk w4).drewN nq))
  have RW6 := hide (rows_no (unhide RW4) ((Chg.refl noBlk w4).drewN nq))
  clear b0 K4 RW3 RW4 d0
  generalize w4.drewN nq = w5 at K5 RW5 RW6 ⊢
  go_wp2_with fail
  go_loopw [8] (fun i wr => ∃ k : Nat, k ≤ E.length + 2 ∧ i = .int .i64 (k : Int) ∧ Chg noBlk w5 wr) (fun i wr => E.length + 2 - (intOf i).toNat)
  case atStart => exact ⟨0, by omega, rfl, Chg.refl _ _⟩
  case round =>
    obtain ⟨k, hk, rfl, kw⟩ := hrel
    have KW := hide kw
    have KV := hide ((unhide K5).andNo kw)
    have b0 := unhide hc0 _ ((unhide K5).andNo kw)
    clear kw
    have j1 : IntKind.i64.wrap ((E.length : Int) + 1) = (E.length : Int) + 1 := IntWalk.i64_in _ (by omega)
    by_cases hlt : k ≤ E.length + 1
    · have d1 : decide ((k : Int) ≤ (E.length : Int) + 1) = true := by simp; omega
      obtain ⟨i, hi⟩ : ∃ i : Int, (k : Int) = i := ⟨_, rfl⟩
      cases hin : hasB E i
      · have hw : decide (1 ≤ i) = false ∨ (decide (1 ≤ i) = true ∧ decide (i ≤ (E.length : Int)) = false) := by
          rcases hasB_no.1 hin with h | h
          · exact .inl (by simp; omega)
          · exact .inr ⟨by simp; omega, by simp; omega⟩
        have HAT := hide (fun w' (c : Chg noBlk w w') => (show Calls Try.prog 18 #[p, .int .i64 i] w' (ToldN (.tuple #[.agg #[.int .i64 0, .int .i64 0, .int .i64 0, .int .i64 0, .string ⟨#[]⟩, .string ⟨#[]⟩, .int .i64 0], .bool false]) w') from log_at_no ((unhide HA).no c) hin))
        have HRE := hide (fun w' (c : Chg noBlk w w') => (show Calls Try.prog 19 #[p, .int .i64 i] w' (ToldN (.tuple #[.agg #[.int .i64 0, .string ⟨#[]⟩, .int .i64 0, .int .i64 0], .bool false]) w') from log_res_no ((unhide HA).no c) hin))
        have i0 : 0 ≤ i := by omega
        have i1 : i ≤ (E.length : Int) + 1 := by omega
        have hk3 : E.length + 2 - (k + 1) < E.length + 2 - k := by omega
        have HI := hide hi
        rw [hi] at d1 ⊢
        clear hin hi
        rcases hw with d2 | ⟨d2, d3⟩
        all_goals
          have t1 : True := True.intro
          go_wp2_with (first
            | (go_at_call 18; (with_reducible refine (unhide HAT _ (unhide KV)).mono ?_); rintro e w6 ⟨rfl, k6⟩)
            | (go_at_call 19; (with_reducible refine (unhide HRE _ ((unhide KV).andNo K8)).mono ?_); rintro e w9 ⟨rfl, k9⟩; have g10 := k9.at g8 id)
            | ((with_reducible show wpList _ _ _ (_ :: _) _ _); first
              | (refine wpL_alloc rfl 34 rfl _ zero_ent ?_; intro p7 w7 e7 k7 g7 z7; have e7 := Nat.le_of_eq e7)
              | (refine wpL_store rfl 34 (.tmp 9) (.tmp 58) rfl p7 #[.int .i64 0, .int .i64 0, .int .i64 0, .int .i64 0, .string ⟨#[]⟩, .string ⟨#[]⟩, .int .i64 0] rfl rfl _ _ g7 info_ent rfl (all_oneCell_toArray (by simp [Value.oneCell'])) ?_; intro w8 k8 g8 z8; have K8 := k6.andNo (k7.past k8 e7))
              | (refine wpL_alloc rfl 38 rfl _ zero_res ?_; intro p11 w11 e11 k11 g11 z11; have e11 := Nat.le_of_eq e11)
              | (refine wpL_store rfl 38 (.tmp 11) (.tmp 64) rfl p11 #[.int .i64 0, .string ⟨#[]⟩, .int .i64 0, .int .i64 0] rfl rfl _ _ g11 info_res rfl (all_oneCell_toArray (by simp [Value.oneCell'])) ?_; intro w12 k12 g12 z12; have K12 := k9.andNo (k11.past k12 e11); have g13 := (k11.past k12 e11).at g10 id; have bb := unhide hc0 _ ((unhide KV).andNo (K8.andNo K12)); clear b0)))
          have x0 := cellAt g13 0 _ rfl
          have x1 := cellAt g13 1 _ rfl
          have x2 := cellAt g13 2 _ rfl
          have x3 := cellAt g13 3 _ rfl
          have x4 := cellAt g13 4 _ rfl
          have x5 := cellAt g13 5 _ rfl
          have x6 := cellAt g13 6 _ rfl
          have y0 := cellAt g12 0 _ rfl
          have y1 := cellAt g12 1 _ rfl
          have y2 := cellAt g12 2 _ rfl
          have y3 := cellAt g12 3 _ rfl
          go_quiet (fail)
          have KZ := hide (((K8.andNo K12)).drewN nq)
          clear x0 x1 x2 x3 x4 x5 x6 y0 y1 y2 y3 bb g13 g12 g11 g10 g8 g7 K8 K12 k6 k7 k8 k9 k11 k12
          go_wp2_with fail
          go_roundw
          case rel => exact ⟨k + 1, by omega, by rw [← unhide HI]; go_num, (unhide KW).andNo (unhide KZ)⟩
          case measure => simp [intOf]; have := unhide HI; omega
      · obtain ⟨h1, h2⟩ := hasB_yes.1 hin
        obtain ⟨j, hj⟩ : ∃ j : Nat, i = (j : Int) + 1 := ⟨(i - 1).toNat, by omega⟩
        have hjl : j < E.length := by omega
        obtain ⟨x, hx⟩ : ∃ x, E[j]? = some x := ⟨_, List.getElem?_eq_getElem hjl⟩
        have rx := ress_get (E := E) hjl
        obtain ⟨r, hr⟩ : ∃ r, resN E j = r := ⟨_, rfl⟩
        have HAT := hide (fun w' (c : Chg noBlk w w') => log_at ((unhide HA).no c) hx)
        have HRE := hide (fun w' (c : Chg noBlk w w') => log_res ((unhide HA).no c) hjl)
        rw [hr] at HRE rx
        have HX := hide hx
        have HRX := hide rx
        have hk3 : E.length + 2 - (k + 1) < E.length + 2 - k := by omega
        have HI := hide (hi.trans hj)
        rw [hi, hj] at d1 ⊢
        have i1 : (0 : Int) ≤ (j : Int) := by omega
        have i2 : (j : Int) < (E.length : Int) := by omega
        have s1 : IntKind.i64.wrap ((j : Int) + 1 - 1) = (j : Int) := by rw [Int.add_sub_cancel]; exact IntWalk.i64_in _ (by omega)
        have s2 : (j : Int) + 1 ≤ (E.length : Int) := by omega
        have d3 : decide ((j : Int) + 1 ≤ (E.length : Int)) = true := decide_eq_true s2
        have d2 : decide (1 ≤ (j : Int) + 1) = true := decide_eq_true (by omega)
        clear hin hi hj hx hr rx h1 h2
        obtain ⟨a1, a2, a3, a4, a5, a6, a7⟩ := x
        obtain ⟨r1, r2, r3, r4⟩ := r
        go_wp2_with (first
          | (go_at_call 18; (with_reducible refine (unhide HAT _ (unhide KV)).mono ?_); rintro e w6 ⟨rfl, k6⟩)
          | (go_at_call 19; (with_reducible refine (unhide HRE _ ((unhide KV).andNo K8)).mono ?_); rintro e w9 ⟨rfl, k9⟩; have g10 := k9.at g8 id)
          | ((with_reducible show wpList _ _ _ (_ :: _) _ _); first
            | (refine wpL_alloc rfl 34 rfl _ zero_ent ?_; intro p7 w7 e7 k7 g7 z7; have e7 := Nat.le_of_eq e7)
            | (refine wpL_store rfl 34 (.tmp 9) (.tmp 58) rfl p7 (ET.cells ⟨a1, a2, a3, a4, a5, a6, a7⟩).toArray rfl rfl _ _ g7 info_ent rfl (all_oneCell_toArray (ET.one _)) ?_; intro w8 k8 g8 z8; have K8 := k6.andNo (k7.past k8 e7))
            | (refine wpL_alloc rfl 38 rfl _ zero_res ?_; intro p11 w11 e11 k11 g11 z11; have e11 := Nat.le_of_eq e11)
            | (refine wpL_store rfl 38 (.tmp 11) (.tmp 64) rfl p11 (RT.cells ⟨r1, r2, r3, r4⟩).toArray rfl rfl _ _ g11 info_res rfl (all_oneCell_toArray (RT.one _)) ?_; intro w12 k12 g12 z12; have K12 := k9.andNo (k11.past k12 e11); have g13 := (k11.past k12 e11).at g10 id; have bb := unhide hc0 _ ((unhide KV).andNo (K8.andNo K12)); clear b0)))
        obtain ⟨_, gA, oA, rfl, qA⟩ := rows_no (unhide HRW) ((unhide KV).andNo (K8.andNo K12)) j _ (unhide HX)
        obtain ⟨_, gM, oM, rfl, qM⟩ := rows_no (unhide RW6) ((unhide KW).andNo (K8.andNo K12)) j _ (unhide HX)
        obtain ⟨_, gR, oR, rfl, qR⟩ := rows_no (unhide RW5) ((unhide KW).andNo (K8.andNo K12)) j _ (unhide HRX)
        have x0 : w12.cell? ⟨p7, 0, none⟩ = some (.int .i64 a1) := cellAt g13 0 _ rfl
        have x1 : w12.cell? ⟨p7, 1, none⟩ = some (.int .i64 a2) := cellAt g13 1 _ rfl
        have x2 : w12.cell? ⟨p7, 2, none⟩ = some (.int .i64 a3) := cellAt g13 2 _ rfl
        have x3 : w12.cell? ⟨p7, 3, none⟩ = some (.int .i64 a4) := cellAt g13 3 _ rfl
        have x4 : w12.cell? ⟨p7, 4, none⟩ = some (str a5) := cellAt g13 4 _ rfl
        have x5 : w12.cell? ⟨p7, 5, none⟩ = some (str a6) := cellAt g13 5 _ rfl
        have x6 : w12.cell? ⟨p7, 6, none⟩ = some (.int .i64 a7) := cellAt g13 6 _ rfl
        have y0 : w12.cell? ⟨p11, 0, none⟩ = some (.int .i64 r1) := cellAt g12 0 _ rfl
        have y1 : w12.cell? ⟨p11, 1, none⟩ = some (str r2) := cellAt g12 1 _ rfl
        have y2 : w12.cell? ⟨p11, 2, none⟩ = some (.int .i64 r3) := cellAt g12 2 _ rfl
        have y3 : w12.cell? ⟨p11, 3, none⟩ = some (.int .i64 r4) := cellAt g12 3 _ rfl
        have u0 : w12.cell? ⟨gA, oA + j * 7, none⟩ = some (.int .i64 a1) := qA 0 _ rfl
        have u1 : w12.cell? ⟨gA, oA + j * 7 + 1, none⟩ = some (.int .i64 a2) := qA 1 _ rfl
        have u2 : w12.cell? ⟨gA, oA + j * 7 + 2, none⟩ = some (.int .i64 a3) := qA 2 _ rfl
        have u3 : w12.cell? ⟨gA, oA + j * 7 + 3, none⟩ = some (.int .i64 a4) := qA 3 _ rfl
        have u4 : w12.cell? ⟨gA, oA + j * 7 + 4, none⟩ = some (str a5) := qA 4 _ rfl
        have u5 : w12.cell? ⟨gA, oA + j * 7 + 5, none⟩ = some (str a6) := qA 5 _ rfl
        have u6 : w12.cell? ⟨gA, oA + j * 7 + 6, none⟩ = some (.int .i64 a7) := qA 6 _ rfl
        have v0 : w12.cell? ⟨gM, oM + j * 7, none⟩ = some (.int .i64 a1) := qM 0 _ rfl
        have v1 : w12.cell? ⟨gM, oM + j * 7 + 1, none⟩ = some (.int .i64 a2) := qM 1 _ rfl
        have v2 : w12.cell? ⟨gM, oM + j * 7 + 2, none⟩ = some (.int .i64 a3) := qM 2 _ rfl
        have v3 : w12.cell? ⟨gM, oM + j * 7 + 3, none⟩ = some (.int .i64 a4) := qM 3 _ rfl
        have v4 : w12.cell? ⟨gM, oM + j * 7 + 4, none⟩ = some (str a5) := qM 4 _ rfl
        have v5 : w12.cell? ⟨gM, oM + j * 7 + 5, none⟩ = some (str a6) := qM 5 _ rfl
        have v6 : w12.cell? ⟨gM, oM + j * 7 + 6, none⟩ = some (.int .i64 a7) := qM 6 _ rfl
        have s0 : w12.cell? ⟨gR, oR + j * 4, none⟩ = some (.int .i64 r1) := qR 0 _ rfl
        have s1 : w12.cell? ⟨gR, oR + j * 4 + 1, none⟩ = some (str r2) := qR 1 _ rfl
        have s2 : w12.cell? ⟨gR, oR + j * 4 + 2, none⟩ = some (.int .i64 r3) := qR 2 _ rfl
        have s3 : w12.cell? ⟨gR, oR + j * 4 + 3, none⟩ = some (.int .i64 r4) := qR 3 _ rfl
        clear qA qM qR
        go_quiet (fail)
        have KZ := hide (((K8.andNo K12)).drewN nq)
        clear x0 x1 x2 x3 x4 x5 x6 y0 y1 y2 y3 u0 u1 u2 u3 u4 u5 u6 v0 v1 v2 v3 v4 v5 v6 s0 s1 s2 s3 bb g13 g12 g11 g10 g8 g7 K8 K12 k6 k7 k8 k9 k11 k12
        go_wp2_with fail
        go_roundw
        case rel => exact ⟨k + 1, by omega, by rw [← unhide HI]; go_num, (unhide KW).andNo (unhide KZ)⟩
        case measure => simp [intOf]; have := unhide HI; omega
    · have d1 : decide ((k : Int) ≤ (E.length : Int) + 1) = false := by simp; omega
      clear RW5 RW6 KW hlt
      go_wp2
      go_loopw [14] (fun i wq => ∃ k : Nat, k ≤ 9 ∧ i = .int .i64 ((k : Int) - 1) ∧ Chg noBlk w wq) (fun i wq => (8 - intOf i).toNat)
      case atStart => exact ⟨0, by omega, rfl, unhide KV⟩
      case round =>
        obtain ⟨c, hc, rfl, kq⟩ := hrel
        have KQ := hide kq
        have HLA := hide (fun w' (c' : Chg noBlk w w') => log_last ((unhide HA).no c') ((c : Int) - 1))
        have HLB := hide (fun w' (c' : Chg noBlk w w') => rlast_at ((unhide HH).no c') (by omega) ((c : Int) - 1))
        obtain ⟨i, hi⟩ : ∃ i : Int, (c : Int) - 1 = i := ⟨_, rfl⟩
        rw [hi] at HLA HLB ⊢
        obtain ⟨n1, hn1⟩ : ∃ n, seqL E i = n := ⟨_, rfl⟩
        obtain ⟨n2, hn2⟩ : ∃ n : Int, (lastN E i E.length : Int) = n := ⟨_, rfl⟩
        rw [hn1, hn2] at HLA HLB
        have HI := hide hi
        have i0 : -1 ≤ i := by omega
        have i1 : i ≤ 8 := by omega
        clear kq hn1 hn2 hi
        by_cases h8 : i < 8
        · have d5 : (n1 != n1) = false := by simp
          have d6 : (n2 != n2) = false := by simp
          go_wp2_with (first
            | (go_at_call 20; (with_reducible refine (unhide HLA _ (unhide KQ)).mono ?_); rintro e w6 ⟨rfl, k6⟩)
            | (go_at_call 35; (with_reducible refine (unhide HLB _ ((unhide KQ).andNo k6)).mono ?_); rintro e w7 ⟨rfl, rfl⟩))
          go_roundw
          case rel => exact ⟨c + 1, by have := unhide HI; omega, by have := unhide HI; rw [← this]; congr 1; omega, (unhide KQ).andNo k6⟩
          case measure => simp [intOf]; omega
        · go_wp2
          go_ret
          exact ⟨rfl, unhide KQ⟩
end Go.Proofs.Ytfffgegdcgfakaa
