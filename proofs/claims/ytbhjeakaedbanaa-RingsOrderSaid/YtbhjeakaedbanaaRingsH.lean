/-
  Rings: what is pushed is popped in that order.
-/
import Derived.Test.YtbhjeakaedbanaaRingsG
import Derived.Deep.DeepCutAuto
namespace Go.Proofs.Ytbhjeakaedbanaa
open Go.ChangeShapes Go.WideShapes Go.ChangeAt Go.RowKit
set_option linter.unusedVariables false
attribute [local go_sem ↓] ldFr_pre stFr_pre
/-- the frames with the Seqs from o on, m of them -/
def Lq (o m : Nat) : List Fr := (List.range m).map fun j => seqF ((o + j : Nat) : Int)
theorem Lq_len (o m : Nat) : (Lq o m).length = m := by simp [Lq]
theorem Lq_push (o m i : Nat) (h : i = o + m) : Lq o m ++ [seqF (i : Int)] = Lq o (m + 1) := by simp [Lq, List.range_succ, h]
theorem Lq_pop (o m : Nat) : Lq o (m + 1) = seqF (o : Int) :: Lq (o + 1) m := by
  simp only [Lq, List.range_succ_eq_map, List.map_cons, List.map_map, Nat.add_zero, List.cons.injEq, true_and]
  apply List.map_congr_left
  intro j _; show seqF _ = seqF _; congr 2; omega
theorem ring_lenI {w : World} {S : Nat → Prop} {p : Value} {cap : Nat} {L : List Fr} (h : Ring w S p cap L) (x : Int) (hx : (L.length : Int) = x) : Calls Try.prog 21 #[p] w (fun e w' => e = .returned (.int .i64 x) ∧ w = w') := by
  rw [← hx]; exact ring_len h
/-- where the loop stands -/
def OrdAt (w0 : World) (p : Value) (n len : Nat) (i inn out : Value) (w : World) : Prop :=
  ∃ (k a b : Nat) (S : Nat → Prop), k ≤ len ∧ i = .int .i64 (k : Int) ∧ inn = .int .i64 (a : Int) ∧ out = .int .i64 (b : Int) ∧ b ≤ a ∧ a ≤ k ∧ Ring w S p n (Lq b (a - b)) ∧ (∀ j, S j → w0.heap.size ≤ j) ∧ Chg noBlk w0 w
theorem any_new (n : Nat) (h1 : 1 ≤ n) (h2 : n ≤ 64) (x : Int) (hx : x = n) (w : World) : Calls Try.prog 8 #[.int .i64 x] w (MadeR n w) := by rw [hx]; exact new_yes n h1 h2 w
set_option maxRecDepth 100000 in
set_option maxHeartbeats 1000000 in
theorem order_any (q : Nat) (hq : q < 256) (ad : Option Addr) (len cap : Nat) (B : Nat → Bool) (w : World) (hlen : len ≤ 9223372036854775807) (hB : ∀ i, i < len → ∃ b off, ad = some ⟨b, off, none⟩ ∧ w.cell? ⟨b, off + i, none⟩ = some (.bool (B i))) :
    Calls Try.prog 5 #[.int .u8 (q : Int), .slice ad len cap] w (ToldB true w) := by
  have HB := hide hB
  clear hB
  by_cases hl : len > 300
  · have d1 : decide ((300 : Int) < (len : Int)) = true := by simp; omega
    go_enter Try.func5, Try.ntmps5
    go_wp2_with (first
      | (go_at_call 7; refine (ringed_any _).mono ?_; rintro e w' ⟨rfl, k⟩))
    go_ret
    exact ⟨rfl, k⟩
  have d1 : decide ((300 : Int) < (len : Int)) = false := by simp; omega
  obtain ⟨n, hn⟩ : ∃ n, n = 1 + q % 64 := ⟨_, rfl⟩
  have hn1 : 1 ≤ n := by omega
  have hn2 : n ≤ 64 := by omega
  have NW := hide (new_yes n hn1 hn2 w)
  have HN := hide hn
  have hni : (1 + (q : Int) % 64) = (n : Int) := by omega
  clear hn
  go_enter Try.func5, Try.ntmps5
  go_wp2_with (first
    | (go_at_call 8; refine (unhide NW).mono ?_; rintro e w1 ⟨p, S1, rfl, n1, R1, k1⟩)
    | (go_at_call 22; refine (ring_cap R1).mono ?_; rintro e w' ⟨rfl, rfl⟩))
  have KK1 := hide k1
  have NN1 := hide n1
  clear k1 n1 NW hni
  go_loopw [8, 9, 10] (fun inn out i wr => OrdAt w p n len i inn out wr) (fun inn out i wr => len - (intOf i).toNat)
  case atStart => exact ⟨0, 0, 0, S1, by omega, rfl, rfl, rfl, by omega, by omega, R1, unhide NN1, unhide KK1⟩
  case round =>
    clear R1 KK1 NN1
    obtain ⟨k, a, b, S, hk, rfl, rfl, rfl, hba, hak, R, hS, kw⟩ := hrel
    have HR := hide R
    have HS := hide hS
    have KW := hide kw
    clear R hS kw
    by_cases hlt : k < len
    · obtain ⟨bb, off, rfl, hc⟩ := unhide HB k hlt
      have hc' := (unhide KW).cell hc id
      clear hc
      by_cases hBk : B k = true
      · have hc2 : wr.cell? ⟨bb, off + k, none⟩ = some (.bool true) := by rw [hc', hBk]
        clear hc'
        by_cases hful : a - b < n
        · have d2 : decide ((a : Int) - (b : Int) < (n : Int)) = true := by simp; omega
          have CP := hide (ring_push (unhide HR) (by rw [Lq_len]; exact hful) (seq_ok (a : Int)) (seq_fr _ wr) (seq_ap _ S))
          go_wp2_with (first
            | (refine wpL_build rfl 42 #[(3, .tmp 46)] (by rfl) (seqFr (a : Int)).toArray (by exact built_seq _) ?_)
            | (go_at_call 17; refine (unhide CP).mono ?_; rintro e w2 ⟨rfl, k2, S2, G2, R2⟩; have CL := hide (ring_lenI R2 ((a : Int) + 1 - (b : Int)) (by simp [Lq_len]; omega)))
            | (go_at_call 21; refine (unhide CL).mono ?_; rintro e w' ⟨rfl, rfl⟩))
          go_roundw
          case rel =>
            refine ⟨k + 1, a + 1, b, S2, by omega, by go_num, by go_num, rfl, by omega, by omega, ?_, fun j hj => ?_, (unhide KW).trans k2 fun i hi h => by have := unhide HS i h; omega⟩
            · have := R2; rw [Lq_push b (a - b) a (by omega)] at this; rw [show a + 1 - b = a - b + 1 by omega]; exact this
            · rcases (G2 j hj).1 with h | h
              · exact unhide HS j h
              · have := (unhide KW).size; omega
          case measure => simp [intOf]; omega
        · have d2 : decide ((a : Int) - (b : Int) < (n : Int)) = false := by simp; omega
          have hfl := (unhide HR).full.1
          rw [Lq_len] at hfl
          have CP := hide (ring_push_no (unhide HR) (by rw [Lq_len]; omega) (seqFr (a : Int)))
          go_wp2_with (first
            | (refine wpL_build rfl 42 #[(3, .tmp 46)] (by rfl) (seqFr (a : Int)).toArray (by exact built_seq _) ?_)
            | (go_at_call 17; refine (unhide CP).mono ?_; rintro e w2 ⟨rfl, k2⟩; have CL := hide (ring_lenI ((unhide HR).keptNo k2) ((a : Int) - (b : Int)) (by simp [Lq_len]; omega)))
            | (go_at_call 21; refine (unhide CL).mono ?_; rintro e w' ⟨rfl, rfl⟩))
          go_roundw
          case rel => exact ⟨k + 1, a, b, S, by omega, by go_num, rfl, rfl, by omega, by omega, (unhide HR).keptNo k2, unhide HS, (unhide KW).andNo k2⟩
          case measure => simp [intOf]; omega
      · have hBf : B k = false := by simpa using hBk
        have hc2 : wr.cell? ⟨bb, off + k, none⟩ = some (.bool false) := by rw [hc', hBf]
        clear hc'
        by_cases hemp : b < a
        · have d2 : decide ((b : Int) < (a : Int)) = true := by simp; omega
          have R1 : Ring wr S p n (seqF (b : Int) :: Lq (b + 1) (a - b - 1)) := by
            have := unhide HR; rw [show a - b = (a - b - 1) + 1 by omega, Lq_pop] at this; exact this
          have CP := hide (ring_pop R1)
          go_wp2_with (first
            | (go_at_call 10; refine (unhide CP).mono ?_; rintro e w2 ⟨c, rfl, f2, k2, R2⟩; have h2 := f2.reads.is29 (seq_ok _); have s2 := seq_get f2.reads)
            | (refine wpL_alloc rfl 42 rfl _ zero_fr ?_; intro x w3 e3 k3 gx z3)
            | (refine wpL_store rfl 42 (.tmp 12) (.tmp 62) rfl x c.toArray rfl rfl _ _ gx (by rw [size_fr, h2.1]) (by rw [h2.1]; rfl) h2.2 ?_; intro w4 k4 gx z4; have cx := cellAt gx 3 _ s2; have R4 := (R2.keptNo k3).kept k4 (fun i hi e => by have e : i = x := e; have := R2.lt i hi; omega); have CL := hide (ring_lenI R4 ((a : Int) - ((b : Int) + 1)) (by simp [Lq_len]; omega)))
            | (go_at_call 21; refine (unhide CL).mono ?_; rintro e w' ⟨rfl, rfl⟩))
          go_roundw
          case rel =>
            refine ⟨k + 1, a, b + 1, S, by omega, by go_num, rfl, by go_num, by omega, by omega, ?_, unhide HS, (((unhide KW).trans k2 fun i hi h => by have := unhide HS i h; omega).andNo k3).trans k4 fun i hi e => by have e : i = x := e; have := (unhide KW).size; have := k2.size; omega⟩
            rw [show a - (b + 1) = a - b - 1 by omega]; exact R4
          case measure => simp [intOf]; omega
        · have d2 : decide ((b : Int) < (a : Int)) = false := by simp; omega
          have R1 : Ring wr S p n [] := by
            have := unhide HR; rw [show a - b = 0 by omega] at this; exact this
          have CP := hide (ring_pop_no R1)
          go_wp2_with (first
            | (go_at_call 10; refine (unhide CP).mono ?_; rintro e w2 ⟨rfl, k2⟩)
            | (refine wpL_alloc rfl 42 rfl _ zero_fr ?_; intro x w3 e3 k3 gx z3)
            | (refine wpL_store rfl 42 (.tmp 12) (.tmp 62) rfl x zeroFr.toArray rfl rfl _ _ gx (by rw [size_fr]; rfl) rfl zero_one ?_; intro w4 k4 gx z4; have R4 := (((unhide HR).keptNo k2).keptNo k3).kept k4 (fun i hi e => by have e : i = x := e; have := (unhide HR).lt i hi; have := k2.size; omega); have CL := hide (ring_lenI R4 ((a : Int) - (b : Int)) (by simp [Lq_len]; omega)))
            | (go_at_call 21; refine (unhide CL).mono ?_; rintro e w' ⟨rfl, rfl⟩))
          go_roundw
          case rel => exact ⟨k + 1, a, b, S, by omega, by go_num, rfl, rfl, by omega, by omega, R4, unhide HS, (((unhide KW).andNo k2).andNo k3).trans k4 fun i hi e => by have e : i = x := e; have := (unhide KW).size; have := k2.size; omega⟩
          case measure => simp [intOf]; omega
    · go_wp2_with (first
        | (go_at_call 7; refine (ringed_any _).mono ?_; rintro e w' ⟨rfl, kr⟩))
      go_ret
      exact ⟨rfl, (unhide KW).andNo kr⟩
end Go.Proofs.Ytbhjeakaedbanaa
