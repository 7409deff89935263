/-
  Windows that are none: they have nothing, and take nothing.
-/
import Derived.Test.YtfmkldhghgbciaaWindowsD
namespace Go.Proofs.Ytfmkldhghgbciaa
open Go.ChangeShapes Go.WideShapes Go.ChangeAt Go.RowKit
set_option linter.unusedVariables false
section
variable {w : World} {p : Value}
theorem IsNone.no {w' : World} (h : IsNone w p) (k : Chg noBlk w w') : IsNone w' p := by
  rcases h with rfl | ⟨b, rfl, h⟩
  · exact .inl rfl
  · exact .inr ⟨b, rfl, k.at h id⟩
theorem last_no (h : IsNone w p) : Calls Try.prog 23 #[p] w (fun e w' => e = .returned (.int .i64 0) ∧ w = w') := by
  have N := hide (none_is h)
  clear h
  go_enter Try.func23, Try.ntmps23
  go_wp2_with (first
    | (go_at_call 29; refine (unhide N).mono ?_; rintro e w' ⟨rfl, rfl⟩))
  go_ret
  exact ⟨rfl, rfl⟩
theorem done_no (h : IsNone w p) : Calls Try.prog 24 #[p] w (fun e w' => e = .returned (.int .i64 0) ∧ w = w') := by
  have N := hide (none_is h)
  clear h
  go_enter Try.func24, Try.ntmps24
  go_wp2_with (first
    | (go_at_call 29; refine (unhide N).mono ?_; rintro e w' ⟨rfl, rfl⟩))
  go_ret
  exact ⟨rfl, rfl⟩
theorem sent_no (h : IsNone w p) : Calls Try.prog 25 #[p] w (fun e w' => e = .returned (.int .i64 0) ∧ w = w') := by
  have N := hide (none_is h)
  clear h
  go_enter Try.func25, Try.ntmps25
  go_wp2_with (first
    | (go_at_call 29; refine (unhide N).mono ?_; rintro e w' ⟨rfl, rfl⟩))
  go_ret
  exact ⟨rfl, rfl⟩
theorem limit_no (h : IsNone w p) : Calls Try.prog 26 #[p] w (fun e w' => e = .returned (.int .i64 0) ∧ w = w') := by
  have N := hide (none_is h)
  clear h
  go_enter Try.func26, Try.ntmps26
  go_wp2_with (first
    | (go_at_call 29; refine (unhide N).mono ?_; rintro e w' ⟨rfl, rfl⟩))
  go_ret
  exact ⟨rfl, rfl⟩
theorem offer_no (h : IsNone w p) : Calls Try.prog 27 #[p] w (fun e w' => e = .returned (.int .i64 0) ∧ w = w') := by
  have N := hide (none_is h)
  clear h
  go_enter Try.func27, Try.ntmps27
  go_wp2_with (first
    | (go_at_call 29; refine (unhide N).mono ?_; rintro e w' ⟨rfl, rfl⟩))
  go_ret
  exact ⟨rfl, rfl⟩
theorem free_no (h : IsNone w p) : Calls Try.prog 28 #[p] w (fun e w' => e = .returned (.int .i64 0) ∧ w = w') := by
  have O := hide (offer_no h)
  have L := hide (last_no h)
  clear h
  go_enter Try.func28, Try.ntmps28
  go_wp2_with (first
    | (go_at_call 27; refine (unhide O).mono ?_; rintro e w' ⟨rfl, rfl⟩)
    | (go_at_call 23; refine (unhide L).mono ?_; rintro e w' ⟨rfl, rfl⟩))
  go_ret
  exact ⟨rfl, rfl⟩
theorem push_no (h : IsNone w p) : Calls Try.prog 20 #[p] w (fun e w' => e = .returned (.bool false) ∧ w = w') := by
  have F := hide (free_no h)
  clear h
  go_enter Try.func20, Try.ntmps20
  go_wp2_with (first
    | (go_at_call 28; refine (unhide F).mono ?_; rintro e w' ⟨rfl, rfl⟩))
  go_ret
  exact ⟨rfl, rfl⟩
theorem next_no (h : IsNone w p) : Calls Try.prog 13 #[p] w (fun e w' => e = .returned (.tuple #[.int .i64 0, .bool false]) ∧ w = w') := by
  have O := hide (sent_no h)
  have L := hide (last_no h)
  clear h
  go_enter Try.func13, Try.ntmps13
  go_wp2_with (first
    | (go_at_call 25; refine (unhide O).mono ?_; rintro e w' ⟨rfl, rfl⟩)
    | (go_at_call 23; refine (unhide L).mono ?_; rintro e w' ⟨rfl, rfl⟩))
  go_ret2
  exact ⟨rfl, rfl⟩
theorem renew_no (h : IsNone w p) : Calls Try.prog 17 #[p] w (fun e w' => e = .returned (.tuple #[]) ∧ w = w') := by
  have N := hide (none_is h)
  clear h
  go_enter Try.func17, Try.ntmps17
  go_wp2_with (first
    | (go_at_call 29; refine (unhide N).mono ?_; rintro e w' ⟨rfl, rfl⟩))
  refine bodyPost_ret (results_none rfl _ _ _) rfl ?_
  exact ⟨rfl, rfl⟩
theorem grant_no (h : IsNone w p) (i : Int) (hi : -9223372036854775808 ≤ i ∧ i ≤ 9223372036854775807) : Calls Try.prog 11 #[p, .int .i64 i] w (fun e w' => e = .returned (.tuple #[]) ∧ w = w') := by
  have N := hide (none_is h)
  clear h
  go_enter Try.func11, Try.ntmps11
  go_wp2_with (first
    | (go_at_call 29; refine (unhide N).mono ?_; rintro e w' ⟨rfl, rfl⟩))
  refine bodyPost_ret (results_none rfl _ _ _) rfl ?_
  exact ⟨rfl, rfl⟩
theorem back_no (h : IsNone w p) (i : Int) (hi : -9223372036854775808 ≤ i ∧ i ≤ 9223372036854775807) : Calls Try.prog 15 #[p, .int .i64 i] w (fun e w' => e = .returned (.tuple #[]) ∧ w = w') := by
  have N := hide (none_is h)
  clear h
  go_enter Try.func15, Try.ntmps15
  go_wp2_with (first
    | (go_at_call 29; refine (unhide N).mono ?_; rintro e w' ⟨rfl, rfl⟩))
  refine bodyPost_ret (results_none rfl _ _ _) rfl ?_
  exact ⟨rfl, rfl⟩
theorem copy_no (h : IsNone w p) : Calls Try.prog 19 #[p] w (fun e w' => e = .returned (.pointer none) ∧ w = w') := by
  have N := hide (none_is h)
  clear h
  go_enter Try.func19, Try.ntmps19
  go_wp2_with (first
    | (go_at_call 29; refine (unhide N).mono ?_; rintro e w' ⟨rfl, rfl⟩))
  go_ret
  exact ⟨rfl, rfl⟩
theorem ack_no (h : IsNone w p) (i : Int) (hi : -9223372036854775808 ≤ i ∧ i ≤ 9223372036854775807) : Calls Try.prog 9 #[p, .int .i64 i] w (fun e w' => e = .returned (.bool false) ∧ w = w') := by
  have D := hide (done_no h)
  have L := hide (last_no h)
  clear h
  by_cases a : i ≤ 0
  · have a1 : decide (i ≤ 0) = true := by simpa using a
    go_enter Try.func9, Try.ntmps9
    go_wp2_with (first
      | (go_at_call 24; refine (unhide D).mono ?_; rintro e w' ⟨rfl, rfl⟩)
      | (go_at_call 23; refine (unhide L).mono ?_; rintro e w' ⟨rfl, rfl⟩))
    go_ret
    exact ⟨rfl, rfl⟩
  · have a1 : decide (i ≤ 0) = false := by simpa using a
    have a2 : decide (0 < i) = true := by simp; omega
    go_enter Try.func9, Try.ntmps9
    go_wp2_with (first
      | (go_at_call 24; refine (unhide D).mono ?_; rintro e w' ⟨rfl, rfl⟩)
      | (go_at_call 23; refine (unhide L).mono ?_; rintro e w' ⟨rfl, rfl⟩))
    go_ret
    exact ⟨rfl, rfl⟩
end
theorem built_none : Try.prog.built 45 [] = some #[.int .i64 0, .int .i64 0, .int .i64 0, .int .i64 0, .int .i64 0] := by kernel_rfl
set_option maxRecDepth 100000 in
set_option maxHeartbeats 400000 in
theorem none_any (i : Int) (hi : -9223372036854775808 ≤ i ∧ i ≤ 9223372036854775807) (w : World) : Calls Try.prog 4 #[.int .i64 i] w (ToldB true w) := by
  have HI := hide hi
  go_enter Try.func4, Try.ntmps4
  go_wp2
  go_loopw [3, 4] (fun p t wr => ∃ k : Nat, k ≤ 2 ∧ t = .int .i64 (k : Int) ∧ IsNone wr p ∧ Chg noBlk w wr) (fun p t wr => 2 - (intOf t).toNat)
  case atStart => exact ⟨0, by omega, rfl, .inl rfl, Chg.refl _ _⟩
  case round =>
    obtain ⟨k, hk, rfl, hn, kw⟩ := hrel
    have KW := hide kw
    have CG := hide (grant_no hn i hi)
    have CB := hide (back_no hn i hi)
    have CR := hide (renew_no hn)
    have CN := hide (next_no hn)
    have CP := hide (push_no hn)
    have CA := hide (ack_no hn i hi)
    have CL := hide (last_no hn)
    have CD := hide (done_no hn)
    have CS := hide (sent_no hn)
    have CM := hide (limit_no hn)
    have CO := hide (offer_no hn)
    have CF := hide (free_no hn)
    have CC := hide (copy_no hn)
    clear hn kw
    by_cases hlt : k < 2
    · have d1 : decide ((k : Int) < 2) = true := by simp; omega
      go_wp2_with (first
        | (go_at_call 11; refine (unhide CG).mono ?_; rintro e w' ⟨rfl, rfl⟩)
        | (go_at_call 15; refine (unhide CB).mono ?_; rintro e w' ⟨rfl, rfl⟩)
        | (go_at_call 17; refine (unhide CR).mono ?_; rintro e w' ⟨rfl, rfl⟩)
        | (go_at_call 13; refine (unhide CN).mono ?_; rintro e w' ⟨rfl, rfl⟩)
        | (go_at_call 20; refine (unhide CP).mono ?_; rintro e w' ⟨rfl, rfl⟩)
        | (go_at_call 9; refine (unhide CA).mono ?_; rintro e w' ⟨rfl, rfl⟩)
        | (go_at_call 23; refine (unhide CL).mono ?_; rintro e w' ⟨rfl, rfl⟩)
        | (go_at_call 24; refine (unhide CD).mono ?_; rintro e w' ⟨rfl, rfl⟩)
        | (go_at_call 25; refine (unhide CS).mono ?_; rintro e w' ⟨rfl, rfl⟩)
        | (go_at_call 26; refine (unhide CM).mono ?_; rintro e w' ⟨rfl, rfl⟩)
        | (go_at_call 27; refine (unhide CO).mono ?_; rintro e w' ⟨rfl, rfl⟩)
        | (go_at_call 28; refine (unhide CF).mono ?_; rintro e w' ⟨rfl, rfl⟩)
        | (go_at_call 19; refine (unhide CC).mono ?_; rintro e w' ⟨rfl, rfl⟩)
        | (refine wpL_build rfl 45 #[] rfl #[.int .i64 0, .int .i64 0, .int .i64 0, .int .i64 0, .int .i64 0] built_none ?_)
        | (refine wpL_box rfl 45 (.tmp 69) rfl _ rfl ?_; intro b2 w2 e2 k2 g2 z2))
      go_roundw
      case rel => exact ⟨k + 1, by omega, by go_num, .inr ⟨b2, rfl, g2⟩, (unhide KW).andNo k2⟩
      case measure => simp [intOf]; omega
    · have d1 : decide ((k : Int) < 2) = false := by simp; omega
      go_wp2_with (first
        | (go_at_call 6; refine (framed_any _).mono ?_; rintro e w4 ⟨rfl, k4⟩))
      go_ret
      exact ⟨rfl, (unhide KW).andNo k4⟩
end Go.Proofs.Ytfmkldhghgbciaa
