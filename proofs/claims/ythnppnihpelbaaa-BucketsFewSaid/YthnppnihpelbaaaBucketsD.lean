/-
  Buckets: the chapter's; one that is none has no tokens.
-/
import Derived.Test.YthnppnihpelbaaaBucketsC
namespace Go.Proofs.Ythnppnihpelbaaa
open Go.ChangeShapes Go.WideShapes Go.ChangeAt Go.RowKit
set_option linter.unusedVariables false
theorem f0a : (⟨2, 10, 2, 0, 0⟩ : Bkt).can 0 = true := by kernel_rfl
theorem f0b : (⟨2, 10, 2, 0, 0⟩ : Bkt).take 0 = (⟨2, 10, 1, 0, 0⟩ : Bkt) := by kernel_rfl
theorem f1a : (⟨2, 10, 1, 0, 0⟩ : Bkt).can 0 = true := by kernel_rfl
theorem f1b : (⟨2, 10, 1, 0, 0⟩ : Bkt).take 0 = (⟨2, 10, 0, 0, 0⟩ : Bkt) := by kernel_rfl
theorem f2a : (⟨2, 10, 0, 0, 0⟩ : Bkt).can 0 = false := by kernel_rfl
theorem f2b : (⟨2, 10, 0, 0, 0⟩ : Bkt).take 0 = (⟨2, 10, 0, 0, 0⟩ : Bkt) := by kernel_rfl
theorem f3a : ((⟨2, 10, 0, 0, 0⟩ : Bkt).bring 9).t = 0 := by kernel_rfl
theorem f3b : (⟨2, 10, 0, 0, 0⟩ : Bkt).bring 9 = (⟨2, 10, 0, 9, 0⟩ : Bkt) := by kernel_rfl
theorem f4a : ((⟨2, 10, 0, 9, 0⟩ : Bkt).bring 10).t = 1 := by kernel_rfl
theorem f4b : (⟨2, 10, 0, 9, 0⟩ : Bkt).bring 10 = (⟨2, 10, 1, 10, 10⟩ : Bkt) := by kernel_rfl
theorem f5a : (⟨2, 10, 1, 10, 10⟩ : Bkt).can 15 = true := by kernel_rfl
theorem f5b : (⟨2, 10, 1, 10, 10⟩ : Bkt).take 15 = (⟨2, 10, 0, 15, 10⟩ : Bkt) := by kernel_rfl
theorem f6a : ((⟨2, 10, 0, 15, 10⟩ : Bkt).bring 19).t = 0 := by kernel_rfl
theorem f6b : (⟨2, 10, 0, 15, 10⟩ : Bkt).bring 19 = (⟨2, 10, 0, 19, 10⟩ : Bkt) := by kernel_rfl
theorem f7a : ((⟨2, 10, 0, 19, 10⟩ : Bkt).bring 20).t = 1 := by kernel_rfl
theorem f7b : (⟨2, 10, 0, 19, 10⟩ : Bkt).bring 20 = (⟨2, 10, 1, 20, 20⟩ : Bkt) := by kernel_rfl
theorem f8a : ((⟨2, 10, 1, 20, 20⟩ : Bkt).bring 3).t = 1 := by kernel_rfl
theorem f8b : (⟨2, 10, 1, 20, 20⟩ : Bkt).bring 3 = (⟨2, 10, 1, 20, 20⟩ : Bkt) := by kernel_rfl
theorem f9a : ((⟨2, 10, 1, 20, 20⟩ : Bkt).bring 30).t = 2 := by kernel_rfl
theorem f9b : (⟨2, 10, 1, 20, 20⟩ : Bkt).bring 30 = (⟨2, 10, 2, 30, 30⟩ : Bkt) := by kernel_rfl
set_option maxRecDepth 100000 in
set_option maxHeartbeats 400000 in
theorem filled_any (w : World) : Calls Try.prog 6 #[] w (ToldB true w) := by
  have NW := hide (new_k (c := 2) (r := 10) rfl w)
  go_enter Try.func6, Try.ntmps6
  go_wp2_with (first
    | (go_at_call 7; refine (unhide NW).mono ?_; rintro e w1 ⟨b, rfl, hb, k1, h1⟩; have H0 := hide h1; have K0 := hide k1; clear NW h1 k1; have C0 := hide (take_k (unhide H0) 0 (by omega) (v := true) (y := ⟨2, 10, 1, 0, 0⟩) f0a f0b))
    | (go_at_call 12; refine (unhide C0).mono ?_; rintro e v0 ⟨rfl, k0, h0⟩; clear C0; have K1 := hide ((unhide K0).trans k0 fun i hi e => by have e : i = b := e; omega); have H1 := hide h0; clear k0 h0 H0 K0; have C1 := hide (take_k (unhide H1) 0 (by omega) (v := true) (y := ⟨2, 10, 0, 0, 0⟩) f1a f1b))
    | (go_at_call 12; refine (unhide C1).mono ?_; rintro e v1 ⟨rfl, k1, h1⟩; clear C1; have K2 := hide ((unhide K1).trans k1 fun i hi e => by have e : i = b := e; omega); have H2 := hide h1; clear k1 h1 H1 K1; have C2 := hide (take_k (unhide H2) 0 (by omega) (v := false) (y := ⟨2, 10, 0, 0, 0⟩) f2a f2b))
    | (go_at_call 12; refine (unhide C2).mono ?_; rintro e v2 ⟨rfl, k2, h2⟩; clear C2; have K3 := hide ((unhide K2).trans k2 fun i hi e => by have e : i = b := e; omega); have H3 := hide h2; clear k2 h2 H2 K2; have C3 := hide (left_k (unhide H3) 9 (by omega) (n := 0) (y := ⟨2, 10, 0, 9, 0⟩) f3a f3b))
    | (go_at_call 9; refine (unhide C3).mono ?_; rintro e v3 ⟨rfl, k3, h3⟩; clear C3; have K4 := hide ((unhide K3).trans k3 fun i hi e => by have e : i = b := e; omega); have H4 := hide h3; clear k3 h3 H3 K3; have C4 := hide (left_k (unhide H4) 10 (by omega) (n := 1) (y := ⟨2, 10, 1, 10, 10⟩) f4a f4b))
    | (go_at_call 9; refine (unhide C4).mono ?_; rintro e v4 ⟨rfl, k4, h4⟩; clear C4; have K5 := hide ((unhide K4).trans k4 fun i hi e => by have e : i = b := e; omega); have H5 := hide h4; clear k4 h4 H4 K4; have C5 := hide (take_k (unhide H5) 15 (by omega) (v := true) (y := ⟨2, 10, 0, 15, 10⟩) f5a f5b))
    | (go_at_call 12; refine (unhide C5).mono ?_; rintro e v5 ⟨rfl, k5, h5⟩; clear C5; have K6 := hide ((unhide K5).trans k5 fun i hi e => by have e : i = b := e; omega); have H6 := hide h5; clear k5 h5 H5 K5; have C6 := hide (left_k (unhide H6) 19 (by omega) (n := 0) (y := ⟨2, 10, 0, 19, 10⟩) f6a f6b))
    | (go_at_call 9; refine (unhide C6).mono ?_; rintro e v6 ⟨rfl, k6, h6⟩; clear C6; have K7 := hide ((unhide K6).trans k6 fun i hi e => by have e : i = b := e; omega); have H7 := hide h6; clear k6 h6 H6 K6; have C7 := hide (left_k (unhide H7) 20 (by omega) (n := 1) (y := ⟨2, 10, 1, 20, 20⟩) f7a f7b))
    | (go_at_call 9; refine (unhide C7).mono ?_; rintro e v7 ⟨rfl, k7, h7⟩; clear C7; have K8 := hide ((unhide K7).trans k7 fun i hi e => by have e : i = b := e; omega); have H8 := hide h7; clear k7 h7 H7 K7; have C8 := hide (left_k (unhide H8) 3 (by omega) (n := 1) (y := ⟨2, 10, 1, 20, 20⟩) f8a f8b))
    | (go_at_call 9; refine (unhide C8).mono ?_; rintro e v8 ⟨rfl, k8, h8⟩; clear C8; have K9 := hide ((unhide K8).trans k8 fun i hi e => by have e : i = b := e; omega); have H9 := hide h8; clear k8 h8 H8 K8; have C9 := hide (left_k (unhide H9) 30 (by omega) (n := 2) (y := ⟨2, 10, 2, 30, 30⟩) f9a f9b))
    | (go_at_call 9; refine (unhide C9).mono ?_; rintro e v9 ⟨rfl, k9, h9⟩; clear C9; have K10 := hide ((unhide K9).trans k9 fun i hi e => by have e : i = b := e; omega); have H10 := hide h9; clear k9 h9 H9 K9))
  go_ret
  exact ⟨rfl, unhide K10⟩
theorem built_none : Try.prog.built 38 [] = some #[.int .i64 0, .int .i64 0, .int .i64 0, .int .i64 0, .int .i64 0] := by kernel_rfl
set_option maxRecDepth 100000 in
set_option maxHeartbeats 400000 in
theorem none_any (i : Int) (hi : -9223372036854775808 ≤ i ∧ i ≤ 9223372036854775807) (w : World) : Calls Try.prog 4 #[.int .i64 i] w (ToldB true w) := by
  have HI := hide hi
  go_enter Try.func4, Try.ntmps4
  go_wp2
  go_loopw [3, 4] (fun p t wr => ∃ k : Nat, k ≤ 2 ∧ t = .int .i64 (k : Int) ∧ IsNone wr p ∧ Chg noBlk w wr) (fun p t wr => 2 - (intOf t).toNat)
  case atStart => exact ⟨0, by omega, rfl, .inl rfl, Chg.refl _ _⟩
  case round =>
    obtain ⟨k, hk, rfl, hn, kw⟩ := hrel
    have KW := hide kw
    have CT := hide (take_no hn i hi)
    have CL := hide (left_no hn i hi)
    have CC := hide (copy_no hn)
    clear hn kw
    by_cases hlt : k < 2
    · have d1 : decide ((k : Int) < 2) = true := by simp; omega
      go_wp2_with (first
        | (go_at_call 12; refine (unhide CT).mono ?_; rintro e w' ⟨rfl, rfl⟩)
        | (go_at_call 9; refine (unhide CL).mono ?_; rintro e w' ⟨rfl, rfl⟩)
        | (go_at_call 11; refine (unhide CC).mono ?_; rintro e w' ⟨rfl, rfl⟩)
        | (refine wpL_build rfl 38 #[] rfl #[.int .i64 0, .int .i64 0, .int .i64 0, .int .i64 0, .int .i64 0] built_none ?_)
        | (refine wpL_box rfl 38 (.tmp 23) rfl _ rfl ?_; intro b2 w2 e2 k2 g2 z2))
      go_roundw
      case rel => exact ⟨k + 1, by omega, by go_num, .inr ⟨b2, rfl, g2⟩, (unhide KW).andNo k2⟩
      case measure => simp [intOf]; omega
    · have d1 : decide ((k : Int) < 2) = false := by simp; omega
      go_wp2_with (first
        | (go_at_call 6; refine (filled_any _).mono ?_; rintro e w4 ⟨rfl, k4⟩))
      go_ret
      exact ⟨rfl, (unhide KW).andNo k4⟩
end Go.Proofs.Ythnppnihpelbaaa
