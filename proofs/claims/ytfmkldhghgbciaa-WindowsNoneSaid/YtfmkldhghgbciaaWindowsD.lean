/-
  Windows: one with what may be of it; the chapter's window.
-/
import Derived.Test.YtfmkldhghgbciaaWindowsC
import Derived.Deep.DeepCutAuto
namespace Go.Proofs.Ytfmkldhghgbciaa
open Go.ChangeShapes Go.WideShapes Go.ChangeAt Go.RowKit
set_option linter.unusedVariables false
/-- at b stands the window x, that may be -/
def WK (T : TypeId) (w : World) (b : Nat) (x : Win) : Prop := WAt T w b x ∧ x.Ok
/-- told: v; behind it the window at b is x -/
def DidK (T : TypeId) (b : Nat) (v : Value) (x : Win) (w : World) (e : Ending) (w' : World) : Prop := e = .returned v ∧ Chg (oneBlk b) w w' ∧ WK T w' b x
/-- told: true; nothing that was there has turned -/
def ToldB (v : Bool) (w : World) (e : Ending) (w' : World) : Prop := e = .returned (.bool v) ∧ Chg noBlk w w'
section
variable {w w' : World} {b : Nat} {x y : Win} {T : TypeId} {S : Nat → Prop} {v : Bool} {i n : Int}
theorem WK.kept (h : WK T w b x) (k : Chg S w w') (hn : ¬ S b) : WK T w' b x := ⟨h.1.kept k hn, h.2⟩
theorem WK.no (h : WK T w b x) (k : Chg noBlk w w') : WK T w' b x := h.kept k id
theorem WK.drewN (h : WK T w b x) (n : Nat) : WK T (w.drewN n) b x := h
theorem WK.lt (h : WK T w b x) : b < w.heap.size := lt_of_block h.1
theorem push_k (h : WK 45 w b x) (hv : x.canPush = v) (hy : x.push = y) : Calls Try.prog 20 #[.pointer (some ⟨b, 0, none⟩)] w (DidK 45 b (.bool v) y w) := by
  subst hv hy
  exact (push_at h.1 h.2).mono fun e w' h' => ⟨h'.1, h'.2.1, h'.2.2, h.2.push⟩
theorem ack_k (h : WK 45 w b x) (i : Int) (hi : -9223372036854775808 ≤ i ∧ i ≤ 9223372036854775807) (hv : x.canAck i = v) (hy : x.ack i = y) : Calls Try.prog 9 #[.pointer (some ⟨b, 0, none⟩), .int .i64 i] w (DidK 45 b (.bool v) y w) := by
  subst hv hy
  exact (ack_at h.1 h.2 i hi).mono fun e w' h' => ⟨h'.1, h'.2.1, h'.2.2, h.2.ack i⟩
theorem grant_k (h : WK 45 w b x) (i : Int) (hi : -9223372036854775808 ≤ i ∧ i ≤ 9223372036854775807) (hy : x.grant i = y) : Calls Try.prog 11 #[.pointer (some ⟨b, 0, none⟩), .int .i64 i] w (DidK 45 b (.tuple #[]) y w) := by
  subst hy
  exact (grant_at h.1 h.2 i hi).mono fun e w' h' => ⟨h'.1, h'.2.1, h'.2.2, h.2.grant i⟩
theorem next_k (h : WK 45 w b x) (hn : x.nextN = n) (hv : x.canNext = v) (hy : x.next = y) : Calls Try.prog 13 #[.pointer (some ⟨b, 0, none⟩)] w (DidK 45 b (.tuple #[.int .i64 n, .bool v]) y w) := by
  subst hv hy hn
  exact (next_at h.1 h.2).mono fun e w' h' => ⟨h'.1, h'.2.1, h'.2.2, h.2.next⟩
theorem back_k (h : WK 45 w b x) (i : Int) (hi : -9223372036854775808 ≤ i ∧ i ≤ 9223372036854775807) (hy : x.back i = y) : Calls Try.prog 15 #[.pointer (some ⟨b, 0, none⟩), .int .i64 i] w (DidK 45 b (.tuple #[]) y w) := by
  subst hy
  exact (back_at h.1 h.2 i hi).mono fun e w' h' => ⟨h'.1, h'.2.1, h'.2.2, h.2.back i⟩
theorem renew_k (h : WK 45 w b x) (hy : x.renew = y) : Calls Try.prog 17 #[.pointer (some ⟨b, 0, none⟩)] w (DidK 45 b (.tuple #[]) y w) := by
  subst hy
  exact (renew_at h.1 h.2).mono fun e w' h' => ⟨h'.1, h'.2.1, h'.2.2, h.2.renew⟩
theorem free_k (h : WK 45 w b x) (hn : x.free = n) : Calls Try.prog 28 #[.pointer (some ⟨b, 0, none⟩)] w (NumQ n w) := by
  subst hn
  obtain ⟨h1, h2, h3, h4, h5, h6, h7, h8, h9⟩ := h.2
  exact free_at (c := x.c) (l := x.l) (d := x.d) (s := x.s) (m := x.m) h.1 h1 h2 h3 (by omega) (by omega) h5
theorem offer_k (h : WK 45 w b x) (hn : x.d + x.c = n) : Calls Try.prog 27 #[.pointer (some ⟨b, 0, none⟩)] w (NumQ n w) := by
  subst hn
  obtain ⟨h1, h2, h3, h4, h5, h6, h7, h8, h9⟩ := h.2
  exact offer_at (c := x.c) (l := x.l) (d := x.d) (s := x.s) (m := x.m) h.1 h1 h2 h3 (by omega)
theorem last_k (h : WK 45 w b x) (hn : x.l = n) : Calls Try.prog 23 #[.pointer (some ⟨b, 0, none⟩)] w (fun e w' => e = .returned (.int .i64 n) ∧ w = w') := by
  subst hn; exact last_at (c := x.c) (l := x.l) (d := x.d) (s := x.s) (m := x.m) h.1 h.2.c1
theorem done_k (h : WK 45 w b x) (hn : x.d = n) : Calls Try.prog 24 #[.pointer (some ⟨b, 0, none⟩)] w (fun e w' => e = .returned (.int .i64 n) ∧ w = w') := by
  subst hn; exact done_at (c := x.c) (l := x.l) (d := x.d) (s := x.s) (m := x.m) h.1 h.2.c1
theorem sent_k (h : WK 45 w b x) (hn : x.s = n) : Calls Try.prog 25 #[.pointer (some ⟨b, 0, none⟩)] w (fun e w' => e = .returned (.int .i64 n) ∧ w = w') := by
  subst hn; exact sent_at (c := x.c) (l := x.l) (d := x.d) (s := x.s) (m := x.m) h.1 h.2.c1
theorem limit_k (h : WK 45 w b x) (hn : x.m = n) : Calls Try.prog 26 #[.pointer (some ⟨b, 0, none⟩)] w (fun e w' => e = .returned (.int .i64 n) ∧ w = w') := by
  subst hn; exact limit_at (c := x.c) (l := x.l) (d := x.d) (s := x.s) (m := x.m) h.1 h.2.c1
end
/-- told: a new window that may be -/
def MadeK (T : TypeId) (v : Value → Value) (x : Win) (w : World) (e : Ending) (w' : World) : Prop := ∃ b, e = .returned (v (.pointer (some ⟨b, 0, none⟩))) ∧ w.heap.size ≤ b ∧ Chg noBlk w w' ∧ WK T w' b x
theorem new_k {c l d : Int} (h : mayB c l d = true) (w : World) : Calls Try.prog 7 #[.int .i64 c, .int .i64 l, .int .i64 d] w (MadeK 45 (fun p => .tuple #[p, .int .i64 0]) ⟨c, l, d, l, 0⟩ w) :=
  (new_yes h w).mono fun e w' ⟨b, h1, h2, h3, h4⟩ => ⟨b, h1, h2, h3, h4, may_ok h⟩
theorem copy_k {w : World} {b : Nat} {x : Win} (h : WK 45 w b x) : Calls Try.prog 19 #[.pointer (some ⟨b, 0, none⟩)] w (MadeK 45 id x w) :=
  (copy_at h.1 h.2).mono fun e w' ⟨b, h1, h2, h3, h4⟩ => ⟨b, h1, h2, h3, h4, h.2⟩
set_option maxRecDepth 100000 in
set_option maxHeartbeats 400000 in
theorem framed_any (w : World) : Calls Try.prog 6 #[] w (ToldB true w) := by
  have NW := hide (new_k (c := 2) (l := 3) (d := 2) rfl w)
  go_enter Try.func6, Try.ntmps6
  go_wp2_with (first
    | (go_at_call 7; refine (unhide NW).mono ?_; rintro e w1 ⟨b, rfl, hb, k1, h1⟩; have H1 := hide h1; have K1 := hide k1; clear NW h1 k1; have C1 := hide (free_k (unhide H1) (n := 1) (by decide)))
    | (go_at_call 28; refine (unhide C1).mono ?_; rintro e w2 ⟨rfl, q1, rfl⟩; clear C1; have C2 := hide (offer_k ((unhide H1).drewN q1) (n := 4) rfl))
    | (go_at_call 27; refine (unhide C2).mono ?_; rintro e w2 ⟨rfl, q2, rfl⟩; clear C2; have C3 := hide (push_k ((unhide H1).drewN (q1 + q2)) (v := true) (y := ⟨2, 4, 2, 3, 0⟩) rfl rfl))
    | (go_at_call 20; refine (unhide C3).mono ?_; rintro e w3 ⟨rfl, k3, h3⟩; clear C3; have K3 := hide (((unhide K1).drewN (q1 + q2)).trans k3 fun i hi e => by have e : i = b := e; omega); have H3 := hide h3; clear k3 h3 H1 K1; have C4 := hide (push_k (unhide H3) (v := false) (y := ⟨2, 4, 2, 3, 0⟩) rfl rfl))
    | (go_at_call 20; refine (unhide C4).mono ?_; rintro e w4 ⟨rfl, k4, h4⟩; clear C4; have K4 := hide ((unhide K3).trans k4 fun i hi e => by have e : i = b := e; omega); have H4 := hide h4; clear k4 h4 H3 K3; have C5 := hide (ack_k (unhide H4) 5 (by omega) (v := false) (y := ⟨2, 4, 2, 3, 0⟩) rfl rfl))
    | (go_at_call 9; refine (unhide C5).mono ?_; rintro e w5 ⟨rfl, k5, h5⟩; clear C5; have K5 := hide ((unhide K4).trans k5 fun i hi e => by have e : i = b := e; omega); have H5 := hide h5; clear k5 h5 H4 K4; have C6 := hide (ack_k (unhide H5) 2 (by omega) (v := false) (y := ⟨2, 4, 2, 3, 0⟩) rfl rfl))
    | (go_at_call 9; refine (unhide C6).mono ?_; rintro e w6 ⟨rfl, k6, h6⟩; clear C6; have K6 := hide ((unhide K5).trans k6 fun i hi e => by have e : i = b := e; omega); have H6 := hide h6; clear k6 h6 H5 K5; have C7 := hide (ack_k (unhide H6) 4 (by omega) (v := true) (y := ⟨2, 4, 4, 3, 0⟩) rfl rfl))
    | (go_at_call 9; refine (unhide C7).mono ?_; rintro e w7 ⟨rfl, k7, h7⟩; clear C7; have K7 := hide ((unhide K6).trans k7 fun i hi e => by have e : i = b := e; omega); have H7 := hide h7; clear k7 h7 H6 K6; have C8 := hide (next_k (unhide H7) (n := 0) (v := false) (y := ⟨2, 4, 4, 3, 0⟩) rfl rfl rfl))
    | (go_at_call 13; refine (unhide C8).mono ?_; rintro e w8 ⟨rfl, k8, h8⟩; clear C8; have K8 := hide ((unhide K7).trans k8 fun i hi e => by have e : i = b := e; omega); have H8 := hide h8; clear k8 h8 H7 K7; have C9 := hide (grant_k (unhide H8) 4 (by omega) (y := ⟨2, 4, 4, 3, 4⟩) rfl))
    | (go_at_call 11; refine (unhide C9).mono ?_; rintro e w9 ⟨rfl, k9, h9⟩; clear C9; have K9 := hide ((unhide K8).trans k9 fun i hi e => by have e : i = b := e; omega); have H9 := hide h9; clear k9 h9 H8 K8; have D1 := hide (next_k (unhide H9) (n := 4) (v := true) (y := ⟨2, 4, 4, 4, 4⟩) rfl rfl rfl))
    | (go_at_call 13; refine (unhide D1).mono ?_; rintro e wa ⟨rfl, ka, ha⟩; clear D1; have KA := hide ((unhide K9).trans ka fun i hi e => by have e : i = b := e; omega); have HA := hide ha; clear ka ha H9 K9; have D2 := hide (next_k (unhide HA) (n := 0) (v := false) (y := ⟨2, 4, 4, 4, 4⟩) rfl rfl rfl))
    | (go_at_call 13; refine (unhide D2).mono ?_; rintro e wb ⟨rfl, kb, hb⟩; clear D2; have KB := hide ((unhide KA).trans kb fun i hi e => by have e : i = b := e; omega); have HB := hide hb; clear kb hb HA KA; have D3 := hide (back_k (unhide HB) 2 (by omega) (y := ⟨2, 4, 4, 2, 4⟩) rfl))
    | (go_at_call 15; refine (unhide D3).mono ?_; rintro e wc ⟨rfl, kc, hc⟩; clear D3; have KC := hide ((unhide KB).trans kc fun i hi e => by have e : i = b := e; omega); have HC := hide hc; clear kc hc HB KB; have D4 := hide (next_k (unhide HC) (n := 3) (v := true) (y := ⟨2, 4, 4, 3, 4⟩) rfl rfl rfl))
    | (go_at_call 13; refine (unhide D4).mono ?_; rintro e wd ⟨rfl, kd, hd⟩; clear D4; have KD := hide ((unhide KC).trans kd fun i hi e => by have e : i = b := e; omega); have HD := hide hd; clear kd hd HC KC; have D5 := hide (last_k (unhide HD) (n := 4) rfl); have D6 := hide (done_k (unhide HD) (n := 4) rfl))
    | (go_at_call 23; refine (unhide D5).mono ?_; rintro e we ⟨rfl, rfl⟩)
    | (go_at_call 24; refine (unhide D6).mono ?_; rintro e we ⟨rfl, rfl⟩))
  go_ret
  exact ⟨rfl, unhide KD⟩
end Go.Proofs.Ytfmkldhghgbciaa
