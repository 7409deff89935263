/-
  Keys with values: a store that is none has no keys.
-/
import Derived.Test.YtbccebdhdppegaaKvK
namespace Go.Proofs.Ytbccebdhdppegaa
open Go.ChangeShapes Go.WideShapes Go.ChangeAt Go.RowKit
set_option linter.unusedVariables false
attribute [local go_sem] bs_size bs_app bs_cut bs_tl bs_at
attribute [local go_sem ↓] eq_res
theorem zero_actv : Try.prog.built 47 ([] : List (Nat × Value)) = some #[.map none] := by kernel_rfl
/-- an act at b -/
def ActAt (w : World) (b : Nat) (a : AT) : Prop := w.heap[b]? = some (.cells a.cells.toArray 31 (0, 0))
section
variable {w w' : World} {b : Nat} {a : AT}
theorem ActAt.no (h : ActAt w b a) (k : Chg noBlk w w') : ActAt w' b a := k.at h id
theorem ActAt.lt (h : ActAt w b a) : b < w.heap.size := lt_of_block h
theorem ActAt.c0 (h : ActAt w b a) : w.cell? ⟨b, 0, none⟩ = some (.int .u8 a.k) := cellAt h 0 _ rfl
theorem ActAt.c1 (h : ActAt w b a) : w.cell? ⟨b, 1, none⟩ = some (.int .i64 a.i) := cellAt h 1 _ rfl
theorem ActAt.c2 (h : ActAt w b a) : w.cell? ⟨b, 2, none⟩ = some (.int .i64 a.op.k) := cellAt h 2 _ rfl
theorem ActAt.c3 (h : ActAt w b a) : w.cell? ⟨b, 3, none⟩ = some (str a.op.key) := cellAt h 3 _ rfl
theorem ActAt.c4 (h : ActAt w b a) : w.cell? ⟨b, 4, none⟩ = some (str a.op.val) := cellAt h 4 _ rfl
theorem ActAt.c5 (h : ActAt w b a) : w.cell? ⟨b, 5, none⟩ = some (.int .i64 a.op.ver) := cellAt h 5 _ rfl
theorem ActAt.range (h : ActAt w b a) : w.rangeAt b 0 a.cells := fun j v hv => by
  rw [Nat.zero_add]
  exact cellAt h j v (by simpa using hv)
theorem ActAt.op (h : ActAt w b a) : w.rangeAt b 2 a.op.cells := by
  have := act_op h.range
  rwa [Nat.zero_add] at this
theorem ActAt.all (h : ActAt w b a) (ok : a.Ok) : ActsIn w (some ⟨b, 0, none⟩) [a] := fun i c hc => by
  rcases i with _ | i
  · obtain rfl : a = c := by simpa using hc
    exact ⟨ok, b, 0, rfl, by simpa using h.range⟩
  · simp at hc
end
theorem apply_none0 {w : World} {p : Value} (h : NoneAt w p) (i : Int) (o : PT) : Calls Try.prog 12 #[p, .int .i64 i, .agg o.cells.toArray] w (ToldN (.agg #[.int .i64 0, .string ⟨#[]⟩, .int .i64 0, .int .i64 0]) w) := apply_none h i o
theorem look_none0 {w : World} {p : Value} (h : NoneAt w p) (k : List UInt8) (i : Int) : Calls Try.prog 10 #[p, str k, .int .i64 i] w (ToldN (.agg #[.int .i64 0, .string ⟨#[]⟩, .int .i64 0, .int .i64 0]) w) := look_none_at h k i
/-- where the two turns stand -/
def TurnAt (w0 : World) (b : Nat) (a : AT) (s i : Value) (w : World) : Prop := ∃ k : Nat, k ≤ 2 ∧ i = .int .i64 (k : Int) ∧ NoneAt w s ∧ ActAt w b a ∧ Chg noBlk w0 w
set_option maxRecDepth 100000 in
set_option maxHeartbeats 4000000 in
theorem kvnone_any (a : AT) (ok : a.Ok) (w : World) : Calls Try.prog 4 #[.agg a.cells.toArray] w (ToldN (.bool true) w) := by
  have HO := hide ok
  have HG := hide (fun w b (h : ActAt w b a) => (show Calls Try.prog 6 #[.slice (some ⟨b, 0, none⟩) 1 1, .int .i64 1] w (ToldN (.bool (greatL [a] 1)) w) from great_any (some ⟨b, 0, none⟩) [a] 1 1 w (by omega) (h.all ok) (by simp)))
  obtain ⟨g, hg⟩ : ∃ g, greatL [a] 1 = g := ⟨_, rfl⟩
  rw [hg] at HG
  clear hg ok
  cases g
  · go_enter Try.func4, Try.ntmps4
    go_wp2_with (first
      | (go_at_call 6; (with_reducible refine (unhide HG _ _ G2).mono ?_); rintro e w3 ⟨rfl, k3⟩)
      | ((with_reducible show wpList _ _ _ (_ :: _) _ _); first
        | (refine wpL_box rfl 31 (.tmp 0) rfl a.cells.toArray rfl ?_; intro b w1 e1 k1 g1 z1; have G1 : ActAt w1 b a := g1; clear g1 z1 e1)
        | (refine wpL_load rfl 31 (.tmp 1) rfl b rfl a.cells.toArray _ _ G1 _ Try.underlying31 rfl (by rw [size_act]; rfl) ?_)
        | (refine wpL_one rfl 22 (.tmp 5) rfl 31 #[.int .u8 0, .int .i64 0, .int .i64 0, .string ⟨#[]⟩, .string ⟨#[]⟩, .int .i64 0] Try.underlying22 (by kernel_rfl) (by decide) (by decide) a.cells.toArray rfl rfl ?_; intro b2 w2 e2 k2 g2 z2; have G2 : ActAt w2 b2 a := g2; clear e2 g2 z2)))
    have K3 := hide ((k1.andNo k2).andNo k3)
    have HB0 := hide (show TurnAt w b a (.pointer none) (.int .i64 0) w3 from ⟨0, by omega, rfl, .inl rfl, (G1.no k2).no k3, unhide K3⟩)
    clear k1 k2 k3 G1 G2 HG K3
    go_loopw [3, 4] (fun s i wr => TurnAt w b a s i wr) (fun s i wr => 2 - (intOf i).toNat)
    case atStart => exact unhide HB0
    case round =>
      clear HB0
      obtain ⟨k, hk, rfl, hs, hA, kw⟩ := hrel
      have KW := hide kw
      have HS := hide (fun w' (c : Chg noBlk wr w') => hs.no c)
      have HA := hide hA
      clear kw hs hA
      by_cases hlt : k < 2
      · have i1 : (0 : Int) ≤ (k : Int) := by omega
        have i2 : (k : Int) < 2 := by omega
        have c0 := (unhide HA).c1
        go_wp2_with (first
          | (go_at_call 12; (with_reducible refine (apply_none0 (unhide HS _ (Chg.refl _ _)) a.i a.op).mono ?_); rintro e w5 ⟨rfl, k5⟩; have A5 := (unhide HA).no k5; have c1 := A5.c1; have c3 := A5.c3; clear c0)
          | (go_at_call 10; (with_reducible refine (look_none0 (unhide HS _ k5) a.op.key a.i).mono ?_); rintro e w6 ⟨rfl, k6⟩; have K6 := k5.andNo k6; clear c1 c3)
          | (go_at_call 16; (with_reducible refine (size_none (unhide HS _ K6)).mono ?_); rintro e w7 ⟨rfl, rfl⟩)
          | (go_at_call 17; (with_reducible refine (keys_none (unhide HS _ K6)).mono ?_); rintro e w7 ⟨rfl, rfl⟩)
          | (go_at_call 9; (with_reducible refine (copy_none (unhide HS _ K6)).mono ?_); rintro e w7 ⟨rfl, rfl⟩)
          | (go_at_call 15; (with_reducible refine (same_none (unhide HS _ K6)).mono ?_); rintro e w7 ⟨rfl, rfl⟩)
          | (go_at_call 8; (with_reducible refine (new_any _).mono ?_); rintro e w7 ⟨b3, m3, rfl, _, _, k7, s7⟩; have K7 := K6.andNo k7)
          | (go_at_call 15; (with_reducible refine (same_not (unhide HS _ K7) s7).mono ?_); rintro e w8 ⟨rfl, rfl⟩)
          | ((with_reducible show wpList _ _ _ (_ :: _) _ _); first
            | (refine wpList_load_mid rfl 29 (.tmp 16) rfl b 2 rfl a.op.cells _ (unhide HA).op Try.underlying29 rfl (by rw [info_op5]; rfl) ?_)
            | (refine wpL_box rfl 47 (.tmp 58) rfl #[.map none] rfl ?_; intro b4 w9 e9 k9 g9 z9)))
        go_roundw
        case rel => exact ⟨k + 1, by omega, by go_num, .inr ⟨b4, rfl, g9⟩, (unhide HA).no (K7.andNo k9), (unhide KW).andNo (K7.andNo k9)⟩
        case measure => simp [intOf]; omega
      · obtain rfl : k = 2 := by omega
        go_wp2_with (go_at_call 7; (with_reducible refine (stored_any _).mono ?_); rintro e w4 ⟨rfl, k4⟩)
        go_ret
        exact ⟨rfl, (unhide KW).andNo k4⟩
  · go_enter Try.func4, Try.ntmps4
    go_wp2_with (first
      | (go_at_call 6; (with_reducible refine (unhide HG _ _ G2).mono ?_); rintro e w3 ⟨rfl, k3⟩)
      | (go_at_call 7; (with_reducible refine (stored_any _).mono ?_); rintro e w4 ⟨rfl, k4⟩)
      | ((with_reducible show wpList _ _ _ (_ :: _) _ _); first
        | (refine wpL_box rfl 31 (.tmp 0) rfl a.cells.toArray rfl ?_; intro b w1 e1 k1 g1 z1; have G1 : ActAt w1 b a := g1; clear g1 z1 e1)
        | (refine wpL_load rfl 31 (.tmp 1) rfl b rfl a.cells.toArray _ _ G1 _ Try.underlying31 rfl (by rw [size_act]; rfl) ?_)
        | (refine wpL_one rfl 22 (.tmp 5) rfl 31 #[.int .u8 0, .int .i64 0, .int .i64 0, .string ⟨#[]⟩, .string ⟨#[]⟩, .int .i64 0] Try.underlying22 (by kernel_rfl) (by decide) (by decide) a.cells.toArray rfl rfl ?_; intro b2 w2 e2 k2 g2 z2; have G2 : ActAt w2 b2 a := g2; clear e2 g2 z2)))
    go_ret
    exact ⟨rfl, ((k1.andNo k2).andNo k3).andNo k4⟩
end Go.Proofs.Ytbccebdhdppegaa
