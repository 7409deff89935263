/-
  Keys with values: a store has just the document's cells.
-/
import Derived.Test.YtbccebdhdppegaaKvT
namespace Go.Proofs.Ytbccebdhdppegaa
open Go.ChangeShapes Go.WideShapes Go.ChangeAt Go.RowKit
set_option linter.unusedVariables false
attribute [local go_sem] bs_size bs_app bs_cut bs_tl bs_at
attribute [local go_sem ↓] eq_res
theorem rlook_is {w : World} {ad : Option Addr} {cap : Nat} {L : List KV} {k : List UInt8} {a : Int} {c n t : Int} {v : List UInt8} (h : SlC w ad cap L) (hl : L.length ≤ 500) (e : look L k a = ⟨c, v, n, t⟩) :
    Calls Try.prog 11 #[.slice ad L.length cap, str k, .int .i64 a] w (fun e w' => e = .returned (.agg #[.int .i64 c, str v, .int .i64 n, .int .i64 t]) ∧ Chg noBlk w w') := by
  have := rlook_at h (by omega) k a
  rw [e] at this
  exact this
set_option maxRecDepth 100000 in
set_option maxHeartbeats 8000000 in
theorem alike_at {w : World} {b m : Nat} {ad : Option Addr} {cap : Nat} {L : List KV} (h : StAt w b m L) (s : SlC w ad cap L) (hy : Keyd L) (hl : L.length ≤ 500) :
    Calls Try.prog 14 #[.pointer (some ⟨b, 0, none⟩), .slice ad L.length cap] w (ToldN (.bool true) w) := by
  have HK := hide (keys_any h (by omega))
  have HZ := hide (fun w' (k : Chg noBlk w w') => size_at (h.no k))
  have HS := hide h
  have HC := hide s
  have HY := hide hy
  have d0 : ((L.length : Int) != (L.length : Int)) = false := by simp
  clear h s hy
  go_enter Try.func14, Try.ntmps14
  go_wp2_with (first
    | (go_at_call 17; (with_reducible refine (unhide HK).mono ?_); rintro e w2 ⟨ad2, cap2, rfl, k2, ky⟩; have KY := hide ky; clear ky)
    | (go_at_call 16; (with_reducible refine (unhide HZ _ k2).mono ?_); rintro e w3 ⟨rfl, rfl⟩))
  have K2 := hide k2
  have S2 := hide ((unhide HS).no k2)
  have C2 := hide ((unhide HC).no k2)
  clear k2 HK HZ HS HC d0
  go_loopw [6] (fun i wr => ∃ n : Nat, n ≤ L.length ∧ i = .int .i64 (n : Int) ∧ Chg noBlk w2 wr) (fun i wr => L.length - (intOf i).toNat)
  case atStart => exact ⟨0, by omega, rfl, Chg.refl _ _⟩
  case round =>
    obtain ⟨n, hn, rfl, kw⟩ := hrel
    have KW := hide kw
    clear kw
    by_cases hlt : n < L.length
    · have d1 : decide (n < L.length) = true := by simpa using hlt
      obtain ⟨c, hc⟩ : ∃ c, L[n]? = some c := ⟨_, List.getElem?_eq_getElem hlt⟩
      obtain ⟨g2, rfl, ck⟩ := ((unhide KY).no (unhide KW)) n c hc
      obtain ⟨_, g, off, rfl, hr⟩ := (unhide C2).cells n c hc
      have hr1 := range_kept hr (unhide KW)
      have c0 : wr.cell? ⟨g, off + n * 3, none⟩ = some (str c.key) := hr1 0 _ rfl
      have i1 : (0 : Int) ≤ (n : Int) := by omega
      have i2 : (n : Int) < (L.length : Int) := by omega
      have dq : (c.key == c.key) = true := by simp
      have hkl : c.key.length ≤ maxLen := by have := unhide HY c (List.mem_of_getElem? hc); unfold maxLen; omega
      obtain ⟨rc, hrc⟩ : ∃ r, look L c.key 7 = r := ⟨_, rfl⟩
      obtain ⟨x1, x2, x3, x4⟩ := rc
      have HB1 := hide (fun w' (k : Chg noBlk wr w' ∧ w'.cell? ⟨g2, n, none⟩ = some (str c.key) ∧ w'.cell? ⟨g, off + n * 3, none⟩ = some (str c.key)) => look_is ((unhide S2).no ((unhide KW).andNo k.1)) hkl hrc)
      have HB2 := hide (fun w' (k : Chg noBlk wr w' ∧ w'.cell? ⟨g2, n, none⟩ = some (str c.key) ∧ w'.cell? ⟨g, off + n * 3, none⟩ = some (str c.key)) => rlook_is ((unhide C2).no ((unhide KW).andNo k.1)) hl hrc)
      have KE := hide (fun w' k => two_cells (w' := w') ck c0 k)
      have B0 := Chg.refl noBlk wr
      clear hc hr hr1 ck c0 hrc hkl
      go_wp2
      go_region_held3 (fun w' => Chg noBlk wr w' ∧ w'.cell? ⟨g2, n, none⟩ = some (str c.key) ∧ w'.cell? ⟨g, off + n * 3, none⟩ = some (str c.key))
        ((refine unhide KE _ ?_; go_split_ands; first | assumption | exact Chg.drew (by assumption) | exact Chg.drewN (by assumption) _ | exact Chg.andNo (by assumption) (by assumption)))
        (first
          | (go_at_call 10; (with_reducible refine (unhide HB1 _ (by assumption)).mono ?_); rintro e w30 ⟨rfl, k30⟩)
          | (go_at_call 11; (with_reducible refine (unhide HB2 _ (by assumption)).mono ?_); rintro e w30 ⟨rfl, k30⟩))
      all_goals
        rename_i hJ
        obtain ⟨kj, _, _⟩ := hJ
        have KJ := hide kj
        clear kj KE B0 HB1 HB2 k30
        go_wp2
        go_roundw
        case rel => exact ⟨n + 1, by omega, by go_num, (unhide KW).andNo (unhide KJ)⟩
        case measure => simp [intOf]; omega
    · obtain rfl : n = L.length := by omega
      go_wp2
      go_ret
      exact ⟨rfl, (unhide K2).andNo (unhide KW)⟩
end Go.Proofs.Ytbccebdhdppegaa
