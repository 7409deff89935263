/-
  Frames: a contract of the document's Put.
-/
import Derived.Test.YtfplgmkbhpdmjaaFramesR
namespace Go.Proofs.Ytfplgmkbhpdmjaa.Fm
open Go.ChangeShapes Go.WideShapes Go.ChangeAt Go.RowKit
set_option linter.unusedVariables false
attribute [local go_sem] bs_size bs_app bs_cut bs_tl bs_at
theorem rb_kind {f : FT} (h : rB f = true) : kindB (f.n 0) = true := by
  rcases rb_ways f with ⟨k, _⟩ | ⟨k, _⟩ | ⟨k, _⟩ | ⟨k, _⟩ | ⟨_, e, _⟩
  · rw [k]; decide
  · rw [k]; decide
  · rw [k]; decide
  · rw [k]; decide
  · rw [← e, h]
theorem ok_r (f : FT) : okF f = (rB f && numsB f.n (hix (f.n 0))) := by
  rw [hix_eq]
  unfold okF aheadB behindB rB
  by_cases h1 : f.n 0 = 1
  · simp [h1, kindB, Bool.and_comm]
  by_cases h2 : f.n 0 = 2
  · simp [h2, kindB, Bool.and_comm]
  by_cases h4 : f.n 0 = 4
  · simp [h4, kindB, nix, numsB, good3]
    cases mayN (f.n 1) <;> cases mayN (f.n 16) <;> cases mayN (f.n 17) <;> cases mayN (f.n 18) <;> simp
  by_cases h8 : f.n 0 = 8
  · simp [h8, kindB, Bool.and_comm]
  · simp [h1, h2, h4, h8]
theorem raw_r (f : FT) : rawF f = intL (f.n 0) ++ (numsL f.n (hix (f.n 0)) ++ rL f) := by
  rw [hix_eq]
  unfold rawF aheadL behindL rL
  by_cases h1 : f.n 0 = 1
  · simp [h1]
  by_cases h2 : f.n 0 = 2
  · simp [h2]
  by_cases h4 : f.n 0 = 4
  · simp [h4, nix, numsL]
  by_cases h8 : f.n 0 = 8
  · simp [h8]
  · simp [h1, h2, h4, h8]
set_option maxRecDepth 100000 in
set_option maxHeartbeats 1000000 in
theorem rput_no (f : FT) {ad : Option Addr} {cap : Nat} {w : World} (h : Ch.Sl w ad cap f.ch.ms) (hb : rB f = false) : Calls Try.prog 23 #[frV f (.slice ad f.ch.ms.length cap)] w (ToldN (.tuple #[str (putF f), .int .i64 (errF f)]) w) := by
  have ho : okF f = false := by rw [ok_r, hb]; rfl
  rw [(putF_no ho).1, (putF_no ho).2]
  have B := fun w' (k : Chg noBlk w w') => rbehind_any (h.no k)
  rw [rbT_no hb] at B
  have HB := hide B
  clear B h hb ho
  generalize (Value.slice ad f.ch.ms.length cap) = v at *
  go_enter Try.func23, Try.ntmps23
  go_wp2_with (first
    | ((with_reducible show wpList _ _ _ (⟨_, _, _, _, _, none⟩ :: _) _ _); first
      | (refine wpL_box rfl 33 _ rfl (f.cells v).toArray rfl ?_; intro p w1 e1 k1 g1 z1; have G1 : FrAt w1 p f v := g1; clear e1 z1 g1)
      | (refine wpL_load rfl 33 (.tmp 1) rfl p rfl (f.cells v).toArray _ _ G1 _ Try.underlying33 rfl info_fr ?_))
    | (go_at_call 40; (with_reducible refine (unhide HB _ k1).mono ?_); rintro e w2 ⟨rfl, k2⟩))
  go_ret2
  exact ⟨rfl, k1.andNo k2⟩
attribute [local go_sem ↓] ldFr_pre in
set_option maxRecDepth 100000 in
set_option maxHeartbeats 2000000 in
theorem rput_yes (f : FT) {ad : Option Addr} {cap : Nat} {w : World} (h : Ch.Sl w ad cap f.ch.ms) (hb : rB f = true) : Calls Try.prog 23 #[frV f (.slice ad f.ch.ms.length cap)] w (ToldN (.tuple #[str (putF f), .int .i64 (errF f)]) w) := by
  have B := fun w' (k : Chg noBlk w w') => rbehind_any (h.no k)
  rw [rbT_yes hb rfl] at B
  have HB := hide B
  have hk := rb_kind hb
  have HI := hide (fun x (h : mayN x = true) w' => rint_n x (i64_may h).1 (i64_may h).2 w')
  have H0 := hide (fun w' => rint_n (f.n 0) (i64_kind hk).1 (i64_kind hk).2 w')
  have HH := hide (fun w' => has_any (f.n 0) w')
  have HM := hide (fun x w' => (by have := good_any x 0 0 w'; rw [good3_one] at this; exact this : Calls Try.prog 43 #[.int .i64 x, .int .i64 0, .int .i64 0] w' (Told (.bool (mayN x)) w')))
  have HF := has_few (f.n 0)
  have HO := hide (fun i (hi : i ∈ hix (f.n 0)) (h : mayN (f.n i) = false) => putF_no (f := f) (by rw [ok_r, numsB_no hi h, Bool.and_false]))
  have HY := hide (fun (h : ∀ i ∈ hix (f.n 0), mayN (f.n i) = true) => (show okF f = true by rw [ok_r, hb, numsB_yes.2 h]; rfl))
  have HR := hide (raw_r f)
  have HX := hide (fun j c (h : (hasL (f.n 0))[j]? = some c) => hix_at h)
  have HLN := hix_len (f.n 0)
  have l0 := intL_len (f.n 0)
  have HN := hide (fun (c : UInt8) w' => number_any f (.slice ad f.ch.ms.length cap) (c.toNat : Int) w')
  clear B h hb hk
  generalize hasL (f.n 0) = W at *
  generalize hix (f.n 0) = L at *
  generalize rL f = R at *
  generalize hv : (Value.slice ad f.ch.ms.length cap) = v at *
  go_enter Try.func23, Try.ntmps23
  go_wp2_with (first
    | ((with_reducible show wpList _ _ _ (⟨_, _, _, _, _, none⟩ :: _) _ _); first
      | (refine wpL_box rfl 33 _ rfl (f.cells v).toArray rfl ?_; intro p w1 e1 k1 g1 z1; have G1 : FrAt w1 p f v := g1; clear e1 z1 g1)
      | (refine wpL_load rfl 33 (.tmp 1) rfl p rfl (f.cells v).toArray _ _ G1 _ Try.underlying33 rfl info_fr ?_))
    | (go_at_call 40; (with_reducible refine (unhide HB _ k1).mono ?_); rintro e w2 ⟨rfl, k2⟩; have c2 := (G1.no k2).c0)
    | (go_at_call 41; (with_reducible refine (unhide H0 _).mono ?_); rintro e w3 ⟨rfl, k3⟩; have c3 := ((G1.no k2).no k3).c0)
    | (go_at_call 18; (with_reducible refine (unhide HH _).mono ?_); rintro e w4 ⟨rfl, rfl⟩))
  have K3 := (k1.andNo k2).andNo k3
  have HG := hide ((G1.no k2).no k3)
  clear k1 k2 k3 G1 c2 c3 HB H0 HH
  go_loopw [6, 8] (fun s i wr => ∃ j : Nat, j ≤ W.length ∧ i = .int .i64 (j : Int) ∧ s = str (intL (f.n 0) ++ numsL f.n (L.take j)) ∧ Hid (∀ x ∈ L.take j, mayN (f.n x) = true) ∧ Chg noBlk w3 wr) (fun s i wr => W.length - (intOf i).toNat)
  case atStart => exact ⟨0, by omega, rfl, by simp [numsL], hide (by simp), Chg.refl _ _⟩
  case round =>
    obtain ⟨j, hj, rfl, rfl, hm, hch⟩ := hrel
    by_cases hlt : j < W.length
    · obtain ⟨c, hc⟩ : ∃ c, W[j]? = some c := ⟨_, List.getElem?_eq_getElem hlt⟩
      have hi := unhide HX j c hc
      have wc : W[j]'hlt = c := (List.getElem?_eq_some_iff.1 hc).2
      have i1 : (0 : Int) ≤ (j : Int) := by omega
      have i2 : (j : Int) < (W.length : Int) := by omega
      have HS := hide (numsL_snoc f.n hi)
      have HI2 := hide hi
      have N := fun w' => unhide HN c w'
      have M := fun w' => unhide HM (f.n (lx (c.toNat : Int))) w'
      have HO2 := hide (fun h => unhide HO (lx (c.toNat : Int)) (List.mem_of_getElem? (unhide HI2)) h)
      have HI3 := hide (fun h => unhide HI (f.n (lx (c.toNat : Int))) h)
      have HA := hide (fun h => all_snoc (p := fun x => mayN (f.n x) = true) (unhide HI2) (unhide hm) h)
      generalize lx (c.toNat : Int) = i at *
      have HNc := hide N
      have l1 := numsL_len f.n (L.take j)
      have l2 := intL_len (f.n i)
      have l3 : (L.take j).length ≤ 6 := by simp; omega
      have s1 : ¬ 9223372036854775807 < (intL (f.n 0)).length + (numsL f.n (L.take j)).length + (intL (f.n i)).length := by omega
      have KE := hide (fun w' (k : Chg noBlk wr w') => (⟨k, run_ldFr ((unhide HG).no (hch.andNo k))⟩ : Chg noBlk wr w' ∧ (ldFr (.pointer (some ⟨p, 0, none⟩))).run Try.prog w' = .ok (frV f v) w'))
      have B0 := Chg.refl noBlk wr
      clear hc hi N l1 l2 l3
      go_wp2_with fail
      go_region_held3 (fun w' => Chg noBlk wr w' ∧ (ldFr (.pointer (some ⟨p, 0, none⟩))).run Try.prog w' = .ok (frV f v) w')
        ((refine unhide KE _ ?_; go_split_ands; first | assumption | exact Chg.drew (by assumption) | exact Chg.drewN (by assumption) _ | exact Chg.andNo (by assumption) (by assumption)))
        (first
          | (go_at_call 42; (refine (unhide HNc _).mono ?_); rintro e w6 ⟨rfl, k6⟩))
      rename_i hH
      obtain ⟨K6, _⟩ := hH
      clear KE B0
      cases hb : mayN (f.n i)
      · rw [hb] at M
        have HM1 := hide M
        have HE := hide (unhide HO2 hb)
        clear M hb
        go_wp2_with (go_at_call 43; (with_reducible refine (unhide HM1 _).mono ?_); rintro e w7 ⟨rfl, rfl⟩)
        go_ret2
        exact ⟨by rw [(unhide HE).1, (unhide HE).2]; rfl, K3.andNo (hch.andNo K6)⟩
      · rw [hb] at M
        have HM1 := hide M
        have HI1 := hide (unhide HI3 hb)
        have HA1 := hide (unhide HA hb)
        clear M hb
        go_wp2_with (first
          | (go_at_call 43; (with_reducible refine (unhide HM1 _).mono ?_); rintro e w7 ⟨rfl, rfl⟩)
          | (go_at_call 41; (with_reducible refine (unhide HI1 _).mono ?_); rintro e w8 ⟨rfl, k8⟩))
        go_roundw
        case rel => exact ⟨j + 1, by omega, by go_num, by rw [unhide HS], HA1, (hch.andNo K6).andNo k8⟩
        case measure => simp [intOf]; omega
    · obtain rfl : j = W.length := by omega
      have hL : L.take W.length = L := by rw [← HLN, List.take_length]
      have ho := unhide HY (by have := unhide hm; rwa [hL] at this)
      have hlen := rawF_len ho
      have e1 := (putF_yes ho).1
      have e2 := (putF_yes ho).2
      rw [unhide HR] at hlen e1
      simp only [List.length_append] at hlen
      rw [hL]
      have E1 := hide e1
      have E2 := hide e2
      have s1 : ¬ 9223372036854775807 < (intL (f.n 0)).length + (numsL f.n L).length + R.length := by omega
      have s2 : ¬ (512 : Int) < ((intL (f.n 0)).length : Int) + ((numsL f.n L).length : Int) + (R.length : Int) := by omega
      have s3 : ¬ 9223372036854775807 < (intL (f.n 0)).length + ((numsL f.n L).length + R.length) := by omega
      have s4 : ¬ (512 : Int) < ((intL (f.n 0)).length : Int) + (((numsL f.n L).length : Int) + (R.length : Int)) := by omega
      clear ho hlen e1 e2
      go_wp2_with fail
      go_ret2
      exact ⟨by rw [unhide E1, unhide E2]; simp, K3.andNo hch⟩
theorem rput_any (f : FT) {ad : Option Addr} {cap : Nat} {w : World} (h : Ch.Sl w ad cap f.ch.ms) : Calls Try.prog 23 #[frV f (.slice ad f.ch.ms.length cap)] w (ToldN (.tuple #[str (putF f), .int .i64 (errF f)]) w) := by
  cases hb : rB f
  · exact rput_no f h hb
  · exact rput_yes f h hb
#print axioms rput_any
end Go.Proofs.Ytfplgmkbhpdmjaa.Fm
