/-
  Links: the document's Pairs.
-/
import Derived.Test.YtngldlfobdiipaaLinksBa
import Derived.Test.YtngldlfobdiipaaLinksU
namespace Go.Proofs.Ytngldlfobdiipaa.Lk
open Go.ChangeShapes Go.WideShapes Go.ChangeAt Go.RowKit
set_option linter.unusedVariables false
attribute [local go_sem] bs_size bs_app bs_cut bs_tl bs_at
/-- of a's, those among the first n -/
def rowP (L : List ML) (a : Nat) : Nat → List (Int × Int)
  | 0 => []
  | n + 1 => rowP L a n ++ (if sel L a n = [] then [] else [((a : Int), (n : Int))])
def gridP (L : List ML) : Nat → List (Int × Int)
  | 0 => []
  | f + 1 => gridP L f ++ rowP L f 38
theorem rowP_mem {L : List ML} {a : Nat} {x : Int × Int} : ∀ {n : Nat}, x ∈ rowP L a n ↔ ∃ t : Nat, t < n ∧ x = ((a : Int), (t : Int)) ∧ sel L a t ≠ []
  | 0 => by simp [rowP]
  | n + 1 => by
    rw [rowP, List.mem_append, rowP_mem]
    constructor
    · rintro (⟨t, h1, h2, h3⟩ | h)
      · exact ⟨t, by omega, h2, h3⟩
      · split at h
        · cases h
        · rename_i hne
          obtain rfl := List.mem_singleton.1 h
          exact ⟨n, by omega, rfl, hne⟩
    · rintro ⟨t, h1, h2, h3⟩
      by_cases e : t = n
      · subst e
        right
        rw [if_neg h3, h2]
        simp
      · exact .inl ⟨t, by omega, h2, h3⟩
theorem gridP_mem {L : List ML} {x : Int × Int} : ∀ {f : Nat}, x ∈ gridP L f ↔ ∃ a t : Nat, a < f ∧ t < 38 ∧ x = ((a : Int), (t : Int)) ∧ sel L a t ≠ []
  | 0 => by simp [gridP]
  | f + 1 => by
    rw [gridP, List.mem_append, gridP_mem, rowP_mem]
    constructor
    · rintro (⟨a, t, h1, h2, h3, h4⟩ | ⟨t, h2, h3, h4⟩)
      · exact ⟨a, t, by omega, h2, h3, h4⟩
      · exact ⟨f, t, by omega, h2, h3, h4⟩
    · rintro ⟨a, t, h1, h2, h3, h4⟩
      by_cases e : a = f
      · subst e
        exact .inr ⟨t, h2, h3, h4⟩
      · exact .inl ⟨a, t, by omega, h2, h3, h4⟩
theorem rowP_rise (L : List ML) (a : Nat) : ∀ n : Nat, (rowP L a n).Pairwise fun x y => ltP x y = true
  | 0 => List.Pairwise.nil
  | n + 1 => by
    rw [rowP]
    refine List.pairwise_append.2 ⟨rowP_rise L a n, by split <;> simp, fun x hx y hy => ?_⟩
    obtain ⟨t, h1, rfl, _⟩ := rowP_mem.1 hx
    split at hy
    · cases hy
    · obtain rfl := List.mem_singleton.1 hy
      unfold ltP
      simp
      omega
theorem gridP_rise (L : List ML) : ∀ f : Nat, (gridP L f).Pairwise fun x y => ltP x y = true
  | 0 => List.Pairwise.nil
  | f + 1 => by
    rw [gridP]
    refine List.pairwise_append.2 ⟨gridP_rise L f, rowP_rise L f 38, fun x hx y hy => ?_⟩
    obtain ⟨a, t, h1, _, rfl, _⟩ := gridP_mem.1 hx
    obtain ⟨t2, _, rfl, _⟩ := rowP_mem.1 hy
    unfold ltP
    simp
    omega
theorem rowP_len (L : List ML) (a : Nat) : ∀ n : Nat, (rowP L a n).length ≤ n
  | 0 => by simp [rowP]
  | n + 1 => by
    have := rowP_len L a n
    rw [rowP, List.length_append]
    split <;> simp <;> omega
theorem gridP_len (L : List ML) : ∀ f : Nat, (gridP L f).length ≤ 38 * f
  | 0 => by simp [gridP]
  | f + 1 => by
    have := gridP_len L f
    have := rowP_len L f 38
    rw [gridP, List.length_append]
    omega
theorem gridP_is {L : List ML} {cap : Nat} (h : Fit cap L) : IsPairs L (gridP L 38) := by
  refine ⟨gridP_rise L 38, fun p hp => ?_, fun a b ha hb => ⟨fun hp => ?_, fun hne => ?_⟩⟩
  · obtain ⟨a, t, h1, h2, rfl, _⟩ := gridP_mem.1 hp
    exact ⟨wfI_of (by simp; omega), wfI_of (by simp; omega)⟩
  · obtain ⟨a', t', _, _, e, h4⟩ := gridP_mem.1 hp
    injection e with e1 e2
    rw [e1, e2]
    exact h4
  · obtain ⟨m, hm, e1, e2⟩ := sel_mem hne
    obtain ⟨h1, h2, _⟩ := h.1 m hm
    have k1 := isA_yes.1 h1
    have k2 := isA_yes.1 h2
    rw [e1] at k1
    rw [e2] at k2
    obtain ⟨a', rfl⟩ := Int.eq_ofNat_of_zero_le (show 0 ≤ a by omega)
    obtain ⟨b', rfl⟩ := Int.eq_ofNat_of_zero_le (show 0 ≤ b by omega)
    exact gridP_mem.2 ⟨a', b', by omega, by omega, rfl, hne⟩
/-- where the going through stands -/
def OutP (w0 : World) (L : List ML) (v i : Value) (w : World) : Prop := ∃ f : Nat, f ≤ 38 ∧ i = .int .i64 (f : Int) ∧ OwnA w v (gridP L f) ∧ (∀ g, v.ownBlock = some g → w0.heap.size ≤ g) ∧ Chg noBlk w0 w
def InP (w0 : World) (L : List ML) (f : Nat) (v i : Value) (w : World) : Prop := ∃ t : Nat, t ≤ 38 ∧ i = .int .i64 (t : Int) ∧ OwnA w v (gridP L f ++ rowP L f t) ∧ (∀ g, v.ownBlock = some g → w0.heap.size ≤ g) ∧ Chg noBlk w0 w
theorem rowP_hit {L : List ML} {f t : Nat} (h : sel L f t ≠ []) : gridP L f ++ rowP L f (t + 1) = (gridP L f ++ rowP L f t) ++ [((f : Int), (t : Int))] := by rw [rowP, if_neg h, List.append_assoc]
theorem rowP_miss {L : List ML} {f t : Nat} (h : sel L f t = []) : gridP L f ++ rowP L f (t + 1) = gridP L f ++ rowP L f t := by rw [rowP, if_pos h, List.append_nil]
theorem grown_chg2 {w0 w w3 : World} {v : Value} (k : Chg noBlk w0 w) (f : ∀ g, v.ownBlock = some g → w0.heap.size ≤ g) (k3 : Chg (fun i => v.ownBlock = some i) w w3) : Chg noBlk w0 w3 :=
  k.trans k3 fun i hi e => by have := f i e; omega
theorem grown_new2 {w0 w : World} {v v3 : Value} (k : Chg noBlk w0 w) (f : ∀ g, v.ownBlock = some g → w0.heap.size ≤ g) (f3 : v3.ownBlock = v.ownBlock ∨ v3.ownBlock = some w.heap.size) : ∀ g, v3.ownBlock = some g → w0.heap.size ≤ g := fun g hg => by
  rcases f3 with e | e <;> rw [hg] at e
  · exact f g e.symm
  · have e := Option.some.inj e
    have := k.size
    omega
section
variable {w w' : World} {S T : Nat → Prop} {b cap : Nat} {v : Value} {L : List ML}
set_option maxRecDepth 100000 in
set_option maxHeartbeats 4000000 in
theorem rpairs_any (h : RefAt w S b v cap L) (hl : L.length ≤ 1000) : Calls Try.prog 31 #[.pointer (some ⟨b, 0, none⟩)] w (NewA (gridP L 38) w) := by
  have HL := hide (fun w' (k : Chg noBlk w w') (x y : Int) => rlist_any (h.no k) hl x y)
  clear h
  go_enter Try.func31, Try.ntmps31
  go_wp2
  go_loopw [3, 4] (fun v i wr => OutP w L v i wr) (fun v i wr => 38 - (intOf i).toNat)
  case atStart => exact ⟨0, by omega, rfl, ownL_nil _ _ _ _, (fun g hg => by cases hg), Chg.refl _ _⟩
  case round =>
    obtain ⟨f, hf, rfl, ho, hb, kw⟩ := hrel
    have KW := hide kw
    have HO := hide ho
    have HB := hide hb
    clear kw ho hb
    by_cases hlt : f < 38
    · have i1 : (0 : Int) ≤ (f : Int) := by omega
      have i2 : (f : Int) < 38 := by omega
      have HG := hide (gridP_len L f)
      have HB0 := hide (show InP w L f u3 (.int .i64 0) wr from ⟨0, by omega, rfl, by rw [rowP, List.append_nil]; exact unhide HO, unhide HB, unhide KW⟩)
      clear KW HO HB
      go_wp2
      go_loopw [3, 5] (fun v i wr => InP w L f v i wr) (fun v i wr => 38 - (intOf i).toNat)
      case atStart => exact unhide HB0
      case round =>
        clear HB0
        obtain ⟨t, ht, rfl, ho, hb, kw⟩ := hrel
        have KW := hide kw
        have HO := hide ho
        have HB := hide hb
        clear kw ho hb
        by_cases hlt2 : t < 38
        · have j1 : (0 : Int) ≤ (t : Int) := by omega
          have j2 : (t : Int) < 38 := by omega
          have HR := hide (rowP_len L f t)
          obtain ⟨T, hT⟩ : ∃ T, sel L f t = T := ⟨_, rfl⟩
          have HT := hide hT
          have HLT := hide (show Calls Try.prog 25 #[.pointer (some ⟨b, 0, none⟩), .int .i64 (f : Int), .int .i64 (t : Int)] wr (NewT T wr) from hT ▸ unhide HL _ (unhide KW) f t)
          clear hT
          by_cases hz : T = []
          · have d3 : ¬ 0 < (T.length : Int) := by rw [hz]; simp
            have HE := hide (rowP_miss (L := L) (f := f) (t := t) ((unhide HT).trans hz))
            clear hz
            go_wp2_with (go_at_call 25; (with_reducible refine (unhide HLT).mono ?_); rintro e w2 ⟨v2, rfl, k2, o2, f2⟩; obtain ⟨ad2, cp2, e2⟩ := own_form o2; subst e2; have K2 := hide k2; clear k2 o2 f2)
            have REL := hide (show InP w L f u3 (.int .i64 ((t : Int) + 1)) w2 from ⟨t + 1, by omega, by go_num, by rw [unhide HE]; exact (unhide HO).no (unhide K2), unhide HB, (unhide KW).andNo (unhide K2)⟩)
            go_roundw
            case rel => exact unhide REL
            case measure => simp [intOf]; omega
          · have d3 : 0 < (T.length : Int) := by have := List.length_pos_iff.2 hz; omega
            have HE := hide (rowP_hit (L := L) (f := f) (t := t) (fun e => hz ((unhide HT).symm.trans e)))
            obtain ⟨ps, hps⟩ : ∃ ps, gridP L f ++ rowP L f t = ps := ⟨_, rfl⟩
            have hpl : ps.length ≤ 1500 := by rw [← hps, List.length_append]; have := unhide HG; have := unhide HR; omega
            rw [hps] at HO HE
            have M1 := hide (show ps.length + 1 ≤ maxLen by unfold maxLen; omega)
            have M2 := hide (show (ps.length + 1) * 16 ≤ 140737488355328 by omega)
            clear hz hps
            go_wp2_with (first
              | (go_at_call 25; (with_reducible refine (unhide HLT).mono ?_); rintro e w2 ⟨v2, rfl, k2, o2, f2⟩; obtain ⟨ad2, cp2, e2⟩ := own_form o2; subst e2; have K2 := hide ((unhide KW).andNo k2); have O2 := hide ((unhide HO).no k2); clear k2 o2 f2)
              | ((with_reducible show wpList _ _ _ (_ :: _) _ _); first
                | (refine wpL_one rfl 43 (.tmp 23) rfl 65 #[.int .i64 0, .int .i64 0] Try.underlying43 (by kernel_rfl) (by decide) (by decide) #[.int .i64 (f : Int), .int .i64 (t : Int)] rfl rfl ?_; intro b6 w6 e6 k6 g6 z6; have K6 := hide ((unhide K2).andNo k6); have O6 := hide ((unhide O2).no k6); clear k6 e6 z6)
                | (refine wpL_append rfl (.tmp 20) (.tmp 24) 43 (by rfl) 65 (.agg #[.int .i64 0, .int .i64 0]) 2 16 Try.underlying43 infx_arr rfl (by decide) u3 ps.length (flatC encP ps) (by rfl) (unhide O6) (.slice (some ⟨b6, 0, none⟩) 1 1) 1 (encP ((f : Int), (t : Int))) (by rfl) (reads_at1 g6 (encP_len _) (encP_one _)) (unhide M1) (unhide M2) ?_; intro v7 w7 k7 o7 f7)))
            have REL := hide (show InP w L f v7 (.int .i64 ((t : Int) + 1)) w7 from ⟨t + 1, by omega, by go_num, by rw [unhide HE]; exact ownL_grew o7, grown_new2 (unhide K6) (unhide HB) f7, grown_chg2 (unhide K6) (unhide HB) k7⟩)
            clear o7 k7 f7
            go_roundw
            case rel => exact unhide REL
            case measure => simp [intOf]; omega
        · obtain rfl : t = 38 := by omega
          have REL := hide (show OutP w L u3 (.int .i64 ((f : Int) + 1)) wr from ⟨f + 1, by omega, by go_num, unhide HO, unhide HB, unhide KW⟩)
          go_wp2
          go_roundw
          case rel => exact unhide REL
          case measure => simp [intOf]; omega
    · obtain rfl : f = 38 := by omega
      go_wp2
      go_ret
      exact ⟨u3, rfl, unhide KW, unhide HO, unhide HB⟩
end
end Go.Proofs.Ytngldlfobdiipaa.Lk
