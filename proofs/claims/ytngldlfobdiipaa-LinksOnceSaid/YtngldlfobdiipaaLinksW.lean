/-
  Links: what is sent is delivered once: walked.
-/
import Derived.Test.YtngldlfobdiipaaLinksV
import Derived.Test.YtngldlfobdiipaaLinksU
import Derived.Laws.IdiomStrings
namespace Go.Proofs.Ytngldlfobdiipaa.Lk
open Go.ChangeShapes Go.WideShapes Go.ChangeAt Go.RowKit
set_option linter.unusedVariables false
attribute [local go_sem] bs_size bs_app bs_cut bs_tl bs_at
attribute [local go_sem ↓] eq_mail
attribute [local go_sem ↓] Go.wp_at_zero Go.wp_at_succ
abbrev BytesIn (w : World) (ad : Option Addr) (l : List Nat) : Prop := RowsIn byteCells' (fun n => n ≤ 255) 1 w ad l
theorem byte_at {w : World} {ad : Option Addr} {l : List Nat} (h : BytesIn w ad l) {k b : Nat} (hb : l[k]? = some b) : b ≤ 255 ∧ ∃ g off, ad = some ⟨g, off, none⟩ ∧ w.cell? ⟨g, off + k, none⟩ = some (.int .u8 (b : Int)) := by
  obtain ⟨h1, g, off, e, hr⟩ := h k b hb
  refine ⟨h1, g, off, e, ?_⟩
  have := hr 0 _ rfl
  simpa using this
theorem info_sl : (Try.prog.info? 46).map (·.size) = some 1 := by kernel_rfl
/-- two bytes as a text -/
theorem text_two (k n : Nat) (hk : k < 256) (hn : n < 256) (q : Nat) (w : World) (h0 : w.cell? ⟨q, 0, none⟩ = some (.int .u8 (k : Int))) (h1 : w.cell? ⟨q, 1, none⟩ = some (.int .u8 (n : Int))) : (convert 53 9 (.slice (some ⟨q, 0, none⟩) 2 2)).run Try.prog w = .ok (str [UInt8.ofNat k, UInt8.ofNat n]) w := by
  have := run_convert_bytes_back (P := Try.prog) w 53 9 5 ⟨q, 0, none⟩ 2 [UInt8.ofNat k, UInt8.ofNat n] Try.underlying53 Try.underlying5 Try.underlying9 (fun j hj => by
    rw [Addr.add_mid]
    rcases j with _ | _ | j
    · rw [h0]
      simp
      omega
    · rw [h1]
      simp
      omega
    · simp at hj
      omega)
  exact this
theorem Own.past {w0 w w' : World} {S : Nat → Prop} {p : Value} {cap : Nat} {L : List ML} {c : Nat} (h : Own w0 w S p cap L) (k : Chg (oneBlk c) w w') (hc : ¬ S c) (h0 : w0.heap.size ≤ c) : Own w0 w' S p cap L :=
  ⟨h.lk.kept k fun i hi e => hc (by have e : i = c := e; rw [← e]; exact hi), h.new, h.chg.past k h0⟩
theorem app_chg {w4 w5 w6 : World} {v5 : Value} {o : Obj} (K5 : Chg noBlk w4 w5) (f5 : ∀ k, v5.ownBlock = some k → k = w4.heap.size) (k6 : Chg (fun i => v5.ownBlock = some i) (w5.alloc o) w6) : Chg noBlk w4 w6 :=
  (K5.alloc o).trans k6 fun i hi e => by have := f5 i e; omega
theorem app_new {w4 w5 w6 : World} {v5 v6 : Value} {o : Obj} {T : List (List UInt8)} (K5 : Chg noBlk w4 w5) (f5 : ∀ k, v5.ownBlock = some k → k = w4.heap.size) (f6 : v6.ownBlock = v5.ownBlock ∨ v6.ownBlock = some (w5.alloc o).heap.size) (h : OwnT w6 v6 T) : ∀ g, v6.ownBlock = some g → w4.heap.size ≤ g ∧ g < w6.heap.size := fun g hg => by
  refine ⟨?_, h.lt hg⟩
  rcases f6 with e | e <;> rw [hg] at e
  · have := f5 g e.symm
    omega
  · have e := Option.some.inj e
    have := K5.size
    rw [e, World.size_alloc]
    omega
theorem own_form2 {w : World} {v : Value} {T : List (List UInt8)} {t : List UInt8} (h : w.ownsRow 0 9 1 v (T.length + 1) (flatC txC T ++ [str t])) : OwnT w v (T ++ [t]) ∧ ∃ g cap, v = .slice (some ⟨g, 0, none⟩) (T.length + 1) cap ∧ T.length + 1 ≤ cap ∧ cap ≤ maxLen := by
  have h' : OwnT w v (T ++ [t]) := ownL_grew h
  refine ⟨h', ?_⟩
  rcases h.2 with ⟨_, h2⟩ | ⟨g, cap, cur, e, _, _, r1, r2, _⟩
  · omega
  · exact ⟨g, cap, e, r1, r2⟩
/-- all but the first -/
theorem reads_tail {w : World} {g N cap : Nat} {T : List (List UInt8)} (h : Reads w 1 (.slice (some ⟨g, 0, none⟩) (N + 1) cap) T.length (flatC txC T)) (hN : T.length = N + 1) : Reads w 1 (.slice (some ⟨g, 1, none⟩) N (cap - 1)) (T.eraseIdx 0).length (flatC txC (T.eraseIdx 0)) := by
  obtain ⟨h1, h2, h3⟩ := h
  cases T with
  | nil => simp at hN
  | cons x r =>
    have hr : r.length = N := by simpa using hN
    have e : (x :: r).eraseIdx 0 = r := rfl
    have ef : flatC txC (x :: r) = str x :: flatC txC r := rfl
    rw [e]
    refine ⟨flatC_length txC_len r, flatC_one txC_one r, .inr ⟨⟨g, 1, none⟩, cap - 1, by rw [hr], ?_, fun j u hu => ?_⟩⟩
    · rcases h3 with ⟨h3, _⟩ | ⟨ad, cap', e3, hle, _⟩
      · cases h3
      · injection e3 with _ _ e3
        simp at hle
        omega
    · rcases h3 with ⟨h3, _⟩ | ⟨ad, cap', e3, _, hc⟩
      · cases h3
      · injection e3 with e3 _ _
        injection e3 with e3
        have := hc (j + 1) u (by rw [ef]; simpa using hu)
        rw [← e3] at this
        rw [Addr.add_mid] at this ⊢
        rwa [show 1 + j = 0 + (j + 1) by omega]
theorem reads_tail0 {w : World} {g : Nat} {T : List (List UInt8)} (hN : T.length = 1) : Reads w 1 (.slice (some ⟨g, 0, none⟩) 0 0) (T.eraseIdx 0).length (flatC txC (T.eraseIdx 0)) := by
  cases T with
  | nil => simp at hN
  | cons x r =>
    have hr : r = [] := List.eq_nil_of_length_eq_zero (by simpa using hN)
    subst hr
    exact ⟨by simp [flatC], by simp [flatC], .inr ⟨⟨g, 0, none⟩, 0, rfl, by simp, fun j u hu => by simp [flatC] at hu⟩⟩
theorem app_chg2 {w4 w5 w6 : World} {v5 : Value} (K5 : Chg noBlk w4 w5) (f5 : ∀ k, v5.ownBlock = some k → w4.heap.size ≤ k) (k6 : Chg (fun i => v5.ownBlock = some i) w5 w6) : Chg noBlk w4 w6 :=
  K5.trans k6 fun i hi e => by have := f5 i e; omega
theorem app_new2 {w4 w5 w6 : World} {v5 v6 : Value} {T : List (List UInt8)} (K5 : Chg noBlk w4 w5) (f5 : ∀ k, v5.ownBlock = some k → w4.heap.size ≤ k) (f6 : v6.ownBlock = v5.ownBlock ∨ v6.ownBlock = some w5.heap.size) (h : OwnT w6 v6 T) : ∀ g, v6.ownBlock = some g → w4.heap.size ≤ g ∧ g < w6.heap.size := fun g hg => by
  refine ⟨?_, h.lt hg⟩
  rcases f6 with e | e <;> rw [hg] at e
  · exact f5 g e.symm
  · have e := Option.some.inj e
    have := K5.size
    omega
/-- one of those wanted written -/
theorem want_put {w0 w4 w6 w7 : World} {S : Nat → Prop} {p : Value} {cap wb n : Nat} {L : List ML} {hv : Nat → Value} {T0 T1 : Nat → List (List UInt8)} {v : Value} {t : List (List UInt8)} (O4 : Own w0 w4 S p cap L) (W4 : WantAt w4 S wb hv T0) (K : Chg noBlk w4 w6) (hr : Reads w6 1 v t.length (flatC txC t)) (hb : ∀ g, v.ownBlock = some g → ¬ S g ∧ g ≠ wb ∧ g < w6.heap.size)
    (k7 : Chg (oneBlk wb) w6 w7) (g7 : w7.heap[wb]? = some (.cells ((wtC hv).setIfInBounds n v) 54 (0, 0))) (hn : n < 4) (hwb : w0.heap.size ≤ wb) (hT : T1 n = t) (hT' : ∀ k, k ≠ n → T1 k = T0 k) : Own w0 w7 S p cap L ∧ WantAt w7 S wb (nset hv n v) T1 :=
  ⟨(O4.no K).past k7 W4.out hwb, (W4.no K).put hn k7 g7 hr hb hT hT'⟩
/-- where the sending stands -/
def OnceAt (w0 : World) (n1 : Nat) (p : Value) (wb : Nat) (i : Value) (w : World) : Prop := ∃ (k : Nat) (S : Nat → Prop) (L : List ML) (hv : Nat → Value), k ≤ n1 ∧ i = .int .i64 (k : Int) ∧ Own w0 w S p 64 L ∧ WantAt w S wb hv (tx L) ∧ Mails L ∧ L.length ≤ 2 * k ∧ w0.heap.size ≤ wb
/-- how many the first j nodes have -/
def sumT (L : List ML) : Nat → Nat
  | 0 => 0
  | j + 1 => sumT L j + (tx L j).length
theorem sumT_succ (L : List ML) (j : Nat) : sumT L (j + 1) = sumT L j + (tx L j).length := rfl
theorem sumT_all {L : List ML} (h : Mails L) : sumT L 4 = L.length := by
  rw [mails_len h]
  show 0 + (tx L 0).length + (tx L 1).length + (tx L 2).length + (tx L 3).length = _
  omega
theorem sumT_le {L : List ML} (h : Mails L) (j : Nat) (hj : j ≤ 4) : sumT L j ≤ L.length := by
  rw [← sumT_all h]
  show sumT L j ≤ sumT L 4
  rcases j with _ | _ | _ | _ | _ | j
  · exact Nat.zero_le _
  · simp only [sumT]; omega
  · simp only [sumT]; omega
  · simp only [sumT]; omega
  · exact Nat.le_refl _
  · omega
theorem head_form {w : World} {S : Nat → Prop} {wb : Nat} {hv : Nat → Value} {T : Nat → List (List UInt8)} (h : WantAt w S wb hv T) {n : Nat} (hn : n < 4) : ∃ a c, hv n = .slice a (T n).length c := by
  obtain ⟨a, c, e, _⟩ := reads_form (h.row n hn)
  exact ⟨a, c, e⟩
/-- where the delivering stands -/
def OutAt (w0 : World) (p : Value) (wb : Nat) (hv : Nat → Value) (T : Nat → List (List UInt8)) (i : Value) (w : World) : Prop := ∃ (j : Nat) (S : Nat → Prop) (L : List ML), j ≤ 4 ∧ i = .int .i64 ((j : Int) - 1) ∧ Own w0 w S p 64 L ∧ WantAt w S wb hv T ∧ Mails L ∧ (∀ m, m < 4 → tx L m = if m < j then T m else []) ∧ L.length ≤ 120
/-- where one node's delivering stands -/
def InAt (w0 : World) (p : Value) (wb : Nat) (hv : Nat → Value) (T : Nat → List (List UInt8)) (n : Nat) (i : Value) (w : World) : Prop := ∃ (q : Nat) (S : Nat → Prop) (L : List ML), q ≤ (T n).length ∧ i = .int .i64 (q : Int) ∧ Own w0 w S p 64 L ∧ WantAt w S wb hv T ∧ Mails L ∧ (∀ m, m < 4 → m ≠ n → tx L m = if m < n then T m else []) ∧ tx L n = (T n).drop q ∧ L.length ≤ 120
theorem want_el {w : World} {S : Nat → Prop} {wb : Nat} {hv : Nat → Value} {T : Nat → List (List UInt8)} (h : WantAt w S wb hv T) {n : Nat} (hn : n < 4) {an : Option Addr} {len cn : Nat} (e : hv n = .slice an len cn) {q : Nat} {t : List UInt8} (hq : (T n)[q]? = some t) : ∃ g off, an = some ⟨g, off, none⟩ ∧ ∀ w' S', WantAt w' S' wb hv T → w'.cell? ⟨g, off + q, none⟩ = some (str t) := by
  have hlt := (List.getElem?_eq_some_iff.1 hq).1
  have hr := h.row n hn
  rw [e] at hr
  obtain ⟨ad, cp, e1, _, hc⟩ := reads_form hr
  injection e1 with e1 _ _
  subst e1
  obtain ⟨a, e2, h0⟩ := hc 0 _ (List.getElem?_eq_getElem (Nat.lt_of_le_of_lt (Nat.zero_le _) hlt))
  obtain ⟨g, off, rfl⟩ := spot_none h0
  refine ⟨g, off, e2, fun w' S' h' => ?_⟩
  have hr := h'.row n hn
  rw [e, e2] at hr
  obtain ⟨ad, cp, e1, _, hc⟩ := reads_form hr
  injection e1 with e1 _ _
  subst e1
  obtain ⟨a, e3, h1⟩ := hc q t hq
  injection e3 with e3
  subst e3
  rw [Addr.add_mid] at h1
  exact h1
theorem eq_mail5 (n : Int) (t : List UInt8) (w : World) : (Op.equalIn 10000 33 (.agg #[.int .i64 5, .int .i64 n, str t]) (.agg #[.int .i64 5, .int .i64 n, str t])).run Try.prog w = .ok true w := eq_mail 5 n _ w
set_option maxRecDepth 100000 in
set_option maxHeartbeats 4000000 in
theorem once_in (ad ad2 : Option Addr) (l l2 : List Nat) (cap cap2 : Nat) (w : World) (h : BytesIn w ad l) (h2 : BytesIn w ad2 l2) (hl : l.length ≤ 60) (hl2 : l2.length ≤ 60) :
    Calls Try.prog 5 #[.slice ad l.length cap, .slice ad2 l2.length cap2] w (ToldN (.bool true) w) := by
  have HN := hide (show Calls Try.prog 8 #[.int .i64 64] w (MadeK 64 w) from lk_new 64 w (by omega) (by omega))
  have HB := hide h
  have HB2 := hide h2
  have i1 : (l.length : Int) ≤ 60 := by omega
  have i2 : (l2.length : Int) ≤ 60 := by omega
  clear h h2
  go_enter Try.func5, Try.ntmps5
  go_wp2_with (first
    | (go_at_call 8; (with_reducible refine (unhide HN).mono ?_); rintro e w1 ⟨b0, S1, rfl, f1, l1, k1⟩; have O1 := hide (show Own w w1 S1 _ 64 [] from ⟨l1, f1, k1⟩); clear f1 l1 k1)
    | ((with_reducible show wpList _ _ _ (_ :: _) _ _); refine wpL_alloc rfl 54 rfl _ zero_want ?_; intro wb w2 e2 k2 g2 z2; have e3 : w1.heap.size ≤ wb := Nat.le_of_eq e2; clear e2 z2))
  have HB0 := hide (show OnceAt w l.length (.pointer (some ⟨b0, 0, none⟩)) wb (.int .i64 0) w2 from ⟨0, S1, [], _, by omega, rfl, (unhide O1).no k2, want_nil g2 ((unhide O1).lk.out e3), mails_nil, by simp, Nat.le_trans (unhide O1).chg.size e3⟩)
  clear O1 k2 g2 e3 HN
  go_loopw [8] (fun i wr => OnceAt w l.length (.pointer (some ⟨b0, 0, none⟩)) wb i wr) (fun i wr => l.length - (intOf i).toNat)
  case atStart => exact unhide HB0
  case round =>
    clear HB0
    obtain ⟨k, S, L, hv, hk, rfl, ho, hw, hm, hle, hwb⟩ := hrel
    have HO := hide ho
    have HW := hide hw
    have HM := hide hm
    have i3 : L.length ≤ 120 := by omega
    have HLE := hide hle
    clear ho hw hm hle
    by_cases hlt : k < l.length
    · have d1 : decide (k < l.length) = true := by simpa using hlt
      obtain ⟨b, hb⟩ : ∃ b, l[k]? = some b := ⟨_, List.getElem?_eq_getElem hlt⟩
      obtain ⟨hb1, g, off, rfl, hc0⟩ := byte_at (unhide HB) hb
      have c0 := (unhide HO).chg.cell hc0 id
      have j1 : (0 : Int) ≤ (k : Int) := by omega
      have j2 : (k : Int) < (l.length : Int) := by omega
      have j3 : (k : Int) < 60 := by omega
      have j4 : (b : Int) ≤ 255 := by omega
      have j5 : (0 : Int) ≤ (b : Int) := by omega
      obtain ⟨n, hn⟩ : ∃ n : Nat, (b : Int) % 4 = (n : Int) := ⟨b % 4, by omega⟩
      have hn4 : n < 4 := by omega
      clear hb hc0
      have CV := text_two k n (by omega) (by omega) wr.heap.size (wr.alloc (.cells #[.int .u8 (k : Int), .int .u8 (n : Int)] 5)) (cellAt (heap_alloc_new wr _) 0 _ rfl) (cellAt (heap_alloc_new wr _) 1 _ rfl)
      obtain ⟨t, ht⟩ : ∃ t, [UInt8.ofNat k, UInt8.ofNat n] = t := ⟨_, rfl⟩
      have htl := hide (show t.length ≤ 512 by rw [← ht]; simp)
      rw [ht] at CV
      clear ht
      have KA := hide ((Chg.refl noBlk wr).alloc (.cells #[.int .u8 (k : Int), .int .u8 (n : Int)] 5))
      go_upto_region 11 with fail
      simp only [hn]
      have HN4 := hide hn
      clear hn c0
      go_upto_region 12 with fail
      clear CV
      generalize wr.alloc (.cells #[.int .u8 (k : Int), .int .u8 (n : Int)] 5) = w3 at KA ⊢
      have HO3 := hide ((unhide HO).no (unhide KA))
      have HW3 := hide ((unhide HW).no (unhide KA))
      clear HO HW KA
      by_cases hfull : 64 ≤ (tx L n).length
      · have HSD := hide (show Calls Try.prog 16 #[.pointer (some ⟨b0, 0, none⟩), .agg #[.int .i64 5, .int .i64 (n : Int), str t]] w3 (DoneK S (.pointer (some ⟨b0, 0, none⟩)) (.returned (.int .i64 60)) 64 L w3) from by
          have := lk_send (unhide HO3).lk ⟨5, n, t⟩ (by omega)
          rw [(snd5_full hn4 (unhide htl) hfull).1, (snd5_full hn4 (unhide htl) hfull).2] at this
          exact this)
        have hfit := (unhide HO3).lk.fit.2 5 n
        obtain ⟨a1, c1, e1, _, _⟩ := reads_form ((unhide HW3).row n hn4)
        obtain ⟨T, hT⟩ : ∃ T, tx L n = T := ⟨_, rfl⟩
        have HT := hide hT
        have hfit : T.length ≤ 64 := by rw [← hT]; exact hfit
        rw [hT] at e1 hfull
        have bl : ((T.length : Int) == 64) = true := beq_iff_eq.2 (by omega)
        have HE1 := hide e1
        have j6 : (0 : Int) ≤ (n : Int) := by omega
        have j7 : (n : Int) < 4 := by omega
        clear hT e1 hfit hfull
        go_wp2_with (first
          | (go_at_call 16; (with_reducible refine (unhide HSD).mono ?_); rintro e w4 ⟨rfl, k4, S4, g4, l4⟩; have O4 := hide ((unhide HO3).step k4 g4 l4); have cN := ((unhide HW3).step k4 g4).cell hn4; rw [unhide HE1] at cN; clear k4 g4 l4)
          | (go_at_call 7; (with_reducible refine (mailed_any _).mono ?_); rintro e w5 ⟨rfl, k5⟩))
        go_ret
        exact ⟨rfl, (unhide O4).chg.andNo k5⟩
      · have hlow : (tx L n).length < 64 := by omega
        have HSD := hide (show Calls Try.prog 16 #[.pointer (some ⟨b0, 0, none⟩), .agg #[.int .i64 5, .int .i64 (n : Int), str t]] w3 (DoneK S (.pointer (some ⟨b0, 0, none⟩)) (.returned (.int .i64 0)) 64 (L ++ [⟨5, n, t⟩]) w3) from by
          have := lk_send (unhide HO3).lk ⟨5, n, t⟩ (by omega)
          rw [(snd5_ok hn4 (unhide htl) hlow).1, (snd5_ok hn4 (unhide htl) hlow).2] at this
          exact this)
        obtain ⟨a1, c1, e1, _, _⟩ := reads_form ((unhide HW3).row n hn4)
        obtain ⟨T, hT⟩ : ∃ T, tx L n = T := ⟨_, rfl⟩
        have HT := hide hT
        rw [hT] at e1 hlow
        have HE1 := hide e1
        have j6 : (0 : Int) ≤ (n : Int) := by omega
        have j7 : (n : Int) < 4 := by omega
        have M1 := hide (show T.length ≤ maxLen by unfold maxLen; omega)
        have M2 := hide (show T.length * 16 ≤ 140737488355328 by omega)
        have M3 := hide (show T.length + 1 ≤ maxLen by unfold maxLen; omega)
        have M4 := hide (show (T.length + 1) * 16 ≤ 140737488355328 by omega)
        clear hT e1 hfull
        go_upto_region 15 with (first
          | (go_at_call 16; (with_reducible refine (unhide HSD).mono ?_); rintro e w4 ⟨rfl, k4, S4, g4, l4⟩; have O4 := hide ((unhide HO3).step k4 g4 l4); have W4 := hide ((unhide HW3).step k4 g4); have cN := (unhide W4).cell hn4; rw [unhide HE1] at cN; have R4 := hide (show Reads w4 1 (.slice a1 T.length c1) T.length (flatC txC T) from by have := (unhide W4).row n hn4; rw [unhide HE1, unhide HT] at this; exact this); clear k4 g4 l4)
          | ((with_reducible show wpList _ _ _ (⟨some 68, _, _, _, _, none⟩ :: _) _ _); refine wpL_clone rfl (.tmp 67) 46 (by rfl) 9 (str []) 1 16 Try.underlying46 infx_str rfl (by decide) (.slice a1 T.length c1) T.length (flatC txC T) (by rfl) (unhide R4) (unhide M1) (unhide M2) ?_; intro v5 w5 k5 o5 f5 one5; have K5 := hide k5; clear cN k5)
          | ((with_reducible show wpList _ _ _ (⟨some 71, _, _, _, _, none⟩ :: _) _ _); refine wpL_append rfl (.tmp 68) (.tmp 70) 46 (by rfl) 9 (str []) 1 16 Try.underlying46 infx_str rfl (by decide) v5 T.length (flatC txC T) (by rfl) (owns_kept o5 ((Chg.refl noBlk w5).alloc _) fun _ _ => id) (.slice (some ⟨w5.heap.size, 0, none⟩) 1 1) 1 [str t] (by rfl) (reads_new1 (W := w5) (t := 9) (Chg.refl _ _) rfl (txC_one t)) (unhide M3) (unhide M4) ?_; intro v6 w6 k6 o6 f6; obtain ⟨o6', g6, cap6, e6, le6, mx6⟩ := own_form2 o6; subst e6; have K46 := hide (app_chg (unhide K5) f5 k6); have R6 := hide (o6'.reads txC_one); have F6 := hide (app_new (unhide K5) f5 f6 o6'); clear k6 o6 f6 o5 f5 o6' K5)
          | ((with_reducible show wpList _ _ _ (⟨none, _, _, _, _, none⟩ :: _) _ _); refine wpL_set rfl 46 (.tmp 72) (.tmp 71) rfl wb n (.slice (some ⟨g6, 0, none⟩) (T.length + 1) cap6) rfl rfl rfl info_sl _ _ ((unhide W4).no (unhide K46)).blk (by show n < 4; exact hn4) ?_; intro w7 k7 g7 z7))
        go_frame
        have hP := want_put (T1 := tx (L ++ [⟨5, n, t⟩])) (unhide O4) (unhide W4) (unhide K46) (v := .slice (some ⟨g6, 0, none⟩) (T.length + 1) cap6) (t := T ++ [t]) (unhide R6) (fun g hg => by
          have := unhide F6 g hg
          have hlt := (unhide W4).lt
          exact ⟨fun e => by have := (unhide O4).lk.lt g e; omega, by omega, this.2⟩) k7 g7 hn4 hwb (by rw [tx_app, unhide HT]) fun k hk => tx_other hk t
        have O7 := hide hP.1
        have W7 := hide hP.2
        have HM1 := hide (mails_app (unhide HM) hn4 t)
        have HLE1 := hide (show (L ++ [(⟨5, (n : Int), t⟩ : ML)]).length ≤ 2 * k + 1 by have := unhide HLE; simp; omega)
        have HT1 := hide (show tx (L ++ [(⟨5, (n : Int), t⟩ : ML)]) n = T ++ [t] by rw [tx_app, unhide HT])
        obtain ⟨L1, hL1⟩ : ∃ L1, L ++ [(⟨5, (n : Int), t⟩ : ML)] = L1 := ⟨_, rfl⟩
        obtain ⟨hv1, hhv⟩ : ∃ hv1, nset hv n (.slice (some ⟨g6, 0, none⟩) (T.length + 1) cap6) = hv1 := ⟨_, rfl⟩
        have HN1 := hide (show hv1 n = .slice (some ⟨g6, 0, none⟩) (T.length + 1) cap6 by rw [← hhv, nset_same])
        rw [hL1, hhv] at W7
        rw [hL1] at O7 HM1 HLE1 HT1
        clear hP k7 g7 z7 O4 W4 K46 R6 F6 HSD HO3 HW3 HM HLE hL1 hhv HT HE1 M1 M2 R4 one5
        have HLT := hide (show (T ++ [t]).length = T.length + 1 by simp)
        generalize (T ++ [t]) = T1 at HT1 HLT
        have REL7 := hide (show OnceAt w l.length (.pointer (some ⟨b0, 0, none⟩)) wb (.int .i64 ((k : Int) + 1)) w7 from ⟨k + 1, S4, L1, hv1, by omega, by go_num, unhide O7, unhide W7, unhide HM1, by have := unhide HLE1; omega, hwb⟩)
        have cN := (unhide W7).cell hn4
        rw [unhide HN1] at cN
        by_cases hk2 : k < l2.length
        · have d2 : decide (k < l2.length) = true := by simpa using hk2
          obtain ⟨y, hy⟩ : ∃ y, l2[k]? = some y := ⟨_, List.getElem?_eq_getElem hk2⟩
          obtain ⟨hy1, g2, off2, rfl, hc2⟩ := byte_at (unhide HB2) hy
          have c2 := (unhide O7).chg.cell hc2 id
          have m1 : (0 : Int) ≤ (y : Int) := by omega
          have m2 : (y : Int) ≤ 255 := by omega
          obtain ⟨r, hr⟩ : ∃ r : Nat, (y : Int) % 4 = (r : Int) := ⟨y % 4, by omega⟩
          clear hy
          by_cases r0 : r = 0
          · subst r0
            have hr : (y : Int) % 4 = 0 := by simpa using hr
            have hne : tx L1 n ≠ [] := by rw [unhide HT1]; intro e; have := unhide HLT; rw [e] at this; simp at this
            have HDR := hide (show Calls Try.prog 12 #[.pointer (some ⟨b0, 0, none⟩), .int .i64 5, .int .i64 (n : Int), .int .i64 0] w7 (DoneK S4 (.pointer (some ⟨b0, 0, none⟩)) (.returned (.int .i64 0)) 64 (rmv 5 n 0 L1) w7) from by
              have := lk_drop (unhide O7).lk (by have := unhide HLE1; omega) wfI5 (wfIn hn4) 0
              rw [(drop5 hne).1, (drop5 hne).2] at this
              exact this)
            have n1 : (1 : Int) ≤ (T.length : Int) + 1 := by omega
            have n2 : 1 ≤ T.length + 1 := by omega
            have n3 : 1 ≤ cap6 := by omega
            have n4 : (1 : Int) ≤ (cap6 : Int) := by omega
            have n5 : cap6 ≤ 9223372036854775807 := by unfold maxLen at mx6; omega
            clear hne mx6
            by_cases hcp : cap6 = 1
            · subst hcp
              have HZ := hide (show T1.length = 1 by have := unhide HLT; omega)
              go_wp2_with (first
                | (go_at_call 12; (with_reducible refine (unhide HDR).mono ?_); rintro e w8 ⟨rfl, k8, S8, g8, l8⟩; have O8 := hide ((unhide O7).step k8 g8 l8); have W8 := hide ((unhide W7).step k8 g8); have cN := (unhide W8).cell hn4; rw [unhide HN1] at cN; clear k8 g8 l8)
                | ((with_reducible show wpList _ _ _ (⟨none, _, _, _, _, none⟩ :: _) _ _); refine wpL_set rfl 46 (.tmp 94) (.tmp 93) rfl wb n (.slice (some ⟨g6, 0, none⟩) 0 0) rfl rfl rfl info_sl _ _ (unhide W8).blk (by show n < 4; exact hn4) ?_; intro w9 k9 g9 z9; have hP := want_put (T1 := tx (rmv 5 n 0 L1)) (unhide O8) (unhide W8) (Chg.refl _ _) (v := .slice (some ⟨g6, 0, none⟩) 0 0) (t := (tx L1 n).eraseIdx 0) (by rw [unhide HT1]; exact reads_tail0 (unhide HZ)) (fun i hi => (unhide W8).own n hn4 i (by rw [unhide HN1]; exact hi)) k9 g9 hn4 hwb tx_rmv (fun k hk => tx_rmv_other hk); have O9 := hide hP.1; have W9 := hide hP.2; have c2 := (unhide O9).chg.cell hc2 id; clear hP k9 g9 z9 cN))
              have REL9 := hide (show OnceAt w l.length (.pointer (some ⟨b0, 0, none⟩)) wb (.int .i64 ((k : Int) + 1)) w9 from ⟨k + 1, S8, _, _, by omega, by go_num, unhide O9, unhide W9, mails_rmv (unhide HM1) _ _ _, by have := unhide HLE1; have := rmv_len 5 (n : Int) L1 0; omega, hwb⟩)
              go_roundw
              case rel => exact unhide REL9
              case measure => simp [intOf]; omega
            · go_wp2_with (first
                | (go_at_call 12; (with_reducible refine (unhide HDR).mono ?_); rintro e w8 ⟨rfl, k8, S8, g8, l8⟩; have O8 := hide ((unhide O7).step k8 g8 l8); have W8 := hide ((unhide W7).step k8 g8); have cN := (unhide W8).cell hn4; rw [unhide HN1] at cN; clear k8 g8 l8)
                | ((with_reducible show wpList _ _ _ (⟨none, _, _, _, _, none⟩ :: _) _ _); refine wpL_set rfl 46 (.tmp 94) (.tmp 93) rfl wb n (.slice (some ⟨g6, 1, none⟩) T.length (cap6 - 1)) rfl rfl rfl info_sl _ _ (unhide W8).blk (by show n < 4; exact hn4) ?_; intro w9 k9 g9 z9; have hP := want_put (T1 := tx (rmv 5 n 0 L1)) (unhide O8) (unhide W8) (Chg.refl _ _) (v := .slice (some ⟨g6, 1, none⟩) T.length (cap6 - 1)) (t := (tx L1 n).eraseIdx 0) (by rw [unhide HT1]; exact reads_tail (by have := (unhide W8).row n hn4; rw [unhide HN1, unhide HT1] at this; exact this) (unhide HLT)) (fun i hi => (unhide W8).own n hn4 i (by rw [unhide HN1]; exact hi)) k9 g9 hn4 hwb tx_rmv (fun k hk => tx_rmv_other hk); have O9 := hide hP.1; have W9 := hide hP.2; have c2 := (unhide O9).chg.cell hc2 id; clear hP k9 g9 z9 cN))
              have REL9 := hide (show OnceAt w l.length (.pointer (some ⟨b0, 0, none⟩)) wb (.int .i64 ((k : Int) + 1)) w9 from ⟨k + 1, S8, _, _, by omega, by go_num, unhide O9, unhide W9, mails_rmv (unhide HM1) _ _ _, by have := unhide HLE1; have := rmv_len 5 (n : Int) L1 0; omega, hwb⟩)
              go_roundw
              case rel => exact unhide REL9
              case measure => simp [intOf]; omega
          · have s0 : ((r : Int) == 0) = false := beq_eq_false_iff_ne.2 (by omega)
            by_cases r1 : r = 1
            · subst r1
              have hr : (y : Int) % 4 = 1 := by simpa using hr
              clear s0
              by_cases hlow2 : T.length + 1 < 64
              · have d5 : (T.length : Int) + 1 < 64 := by omega
                obtain ⟨t0, rest, hT1⟩ : ∃ t0 rest, T1 = t0 :: rest := by
                  cases T1 with
                  | nil => have := unhide HLT; simp at this
                  | cons a b => exact ⟨a, b, rfl⟩
                have hx1 : tx L1 n = t0 :: rest := (unhide HT1).trans hT1
                have ht0 := fit_head (unhide O7).lk.fit hx1
                have hlow3 : (tx L1 n).length < 64 := by rw [unhide HT1, unhide HLT]; omega
                have HDB := hide (show Calls Try.prog 13 #[.pointer (some ⟨b0, 0, none⟩), .int .i64 5, .int .i64 (n : Int), .int .i64 0] w7 (DoneK S4 (.pointer (some ⟨b0, 0, none⟩)) (.returned (.int .i64 0)) 64 (L1 ++ [⟨5, n, t0⟩]) w7) from by
                  have := lk_double (unhide O7).lk (by have := unhide HLE1; omega) wfI5 (wfIn hn4) 0
                  rw [(dbl5 hn4 hx1 ht0 hlow3).1, (dbl5 hn4 hx1 ht0 hlow3).2] at this
                  exact this)
                have HX1 := hide hx1
                have HT10 := hide (show T1[0]? = some t0 by rw [hT1]; rfl)
                clear hT1 hx1 ht0 hlow3
                go_upto_region 22 with (first
                  | (go_at_call 13; (with_reducible refine (unhide HDB).mono ?_); rintro e w8 ⟨rfl, k8, S8, g8, l8⟩; have O8 := hide ((unhide O7).step k8 g8 l8); have W8 := hide ((unhide W7).step k8 g8); clear k8 g8 l8 cN))
                have HCE := hide (fun w' (c : Chg noBlk w8 w') => (show w'.cell? ⟨wb, n, none⟩ = some (.slice (some ⟨g6, 0, none⟩) (T.length + 1) cap6) ∧ w'.cell? ⟨g6, 0, none⟩ = some (str t0) from by
                  have W' := (unhide W8).no c
                  have c0 := W'.cell hn4
                  rw [unhide HN1] at c0
                  have hrw := W'.row n hn4
                  rw [unhide HN1, unhide HT1] at hrw
                  refine ⟨c0, ?_⟩
                  obtain ⟨ad, cp, e, _, hc⟩ := reads_form hrw
                  obtain ⟨a, ea, hca⟩ := hc 0 t0 (unhide HT10)
                  injection e with e _ _
                  rw [← e] at ea
                  injection ea with ea
                  subst ea
                  rw [Addr.add_mid] at hca
                  exact hca))
                have RD := hide (fun w' (c : Chg noBlk w8 w') => (show Reads w' 1 (.slice (some ⟨g6, 0, none⟩) (T.length + 1) cap6) T1.length (flatC txC T1) from by
                  have hrw := ((unhide W8).no c).row n hn4
                  rw [unhide HN1, unhide HT1] at hrw
                  exact hrw))
                have N1 := hide (show T1.length ≤ maxLen by have := unhide HLT; unfold maxLen; omega)
                have N2 := hide (show T1.length * 16 ≤ 140737488355328 by have := unhide HLT; omega)
                have x8 := (unhide HCE w8.drew (Chg.refl noBlk w8).drew).1
                have y8 := (unhide HCE w8.drew (Chg.refl noBlk w8).drew).2
                have n7 : (0 : Int) < (T.length : Int) + 1 := by omega
                have N3 := hide (show T1.length + 1 ≤ maxLen by have := unhide HLT; unfold maxLen; omega)
                have N4 := hide (show (T1.length + 1) * 16 ≤ 140737488355328 by have := unhide HLT; omega)
                have x8b := (unhide HCE (w8.alloc (.cells #[str t0] 9)) ((Chg.refl noBlk w8).alloc _)).1
                go_region_law (first
                  | (refine step_clone rfl (.tmp 121) 46 (by rfl) 9 (str []) 1 16 Try.underlying46 infx_str rfl (by decide) (.slice (some ⟨g6, 0, none⟩) (T.length + 1) cap6) T1.length (flatC txC T1) (by rfl) (unhide RD _ ((Chg.refl noBlk w8).drew)) (unhide N1) (unhide N2) ?_
                     intro vC wC kC oC fC oneC
                     have KC := hide ((((Chg.refl noBlk w8).drew)).andNo kC)
                     have xC := (unhide HCE wC (unhide KC)).1
                     have yC := (unhide HCE wC (unhide KC)).2
                     have OC := hide oC
                     have FC := hide (show ∀ i, vC.ownBlock = some i → w8.heap.size ≤ i from fun i e => by have := fC i e; rw [this]; exact (((Chg.refl noBlk w8).drew)).size)
                     skip
                     clear kC oC fC)
                  | (refine step_clone rfl (.tmp 121) 46 (by rfl) 9 (str []) 1 16 Try.underlying46 infx_str rfl (by decide) (.slice (some ⟨g6, 0, none⟩) (T.length + 1) cap6) T1.length (flatC txC T1) (by rfl) (unhide RD _ (((Chg.refl noBlk w8).drew).alloc (.cells #[str t0] 9))) (unhide N1) (unhide N2) ?_
                     intro vC wC kC oC fC oneC
                     have KC := hide (((((Chg.refl noBlk w8).drew).alloc (.cells #[str t0] 9))).andNo kC)
                     have xC := (unhide HCE wC (unhide KC)).1
                     have yC := (unhide HCE wC (unhide KC)).2
                     have OC := hide oC
                     have FC := hide (show ∀ i, vC.ownBlock = some i → w8.heap.size ≤ i from fun i e => by have := fC i e; rw [this]; exact ((((Chg.refl noBlk w8).drew).alloc (.cells #[str t0] 9))).size)
                     have BC := hide (show wC.heap[w8.heap.size]? = some (.cells (txC t0).toArray 9 (0, 0)) from kC.at (heap_alloc_new w8.drew _) id)
                     clear kC oC fC)
                  | (refine step_append rfl (.tmp 122) (.tmp 128) 46 (by rfl) 9 (str []) 1 16 Try.underlying46 infx_str rfl (by decide) vC T1.length (flatC txC T1) (by rfl) (owns_kept (unhide OC) ((Chg.refl noBlk wC).alloc _) fun _ _ => id) (.slice (some ⟨wC.heap.size, 0, none⟩) 1 1) 1 [str t0] (by rfl) (reads_new1 (W := wC) (t := 9) (Chg.refl _ _) rfl (txC_one t0)) (unhide N3) (unhide N4) ?_
                     intro vD wD kD oD fD
                     obtain ⟨oD', g9, cap9, e9, le9, mx9⟩ := own_form2 oD
                     subst e9
                     have KD := hide (app_chg2 ((unhide KC).alloc _) (unhide FC) kD)
                     have ND := hide (app_new2 ((unhide KC).alloc _) (unhide FC) fD oD')
                     have RD9 := hide (oD'.reads txC_one)
                     have xD := (unhide HCE wD (unhide KD)).1
                     have zD : wD.frozen? ⟨wb, n, none⟩ = false := freeAt ((unhide W8).no (unhide KD)).blk n
                     clear kD oD fD oD' le9 mx9)
                  | (refine step_append rfl (.tmp 122) (.tmp 128) 46 (by rfl) 9 (str []) 1 16 Try.underlying46 infx_str rfl (by decide) vC T1.length (flatC txC T1) (by rfl) (unhide OC) (.slice (some ⟨w8.heap.size, 0, none⟩) 1 1) 1 [str t0] (by rfl) (reads_at1 (t := 9) (unhide BC) rfl (txC_one t0)) (unhide N3) (unhide N4) ?_
                     intro vD wD kD oD fD
                     obtain ⟨oD', g9, cap9, e9, le9, mx9⟩ := own_form2 oD
                     subst e9
                     have KD := hide (app_chg2 (unhide KC) (unhide FC) kD)
                     have ND := hide (app_new2 (unhide KC) (unhide FC) fD oD')
                     have RD9 := hide (oD'.reads txC_one)
                     have xD := (unhide HCE wD (unhide KD)).1
                     have zD : wD.frozen? ⟨wb, n, none⟩ = false := freeAt ((unhide W8).no (unhide KD)).blk n
                     clear kD oD fD oD' le9 mx9)
                  )
                all_goals
                  have hP := want_put (T1 := tx (L1 ++ [⟨5, n, t0⟩])) (unhide O8) (unhide W8) (unhide KD) (v := .slice (some ⟨g9, 0, none⟩) (T1.length + 1) cap9) (t := T1 ++ [t0]) (unhide RD9) (fun i hi => by
                    have := unhide ND i hi
                    have hlt := (unhide W8).lt
                    exact ⟨fun e => by have := (unhide O8).lk.lt i e; omega, by omega, this.2⟩) (setCell_chg wD wb n _) (setCell_heap _ ((unhide W8).no (unhide KD)).blk) hn4 hwb (by rw [tx_app, unhide HT1]) fun k hk => tx_other hk t0
                  have REL9 := hide (show OnceAt w l.length (.pointer (some ⟨b0, 0, none⟩)) wb (.int .i64 ((k : Int) + 1)) (wD.setCell ⟨wb, n, none⟩ (.slice (some ⟨g9, 0, none⟩) (T1.length + 1) cap9)) from ⟨k + 1, S8, _, _, by omega, by go_num, hP.1, hP.2, mails_app (unhide HM1) hn4 t0, by have := unhide HLE1; simp; omega, hwb⟩)
                  clear hP KD ND RD9 xD zD KC OC FC x8 y8 x8b xC yC
                  generalize wD.setCell ⟨wb, n, none⟩ (.slice (some ⟨g9, 0, none⟩) (T1.length + 1) cap9) = w9 at REL9 ⊢
                  go_wp2
                  go_roundw
                  case rel => exact unhide REL9
                  case measure => simp [intOf]; omega
              · have d5 : ¬ (T.length : Int) + 1 < 64 := by omega
                go_wp2
                go_roundw
                case rel => exact unhide REL7
                case measure => simp [intOf]; omega
            · have s1 : ((r : Int) == 1) = false := beq_eq_false_iff_ne.2 (by omega)
              go_wp2
              go_roundw
              case rel => exact unhide REL7
              case measure => simp [intOf]; omega
        · have d2 : decide (k < l2.length) = false := by simpa using hk2
          go_wp2
          go_roundw
          case rel => exact unhide REL7
          case measure => simp [intOf]; omega
    · obtain rfl : k = l.length := by omega
      have HS4 := hide (sumT_all (unhide HM))
      have HHD := hide (fun n (hn : n < 4) => head_form (unhide HW) hn)
      go_wp2
      go_loop [11, 12] (fun s i => ∃ j : Nat, j ≤ 4 ∧ i = .int .i64 (j : Int) ∧ s = .int .i64 (sumT L j : Int)) (fun s i => 4 - (intOf i).toNat)
      case atStart => exact ⟨0, by omega, rfl, rfl⟩
      case round =>
        obtain ⟨j, hj, rfl, rfl⟩ := hrel
        have hsle := sumT_le (unhide HM) j hj
        by_cases hj4 : j < 4
        · have m1 : (0 : Int) ≤ (j : Int) := by omega
          have m2 : (j : Int) < 4 := by omega
          obtain ⟨aj, cj, ej⟩ := unhide HHD j hj4
          have cN := (unhide HW).cell hj4
          rw [ej] at cN
          have HSS := hide (sumT_succ L j)
          obtain ⟨sj, hsj⟩ : ∃ s, sumT L j = s := ⟨_, rfl⟩
          have hfit := (unhide HO).lk.fit.2 5 j
          obtain ⟨Tj, hTj⟩ : ∃ T, tx L j = T := ⟨_, rfl⟩
          rw [hsj] at hsle HSS ⊢
          rw [hTj] at cN HSS
          have hfit : Tj.length ≤ 64 := by rw [← hTj]; exact hfit
          have m3 : sj ≤ 120 := by omega
          have m4 : Tj.length ≤ 64 := hfit
          clear ej hsj hTj hfit hsle
          go_wp2
          go_round
          case rel => exact ⟨j + 1, by omega, by go_num, by rw [unhide HSS]; go_num⟩
          case measure => simp [intOf]; omega
        · obtain rfl : j = 4 := by omega
          rw [unhide HS4]
          clear hsle
          have HAL := hide (lk_all (unhide HO).lk (by omega))
          have hbe : ((L.length : Int) != (L.length : Int)) = false := by simp
          go_wp2_with (go_at_call 22; (with_reducible refine (unhide HAL).mono ?_); rintro e w3 ⟨rfl, k3⟩; have O3 := hide ((unhide HO).no k3); have W3 := hide ((unhide HW).no k3); clear k3)
          have HB3 := hide (show OutAt w (.pointer (some ⟨b0, 0, none⟩)) wb hv (tx L) (.int .i64 3) w3 from ⟨4, S, L, by omega, rfl, unhide O3, unhide W3, unhide HM, fun m hm => by rw [if_pos hm], i3⟩)
          have i0 := hide i3
          have HFT := hide (fun n : Nat => (show (tx L n).length ≤ 64 from (unhide HO).lk.fit.2 5 (n : Int)))
          clear O3 W3 HO HW HM HLE HS4 HAL i3
          go_loopw [13] (fun i wq => OutAt w (.pointer (some ⟨b0, 0, none⟩)) wb hv (tx L) i wq) (fun i wq => (intOf i + 1).toNat)
          case atStart => exact unhide HB3
          case round =>
            clear HB3
            obtain ⟨j, S2, L2, hj, rfl, ho, hw, hm, htx, i4⟩ := hrel
            have HO := hide ho
            have HW := hide hw
            have HM := hide hm
            have HTX := hide htx
            clear ho hw hm htx
            rcases j with _ | n
            · have hL2 : L2 = [] := mails_none (unhide HM) fun m hm => by rw [unhide HTX m hm, if_neg (by omega)]
              subst hL2
              have HAL := hide (show Calls Try.prog 22 #[.pointer (some ⟨b0, 0, none⟩)] wr (ToldN (.int .i64 0) wr) from lk_all (unhide HO).lk (by simp))
              have HPR := hide (fun w' (c : Chg noBlk wr w') => (show Calls Try.prog 19 #[.pointer (some ⟨b0, 0, none⟩)] w' (fun e w'' => ∃ ad cp, e = .returned (.slice ad 0 cp) ∧ Chg noBlk w' w'') from (lk_pairs ((unhide HO).lk.no c) (by simp)).mono fun e w'' ⟨ps, hps, v, he, k, o, _⟩ => by
                have hl : ps.length = 0 := by have := hps.few; simpa using this
                obtain ⟨ad, cp, ev, _⟩ := o.form encP_len
                rw [hl] at ev
                subst ev
                exact ⟨ad, cp, he, k⟩))
              go_wp2_with (first
                | (go_at_call 22; (with_reducible refine (unhide HAL).mono ?_); rintro e w4 ⟨rfl, k4⟩)
                | (go_at_call 19; (with_reducible refine (unhide HPR _ k4).mono ?_); rintro e w5 ⟨adp, cpp, rfl, k5⟩)
                | (go_at_call 7; (with_reducible refine (mailed_any _).mono ?_); rintro e w6 ⟨rfl, k6⟩))
              go_ret
              exact ⟨rfl, (((unhide HO).chg.andNo k4).andNo k5).andNo k6⟩
            · have e1 : ((n + 1 : Nat) : Int) - 1 = (n : Int) := by omega
              rw [e1]
              have hn4 : n < 4 := by omega
              have m1 : (0 : Int) ≤ (n : Int) := by omega
              have m2 : (n : Int) < 4 := by omega
              have E1 := hide e1
              clear e1
              have HB4 := hide (show InAt w (.pointer (some ⟨b0, 0, none⟩)) wb hv (tx L) n (.int .i64 0) wr from ⟨0, S2, L2, by omega, rfl, unhide HO, unhide HW, unhide HM, fun m hm hne => by rw [unhide HTX m hm]; by_cases h : m < n; rw [if_pos h, if_pos (by omega)]; rw [if_neg h, if_neg (by omega)], by rw [unhide HTX n hn4, if_pos (by omega)]; rfl, i4⟩)
              obtain ⟨an, cn, en⟩ := unhide HHD n hn4
              have HEN := hide en
              clear HO HW HM HTX en
              go_wp2
              go_loopw [14] (fun i wq => InAt w (.pointer (some ⟨b0, 0, none⟩)) wb hv (tx L) n i wq) (fun i wq => (tx L n).length - (intOf i).toNat)
              case atStart => exact unhide HB4
              case round =>
                clear HB4
                obtain ⟨q, S3, L3, hq, rfl, ho, hw, hm, htx, htn, i5⟩ := hrel
                have HO := hide ho
                have HW := hide hw
                have HM := hide hm
                have HTX := hide htx
                have HTN := hide htn
                have cN := hw.cell hn4
                rw [unhide HEN] at cN
                clear ho hw hm htx htn
                by_cases hqlt : q < (tx L n).length
                · obtain ⟨t, ht⟩ : ∃ t, (tx L n)[q]? = some t := ⟨_, List.getElem?_eq_getElem hqlt⟩
                  have hdr : tx L3 n = t :: (tx L n).drop (q + 1) := (unhide HTN).trans (by
                    rw [List.drop_eq_getElem_cons hqlt]
                    rw [List.getElem?_eq_getElem hqlt] at ht
                    injection ht with ht
                    rw [ht])
                  have hdr1 : tx L3 n ≠ [] := by rw [hdr]; simp
                  have HDV := hide (show Calls Try.prog 10 #[.pointer (some ⟨b0, 0, none⟩), .int .i64 5, .int .i64 (n : Int), .int .i64 0] wr (DoneK S3 (.pointer (some ⟨b0, 0, none⟩)) (.returned (.tuple #[.agg (⟨5, n, t⟩ : ML).cells.toArray, .int .i64 0])) 64 (rmv 5 n 0 L3) wr) from by
                    have := lk_deliver (unhide HO).lk (by omega) wfI5 (wfIn hn4) 0
                    rw [find5 hdr, (drop5 hdr1).1, (drop5 hdr1).2] at this
                    exact this)
                  obtain ⟨g, off, rfl, hel⟩ := want_el (unhide HW) hn4 (unhide HEN) ht
                  have HEL := hide hel
                  have HDR := hide (show tx (rmv 5 n 0 L3) n = (tx L n).drop (q + 1) from tx_rmv.trans (by rw [hdr]; rfl))
                  have n1 : (0 : Int) ≤ (q : Int) := by omega
                  have n2 : (q : Int) < ((tx L n).length : Int) := by omega
                  have n3 : (q : Int) ≤ 64 := by have := unhide HFT n; omega
                  have EQ := eq_mail5 n t
                  clear ht hdr hdr1 hel
                  go_upto_region 37 with (first
                    | (go_at_call 10; (with_reducible refine (unhide HDV).mono ?_); rintro e w4 ⟨rfl, k4, S4, g4, l4⟩; have O4 := hide ((unhide HO).step k4 g4 l4); have W4 := hide ((unhide HW).step k4 g4); clear k4 g4 l4 cN)
                    | ((with_reducible show wpList _ _ _ (_ :: _) _ _); first
                      | (refine wpL_alloc rfl 33 rfl _ zero_mail ?_; intro qb w5 e5 k5 g5 z5; have eq0 : w4.heap.size ≤ qb := Nat.le_of_eq e5; clear e5 z5)
                      | (refine wpL_store rfl 33 (.tmp 15) (.tmp 161) rfl qb (⟨5, n, t⟩ : ML).cells.toArray rfl rfl _ _ g5 info_mail rfl (all_oneCell_toArray (ML.one _)) ?_; intro w6 k6 g6 z6; have K6 := hide (k5.past k6 eq0))))
                  have O6 := hide ((unhide O4).no (unhide K6))
                  have W6 := hide ((unhide W4).no (unhide K6))
                  have cN := (unhide W6).cell hn4
                  rw [unhide HEN] at cN
                  have p0 : w6.cell? ⟨qb, 0, none⟩ = some (.int .i64 5) := cellAt g6 0 _ rfl
                  have p1 : w6.cell? ⟨qb, 1, none⟩ = some (.int .i64 (n : Int)) := cellAt g6 1 _ rfl
                  have p2 : w6.cell? ⟨qb, 2, none⟩ = some (str t) := cellAt g6 2 _ rfl
                  have ce := unhide HEL _ _ (unhide W6)
                  clear O4 W4 k5 g5 k6 g6 z6 K6 HEL
                  go_quiet (fail)
                  clear cN p0 p1 p2 ce
                  have IN := hide (fun w' (c : Chg noBlk w6 w') => (show InAt w (.pointer (some ⟨b0, 0, none⟩)) wb hv (tx L) n (.int .i64 ((q : Int) + 1)) w' from ⟨q + 1, S4, rmv 5 n 0 L3, by omega, by go_num, (unhide O6).no c, (unhide W6).no c, mails_rmv (unhide HM) _ _ _, fun m hm hne => (tx_rmv_other hne).trans (unhide HTX m hm hne), unhide HDR, by have := rmv_len 5 (n : Int) L3 0; omega⟩))
                  go_wp2
                  go_roundw
                  case rel => exact unhide IN _ ((Chg.refl _ _).drewN _)
                  case measure => simp [intOf]; omega
                · have hqe : q = (tx L n).length := by omega
                  have h0 : tx L3 n = [] := (unhide HTN).trans (by rw [hqe]; exact List.drop_length)
                  have HC := hide (show Calls Try.prog 20 #[.pointer (some ⟨b0, 0, none⟩), .int .i64 5, .int .i64 (n : Int)] wr (Told (.int .i64 0) wr) from by
                    have := lk_count (unhide HO).lk wfI5 (wfIn hn4)
                    have e : sel L3 5 n = [] := h0
                    rw [e] at this
                    exact this)
                  have OT := hide (fun w' (c : Chg noBlk wr w') => (show OutAt w (.pointer (some ⟨b0, 0, none⟩)) wb hv (tx L) (.int .i64 ((n : Int) - 1)) w' from ⟨n, S3, L3, by omega, rfl, (unhide HO).no c, (unhide HW).no c, unhide HM, fun m hm => by
                    by_cases e : m = n
                    · subst e
                      rw [if_neg (by omega)]
                      exact h0
                    · exact unhide HTX m hm e, i5⟩))
                  have n2 : ¬ (q : Int) < ((tx L n).length : Int) := by omega
                  clear h0
                  go_wp2_with (go_at_call 20; (with_reducible refine (unhide HC).mono ?_); rintro e w4 ⟨rfl, rfl⟩)
                  have OT4 := hide (unhide OT _ (Chg.refl _ _))
                  go_roundw
                  case rel => exact unhide OT4
                  case measure => simp [intOf]
end Go.Proofs.Ytngldlfobdiipaa.Lk
