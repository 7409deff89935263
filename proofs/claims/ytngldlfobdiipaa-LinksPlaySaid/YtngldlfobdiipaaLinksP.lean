/-
  Links: All: the map gone through.
-/
import Derived.Test.YtngldlfobdiipaaLinksK
import Derived.Laws.IdiomRangeMap
import Derived.Deep.LoopGhost
namespace Go.Proofs.Ytngldlfobdiipaa.Lk
open Go.ChangeShapes Go.WideShapes Go.ChangeAt Go.RowKit
set_option linter.unusedVariables false
attribute [local go_sem] bs_size bs_app bs_cut bs_tl bs_at
/-- these pairs have come, each once -/
structure Seen (D : DataW Value) (left : Lit → Bool) (ps : List (Int × Int)) : Prop where
  one : ps.Nodup
  wf : ∀ p ∈ ps, wfI p.1 ∧ wfI p.2
  mem : ∀ a b, wfI a → wfI b → ((a, b) ∈ ps ↔ (Maps.has D (kl a b) = true ∧ left (kl a b) = false))
theorem Seen.start (D : DataW Value) : Seen D (Maps.has D) [] := ⟨List.nodup_nil, by simp, fun a b _ _ => by cases Maps.has D (kl a b) <;> simp⟩
theorem Seen.step {D : DataW Value} {left : Lit → Bool} {ps : List (Int × Int)} (h : Seen D left ps) {a b : Int} (ha : wfI a) (hb : wfI b) {y : DataW Value} (hlk : left (kl a b) = true) (hat : ∀ zd, D.atKey (kl a b) zd = y) : Seen D (fun z => left z && !z.sameKey (kl a b)) (ps ++ [(a, b)]) := by
  have hhas : Maps.has D (kl a b) = true := Maps.has_true_of_atKey hat
  have hnew : (a, b) ∉ ps := fun hx => by have := ((h.mem a b ha hb).1 hx).2; rw [hlk] at this; cases this
  refine ⟨List.nodup_append.2 ⟨h.one, by simp, fun x hx y hy => by simp at hy; subst hy; exact fun e => hnew (e ▸ hx)⟩, fun p hp => ?_, fun c d hc hd => ?_⟩
  · rcases List.mem_append.1 hp with hp | hp
    · exact h.wf p hp
    · obtain rfl := List.mem_singleton.1 hp
      exact ⟨ha, hb⟩
  · by_cases e : c = a ∧ d = b
    · obtain ⟨rfl, rfl⟩ := e
      have : (kl c d).sameKey (kl c d) = true := WideAt.sameKey_self (kl_key hc hd)
      simp [hhas, this]
    · have hne : kl c d ≠ kl a b := fun e' => e (kl_inj hc hd ha hb e')
      have hn2 : (c, d) ≠ (a, b) := fun e' => e ⟨congrArg Prod.fst e', congrArg Prod.snd e'⟩
      rw [List.mem_append, h.mem c d hc hd]
      simp [hn2, Maps.sameKey_ne hne]
theorem Seen.all {D : DataW Value} {left : Lit → Bool} {ps : List (Int × Int)} {F : Hd} {L : List ML} (h : Seen D left ps) (hs : Says D F L) (hl : ∀ k, left k = false) {a b : Int} (ha : wfI a) (hb : wfI b) : (a, b) ∈ ps ↔ sel L a b ≠ [] := by
  rw [h.mem a b ha hb, hl, hs.has a b ha hb]
  cases sel L a b <;> simp
theorem fit_wf {cap : Nat} {L : List ML} (h : Fit cap L) {m : ML} (hm : m ∈ L) : wfI m.fr ∧ wfI m.to := by
  obtain ⟨h1, h2, _⟩ := h.1 m hm
  exact ⟨wfI_A h1, wfI_A h2⟩
theorem Seen.sum {D : DataW Value} {left : Lit → Bool} {ps : List (Int × Int)} {F : Hd} {L : List ML} {cap : Nat} (h : Seen D left ps) (hs : Says D F L) (hl : ∀ k, left k = false) (hf : Fit cap L) : (ps.map fun p => (sel L p.1 p.2).length).sum = L.length :=
  sum_all h.one fun m hm => (h.all hs hl (fit_wf hf hm).1 (fit_wf hf hm).2).2 (sel_ne hm)
theorem sum_le (L : List ML) {ps : List (Int × Int)} (h : ps.Nodup) : (ps.map fun p => (sel L p.1 p.2).length).sum ≤ L.length := by
  rw [sum_sel L ps h]
  exact List.length_filter_le _ _
theorem grown_no {w w' : World} (k : Chg noBlk w w') (b : Option Nat) : w.grownBy w' b := ⟨k.os, k.tape, k.output, k.size, fun i hi _ => k.block i hi id⟩
theorem chg_iter {w wr w1 : World} {r : Nat} (k : Chg noBlk w wr) (g : wr.grownBy w1 (some r)) (hr : w.heap.size ≤ r) : Chg noBlk w w1 :=
  k.trans (Chg.grown wr g) fun i hi e => by have e : i = r := Option.some.inj e; omega
/-- the entry that has come -/
theorem came {D : DataW Value} {F : Hd} {L : List ML} (hs : Says D F L) {x y : Int} (hx : wfI x) (hy : wfI y) {ad : Option Addr} {n c : Nat} {yd : DataW Value} {yp : List MemPlace} (hv : hdR (.slice ad n c) = some (yd, yp)) (hat : ∀ zd, D.atKey (kl x y) zd = yd) : F x y = .slice ad n c := by
  have e := hs.at_ x y hx hy
  rw [hat] at e
  rw [hdR_mk] at hv
  simp only [Option.some.injEq, Prod.mk.injEq] at hv
  rw [← hv.1] at e
  simp only [DataW.held.injEq] at e
  exact e.symm
theorem own_len {w : World} {ad : Option Addr} {n c : Nat} {T : List (List UInt8)} (h : OwnT w (.slice ad n c) T) : n = T.length := by
  obtain ⟨ad', c', e⟩ := own_form h
  injection e
section
variable {w w' : World} {b m cap : Nat} {L : List ML} {F : Hd} {S : Nat → Prop}
set_option maxRecDepth 100000 in
set_option maxHeartbeats 1000000 in
theorem all_at (h : LkAt w b m cap L F) (hf : L.length ≤ 1000) : Calls Try.prog 22 #[.pointer (some ⟨b, 0, none⟩)] w (ToldN (.int .i64 (L.length : Int)) w) := by
  obtain ⟨D, h1, h2⟩ := h.m.own
  have H1 := hide h1
  have H2 := hide h2
  have HS := hide h
  have HF := hide hf
  have hin := hide (isnone_at h)
  have c1 := h.c1
  clear h h1 h2 hf
  go_enter Try.func22, Try.ntmps22
  go_wp2_with (first
    | (go_at_call 26; (with_reducible refine (unhide hin).mono ?_); rintro e w2 ⟨rfl, rfl⟩)
    | ((with_reducible show wpList _ _ _ (_ :: _) _ _); at_range; refine wpList_range_own _ rfl _ 49 rfl 61 46 keyed Try.underlying49 hdR m (Maps.size D) D rfl (unhide H1) ?_; intro w0 hrg0 hg0 hs0))
  go_frame
  have K0 := hide ((Chg.grown w hg0).mono (T := noBlk) fun i _ e => by cases e)
  have HR0 := hide hrg0
  clear hrg0 hg0 hs0 c1 hin
  go_loopw [3] (fun s wr => ∃ (left : Lit → Bool) (cnt : Nat) (ps : List (Int × Int)), wr.ranges Try.prog 61 hdR m w.heap.size (Maps.size D) D left cnt ∧ Seen D left ps ∧ s = .int .i64 (((ps.map fun p => (sel L p.1 p.2).length).sum : Nat) : Int) ∧ Chg noBlk w wr)
    (fun s wr => wr.rangeLeft m w.heap.size)
  case atStart => exact ⟨_, _, [], unhide HR0, Seen.start D, rfl, unhide K0⟩
  case round =>
    obtain ⟨left, cnt, ps, hrg, hse, rfl, kw⟩ := hrel
    have KW := hide kw
    have SE := hide hse
    have hle := sum_le L hse.one
    have hF := unhide HF
    obtain ⟨s, hs⟩ : ∃ s, (ps.map fun p => (sel L p.1 p.2).length).sum = s := ⟨_, rfl⟩
    rw [hs] at hle ⊢
    have HSU := hide hs
    have i1 : s ≤ 1000 := by omega
    clear HR0 K0 kw hse hs hle hF
    go_wp2_with ((with_reducible show wpList _ _ _ (_ :: _) _ _); at_next; refine wpList_next_ranges _ rfl _ rfl 61 keyed hdR (fun p : Int × Int => pr p.1 p.2) (fun v : Option Addr × Nat × Nat => .slice v.1 v.2.1 v.2.2) (fun key kl hk => by obtain ⟨a, b, hx, _⟩ := key_inv hk; exact ⟨(a, b), hx⟩) (fun v y hv => by obtain ⟨p, n, c, rfl, _⟩ := hdR_inv hv; exact ⟨(p, n, c), rfl⟩) m w.heap.size (Maps.size D) _ _ _ rfl hrg ?_ ?_)
    · intro _ hl
      have HE := hide ((unhide SE).sum (unhide H2) hl (unhide HS).fit)
      have HSU' := unhide HSU
      rw [unhide HE] at HSU'
      subst HSU'
      clear HSU hl
      go_wp2
      go_ret
      exact ⟨rfl, unhide KW⟩
    · intro xa xb ad n c kl' yd yp w1 cnt1 hkey hlx hv hat hrg1 hlt hg1 hs1 hen
      obtain ⟨xa', xb', ex, hxa, hxb, rfl⟩ := key_inv hkey
      unfold pr at ex
      simp only [Value.agg.injEq, Array.mk.injEq, List.cons.injEq, Value.int.injEq, true_and, and_true] at ex
      obtain ⟨rfl, rfl⟩ := ex
      have hc := came (unhide H2) hxa hxb hv hat
      have hrow := (unhide HS).m.rows.row xa xb
      rw [hc] at hrow
      have hn := own_len hrow
      have hsl := sel_len L xa xb
      have hF := unhide HF
      have KW1 := hide (chg_iter (unhide KW) hg1 (Nat.le_refl _))
      have HR1 := hide hrg1
      have HLT := hide hlt
      have SE1 := hide ((unhide SE).step hxa hxb hlx hat)
      have OLD := hide hrg.left_eq
      have HN := hide hn
      have i2 : n ≤ 1000 := by omega
      clear hkey hlx hv hat hrg1 hlt hg1 hs1 hxa hxb hrg KW hc hrow hn hsl hF
      go_wp2
      go_roundw
      case rel => exact ⟨_, cnt1, ps ++ [(xa, xb)], unhide HR1, unhide SE1, by rw [List.map_append, List.sum_append, unhide HSU]; simp [← unhide HN], unhide KW1⟩
      case measure => rw [(unhide HR1).left_eq, unhide OLD]; exact unhide HLT
end
theorem lk_all {w : World} {S : Nat → Prop} {p : Value} {cap : Nat} {L : List ML} (h : IsLk w S p cap L) (hf : L.length ≤ 1000) : Calls Try.prog 22 #[p] w (ToldN (.int .i64 (L.length : Int)) w) := by
  obtain ⟨h0, b, m, F, rfl, hl, hb, hm, hF⟩ := h
  exact all_at hl hf
end Go.Proofs.Ytngldlfobdiipaa.Lk
