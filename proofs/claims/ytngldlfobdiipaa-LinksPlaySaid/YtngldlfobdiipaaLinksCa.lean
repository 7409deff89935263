/-
  Links: Copy.
-/
import Derived.Test.YtngldlfobdiipaaLinksP
import Derived.Deep.RegionHeld3
import Derived.Deep.DeepCutAuto
namespace Go.Proofs.Ytngldlfobdiipaa.Lk
open Go.ChangeShapes Go.WideShapes Go.ChangeAt Go.RowKit
set_option linter.unusedVariables false
attribute [local go_sem] bs_size bs_app bs_cut bs_tl bs_at
attribute [local go_sem ↓] Go.wp_at_zero Go.wp_at_succ
/-- what of L is of those pairs -/
def part (L : List ML) (ps : List (Int × Int)) : List ML := L.filter fun m => ps.contains (m.fr, m.to)
theorem part_nil (L : List ML) : part L [] = [] := by unfold part; simp
theorem part_sel (L : List ML) (ps : List (Int × Int)) (a b : Int) : sel (part L ps) a b = if (a, b) ∈ ps then sel L a b else [] := by
  induction L with
  | nil => unfold part; simp [sel_nil]
  | cons m r ih =>
    have key : part (m :: r) ps = if ps.contains (m.fr, m.to) = true then m :: part r ps else part r ps := by
      unfold part
      rw [List.filter_cons]
    rw [key]
    cases hp : isP a b m
    · rw [sel_cons_miss r hp]
      split
      · rw [sel_cons_miss _ hp, ih]
      · exact ih
    · obtain ⟨e1, e2⟩ := isP_yes.1 hp
      subst e1
      subst e2
      rw [sel_cons_hit r hp]
      by_cases hc : (m.fr, m.to) ∈ ps
      · rw [if_pos (by simpa using hc), sel_cons_hit _ hp, ih, if_pos hc, if_pos hc]
      · rw [if_neg (by simpa using hc), ih, if_neg hc, if_neg hc]
theorem part_all {L : List ML} {ps : List (Int × Int)} (h : ∀ m ∈ L, (m.fr, m.to) ∈ ps) : part L ps = L := by
  unfold part
  rw [List.filter_eq_self]
  intro m hm
  simpa using h m hm
theorem part_len (L : List ML) (ps : List (Int × Int)) : (part L ps).length ≤ L.length := List.length_filter_le _ _
theorem part_new {L : List ML} {ps : List (Int × Int)} (a b : Int) : sel (part L (ps ++ [(a, b)])) a b = sel L a b := by rw [part_sel, if_pos (by simp)]
theorem part_old {L : List ML} {ps : List (Int × Int)} {a b c d : Int} (h : ¬ (c = a ∧ d = b)) : sel (part L (ps ++ [(a, b)])) c d = sel (part L ps) c d := by
  rw [part_sel, part_sel]
  have : ((c, d) ∈ ps ++ [(a, b)]) ↔ (c, d) ∈ ps := by
    rw [List.mem_append, List.mem_singleton]
    exact ⟨fun e => e.elim id fun e => absurd ⟨congrArg Prod.fst e, congrArg Prod.snd e⟩ h, .inl⟩
  by_cases e : (c, d) ∈ ps
  · rw [if_pos e, if_pos (this.2 e)]
  · rw [if_neg e, if_neg fun e' => e (this.1 e')]
theorem ranges_kept {w w' : World} {P : Program} {k : TypeId} {R : Value → Option (DataW Value × List MemPlace)} {b r n cnt : Nat} {D : DataW Value} {left : Lit → Bool} {S : Nat → Prop} (h : w.ranges P k R b r n D left cnt) (c : Chg S w w') (hb : ¬ S b) (hr : ¬ S r) : w'.ranges P k R b r n D left cnt := by
  have h1 := h.owns.lt
  have h2 := h.lt
  obtain ⟨es, clock, since, seen, c0, hb', F, hs, hD, hr', rest⟩ := h
  exact ⟨es, clock, since, seen, c0, (c.block b h1 hb).trans hb', F, hs, hD, (c.block r h2 hr).trans hr', rest⟩
/-- the other one so far: at b2, with a map at m2 -/
structure CpAt (w0 w : World) (b2 m2 cap : Nat) (M : List ML) (F : Hd) : Prop where
  blk : w.heap[b2]? = some (.cells #[.int .i64 (cap : Int), .map (some m2)] 51 (0, 0))
  m : MapAt w m2 M F
  new : ∀ a b g, (F a b).ownBlock = some g → w0.heap.size ≤ g
  nb : w0.heap.size ≤ b2
  nm : w0.heap.size ≤ m2
section
variable {w0 w w' : World} {b2 m2 cap : Nat} {M N : List ML} {F : Hd} {S : Nat → Prop}
theorem CpAt.no (h : CpAt w0 w b2 m2 cap M F) (k : Chg noBlk w w') : CpAt w0 w' b2 m2 cap M F := ⟨k.at h.blk id, h.m.no k, h.new, h.nb, h.nm⟩
theorem CpAt.past (h : CpAt w0 w b2 m2 cap M F) {q : Nat} (k : Chg (oneBlk q) w w') (hq : q ≠ b2) (hq2 : q ≠ m2) (hq3 : ∀ a b g, (F a b).ownBlock = some g → g ≠ q) : CpAt w0 w' b2 m2 cap M F :=
  ⟨k.at h.blk fun e => hq (Eq.symm e), h.m.kept k (fun e => hq2 (Eq.symm e)) fun a b g hg e => hq3 a b g hg e, h.new, h.nb, h.nm⟩
theorem CpAt.ne (h : CpAt w0 w b2 m2 cap M F) : b2 ≠ m2 := fun e => by
  obtain ⟨es, clock, h1⟩ := h.m.block
  have := h.blk
  rw [e, h1] at this
  cases this
/-- one pair more -/
theorem CpAt.put (h : CpAt w0 w b2 m2 cap M F) {w2 w3 : World} {a b : Int} {p : Option Addr} {n c : Nat} (k2 : Chg noBlk w w2) (ho : OwnT w2 (.slice p n c) (sel N a b)) (hn : ∀ g, (Value.slice p n c).ownBlock = some g → w.heap.size ≤ g) (h0 : w0.heap.size ≤ w.heap.size) (k3 : Chg (oneBlk m2) w2 w3)
    (hD : ∃ D, w3.ownsMap Try.prog 61 hdR m2 (Maps.size D) D ∧ Says D (fset F a b (.slice p n c)) N) (hs : ∀ c d, ¬ (c = a ∧ d = b) → sel N c d = sel M c d) : CpAt w0 w3 b2 m2 cap N (fset F a b (.slice p n c)) := by
  have hr : RowsF w2 (fset F a b (.slice p n c)) N := h.m.rows.set (k2.no _) ho (fun g hg => .inr (hn g hg)) hs
  have hm := h.m.lt
  have hne : ∀ x y g, (fset F a b (.slice p n c) x y).ownBlock = some g → ¬ g = m2 := fun x y g hg e => by
    by_cases e2 : x = a ∧ y = b
    · obtain ⟨rfl, rfl⟩ := e2
      rw [fset_same] at hg
      have := hn g hg
      omega
    · rw [fset_other F _ e2] at hg
      exact h.m.ne hg e
  refine ⟨k3.at (k2.at h.blk id) h.ne, ⟨hD, hr.kept k3 fun x y g hg e => hne x y g hg e⟩, fun x y g hg => ?_, h.nb, h.nm⟩
  by_cases e2 : x = a ∧ y = b
  · obtain ⟨rfl, rfl⟩ := e2
    rw [fset_same] at hg
    have := hn g hg
    omega
  · rw [fset_other F _ e2] at hg
    exact h.new x y g hg
end
theorem ranges_iter {w : World} {P : Program} {k : TypeId} {R : Value → Option (DataW Value × List MemPlace)} {b r n cnt : Nat} {D : DataW Value} {left : Lit → Bool} (h : w.ranges P k R b r n D left cnt) : ∃ x1 x2 x3 x4, w.heap[r]? = some (.mapIter x1 x2 x3 x4) := by
  obtain ⟨es, clock, since, seen, c0, _, _, _, _, hr, _⟩ := h
  exact ⟨_, _, _, _, hr⟩
theorem CpAt.iter {w0 w w' : World} {b2 m2 cap r m n cnt : Nat} {M : List ML} {F : Hd} {k : TypeId} {R : Value → Option (DataW Value × List MemPlace)} {D : DataW Value} {left : Lit → Bool} (h : CpAt w0 w b2 m2 cap M F) (hr : w.ranges Try.prog k R m r n D left cnt) (g : w.grownBy w' (some r)) : CpAt w0 w' b2 m2 cap M F := by
  obtain ⟨x1, x2, x3, x4, hb⟩ := ranges_iter hr
  have K : Chg (oneBlk r) w w' := (Chg.grown w g).mono fun i _ e => (by have e : i = r := Option.some.inj e; exact e)
  refine h.past K (fun e => ?_) (fun e => ?_) fun a b g hg e => ?_
  · have := h.blk
    rw [← e, hb] at this
    cases this
  · obtain ⟨es, clock, h1⟩ := h.m.block
    rw [← e, hb] at h1
    cases h1
  · obtain ⟨cur, h1⟩ := (h.m.rows.row a b).block hg
    rw [e, hb] at h1
    cases h1
/-- told: other links that have L -/
def MadeC (cap : Nat) (L : List ML) (w : World) (e : Ending) (w' : World) : Prop := ∃ b S, e = .returned (.pointer (some ⟨b, 0, none⟩)) ∧ (∀ k, S k → w.heap.size ≤ k) ∧ IsLk w' S (.pointer (some ⟨b, 0, none⟩)) cap L ∧ Chg noBlk w w'
theorem CpAt.neq {w0 w : World} {b2 m2 cap p : Nat} {M : List ML} {F : Hd} (h : CpAt w0 w b2 m2 cap M F) {x : Array Value} {t : TypeId} {f : Nat × Nat} (g : w.heap[p]? = some (.cells x t f)) : p ≠ m2 := fun e => by
  obtain ⟨es, clock, h1⟩ := h.m.block
  rw [← e, g] at h1
  cases h1
theorem cp_keep {w0 w5 w' : World} {b2 m2 p cap : Nat} {M : List ML} {F : Hd} {xa xb : Int} (h : CpAt w0 w5 b2 m2 cap M F) (hp : w5.heap[p]? = some (.cells #[.int .i64 xa, .int .i64 xb] 61 (0, 0))) (k : Chg (oneBlk m2) w5 w') :
    Chg (oneBlk m2) w5 w' ∧ w'.cell? ⟨b2, 1, none⟩ = some (.map (some m2)) ∧ w'.cell? ⟨p, 0, none⟩ = some (.int .i64 xa) ∧ w'.cell? ⟨p, 1, none⟩ = some (.int .i64 xb) :=
  ⟨k, cellAt (k.at h.blk h.ne) 1 _ rfl, cellAt (k.at hp (h.neq hp)) 0 _ rfl, cellAt (k.at hp (h.neq hp)) 1 _ rfl⟩
theorem CpAt.apart {w0 w : World} {b2 m2 cap r m n cnt : Nat} {M : List ML} {F : Hd} {k : TypeId} {R : Value → Option (DataW Value × List MemPlace)} {D : DataW Value} {left : Lit → Bool} (h : CpAt w0 w b2 m2 cap M F) (hr : w.ranges Try.prog k R m r n D left cnt) : ¬ oneBlk m2 r := fun e => by
  have e : r = m2 := e
  obtain ⟨x1, x2, x3, x4, hb⟩ := ranges_iter hr
  obtain ⟨es, clock, h1⟩ := h.m.block
  rw [← e, hb] at h1
  cases h1
section
variable {w w' : World} {b m cap : Nat} {L : List ML} {F : Hd} {S : Nat → Prop}
set_option maxRecDepth 100000 in
set_option maxHeartbeats 4000000 in
theorem copy_at (h : LkAt w b m cap L F) (hf : L.length ≤ 1000) : Calls Try.prog 15 #[.pointer (some ⟨b, 0, none⟩)] w (MadeC cap L w) := by
  obtain ⟨D, h1, h2⟩ := h.m.own
  have hmm := @run_makeMap Try.prog
  have H1 := hide h1
  have H2 := hide h2
  have HF := hide hf
  have HS := hide h
  have hin := hide (isnone_at h)
  have c0 := h.c0
  clear h1 h2 hf h
  go_enter Try.func15, Try.ntmps15
  go_upto_region 4 with (go_at_call 26; (with_reducible refine (unhide hin).mono ?_); rintro e w2 ⟨rfl, rfl⟩)
  have K1 := hide (((Chg.refl noBlk w).alloc (.map #[] 0)).alloc (.cells #[.int .i64 (cap : Int), .map (some w.heap.size)] 51))
  have C1 := hide (show CpAt w ((w.alloc (.map #[] 0)).alloc (.cells #[.int .i64 (cap : Int), .map (some w.heap.size)] 51)) (w.heap.size + 1) w.heap.size cap [] (fun _ _ => nilS) from
    ⟨by have := heap_alloc_new (w.alloc (.map #[] 0)) (.cells #[.int .i64 (cap : Int), .map (some w.heap.size)] 51); simpa using this, (map_made w).no ((Chg.refl _ _).alloc _), (fun a b g hg => by cases hg), by omega, Nat.le_refl _⟩)
  obtain ⟨b2, hb2⟩ : ∃ b2, w.heap.size + 1 = b2 := ⟨_, rfl⟩
  obtain ⟨m2, hm2⟩ : ∃ m2, w.heap.size = m2 := ⟨_, rfl⟩
  have hsz1 : w.heap.size ≤ ((w.alloc (.map #[] 0)).alloc (.cells #[.int .i64 (cap : Int), .map (some w.heap.size)] 51)).heap.size := (unhide K1).size
  rw [hb2] at C1 ⊢
  rw [hm2] at hsz1
  rw [hm2] at C1 K1 ⊢
  clear c0 hin hmm hb2
  generalize (w.alloc (.map #[] 0)).alloc (.cells #[.int .i64 (cap : Int), .map (some m2)] 51) = w1 at K1 C1 hsz1 ⊢
  rw [← hm2] at hsz1
  have c1 := ((unhide HS).no (unhide K1)).c1
  have H1' := hide (own_kept (unhide H1) ((unhide K1).block m (unhide HS).m.lt id))
  clear hm2
  go_wp2_with ((with_reducible show wpList _ _ _ (_ :: _) _ _); at_range; refine wpList_range_own _ rfl _ 49 rfl 61 46 keyed Try.underlying49 hdR m (Maps.size D) D rfl (unhide H1') ?_; intro w0 hrg0 hg0 hs0)
  go_frame
  have K0 := hide ((unhide K1).trans (Chg.grown w1 hg0) fun i _ e => by cases e)
  have C0 := hide ((unhide C1).no ((Chg.grown w1 hg0).mono (T := noBlk) fun i _ e => by cases e))
  have HR0 := hide hrg0
  clear hrg0 hg0 hs0 c1 H1' K1 C1
  go_loopw [5] (fun _ wr => ∃ (left : Lit → Bool) (cnt : Nat) (ps : List (Int × Int)) (F2 : Hd), wr.ranges Try.prog 61 hdR m w1.heap.size (Maps.size D) D left cnt ∧ Seen D left ps ∧ CpAt w wr b2 m2 cap (part L ps) F2 ∧ Chg noBlk w wr)
    (fun _ wr => wr.rangeLeft m w1.heap.size)
  case atStart => exact ⟨_, _, [], _, unhide HR0, Seen.start D, by rw [part_nil]; exact unhide C0, unhide K0⟩
  case round =>
    obtain ⟨left, cnt, ps, F2, hrg, hse, hcp, kw⟩ := hrel
    have KW := hide kw
    have SE := hide hse
    have CP := hide hcp
    clear HR0 K0 C0 kw hse hcp
    go_wp2_with ((with_reducible show wpList _ _ _ (_ :: _) _ _); at_next; refine wpList_next_ranges _ rfl _ rfl 61 keyed hdR (fun p : Int × Int => pr p.1 p.2) (fun v : Option Addr × Nat × Nat => .slice v.1 v.2.1 v.2.2) (fun key kl hk => by obtain ⟨a, b, hx, _⟩ := key_inv hk; exact ⟨(a, b), hx⟩) (fun v y hv => by obtain ⟨p, n, c, rfl, _⟩ := hdR_inv hv; exact ⟨(p, n, c), rfl⟩) m w1.heap.size (Maps.size D) _ _ _ rfl hrg ?_ ?_)
    · intro _ hl
      have HE := hide (part_all (L := L) (ps := ps) fun m hm => ((unhide SE).all (unhide H2) hl (fit_wf (unhide HS).fit hm).1 (fit_wf (unhide HS).fit hm).2).2 (sel_ne hm))
      clear hl hrg
      go_wp2
      go_ret
      have C := unhide CP
      rw [unhide HE] at C
      exact ⟨b2, fun k => (k = b2 ∨ k = m2 ∨ ∃ c d, (F2 c d).ownBlock = some k), rfl, fun k hk => by
        rcases hk with rfl | rfl | ⟨c, d, hk⟩
        · exact C.nb
        · exact C.nm
        · exact C.new c d k hk, ⟨fun k hk => by
          rcases hk with rfl | rfl | ⟨c, d, hk⟩
          · exact lt_of_block C.blk
          · exact C.m.lt
          · exact C.m.rows.lt hk, b2, m2, F2, rfl, ⟨C.blk, C.m, (unhide HS).fit, (unhide HS).low, (unhide HS).high⟩, .inl rfl, .inr (.inl rfl), fun c d g hg => .inr (.inr ⟨c, d, hg⟩)⟩, unhide KW⟩
    · intro xa xb ad n c kl' yd yp w3 cnt1 hkey hlx hv hat hrg1 hlt hg1 hs1 hen
      obtain ⟨xa', xb', ex, hxa, hxb, rfl⟩ := key_inv hkey
      unfold pr at ex
      simp only [Value.agg.injEq, Array.mk.injEq, List.cons.injEq, Value.int.injEq, true_and, and_true] at ex
      obtain ⟨rfl, rfl⟩ := ex
      have hc := came (unhide H2) hxa hxb hv hat
      have hrow := (unhide HS).m.rows.row xa xb
      rw [hc] at hrow
      have hn := own_len hrow
      have hsl := sel_len L xa xb
      have hF := unhide HF
      have KW3 := hide (chg_iter (unhide KW) hg1 hsz1)
      have C3 := hide ((unhide CP).iter hrg hg1)
      have HR1 := hide hrg1
      have HLT := hide hlt
      have SE1 := hide ((unhide SE).step hxa hxb hlx hat)
      have OLD := hide hrg.left_eq
      have HNE := hide (show sel L xa xb ≠ [] from fun e => by
        have := (unhide H2).has xa xb hxa hxb
        rw [Maps.has_true_of_atKey hat, e] at this
        cases this)
      have HXA := hide hxa
      have HXB := hide hxb
      have HROW := hide (fun w' (k : Chg noBlk w w') => hrow.no k)
      have HN := hide hn
      have i2 : n ≤ 1000 := by omega
      have HLEN := hide (show (sel L xa xb).length ≤ 1000 by omega)
      clear hkey hlx hv hat hrg1 hlt hg1 hs1 hxa hxb hrg KW CP hc hrow hn hsl hF SE
      go_wp2_with ((with_reducible show wpList _ _ _ (_ :: _) _ _); first
        | (refine wpL_alloc rfl 61 rfl _ zero_pair ?_; intro p w4 e4 k4 g4 z4; have e5 : w3.heap.size ≤ p := Nat.le_of_eq e4; clear e4 z4)
        | (refine wpL_store rfl 61 (.tmp 4) (.tmp 23) rfl p #[.int .i64 xa, .int .i64 xb] rfl rfl _ _ g4 info_pair rfl (pair_one _ _) ?_; intro w5 k5 g5 z5))
      have K5 := hide (k4.past k5 e5)
      have KW5 := hide ((unhide KW3).andNo (unhide K5))
      have C5 := hide ((unhide C3).no (unhide K5))
      have HR5 := hide (ranges_kept (unhide HR1) (unhide K5) id id)
      have KE := hide (fun w' k => cp_keep (w' := w') (unhide C5) g5 k)
      have HCL := hide (clone_any (unhide HROW _ (unhide KW5).drew) (unhide HLEN))
      have B0 := Chg.refl (oneBlk m2) w5
      clear k4 k5 g4 g5 z5 e5 C3 HR1 KW3 K5
      go_region_held3 (fun w' => Chg (oneBlk m2) w5 w' ∧ w'.cell? ⟨b2, 1, none⟩ = some (.map (some m2)) ∧ w'.cell? ⟨p, 0, none⟩ = some (.int .i64 xa) ∧ w'.cell? ⟨p, 1, none⟩ = some (.int .i64 xb))
        ((refine unhide KE _ ?_; go_split_ands; first | assumption | exact Chg.drew (by assumption) | exact Chg.drewN (by assumption) _ | exact Chg.andNo (by assumption) (by assumption)))
        (first
          | (go_at_call 27; (with_reducible refine (unhide HCL).mono ?_); rintro e wC ⟨v3, rfl, k3, o3, f3⟩; obtain ⟨ad3, c3, e3⟩ := own_form o3; rw [← unhide HN] at e3; subst e3; have kC : Chg noBlk w5 wC := ((Chg.refl noBlk w5).drew).andNo k3; have kc1 : Chg (oneBlk m2) w5 wC := kC.no _; have C6 := (unhide C5).no kC; obtain ⟨w9, hu, ku, zu, hup⟩ := MapAt.upd C6.m.own (unhide HXA) (unhide HXB) (by have := part_len L ps; have := unhide HF; unfold maxLen; omega) ad3 n c3; unfold pr at hu; have k9 : Chg (oneBlk m2) w5 w9 := (kC.no _).trans ku fun _ _ e => e; have KC := hide kC; have KU := hide ku; have HUP := hide hup; have O3 := hide o3; have F3 := hide f3; clear k3 o3 f3 kC C6 ku zu hup))
      all_goals
        have KK := hide (show Chg (oneBlk m2) w5 w9 from k9)
        have HR9 := hide (ranges_kept (unhide HR5) (unhide KK) (fun e => by have e : m = m2 := e; have := (unhide C5).nm; have := (unhide HS).m.lt; omega) ((unhide C5).apart (unhide HR5)))
        have C9 := hide ((unhide C5).put (N := part L (ps ++ [(xa, xb)])) (unhide KC) (by rw [part_new]; exact unhide O3) (unhide F3) (unhide KW5).size (unhide KU) (unhide HUP _ (by rw [part_new]; exact unhide HNE) fun c d e => by rw [part_old e]) fun c d e => part_old e)
        rename_i hJ
        clear hJ k9 kc1 hu B0 KE HCL
        go_wp2
        go_roundw
        case rel => exact ⟨_, cnt1, ps ++ [(xa, xb)], _, unhide HR9, unhide SE1, unhide C9, (unhide KW5).past (unhide KK) (unhide C5).nm⟩
        case measure => rw [(unhide HR9).left_eq, unhide OLD]; exact unhide HLT
end
theorem lk_copy {w : World} {S : Nat → Prop} {p : Value} {cap : Nat} {L : List ML} (h : IsLk w S p cap L) (hf : L.length ≤ 1000) : Calls Try.prog 15 #[p] w (MadeC cap L w) := by
  obtain ⟨h0, b, m, F, rfl, hl, hb, hm, hF⟩ := h
  exact copy_at hl hf
end Go.Proofs.Ytngldlfobdiipaa.Lk
