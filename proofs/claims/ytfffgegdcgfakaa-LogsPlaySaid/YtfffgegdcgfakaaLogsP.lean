/-
  Logs: the document's log: what its entries lead to; the last one of a client.
-/
import Derived.Test.YtfffgegdcgfakaaKvT0
namespace Go.Proofs.Ytfffgegdcgfakaa
open Go.ChangeShapes Go.WideShapes Go.ChangeAt Go.RowKit
set_option linter.unusedVariables false
attribute [local go_sem] bs_size bs_app bs_cut bs_tl bs_at
/-- the document's log at b -/
structure RefAt (w : World) (b : Nat) (v : Value) (E : List ET) : Prop where
  p : w.heap[b]? = some (.cells #[v] 30 (0, 0))
  ent : OwnL w 34 ET.cells 7 v E
section
variable {w w' : World} {b : Nat} {v : Value} {E : List ET} {S : Nat → Prop}
theorem RefAt.lt (h : RefAt w b v E) : b < w.heap.size := lt_of_block h.p
theorem RefAt.c0 (h : RefAt w b v E) : w.cell? ⟨b, 0, none⟩ = some v := cellAt h.p 0 _ rfl
theorem RefAt.kept (h : RefAt w b v E) (k : Chg S w w') (h1 : ¬ S b) (h2 : ∀ g, v.ownBlock = some g → ¬ S g) : RefAt w' b v E := ⟨k.at h.p h1, h.ent.kept k h2⟩
theorem RefAt.no (h : RefAt w b v E) (k : Chg noBlk w w') : RefAt w' b v E := h.kept k id fun _ _ => id
end
theorem SlC.past {w w' : World} {ad : Option Addr} {cap : Nat} {L : List KV} {S : Nat → Prop} (h : SlC w ad cap L) (k : Chg S w w') (hS : ∀ g cur f, w.heap[g]? = some (.cells cur 87 f) → ¬ S g) : SlC w' ad cap L :=
  ⟨h.le, h.few, h.nil, h.at_, fun i c hc => by
    obtain ⟨t, g, off, e, hr⟩ := h.cells i c hc
    obtain ⟨cur, f, hb⟩ := h.ty g off e
    exact ⟨t, g, off, e, fun j u hu => k.cell (hr j u hu) (hS g cur f hb)⟩, fun g off e => by
    obtain ⟨cur, f, hb⟩ := h.ty g off e
    exact ⟨cur, f, k.at hb (hS g cur f hb)⟩⟩
/-- told: the cells, and the results -/
def CellsS (E : List ET) (w : World) (e : Ending) (w' : World) : Prop := ∃ ad cap vr, e = .returned (.tuple #[.slice ad (cellsN E E.length).length cap, vr]) ∧ Chg noBlk w w' ∧ SlC w' ad cap (cellsN E E.length) ∧ OwnL w' 38 RT.cells 4 vr (ress E E.length)
/-- where the going through stands -/
def GoAt (w0 : World) (E : List ET) (i c o : Value) (w : World) : Prop :=
  ∃ (k : Nat) (ad : Option Addr) (cap : Nat), k ≤ E.length ∧ i = .int .i64 (k : Int) ∧ c = .slice ad (cellsN E k).length cap ∧ SlC w ad cap (cellsN E k) ∧ OwnL w 38 RT.cells 4 o (ress E k) ∧ (∀ g, o.ownBlock = some g → w0.heap.size ≤ g) ∧ Chg noBlk w0 w
set_option maxRecDepth 100000 in
set_option maxHeartbeats 4000000 in
theorem rcells_at {w : World} {b : Nat} {v : Value} {E : List ET} (h : RefAt w b v E) (hl : E.length ≤ 400) : Calls Try.prog 29 #[.pointer (some ⟨b, 0, none⟩)] w (CellsS E w) := by
  obtain ⟨ad, cap, rfl, le, few, R⟩ := h.ent.form ET.len
  have HH := hide h
  have HRW := hide R
  have HB0 := hide (show GoAt w E (.int .i64 0) (.slice none 0 0) (.slice none 0 0) w from ⟨0, none, 0, by omega, rfl, rfl, slc_nil w, ownL_nil _ _ _ _, (fun g hg => by cases hg), Chg.refl _ _⟩)
  clear h R
  go_enter Try.func29, Try.ntmps29
  go_wp2
  go_loopw [6, 4, 5] (fun i c o wr => GoAt w E i c o wr) (fun i c o wr => E.length - (intOf i).toNat)
  case atStart => exact unhide HB0
  case round =>
    clear HB0
    obtain ⟨k, adc, capc, hk, rfl, rfl, hc, ho, hog, kw⟩ := hrel
    have c0 := ((unhide HH).no kw).c0
    have HC := hide hc
    have HO := hide ho
    have HG := hide hog
    have KW := hide kw
    clear hc ho hog kw
    by_cases hlt : k < E.length
    · have d1 : decide (k < E.length) = true := by simpa using hlt
      obtain ⟨x, hx⟩ : ∃ x, E[k]? = some x := ⟨_, List.getElem?_eq_getElem hlt⟩
      obtain ⟨_, g, off, rfl, hr⟩ := unhide HRW k x hx
      have hr1 := hide (ent_op (range_kept hr (unhide KW)))
      have i1 : (0 : Int) ≤ (k : Int) := by omega
      have i2 : (k : Int) < (E.length : Int) := by omega
      have hcl := cellsN_len E k
      have HAP := hide (rapply_at (unhide HC) (by omega) ((k : Int) + 1) x.op)
      have e1 := cellsN_succ hx
      have e2 := resN_at hx
      rw [← e1, ← e2] at HAP
      obtain ⟨r, hres⟩ : ∃ r, resN E k = r := ⟨_, rfl⟩
      rw [hres] at HAP
      have HE := hide (show ress E (k + 1) = ress E k ++ [r] by rw [ress_succ, hres])
      obtain ⟨M, hM⟩ : ∃ M, cellsN E (k + 1) = M := ⟨_, rfl⟩
      rw [hM] at HAP
      have HM := hide hM
      have hrl : (ress E k).length = k := ress_len E k
      have HRL := hide hrl
      clear hx hr e1 e2 hres hM hrl hcl
      go_wp2_with (first
        | (go_at_call 41; refine (unhide HAP).mono ?_; rintro e w2 ⟨ad2, cap2, rfl, s2, k2⟩)
        | ((with_reducible show wpList _ _ _ (_ :: _) _ _); first
          | (refine wpList_load_mid rfl 32 (.tmp 28) rfl g (off + k * 7 + 3) rfl x.op.cells _ (unhide hr1) Try.underlying32 rfl (by rw [info_op4]; rfl) ?_)
          | (refine wpL_alloc rfl 38 rfl _ zero_res ?_; intro p w3 e3 k3 g3 z3; have e3 := Nat.le_of_eq e3)
          | (refine wpL_store rfl 38 (.tmp 8) (.tmp 32) rfl p r.cells.toArray rfl rfl _ _ g3 info_res rfl (all_oneCell_toArray (RT.one _)) ?_; intro w4 k4 g4 z4; have k5 := k3.past k4 e3)
          | (refine wpL_load rfl 38 (.tmp 8) rfl p rfl r.cells.toArray _ _ g4 _ Try.underlying38 rfl info_res ?_)
          | (refine wpL_one rfl 55 (.tmp 35) rfl 38 rZero.cells.toArray Try.underlying55 (by kernel_rfl) (by decide) (by decide) r.cells.toArray rfl rfl ?_; intro b6 w6 e6 k6 g6 z6)
          | (refine wpL_append rfl (.tmp 34) (.tmp 36) 55 (by rfl) 38 (.agg rZero.cells.toArray) 4 40 Try.underlying55 infx_res rfl (by decide) _ (ress E k).length (flatC RT.cells (ress E k)) rfl ((unhide HO).no ((k2.andNo k5).andNo k6)) (.slice (some ⟨b6, 0, none⟩) 1 1) 1 r.cells (by rfl) (reads_at1 g6 (RT.len r) (RT.one r)) (by rw [unhide HRL]; unfold maxLen; omega) (by rw [unhide HRL]; omega) ?_; intro v7 w7 k7 o7 f7)))
      have K6 := (k2.andNo k5).andNo k6
      have ho6 := (unhide HO).no K6
      have s7 := ((s2.no k5).no k6).past k7 fun g cur f hb hg => by
        obtain ⟨cur2, hb2⟩ := ho6.block hg
        exact ne_type hb hb2 (by decide) rfl
      have z6 := K6.size
      have z0 := (unhide KW).size
      have o8 : OwnL w7 38 RT.cells 4 v7 (ress E k ++ [r]) := ownL_grew o7
      rw [← unhide HE] at o8
      rw [← unhide HM] at s7
      have rel : GoAt w E (.int .i64 ((k : Int) + 1)) (.slice ad2 M.length cap2) v7 w7 := ⟨k + 1, ad2, cap2, by omega, by go_num, by rw [unhide HM], s7, o8, fun g hg => by
        rcases f7 with e | e <;> rw [hg] at e
        · exact unhide HG g e.symm
        · have e := Option.some.inj e
          omega, ((unhide KW).andNo K6).trans k7 fun i hi e => by have := unhide HG i e; omega⟩
      have REL := hide rel
      clear rel s2 k2 g3 k3 k4 g4 k5 g6 k6 o7 f7 K6 ho6 s7 o8 k7 z6 z0
      go_roundw
      case rel => exact unhide REL
      case measure => simp [intOf]; omega
    · obtain rfl : k = E.length := by omega
      go_wp2
      go_ret2
      exact ⟨adc, capc, _, rfl, unhide KW, unhide HC, unhide HO⟩
/-- the first part of Seq and Index -/
theorem lastN_end (E : List ET) (c : Int) {n : Nat} (hn : n ≤ E.length) (h : ∀ (i : Nat) e, n ≤ i → E[i]? = some e → e.cl ≠ c) : lastN E c E.length = lastN E c n := by
  have : ∀ d, n + d ≤ E.length → lastN E c (n + d) = lastN E c n := by
    intro d
    induction d with
    | zero => intro _; rfl
    | succ d ih =>
      intro hd
      obtain ⟨e, he⟩ : ∃ e, E[n + d]? = some e := ⟨_, List.getElem?_eq_getElem (by omega)⟩
      rw [← Nat.add_assoc, lastN_miss he (h _ _ (by omega) he), ih (by omega)]
  have := this (E.length - n) (by omega)
  rwa [Nat.add_sub_cancel' hn] at this
set_option maxRecDepth 100000 in
set_option maxHeartbeats 1000000 in
theorem rlast_at {w : World} {b : Nat} {v : Value} {E : List ET} (h : RefAt w b v E) (hl : E.length ≤ 4096) (c : Int) : Calls Try.prog 35 #[.pointer (some ⟨b, 0, none⟩), .int .i64 c] w (Told (.tuple #[.int .i64 (seqL E c), .int .i64 (lastN E c E.length : Int)]) w) := by
  obtain ⟨ad, cap, rfl, le, few, R⟩ := h.ent.form ET.len
  have c0 := h.c0
  have HRW := hide R
  clear h R
  go_enter Try.func35, Try.ntmps35
  go_wp2
  go_loop [6] (fun i => ∃ n : Nat, n ≤ E.length ∧ i = .int .i64 ((n : Int) - 1) ∧ ∀ (j : Nat) e, n ≤ j → E[j]? = some e → e.cl ≠ c) (fun i => (intOf i + 1).toNat)
  case atStart => exact ⟨E.length, by omega, rfl, fun j e hj he => by have := (List.getElem?_eq_some_iff.1 he).1; omega⟩
  case round =>
    obtain ⟨n, hn, rfl, hb⟩ := hrel
    have HB := hide hb
    clear hb
    rcases n with _ | k
    · have HZ := hide (lastN_end E c (n := 0) (by omega) (unhide HB))
      have HS := hide (seqL_zero (unhide HZ))
      go_wp2
      go_ret2
      exact ⟨by rw [unhide HZ, unhide HS]; rfl, rfl⟩
    · obtain ⟨x, hx⟩ : ∃ x, E[k]? = some x := ⟨_, List.getElem?_eq_getElem (by omega)⟩
      obtain ⟨_, g, off, rfl, hr⟩ := unhide HRW k x hx
      have x1 : w.cell? ⟨g, off + k * 7 + 1, none⟩ = _ := hr 1 _ rfl
      have x2 : w.cell? ⟨g, off + k * 7 + 2, none⟩ = _ := hr 2 _ rfl
      have i1 : (0 : Int) ≤ (k : Int) := by omega
      have i2 : (k : Int) < (E.length : Int) := by omega
      have e1 : ((k + 1 : Nat) : Int) - 1 = (k : Int) := by omega
      have HX := hide hx
      clear hr hx
      rw [e1]
      clear e1
      by_cases hc : x.cl = c
      · have s1 : (x.cl == c) = true := by simpa using hc
        have HL := hide ((lastN_end E c hn (unhide HB)).trans (lastN_hit (unhide HX) hc))
        have HS := hide (seqL_at (unhide HL) (unhide HX))
        clear hc
        go_wp2
        go_ret2
        exact ⟨by rw [unhide HL, unhide HS]; rfl, rfl⟩
      · have s1 : (x.cl == c) = false := by simpa using hc
        have HC := hide hc
        clear hc
        go_wp2
        go_round
        case rel =>
          refine ⟨k, by omega, rfl, fun j e hj he => ?_⟩
          by_cases hjk : j = k
          · subst hjk
            rw [unhide HX] at he
            obtain rfl := Option.some.inj he
            exact unhide HC
          · exact unhide HB j e (by omega) he
        case measure => simp [intOf]
end Go.Proofs.Ytfffgegdcgfakaa
