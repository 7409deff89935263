/-
  Links: Pairs, walked.
-/
import Derived.Test.YtngldlfobdiipaaLinksT
namespace Go.Proofs.Ytngldlfobdiipaa.Lk
open Go.ChangeShapes Go.WideShapes Go.ChangeAt Go.RowKit Go.Shelf Go.Sort
set_option linter.unusedVariables false
attribute [local go_sem] bs_size bs_app bs_cut bs_tl bs_at
theorem info_arr : (Try.prog.info? 65).map (·.size) = some 2 := by kernel_rfl
theorem infx_arr : (Try.prog.info? 65).map (fun i => (i.zero, i.size, i.bytes)) = some (some (.agg #[.int .i64 0, .int .i64 0]), 2, 16) := by kernel_rfl
/-- a slice of pairs, as arrays of two -/
abbrev OwnA (w : World) (v : Value) (ps : List (Int × Int)) : Prop := OwnL w 65 encP 2 v ps
/-- told: a new slice of these -/
def NewA (ps : List (Int × Int)) (w : World) (x : Ending) (w' : World) : Prop := ∃ v, x = .returned v ∧ Chg noBlk w w' ∧ OwnA w' v ps ∧ ∀ g, v.ownBlock = some g → w.heap.size ≤ g
/-- told: those pairs that have mail -/
def PairsS (L : List ML) (w : World) (x : Ending) (w' : World) : Prop := ∃ ps, IsPairs L ps ∧ NewA ps w x w'
/-- where the going through stands -/
def GoP (w0 : World) (ps : List (Int × Int)) (i v : Value) (w : World) : Prop := ∃ k : Nat, k ≤ ps.length ∧ i = .int .i64 (k : Int) ∧ OwnA w v (ps.take k) ∧ Chg noBlk w0 w ∧ ∀ g, v.ownBlock = some g → w0.heap.size ≤ g
section
variable {w w' : World} {b m cap : Nat} {L : List ML} {F : Hd} {S : Nat → Prop}
set_option maxRecDepth 100000 in
set_option maxHeartbeats 2000000 in
theorem pairs_at (h : LkAt w b m cap L F) (hf : L.length ≤ 1000) : Calls Try.prog 19 #[.pointer (some ⟨b, 0, none⟩)] w (PairsS L w) := by
  obtain ⟨D, h1, h2⟩ := h.m.own
  have hin := hide (isnone_at h)
  have c1 := h.c1
  have HK := hide (keys_in m w)
  have HS := hide (sorted_any (w := w.alloc (.cells #[.map (some m)] 49)) (Bm := w.heap.size) (by simp) (cellAt (heap_alloc_new w _) 0 _ rfl) (h1.alloc _) h2 hf)
  have H2 := hide h2
  have HF := hide hf
  clear h h1 h2 hf
  go_enter Try.func19, Try.ntmps19
  go_wp2_with (first
    | (go_at_call 26; (with_reducible refine (unhide hin).mono ?_); rintro e w2 ⟨rfl, rfl⟩)
    | (go_at_call 34; (with_reducible refine (unhide HK).mono ?_); rintro e w2 ⟨rfl, rfl⟩)
    | (go_at_call 33; (with_reducible refine (unhide HS).mono ?_); rintro e w3 ⟨v, ss, left, rfl, hl, hse, o3, k3, f3⟩; have HP := hide (sortP_is hse (unhide H2) hl); have K3 := hide (((Chg.refl noBlk w).alloc _).andNo k3); obtain ⟨ad, cp, ev, _, _, hrw⟩ := o3.form encP_len; subst ev; have O3 := hide o3; have HR := hide hrw; clear hse hl o3 k3 hrw))
  obtain ⟨ps, hps⟩ : ∃ ps, sortP ss = ps := ⟨_, rfl⟩
  rw [hps] at HP O3 HR ⊢
  have i0 : ps.length ≤ 1000 := Nat.le_trans (unhide HP).few (unhide HF)
  clear hps hin HK HS c1 f3 HF
  have HB0 := hide (show GoP w3 ps (.int .i64 0) (.slice none 0 0) w3 from ⟨0, by omega, rfl, ownL_nil _ _ _ _, Chg.refl _ _, fun g hg => by cases hg⟩)
  go_loopw [15, 3] (fun i v wr => GoP w3 ps i v wr) (fun i v wr => ps.length - (intOf i).toNat)
  case atStart => exact unhide HB0
  case round =>
    clear HB0
    obtain ⟨k, hk, rfl, ho, kw, hg⟩ := hrel
    have HO := hide ho
    have KW := hide kw
    have HG := hide hg
    have K4 := KW
    clear ho kw hg
    by_cases hlt : k < ps.length
    · have d1 : decide (k < ps.length) = true := by simpa using hlt
      obtain ⟨x, hx⟩ : ∃ x, ps[k]? = some x := ⟨_, List.getElem?_eq_getElem hlt⟩
      obtain ⟨_, g, off, rfl, hr⟩ := unhide HR k x hx
      have hr1 := hide (range_kept hr (unhide K4))
      have i1 : (0 : Int) ≤ (k : Int) := by omega
      have i2 : (k : Int) < (ps.length : Int) := by omega
      have i3 : (k : Int) ≤ 1000 := by omega
      have HT := hide (show ps.take (k + 1) = ps.take k ++ [x] from by rw [List.take_add_one, hx]; rfl)
      have HTL := hide (show (ps.take k).length = k from by rw [List.length_take]; omega)
      have m2 := hide (show (ps.take k).length + 1 ≤ maxLen from by rw [List.length_take]; unfold maxLen; omega)
      have m4 := hide (show ((ps.take k).length + 1) * 16 ≤ 140737488355328 from by rw [List.length_take]; omega)
      clear hx hr
      go_wp2_with ((with_reducible show wpList _ _ _ (_ :: _) _ _); first
        | (refine wpList_load_mid rfl 61 (.tmp 17) rfl g (off + k * 2) rfl (encP x) _ (unhide hr1) Try.underlying61 rfl (by rw [info_pair]; rfl) ?_)
        | (refine wpL_alloc rfl 61 rfl _ zero_pair ?_; intro p w4 e4 k4 g4 z4; have e5 : wr.heap.size ≤ p := Nat.le_of_eq e4; clear e4 z4)
        | (refine wpL_store rfl 61 (.tmp 5) (.tmp 18) rfl p #[.int .i64 x.1, .int .i64 x.2] rfl rfl _ _ g4 info_pair rfl (pair_one _ _) ?_; intro w5 k5 g5 z5; have K5 := hide (k4.past k5 e5); have p0 : w5.cell? ⟨p, 0, none⟩ = some (.int .i64 x.1) := cellAt g5 0 _ rfl; have p1 : w5.cell? ⟨p, 1, none⟩ = some (.int .i64 x.2) := cellAt g5 1 _ rfl; clear k4 k5 g4 z5)
        | (refine wpL_one rfl 43 (.tmp 24) rfl 65 #[.int .i64 0, .int .i64 0] Try.underlying43 (by kernel_rfl) (by decide) (by decide) #[.int .i64 x.1, .int .i64 x.2] rfl rfl ?_; intro b6 w6 e6 k6 g6 z6; have K6 := hide k6; clear k6 p0 p1 e6 z6)
        | (refine wpL_append rfl (.tmp 19) (.tmp 25) 43 (by rfl) 65 (.agg #[.int .i64 0, .int .i64 0]) 2 16 Try.underlying43 infx_arr rfl (by decide) u3 (ps.take k).length (flatC encP (ps.take k)) (by rfl) ((unhide HO).no ((unhide K5).andNo (unhide K6))) (.slice (some ⟨b6, 0, none⟩) 1 1) 1 (encP x) (by rfl) (reads_at1 g6 (encP_len x) (encP_one x)) (unhide m2) (unhide m4) ?_; intro v7 w7 k7 o7 f7))
      have K56 := hide ((unhide K5).andNo (unhide K6))
      have o8 : OwnA w7 v7 (ps.take (k + 1)) := by rw [unhide HT]; exact ownL_grew o7
      have k07 : Chg noBlk w3 w7 := (((unhide KW).andNo (unhide K56))).trans k7 fun i hi e => by have := unhide HG i e; omega
      have HREL := hide (show GoP w3 ps (.int .i64 ((k : Int) + 1)) v7 w7 from ⟨k + 1, by omega, by go_num, o8, k07, fun g hg => by
        rcases f7 with e | e <;> rw [hg] at e
        · exact unhide HG g e.symm
        · have e := Option.some.inj e
          have := ((unhide KW).andNo (unhide K56)).size
          omega⟩)
      clear o7 f7 k7 o8 k07
      go_roundw
      case rel => exact unhide HREL
      case measure => simp [intOf]; omega
    · obtain rfl : k = ps.length := by omega
      have HT := hide (show ps.take ps.length = ps from by simp)
      go_wp2
      go_ret
      refine ⟨ps, unhide HP, _, rfl, (unhide K3).andNo (unhide KW), ?_, fun g hg => Nat.le_trans (unhide K3).size (unhide HG g hg)⟩
      have := unhide HO
      rw [unhide HT] at this
      exact this
theorem lk_pairs {p : Value} (h : IsLk w S p cap L) (hf : L.length ≤ 1000) : Calls Try.prog 19 #[p] w (PairsS L w) := by
  obtain ⟨h0, b, m, F, rfl, hl, hb, hm, hF⟩ := h
  exact pairs_at hl hf
end
end Go.Proofs.Ytngldlfobdiipaa.Lk
