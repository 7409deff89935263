/-
  Keys with values: the document's cells with one in its place.
-/
import Derived.Test.YtfffgegdcgfakaaKvR0
import Derived.Sort.Walk0
namespace Go.Proofs.Ytfffgegdcgfakaa
open Go.ChangeShapes Go.WideShapes Go.ChangeAt Go.RowKit
set_option linter.unusedVariables false
attribute [local go_sem] bs_size bs_app bs_cut bs_tl bs_at
theorem less_is (a b : List UInt8) : Op.bytesLess a b = bytesBefore a b := by
  induction a generalizing b with
  | nil => cases b <;> rfl
  | cons x r ih =>
    cases b with
    | nil => rfl
    | cons y s => simp only [Op.bytesLess, bytesBefore, ih]
/-- a cell at b -/
def CellAt (w : World) (b : Nat) (c : KV) : Prop := w.heap[b]? = some (.cells c.cells.toArray 87 (0, 0))
section
variable {w w' : World} {b : Nat} {c : KV}
theorem CellAt.no (h : CellAt w b c) (k : Chg noBlk w w') : CellAt w' b c := k.at h id
theorem CellAt.c0 (h : CellAt w b c) : w.cell? ⟨b, 0, none⟩ = some (str c.key) := cellAt h 0 _ rfl
theorem CellAt.c1 (h : CellAt w b c) : w.cell? ⟨b, 1, none⟩ = some (str c.val) := cellAt h 1 _ rfl
theorem CellAt.c2 (h : CellAt w b c) : w.cell? ⟨b, 2, none⟩ = some (.int .i64 c.ver) := cellAt h 2 _ rfl
end
theorem cell_keep {w2 w' : World} {b : Nat} {c : KV} (h : CellAt w2 b c) (k : Chg noBlk w2 w') : Chg noBlk w2 w' ∧ w'.cell? ⟨b, 0, none⟩ = some (str c.key) ∧ w'.cell? ⟨b, 1, none⟩ = some (str c.val) ∧ w'.cell? ⟨b, 2, none⟩ = some (.int .i64 c.ver) :=
  ⟨k, (h.no k).c0, (h.no k).c1, (h.no k).c2⟩
theorem push_le {w5 : World} {X : Obj} {k : Nat} (h : k = (w5.alloc X).drew.heap.size) : w5.heap.size ≤ k := by rw [h]; show w5.heap.size ≤ (w5.alloc X).heap.size; simp
theorem len_take {M : List KV} {n : Nat} (h : n ≤ M.length) : (M.take n).length = n := by simp; omega
theorem own_two {w5 W wD : World} {v1 v2 : Value} (h : Chg noBlk w5 W) (f : ∀ k, v1.ownBlock = some k → w5.heap.size ≤ k) (kD : Chg (fun k => v1.ownBlock = some k) W wD) (fD : v2.ownBlock = v1.ownBlock ∨ v2.ownBlock = some W.heap.size) :
    Chg noBlk w5 wD ∧ ∀ k, v2.ownBlock = some k → w5.heap.size ≤ k := by
  refine ⟨h.trans kD fun i hi e => by have := f i e; omega, fun k hk => ?_⟩
  rcases fD with e | e
  · exact f k (by rw [← e]; exact hk)
  · rw [e] at hk
    have := Option.some.inj hk
    have := h.size
    omega
theorem take_reads {w : World} {ad : Option Addr} {cap n : Nat} {M : List KV} (h : SlC w ad cap M) (hn : n ≤ M.length) : Reads w 3 (.slice ad n cap) n (flat (M.take n)) := by
  have := (h.take n).reads
  rwa [len_take hn] at this
theorem drop_reads {w : World} {g off cap n : Nat} {M : List KV} (h : SlC w (some ⟨g, off, none⟩) cap M) (hn : n ≤ M.length) : Reads w 3 (.slice (some ⟨g, off + n * 3, none⟩) (M.length - n) (cap - n)) (M.length - n) (flat (M.drop n)) := by
  have := (h.drop n hn).reads
  rwa [List.length_drop] at this
theorem nil_reads (w : World) : Reads w 3 (.slice none 0 0) 0 (flat []) := Reads.nil w 3
theorem none_reads (w : World) (a : Addr) (cap : Nat) {M : List KV} : Reads w 3 (.slice (some a) 0 cap) 0 (flat (M.drop M.length)) := by
  rw [List.drop_length]
  exact ⟨rfl, flat_one [], .inr ⟨a, cap, rfl, Nat.zero_le _, fun j u hu => by cases hu⟩⟩
theorem with_end {wE : World} {M : List KV} {c : KV} {n len : Nat} {v3 : Value} (hl : len = M.length + 1) (e : ins c M = M.take n ++ c :: M.drop n)
    (o : wE.ownsRow 0 87 3 v3 len (flat (M.take n) ++ c.cells ++ flat (M.drop n))) : wE.ownsRow 0 87 3 v3 (ins c M).length (flat (ins c M)) := by
  have e1 : flat (M.take n) ++ c.cells ++ flat (M.drop n) = flat (ins c M) := by
    rw [e, flat_snoc, flat_app]
    simp
  have e2 : len = (ins c M).length := by rw [ins_len]; omega
  rw [e1, e2] at o
  exact o
set_option maxRecDepth 100000 in
set_option maxHeartbeats 8000000 in
theorem rwith_at {ad : Option Addr} {cap : Nat} {L : List KV} {w : World} (h : SlC w ad cap L) (hl : L.length ≤ 999) (c : KV) :
    Calls Try.prog 50 #[.slice ad L.length cap, .agg c.cells.toArray] w (fun e w' => ∃ v, e = .returned v ∧ w'.ownsRow 0 87 3 v (put L c).length (flat (put L c)) ∧ Chg noBlk w w') := by
  have HW := hide (fun w' (k : Chg noBlk w w') => rwithout_at (h.no k) (by omega) c.key)
  obtain ⟨M, hM⟩ : ∃ M, del L c.key = M := ⟨_, rfl⟩
  have hml : M.length ≤ 999 := by rw [← hM]; have := del_len L c.key; omega
  have hkey : ∀ y ∈ M, y.key ≠ c.key := by rw [← hM]; exact del_key
  have HP : Hid (put L c = ins c M) := hide (by unfold put; rw [hM])
  rw [hM] at HW
  have HK := hide hkey
  clear h hM hkey
  have t1 : True := True.intro
  go_enter Try.func50, Try.ntmps50
  go_wp2_with (first
    | (go_at_call 49; (with_reducible refine (unhide HW _ k1).mono ?_); rintro e w2 ⟨ad2, cap2, rfl, s2, k2⟩)
    | ((with_reducible show wpList _ _ _ (_ :: _) _ _); clear t1; refine wpL_box rfl 87 (.tmp 1) rfl c.cells.toArray rfl ?_; intro b w1 e1 k1 g1 z1; have G1 : CellAt w1 b c := g1; have c0 := G1.c0; clear g1 z1 e1))
  have G2 := hide (G1.no k2)
  have S2 := hide s2
  have K2 := hide (k1.andNo k2)
  clear k1 k2 G1 c0 s2 HW
  go_loopw [5] (fun i wr => ∃ n : Nat, n ≤ M.length ∧ i = .int .i64 (n : Int) ∧ (∀ (j : Nat) (y : KV), j < n → M[j]? = some y → bytesBefore y.key c.key = true) ∧ Chg noBlk w2 wr) (fun i wr => M.length - (intOf i).toNat)
  case atStart => exact ⟨0, by omega, rfl, (fun j y hj => by omega), Chg.refl _ _⟩
  case round =>
    obtain ⟨n, hn, rfl, hb, kw⟩ := hrel
    have KW := hide kw
    have HB := hide hb
    have q0 := (CellAt.no (unhide G2) kw).c0
    clear kw hb
    have hend : ∀ d : Bool, (d = false → ins c M = M.take n ++ c :: M.drop n) → True := fun _ _ => trivial
    clear hend
    by_cases hlt : n < M.length
    · have d1 : decide (n < M.length) = true := by simpa using hlt
      obtain ⟨y, hy⟩ : ∃ y, M[n]? = some y := ⟨_, List.getElem?_eq_getElem hlt⟩
      obtain ⟨_, g, off, rfl, hr⟩ := (unhide S2).cells n y hy
      have hr1 := range_kept hr (unhide KW)
      have y0 : wr.cell? ⟨g, off + n * 3, none⟩ = some (str y.key) := hr1 0 _ rfl
      have i1 : (0 : Int) ≤ (n : Int) := by omega
      have i2 : (n : Int) < (M.length : Int) := by omega
      have HY := hide hy
      clear hy hr hr1
      obtain ⟨z, hz⟩ : ∃ z, bytesBefore y.key c.key = z := ⟨_, rfl⟩
      have dz : Op.bytesLess y.key c.key = z := (less_is _ _).trans hz
      cases z
      · have hle := (unhide S2).le
        have i3 : (n : Int) ≤ (cap2 : Int) := by omega
        have i4 : n < cap2 := by omega
        have i5 : (n : Int) < (cap2 : Int) := by omega
        have i6 : (n : Int) ≤ (M.length : Int) := by omega
        have hne : ¬ cap2 = n := by omega
        have hz2 := hz
        clear hz
        have HI := hide (ins_at c M n hn (unhide HK) (unhide HB) (fun x hx => by rw [unhide HY] at hx; obtain rfl := Option.some.inj hx; exact hz2))
        clear hz2 HY
        go_wp2
        go_quiet (fail)
        go_wp2
        have KW5 := hide ((unhide KW).drewN nq)
        have G5 := hide (CellAt.no (unhide G2) (unhide KW5))
        have S5 := (unhide S2).no (unhide KW5)
        generalize wr.drewN nq = w5 at KW5 G5 S5 ⊢
        have m1 : n ≤ maxLen := by unfold maxLen; omega
        have m2 : n + 1 ≤ maxLen := by unfold maxLen; omega
        have m3 : n * 40 ≤ 140737488355328 := by omega
        have m4 : (n + 1) * 40 ≤ 140737488355328 := by omega
        have m5 : n + 1 + (M.length - n) ≤ maxLen := by unfold maxLen; omega
        have m6 : (n + 1 + (M.length - n)) * 40 ≤ 140737488355328 := by omega
        have RA := hide (fun w' (k : Chg noBlk w5 w' ∧ w'.cell? ⟨b, 0, none⟩ = some (str c.key) ∧ w'.cell? ⟨b, 1, none⟩ = some (str c.val) ∧ w'.cell? ⟨b, 2, none⟩ = some (.int .i64 c.ver)) => (show Reads w' 3 (.slice (some ⟨g, off, none⟩) n cap2) n (flat (M.take n)) from (take_reads S5 hn).kept k.1 fun _ _ _ => id))
        have RB := hide (fun w' (k : Chg noBlk w5 w') => (show Reads w' 3 (.slice (some ⟨g, off + n * 3, none⟩) (M.length - n) (cap2 - n)) (M.length - n) (flat (M.drop n)) from (drop_reads S5 hn).kept k fun _ _ _ => id))
        have KE := hide (fun w' k => cell_keep (w' := w') (unhide G5) k)
        have B0 := Chg.refl noBlk w5
        go_region_held3 (fun w' => Chg noBlk w5 w' ∧ w'.cell? ⟨b, 0, none⟩ = some (str c.key) ∧ w'.cell? ⟨b, 1, none⟩ = some (str c.val) ∧ w'.cell? ⟨b, 2, none⟩ = some (.int .i64 c.ver))
          ((refine unhide KE _ ?_; go_split_ands; first | assumption | exact Chg.drew (by assumption) | exact Chg.drewN (by assumption) _ | exact Chg.andNo (by assumption) (by assumption) | exact Chg.alloc (by assumption) _ | exact (Chg.alloc (Chg.refl _ _) _).drew))
          (first
            | (refine step_clone rfl (.tmp 28) 67 (by rfl) 87 (.agg (KV.cells ⟨[], [], 0⟩).toArray) 3 40 Try.underlying67 info_cl rfl (by decide) (.slice (some ⟨g, off, none⟩) n cap2) n (flat (M.take n)) (by rfl) (unhide RA _ (by assumption)) m1 m3 ?_; intro v1 wC kC oC fC vC)
            | (refine step_append rfl (.tmp 29) (.tmp 31) 67 (by rfl) 87 (.agg (KV.cells ⟨[], [], 0⟩).toArray) 3 40 Try.underlying67 info_cl rfl (by decide) v1 n (flat (M.take n)) (by rfl) (oC.alloc _) (.slice (some ⟨wC.heap.size, 0, none⟩) 1 1) 1 c.cells (by rfl) (one_reads (heap_alloc_new wC _)) m2 m4 ?_; intro v2 wD kD oD fD; obtain ⟨kE, f2⟩ := own_two (v1 := v1) (v2 := v2) (W := wC.alloc (.cells #[str c.key, str c.val, .int .i64 c.ver] 87)) (wD := wD) ((B0.drew.andNo kC).alloc _) (fun k hk => Nat.le_of_eq (fC k hk).symm) kD fD; clear kD fD)
            | (refine step_append rfl (.tmp 29) (.tmp 31) 67 (by rfl) 87 (.agg (KV.cells ⟨[], [], 0⟩).toArray) 3 40 Try.underlying67 info_cl rfl (by decide) v1 n (flat (M.take n)) (by rfl) oC (.slice (some ⟨w5.heap.size, 0, none⟩) 1 1) 1 c.cells (by rfl) (one_reads (kC.at (heap_alloc_new w5.drew _) id)) m2 m4 ?_; intro v2 wD kD oD fD; obtain ⟨kE, f2⟩ := own_two (v1 := v1) (v2 := v2) (W := wC) (wD := wD) (((B0.alloc (.cells #[str c.key, str c.val, .int .i64 c.ver] 87)).drew).andNo kC) (fun k hk => push_le (fC k hk)) kD fD; clear kD fD)
            | (refine step_append rfl (.tmp 32) (.tmp 35) 67 (by rfl) 87 (.agg (KV.cells ⟨[], [], 0⟩).toArray) 3 40 Try.underlying67 info_cl rfl (by decide) v2 (n + 1) (flat (M.take n) ++ c.cells) (by rfl) oD (.slice (some ⟨g, off + n * 3, none⟩) (M.length - n) (cap2 - n)) ((M.length - n)) (flat (M.drop n)) (by rfl) (unhide RB _ kE) m5 m6 ?_; intro v3 wE kE2 oE fE; obtain ⟨kF, _⟩ := own_two (v1 := v2) (v2 := v3) (W := wD) (wD := wE) kE f2 kE2 fE; clear kE2 fE))
        all_goals
          rename_i hJ
          clear hJ
          go_wp2
          go_ret
          exact ⟨v3, rfl, by rw [unhide HP]; exact with_end (by first | omega | simp) (unhide HI) oE, ((unhide K2).andNo (unhide KW5)).andNo kF⟩
      · have HZ := hide hz
        clear hz
        go_wp2
        go_quiet (fail)
        go_wp2
        go_roundw
        case rel =>
          refine ⟨n + 1, by omega, by go_num, fun j x hj hx => ?_, (unhide KW).drewN _⟩
          by_cases e : j = n
          · subst e
            rw [unhide HY] at hx
            obtain rfl := Option.some.inj hx
            exact unhide HZ
          · exact unhide HB j x (by omega) hx
        case measure => simp [intOf]; omega
    · have d1 : decide (n < M.length) = false := by simpa using hlt
      obtain rfl : n = M.length := by omega
      have i1 : (0 : Int) ≤ (M.length : Int) := by omega
      have hle := (unhide S2).le
      have hfew := (unhide S2).few
      rcases hA : ad2 with _ | a
      · have hc0 := (unhide S2).nil hA
        subst hA
        subst hc0
        have hM0 : M = [] := List.eq_nil_of_length_eq_zero (by omega)
        subst hM0
        have hn0 : (0 : Nat) ≤ ([] : List KV).length := Nat.le_refl _
        have HI := hide (ins_at c [] 0 hn0 (unhide HK) (unhide HB) (fun x hx => by cases hx))
        go_wp2
        go_quiet (fail)
        go_wp2
        have KW5 := hide ((unhide KW).drewN nq)
        have G5 := hide (CellAt.no (unhide G2) (unhide KW5))
        have S5 := (unhide S2).no (unhide KW5)
        generalize wr.drewN nq = w5 at KW5 G5 S5 ⊢
        have m1 : 0 ≤ maxLen := by unfold maxLen; omega
        have m2 : 1 ≤ maxLen := by unfold maxLen; omega
        have m3 : 0 * 40 ≤ 140737488355328 := by omega
        have m4 : 1 * 40 ≤ 140737488355328 := by omega
        have m5 : 1 + (0) ≤ maxLen := by unfold maxLen; omega
        have m6 : 1 * 40 ≤ 140737488355328 := by omega
        have RA := hide (fun w' (k : Chg noBlk w5 w' ∧ w'.cell? ⟨b, 0, none⟩ = some (str c.key) ∧ w'.cell? ⟨b, 1, none⟩ = some (str c.val) ∧ w'.cell? ⟨b, 2, none⟩ = some (.int .i64 c.ver)) => (show Reads w' 3 (.slice none 0 0) 0 (flat (([] : List KV).take 0)) from (nil_reads w5).kept k.1 fun _ _ _ => id))
        have RB := hide (fun w' (k : Chg noBlk w5 w') => (show Reads w' 3 (.slice none 0 0) 0 (flat (([] : List KV).drop 0)) from (nil_reads w5).kept k fun _ _ _ => id))
        have KE := hide (fun w' k => cell_keep (w' := w') (unhide G5) k)
        have B0 := Chg.refl noBlk w5
        go_region_held3 (fun w' => Chg noBlk w5 w' ∧ w'.cell? ⟨b, 0, none⟩ = some (str c.key) ∧ w'.cell? ⟨b, 1, none⟩ = some (str c.val) ∧ w'.cell? ⟨b, 2, none⟩ = some (.int .i64 c.ver))
          ((refine unhide KE _ ?_; go_split_ands; first | assumption | exact Chg.drew (by assumption) | exact Chg.drewN (by assumption) _ | exact Chg.andNo (by assumption) (by assumption) | exact Chg.alloc (by assumption) _ | exact (Chg.alloc (Chg.refl _ _) _).drew))
          (first
            | (refine step_clone rfl (.tmp 28) 67 (by rfl) 87 (.agg (KV.cells ⟨[], [], 0⟩).toArray) 3 40 Try.underlying67 info_cl rfl (by decide) (.slice none 0 0) 0 (flat (([] : List KV).take 0)) (by rfl) (unhide RA _ (by assumption)) m1 m3 ?_; intro v1 wC kC oC fC vC)
            | (refine step_append rfl (.tmp 29) (.tmp 31) 67 (by rfl) 87 (.agg (KV.cells ⟨[], [], 0⟩).toArray) 3 40 Try.underlying67 info_cl rfl (by decide) v1 0 (flat (([] : List KV).take 0)) (by rfl) (oC.alloc _) (.slice (some ⟨wC.heap.size, 0, none⟩) 1 1) 1 c.cells (by rfl) (one_reads (heap_alloc_new wC _)) m2 m4 ?_; intro v2 wD kD oD fD; obtain ⟨kE, f2⟩ := own_two (v1 := v1) (v2 := v2) (W := wC.alloc (.cells #[str c.key, str c.val, .int .i64 c.ver] 87)) (wD := wD) ((B0.drew.andNo kC).alloc _) (fun k hk => Nat.le_of_eq (fC k hk).symm) kD fD; clear kD fD)
            | (refine step_append rfl (.tmp 29) (.tmp 31) 67 (by rfl) 87 (.agg (KV.cells ⟨[], [], 0⟩).toArray) 3 40 Try.underlying67 info_cl rfl (by decide) v1 0 (flat (([] : List KV).take 0)) (by rfl) oC (.slice (some ⟨w5.heap.size, 0, none⟩) 1 1) 1 c.cells (by rfl) (one_reads (kC.at (heap_alloc_new w5.drew _) id)) m2 m4 ?_; intro v2 wD kD oD fD; obtain ⟨kE, f2⟩ := own_two (v1 := v1) (v2 := v2) (W := wC) (wD := wD) (((B0.alloc (.cells #[str c.key, str c.val, .int .i64 c.ver] 87)).drew).andNo kC) (fun k hk => push_le (fC k hk)) kD fD; clear kD fD)
            | (refine step_append rfl (.tmp 32) (.tmp 35) 67 (by rfl) 87 (.agg (KV.cells ⟨[], [], 0⟩).toArray) 3 40 Try.underlying67 info_cl rfl (by decide) v2 1 (flat (([] : List KV).take 0) ++ c.cells) (by rfl) oD (.slice none 0 0) (0) (flat (([] : List KV).drop 0)) (by rfl) (unhide RB _ kE) m5 m6 ?_; intro v3 wE kE2 oE fE; obtain ⟨kF, _⟩ := own_two (v1 := v2) (v2 := v3) (W := wD) (wD := wE) kE f2 kE2 fE; clear kE2 fE))
        all_goals
          rename_i hJ
          clear hJ
          go_wp2
          go_ret
          exact ⟨v3, rfl, by rw [unhide HP]; exact with_end (by first | omega | simp) (unhide HI) oE, ((unhide K2).andNo (unhide KW5)).andNo kF⟩
      obtain ⟨g, off, rfl⟩ := (unhide S2).at_ a hA
      subst hA
      by_cases hcp : cap2 = M.length
      · subst hcp
        have i3 : (M.length : Int) ≤ (M.length : Int) := by omega
        have HI := hide (ins_at c M M.length hn (unhide HK) (unhide HB) (fun x hx => by rw [List.getElem?_eq_none (Nat.le_refl _)] at hx; cases hx))
        go_wp2
        go_quiet (fail)
        go_wp2
        have KW5 := hide ((unhide KW).drewN nq)
        have G5 := hide (CellAt.no (unhide G2) (unhide KW5))
        have S5 := (unhide S2).no (unhide KW5)
        generalize wr.drewN nq = w5 at KW5 G5 S5 ⊢
        have m1 : M.length ≤ maxLen := by unfold maxLen; omega
        have m2 : M.length + 1 ≤ maxLen := by unfold maxLen; omega
        have m3 : M.length * 40 ≤ 140737488355328 := by omega
        have m4 : (M.length + 1) * 40 ≤ 140737488355328 := by omega
        have m5 : M.length + 1 + (0) ≤ maxLen := by unfold maxLen; omega
        have m6 : (M.length + 1 + (0)) * 40 ≤ 140737488355328 := by omega
        have RA := hide (fun w' (k : Chg noBlk w5 w' ∧ w'.cell? ⟨b, 0, none⟩ = some (str c.key) ∧ w'.cell? ⟨b, 1, none⟩ = some (str c.val) ∧ w'.cell? ⟨b, 2, none⟩ = some (.int .i64 c.ver)) => (show Reads w' 3 (.slice (some ⟨g, off, none⟩) M.length M.length) M.length (flat (M.take M.length)) from (take_reads S5 hn).kept k.1 fun _ _ _ => id))
        have RB := hide (fun w' (k : Chg noBlk w5 w') => (show Reads w' 3 (.slice (some ⟨g, off, none⟩) 0 0) 0 (flat (M.drop M.length)) from (none_reads w5 ⟨g, off, none⟩ 0).kept k fun _ _ _ => id))
        have KE := hide (fun w' k => cell_keep (w' := w') (unhide G5) k)
        have B0 := Chg.refl noBlk w5
        go_region_held3 (fun w' => Chg noBlk w5 w' ∧ w'.cell? ⟨b, 0, none⟩ = some (str c.key) ∧ w'.cell? ⟨b, 1, none⟩ = some (str c.val) ∧ w'.cell? ⟨b, 2, none⟩ = some (.int .i64 c.ver))
          ((refine unhide KE _ ?_; go_split_ands; first | assumption | exact Chg.drew (by assumption) | exact Chg.drewN (by assumption) _ | exact Chg.andNo (by assumption) (by assumption) | exact Chg.alloc (by assumption) _ | exact (Chg.alloc (Chg.refl _ _) _).drew))
          (first
            | (refine step_clone rfl (.tmp 28) 67 (by rfl) 87 (.agg (KV.cells ⟨[], [], 0⟩).toArray) 3 40 Try.underlying67 info_cl rfl (by decide) (.slice (some ⟨g, off, none⟩) M.length M.length) M.length (flat (M.take M.length)) (by rfl) (unhide RA _ (by assumption)) m1 m3 ?_; intro v1 wC kC oC fC vC)
            | (refine step_append rfl (.tmp 29) (.tmp 31) 67 (by rfl) 87 (.agg (KV.cells ⟨[], [], 0⟩).toArray) 3 40 Try.underlying67 info_cl rfl (by decide) v1 M.length (flat (M.take M.length)) (by rfl) (oC.alloc _) (.slice (some ⟨wC.heap.size, 0, none⟩) 1 1) 1 c.cells (by rfl) (one_reads (heap_alloc_new wC _)) m2 m4 ?_; intro v2 wD kD oD fD; obtain ⟨kE, f2⟩ := own_two (v1 := v1) (v2 := v2) (W := wC.alloc (.cells #[str c.key, str c.val, .int .i64 c.ver] 87)) (wD := wD) ((B0.drew.andNo kC).alloc _) (fun k hk => Nat.le_of_eq (fC k hk).symm) kD fD; clear kD fD)
            | (refine step_append rfl (.tmp 29) (.tmp 31) 67 (by rfl) 87 (.agg (KV.cells ⟨[], [], 0⟩).toArray) 3 40 Try.underlying67 info_cl rfl (by decide) v1 M.length (flat (M.take M.length)) (by rfl) oC (.slice (some ⟨w5.heap.size, 0, none⟩) 1 1) 1 c.cells (by rfl) (one_reads (kC.at (heap_alloc_new w5.drew _) id)) m2 m4 ?_; intro v2 wD kD oD fD; obtain ⟨kE, f2⟩ := own_two (v1 := v1) (v2 := v2) (W := wC) (wD := wD) (((B0.alloc (.cells #[str c.key, str c.val, .int .i64 c.ver] 87)).drew).andNo kC) (fun k hk => push_le (fC k hk)) kD fD; clear kD fD)
            | (refine step_append rfl (.tmp 32) (.tmp 35) 67 (by rfl) 87 (.agg (KV.cells ⟨[], [], 0⟩).toArray) 3 40 Try.underlying67 info_cl rfl (by decide) v2 (M.length + 1) (flat (M.take M.length) ++ c.cells) (by rfl) oD (.slice (some ⟨g, off, none⟩) 0 0) (0) (flat (M.drop M.length)) (by rfl) (unhide RB _ kE) m5 m6 ?_; intro v3 wE kE2 oE fE; obtain ⟨kF, _⟩ := own_two (v1 := v2) (v2 := v3) (W := wD) (wD := wE) kE f2 kE2 fE; clear kE2 fE))
        all_goals
          rename_i hJ
          clear hJ
          go_wp2
          go_ret
          exact ⟨v3, rfl, by rw [unhide HP]; exact with_end (by first | omega | simp) (unhide HI) oE, ((unhide K2).andNo (unhide KW5)).andNo kF⟩
      · have i3 : (M.length : Int) ≤ (cap2 : Int) := by omega
        have i4 : M.length < cap2 := by omega
        have i5 : (M.length : Int) < (cap2 : Int) := by omega
        have HI := hide (ins_at c M M.length hn (unhide HK) (unhide HB) (fun x hx => by rw [List.getElem?_eq_none (Nat.le_refl _)] at hx; cases hx))
        go_wp2
        go_quiet (fail)
        go_wp2
        have KW5 := hide ((unhide KW).drewN nq)
        have G5 := hide (CellAt.no (unhide G2) (unhide KW5))
        have S5 := (unhide S2).no (unhide KW5)
        generalize wr.drewN nq = w5 at KW5 G5 S5 ⊢
        have m1 : M.length ≤ maxLen := by unfold maxLen; omega
        have m2 : M.length + 1 ≤ maxLen := by unfold maxLen; omega
        have m3 : M.length * 40 ≤ 140737488355328 := by omega
        have m4 : (M.length + 1) * 40 ≤ 140737488355328 := by omega
        have m5 : M.length + 1 + (0) ≤ maxLen := by unfold maxLen; omega
        have m6 : (M.length + 1 + (0)) * 40 ≤ 140737488355328 := by omega
        have RA := hide (fun w' (k : Chg noBlk w5 w' ∧ w'.cell? ⟨b, 0, none⟩ = some (str c.key) ∧ w'.cell? ⟨b, 1, none⟩ = some (str c.val) ∧ w'.cell? ⟨b, 2, none⟩ = some (.int .i64 c.ver)) => (show Reads w' 3 (.slice (some ⟨g, off, none⟩) M.length cap2) M.length (flat (M.take M.length)) from (take_reads S5 hn).kept k.1 fun _ _ _ => id))
        have RB := hide (fun w' (k : Chg noBlk w5 w') => (show Reads w' 3 (.slice (some ⟨g, off + M.length * 3, none⟩) 0 (cap2 - M.length)) 0 (flat (M.drop M.length)) from (none_reads w5 ⟨g, off + M.length * 3, none⟩ (cap2 - M.length)).kept k fun _ _ _ => id))
        have KE := hide (fun w' k => cell_keep (w' := w') (unhide G5) k)
        have B0 := Chg.refl noBlk w5
        go_region_held3 (fun w' => Chg noBlk w5 w' ∧ w'.cell? ⟨b, 0, none⟩ = some (str c.key) ∧ w'.cell? ⟨b, 1, none⟩ = some (str c.val) ∧ w'.cell? ⟨b, 2, none⟩ = some (.int .i64 c.ver))
          ((refine unhide KE _ ?_; go_split_ands; first | assumption | exact Chg.drew (by assumption) | exact Chg.drewN (by assumption) _ | exact Chg.andNo (by assumption) (by assumption) | exact Chg.alloc (by assumption) _ | exact (Chg.alloc (Chg.refl _ _) _).drew))
          (first
            | (refine step_clone rfl (.tmp 28) 67 (by rfl) 87 (.agg (KV.cells ⟨[], [], 0⟩).toArray) 3 40 Try.underlying67 info_cl rfl (by decide) (.slice (some ⟨g, off, none⟩) M.length cap2) M.length (flat (M.take M.length)) (by rfl) (unhide RA _ (by assumption)) m1 m3 ?_; intro v1 wC kC oC fC vC)
            | (refine step_append rfl (.tmp 29) (.tmp 31) 67 (by rfl) 87 (.agg (KV.cells ⟨[], [], 0⟩).toArray) 3 40 Try.underlying67 info_cl rfl (by decide) v1 M.length (flat (M.take M.length)) (by rfl) (oC.alloc _) (.slice (some ⟨wC.heap.size, 0, none⟩) 1 1) 1 c.cells (by rfl) (one_reads (heap_alloc_new wC _)) m2 m4 ?_; intro v2 wD kD oD fD; obtain ⟨kE, f2⟩ := own_two (v1 := v1) (v2 := v2) (W := wC.alloc (.cells #[str c.key, str c.val, .int .i64 c.ver] 87)) (wD := wD) ((B0.drew.andNo kC).alloc _) (fun k hk => Nat.le_of_eq (fC k hk).symm) kD fD; clear kD fD)
            | (refine step_append rfl (.tmp 29) (.tmp 31) 67 (by rfl) 87 (.agg (KV.cells ⟨[], [], 0⟩).toArray) 3 40 Try.underlying67 info_cl rfl (by decide) v1 M.length (flat (M.take M.length)) (by rfl) oC (.slice (some ⟨w5.heap.size, 0, none⟩) 1 1) 1 c.cells (by rfl) (one_reads (kC.at (heap_alloc_new w5.drew _) id)) m2 m4 ?_; intro v2 wD kD oD fD; obtain ⟨kE, f2⟩ := own_two (v1 := v1) (v2 := v2) (W := wC) (wD := wD) (((B0.alloc (.cells #[str c.key, str c.val, .int .i64 c.ver] 87)).drew).andNo kC) (fun k hk => push_le (fC k hk)) kD fD; clear kD fD)
            | (refine step_append rfl (.tmp 32) (.tmp 35) 67 (by rfl) 87 (.agg (KV.cells ⟨[], [], 0⟩).toArray) 3 40 Try.underlying67 info_cl rfl (by decide) v2 (M.length + 1) (flat (M.take M.length) ++ c.cells) (by rfl) oD (.slice (some ⟨g, off + M.length * 3, none⟩) 0 (cap2 - M.length)) (0) (flat (M.drop M.length)) (by rfl) (unhide RB _ kE) m5 m6 ?_; intro v3 wE kE2 oE fE; obtain ⟨kF, _⟩ := own_two (v1 := v2) (v2 := v3) (W := wD) (wD := wE) kE f2 kE2 fE; clear kE2 fE))
        all_goals
          rename_i hJ
          clear hJ
          go_wp2
          go_ret
          exact ⟨v3, rfl, by rw [unhide HP]; exact with_end (by first | omega | simp) (unhide HI) oE, ((unhide K2).andNo (unhide KW5)).andNo kF⟩
end Go.Proofs.Ytfffgegdcgfakaa
