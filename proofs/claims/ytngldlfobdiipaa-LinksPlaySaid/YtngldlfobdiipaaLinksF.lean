/-
  Links: slices.Delete.
-/
import Derived.Test.YtngldlfobdiipaaLinksE
namespace Go.Proofs.Ytngldlfobdiipaa.Lk
open Go.ChangeShapes Go.WideShapes Go.ChangeAt Go.RowKit
set_option linter.unusedVariables false
theorem flatT_parts (T : List (List UInt8)) {k : Nat} (hk : k ≤ T.length) : (flatC txC T).take k = flatC txC (T.take k) ∧ (flatC txC T).drop k = flatC txC (T.drop k) := by
  have e : flatC txC T = flatC txC (T.take k) ++ flatC txC (T.drop k) := by rw [flatC_app, List.take_append_drop]
  have hl : (flatC txC (T.take k)).length = k := by rw [flatC_length txC_len, List.length_take, Nat.min_eq_left hk, Nat.mul_one]
  rw [e]
  exact ⟨by rw [List.take_left' hl], by rw [List.drop_left' hl]⟩
theorem zero_str : (Try.prog.info? 9).bind (·.zero) = some (str []) := by kernel_rfl
section
variable {P : Program} {ops : Array Oper} {rest : List Oper} {o : Oper} {a : Act} {w : World} {Q : Exit → Act → World → Prop}
/-- elements of one cell made zero -/
theorem run_clear1 (T ty e : TypeId) (z : Value) (ht : P.underlying T = some (.slice e)) (hi : (P.info? e).bind (·.zero) = some z) (hz : z.oneCell' = true) (b off n c : Nat) (hn : 0 < n) (hth : w.there b off n) :
    (Builtin.clear_ #[T] ty #[.slice (some ⟨b, off, none⟩) n c]).run P w = .ok (.tuple #[]) (w.setCells b off (List.replicate n z)) := by
  cases hq : P.info? e with
  | none => simp [hq] at hi
  | some i =>
    have hz' : i.zero = some z := by simpa [hq] using hi
    have hcs : z.cells = #[z] := by
      cases z <;> first | rfl | simp [Value.oneCell'] at hz
    have hst := run_storeCells_cells (P := P) b off (List.replicate n z) 0 w (fun j hj => by simpa using (hth j (by simpa using hj)).1) (fun j hj => by simpa using (hth j (by simpa using hj)).2)
      (fun v hv => by rw [List.eq_of_mem_replicate hv]; exact hz)
    simp only [Nat.add_zero] at hst
    obtain ⟨m, rfl⟩ : ∃ m, n = m + 1 := ⟨n - 1, by omega⟩
    have hr : Builtin.zeroCells #[z] (m + 1) = (List.replicate (m + 1) z).toArray := by
      have := zero_rep [z] (m + 1) (by simp)
      rw [List.flatten_replicate_singleton] at this
      exact this
    simp [Builtin.clear_, run_underlying ht, zeroValue, typeInfo, hq, hz', hcs, hr, hst]
theorem wpL_clear1 (hgd : o.guard = none) (x : Operand) (T : TypeId) (ho : o.op = .call { callee := .builtin .clear, args := #[x], argTypes := #[T] }) (e : TypeId) (z : Value) (ht : P.underlying T = some (.slice e)) (hi : (P.info? e).bind (·.zero) = some z) (hz : z.oneCell' = true)
    (b off n c : Nat) (hx : a.eval x = .slice (some ⟨b, off, none⟩) n c) (hn : 0 < n) (hth : w.there b off n) (h : wpList P ops Q rest (a.put o.dst (.tuple #[])) (w.setCells b off (List.replicate n z))) : wpList P ops Q (o :: rest) a w :=
  wpList_plain hgd fun K hK => by
    unfold Oper.wp execOp
    simp only [ho, resolve, invoke, builtin, Sem.run_bind, Sem.run_pure, Result.andThen_ok, List.map_toArray, List.map_cons, List.map_nil, hx, run_clear1 (P := P) T o.type e z ht hi hz b off n c hn hth]
    exact hK _ _ h
end
section
variable {w : World} {e : TypeId} {g cap n k : Nat} {T : List (List UInt8)}
theorem own_prefix (h : w.ownsRow 0 e 1 (.slice (some ⟨g, 0, none⟩) n cap) n (flatC txC T)) (hn : n = T.length) (hk : k ≤ n) : w.ownsRow 0 e 1 (.slice (some ⟨g, 0, none⟩) k cap) k (flatC txC (T.take k)) := by
  refine ⟨by rw [flatC_length txC_len, List.length_take, Nat.min_eq_left (by omega)], ?_⟩
  rcases h.2 with ⟨h2, _⟩ | ⟨g', cap', cur, h2, hb, hg, r1, r2, r3, r4⟩
  · cases h2
  · injection h2 with a1 a2 a3
    injection a1 with a1
    injection a1 with a1
    subst a1
    subst a3
    refine .inr ⟨g, cap, cur, rfl, hb, hg, by omega, r2, r3, ?_⟩
    have := (flatT_parts T (k := k) (by omega)).1
    rw [← this, ← r4, Nat.mul_one, Nat.mul_one, List.take_take, Nat.min_eq_left hk]
theorem own_behind (P : Program) {xs vs : List Value} (h : w.ownsRow 0 e 1 (.slice (some ⟨g, 0, none⟩) n cap) n xs) (hv : n + vs.length ≤ cap) (h1 : ∀ u ∈ vs, u.oneCell' = true) : (w.setCells g n vs).ownsRow 0 e 1 (.slice (some ⟨g, 0, none⟩) n cap) n xs := by
  refine ⟨h.1, ?_⟩
  rcases h.2 with ⟨h2, _⟩ | ⟨g', cap', cur, h2, hb, hg, r1, r2, r3, r4⟩
  · cases h2
  · injection h2 with a1 a2 a3
    injection a1 with a1
    injection a1 with a1
    subst a1
    subst a3
    have hs := setCells_heap P hg (o := n) (vs := vs) (by omega) h1
    refine .inr ⟨g, cap, laidIn cur n vs, rfl, hb, hs, r1, r2, ?_, ?_⟩
    · unfold laidIn
      simp
      omega
    · unfold laidIn
      rw [Nat.mul_one] at r4 ⊢
      rw [← r4, List.append_assoc, List.take_append_of_le_length (by simp; omega), List.take_take, Nat.min_self]
theorem own_there {xs : List Value} (h : w.ownsRow 0 e 1 (.slice (some ⟨g, 0, none⟩) n cap) n xs) {o m : Nat} (hm : o + m ≤ cap) : w.there g o m := by
  rcases h.2 with ⟨h2, _⟩ | ⟨g', cap', cur, h2, hb, hg, r1, r2, r3, r4⟩
  · cases h2
  · injection h2 with a1 a2 a3
    injection a1 with a1
    injection a1 with a1
    subst a1
    subst a3
    intro j hj
    exact ⟨by rw [cellAt hg (o + j) (cur[o + j]'(by omega)) (by simp)]; rfl, freeAt hg _⟩
theorem own_from (h : w.ownsRow 0 e 1 (.slice (some ⟨g, 0, none⟩) n cap) n (flatC txC T)) (hn : n = T.length) (hk : k ≤ n) : ∀ j u, (flatC txC (T.drop k))[j]? = some u → w.cell? ⟨g, k + j, none⟩ = some u := by
  intro j u hu
  rw [← (flatT_parts T (k := k) (by omega)).2, List.getElem?_drop] at hu
  have := World.ownsRow.cells h (g := g) rfl (k + j) u hu
  rwa [Addr.add_mid, Nat.zero_add] at this
/-- told: the slice without one -/
def Cut1 (v : Value) (T : List (List UInt8)) (w : World) (x : Ending) (w' : World) : Prop := ∃ v', x = .returned v' ∧ Chg (fun i => v.ownBlock = some i) w w' ∧ OwnT w' v' T ∧ v'.ownBlock = v.ownBlock
theorem cut_list (T : List (List UInt8)) (k : Nat) : flatC txC (T.take k) ++ flatC txC (T.drop (k + 1)) = flatC txC (T.eraseIdx k) := by rw [flatC_app, List.eraseIdx_eq_take_drop_succ]
theorem cut_end {w2 : World} {m : Nat} (hn : k + 1 + m = T.length) (hc : k + 1 + m ≤ cap) (o2 : w2.ownsRow 0 9 1 (.slice (some ⟨g, 0, none⟩) (k + m) cap) (k + m) (flatC txC (T.take k) ++ flatC txC (T.drop (k + 1)))) (g2 : w.drew.grownBy w2 (some g)) :
    Cut1 (.slice (some ⟨g, 0, none⟩) (k + 1 + m) cap) (T.eraseIdx k) w (.returned (.slice (some ⟨g, 0, none⟩) (k + m) cap)) (w2.setCells g (k + m) [str []]) := by
  have k2 : Chg (oneBlk g) w w2 := by
    have := (Chg.grown w.drew g2).mono (T := oneBlk g) fun _ _ e => (Option.some.inj e)
    exact ((Chg.refl (oneBlk g) w).drew).trans this fun _ _ e => e
  have k3 : Chg (oneBlk g) w (w2.setCells g (k + m) [str []]) := k2.trans (setCells_chg w2 g [str []] _) fun _ _ e => e
  refine ⟨_, rfl, k3.mono fun i _ e => ?_, ?_, rfl⟩
  · have e : i = g := e
    subst e
    rfl
  · rw [cut_list] at o2
    have hl : (T.eraseIdx k).length = k + m := by rw [List.length_eraseIdx_of_lt (by omega)]; omega
    exact ownL_of (own_behind Try.prog o2 (by simp; omega) (txC_one [])) hl.symm rfl
set_option maxRecDepth 100000 in
set_option maxHeartbeats 1000000 in
theorem delete_in {m : Nat} (h : OwnT w (.slice (some ⟨g, 0, none⟩) (k + 1 + m) cap) T) (hn : k + 1 + m = T.length) (hc : T.length ≤ cap) (hf : T.length ≤ 1000) (hm : cap ≤ 9223372036854775807) (hcc : cap ≠ k + 1) :
    Calls Try.prog 36 #[.slice (some ⟨g, 0, none⟩) (k + 1 + m) cap, .int .i64 (k : Int), .int .i64 ((k : Int) + 1)] w (Cut1 (.slice (some ⟨g, 0, none⟩) (k + 1 + m) cap) (T.eraseIdx k) w) := by
  have h0 : w.ownsRow 0 9 1 (.slice (some ⟨g, 0, none⟩) (k + 1 + m) cap) (k + 1 + m) (flatC txC T) := by rw [hn] at h ⊢; exact h
  have HP := hide (own_prefix (k := k) h0 hn (by omega))
  have HF := hide (own_from (k := k + 1) h0 hn (by omega))
  have HL := hide hn
  have d1 : ((k : Int) == (k : Int) + 1) = false := beq_eq_false_iff_ne.2 (by omega)
  have i1 : (0 : Int) ≤ (k : Int) := by omega
  have i2 : (k : Int) + 1 ≤ ((k + 1 + m : Nat) : Int) := by omega
  have i3 : k + 1 + m ≤ cap := by omega
  have i5 : (k : Int) ≤ (cap : Int) := by omega
  have i6 : k ≤ cap := by omega
  have i7 : k + 1 ≤ k + 1 + m := by omega
  have i8 : k + 1 ≤ cap := by omega
  have i4 : k + 1 + m ≤ 1000 := by omega
  have j0 : (0 : Int) ≤ (k : Int) + 1 := by omega
  have i9 : (k : Int) + 1 ≤ (k : Int) + 1 + (m : Int) := by omega
  obtain ⟨i0, hi0, hz0, hz1, hz2⟩ := info_parts infx_str
  have HI := hide hi0
  have HZ := hide hz1
  clear h h0 hn hc hf hi0 hz0 hz1 hz2
  go_enter Try.func36, Try.ntmps36
  go_wp2
  go_still_tail 6, (by kernel_rfl)
  change wpList _ _ _ _ _ w.drew
  go_wp2_with (first
    | ((with_reducible show wpList _ _ _ (⟨some 26, _, _, _, _, _⟩ :: _) _ _); refine wpList_append_fits_any w.drew rfl (.tmp 22) (.tmp 25) 46 (by rfl) 0 9 i0 1 Try.underlying46 (unhide HI) (unhide HZ) g k cap (flatC txC (T.take k)) (by rfl) (unhide HP) (some ⟨g, k + 1, none⟩) m (cap - (k + 1)) (flatC txC (T.drop (k + 1))) (by rfl) (by have := unhide HL; rw [flatC_length txC_len, List.length_drop]; omega) (fun h => by cases h) (fun ad had j u hu => by cases had; rw [Addr.add_mid]; exact unhide HF j u hu) (flatC_one txC_one _) (by omega) ?_; intro w2 o2 g2)
    | ((with_reducible show wpList _ _ _ (⟨none, _, _, _, _, _⟩ :: _) _ _); refine wpL_clear1 rfl (.tmp 31) 46 rfl 9 (str []) Try.underlying46 zero_str rfl g (k + m) (k + 1 + m - (k + m)) (cap - (k + m)) (by rfl) (by omega) (own_there o2 (by omega)) ?_))
  go_ret
  have := cut_end (unhide HL) i3 o2 g2
  rw [show k + 1 + m - (k + m) = 1 by omega]
  exact this
set_option maxRecDepth 100000 in
set_option maxHeartbeats 1000000 in
theorem delete_last (h : OwnT w (.slice (some ⟨g, 0, none⟩) (k + 1) (k + 1)) T) (hn : k + 1 = T.length) (hf : T.length ≤ 1000) :
    Calls Try.prog 36 #[.slice (some ⟨g, 0, none⟩) (k + 1) (k + 1), .int .i64 (k : Int), .int .i64 ((k : Int) + 1)] w (Cut1 (.slice (some ⟨g, 0, none⟩) (k + 1) (k + 1)) (T.eraseIdx k) w) := by
  have h0 : w.ownsRow 0 9 1 (.slice (some ⟨g, 0, none⟩) (k + 1) (k + 1)) (k + 1) (flatC txC T) := by rw [hn] at h ⊢; exact h
  have HP := hide (own_prefix (k := k) h0 hn (by omega))
  have HL := hide hn
  have d1 : ((k : Int) == (k : Int) + 1) = false := beq_eq_false_iff_ne.2 (by omega)
  have i1 : (0 : Int) ≤ (k : Int) := by omega
  have i3 : k + 1 ≤ 1000 := by omega
  have i5 : (k : Int) ≤ (k : Int) + 1 := by omega
  have i6 : k ≤ k + 1 := by omega
  have j0 : (0 : Int) ≤ (k : Int) + 1 := by omega
  obtain ⟨i0, hi0, hz0, hz1, hz2⟩ := info_parts infx_str
  have HI := hide hi0
  have HZ := hide hz1
  clear h h0 hn hf hi0 hz0 hz1 hz2
  go_enter Try.func36, Try.ntmps36
  go_wp2
  go_still_tail 6, (by kernel_rfl)
  change wpList _ _ _ _ _ w.drew
  go_wp2_with (first
    | ((with_reducible show wpList _ _ _ (⟨some 26, _, _, _, _, _⟩ :: _) _ _); refine wpList_append_fits_any w.drew rfl (.tmp 22) (.tmp 25) 46 (by rfl) 0 9 i0 1 Try.underlying46 (unhide HI) (unhide HZ) g k (k + 1) (flatC txC (T.take k)) (by rfl) (unhide HP) (some ⟨g, 0, none⟩) 0 0 [] (by rfl) rfl (fun h => by cases h) (fun ad had j u hu => by simp at hu) (fun u hu => by simp at hu) (by omega) ?_; intro w2 o2 g2)
    | ((with_reducible show wpList _ _ _ (⟨none, _, _, _, _, _⟩ :: _) _ _); refine wpL_clear1 rfl (.tmp 31) 46 rfl 9 (str []) Try.underlying46 zero_str rfl g k 1 1 (by rfl) (by omega) (own_there o2 (by omega)) ?_))
  go_ret
  have hn := unhide HL
  exact cut_end (k := k) (cap := k + 1) (m := 0) (w := w) (T := T) (by omega) (by omega) (by rw [List.drop_of_length_le (l := T) (i := k + 1) (by omega)]; exact o2) g2
theorem delete_any {v : Value} (h : OwnT w v T) (hk : k < T.length) (hf : T.length ≤ 1000) : Calls Try.prog 36 #[v, .int .i64 (k : Int), .int .i64 ((k : Int) + 1)] w (Cut1 v (T.eraseIdx k) w) := by
  rcases h.2 with ⟨rfl, h2⟩ | ⟨g', cap', cur, rfl, hb, hg, r1, r2, r3, r4⟩
  · omega
  · obtain ⟨m, hm⟩ : ∃ m, k + 1 + m = T.length := ⟨T.length - (k + 1), by omega⟩
    by_cases hcc : cap' = k + 1
    · obtain rfl : m = 0 := by omega
      subst hcc
      have e : T.length = k + 1 := by omega
      rw [e] at h ⊢
      exact delete_last h (by omega) hf
    have := delete_in (g := g') (cap := cap') (m := m) (k := k) (T := T) (w := w) (by rw [hm]; exact h) hm r1 hf (by unfold maxLen at r2; omega) hcc
    rw [hm] at this
    exact this
end
end Go.Proofs.Ytngldlfobdiipaa.Lk
