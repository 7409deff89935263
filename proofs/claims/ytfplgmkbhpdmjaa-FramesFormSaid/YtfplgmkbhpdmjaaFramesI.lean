/-
  Frames: a contract of getBehind.
-/
import Derived.Test.YtfplgmkbhpdmjaaFramesH
namespace Go.Proofs.Ytfplgmkbhpdmjaa.Fm
open Go.ChangeShapes Go.WideShapes Go.ChangeAt Go.RowKit
set_option linter.unusedVariables false
attribute [local go_sem] bs_size bs_app bs_cut bs_tl bs_at
def FT.withOp (g : FT) (o : PT) : FT := ⟨g.n, o, g.re, g.eop, g.ch⟩
def FT.withEop (g : FT) (o : PT) : FT := ⟨g.n, g.op, g.re, o, g.ch⟩
def FT.withCh (g : FT) (c : Ch.CT) : FT := ⟨g.n, g.op, g.re, g.eop, c⟩
/-- nothing stands behind -/
def NoB (k : Int) (l : List UInt8) : Prop := ∀ h : FT, h.n 0 = k → behindB h = true → behindL h ≠ l
section
variable {s l : List UInt8} {k : Int} {g : FT}
theorem got_noB (h : St s k (nix k).length g l) (hk : kindB k = true) (hn : NoB k l) : GotOf s fZero 10 := by
  refine .inr ⟨fun f hf => ?_, rfl, rfl⟩
  obtain ⟨a1, a2⟩ := h.all hk
  have h1 := hf.ok
  simp only [okF, Bool.and_eq_true] at h1
  have e : aheadL f ++ behindL f = aheadL g ++ l := by rw [a2]; exact hf.raw
  obtain ⟨e1, _, e3⟩ := ahead_ahead e h1.1 a1
  exact hn f (by rw [e1, h.kind]) h1.2 e3
theorem isOf_beh {f : FT} (h : St s k (nix k).length g l) (hk : kindB k = true) (hn : f.n = g.n) (hb : behindB f = true) (hl : behindL f = l)
    (p1 : k ≠ 1 → f.op = pZero) (p2 : k ≠ 2 → f.re = rZero) (p3 : k ≠ 4 → f.eop = pZero) (p4 : k ≠ 8 → f.ch = Ch.cZero) : IsOf s f := by
  obtain ⟨a1, a2⟩ := h.all hk
  have ea : aheadB f = aheadB g ∧ aheadL f = aheadL g := by unfold aheadB aheadL; rw [hn]; exact ⟨rfl, rfl⟩
  have k0 : f.n 0 = k := by rw [hn]; exact h.kind
  refine ⟨by unfold okF; rw [ea.1, a1, hb]; rfl, by unfold rawF; rw [ea.2, hl, a2], ⟨fun i h0 hi => ?_, by rw [k0]; exact p1, by rw [k0]; exact p2, by rw [k0]; exact p3, by rw [k0]; exact p4⟩⟩
  rw [k0] at hi
  rw [hn]
  exact h.n i h0 (by rw [List.take_length]; exact hi)
end
/-- told: what stands behind taken into the frame at b, and whether there is such -/
def BehT (s l : List UInt8) (k : Int) (b : Nat) (w : World) (e : Ending) (w' : World) : Prop := ∃ f v ok, e = .returned (.bool ok) ∧ FrAt w' b f v ∧ v.oneCell' = true ∧ Chg (oneBlk b) w w' ∧
  ((ok = true ∧ IsOf s f ∧ ∃ ad cap, v = .slice ad f.ch.ms.length cap ∧ Ch.Sl w' ad cap f.ch.ms ∧ ∀ q, ad = some q → q.block ≠ b) ∨ (ok = false ∧ NoB k l))
theorem sl_none (w : World) : Ch.Sl w none 0 [] := ⟨fun i x h => by simp at h, by simp, by simp, fun _ => rfl⟩
section
variable {w : World} {p : Nat} {g : FT} {v u : Value} {o : PT} {c : Ch.CT}
theorem fr_op (h : w.heap[p]? = some (.cells (laidIn (g.cells v).toArray 7 o.cells) 33 (0, 0))) : FrAt w p (g.withOp o) v := by
  unfold FrAt; rw [h]; simp [laidIn, FT.cells, FT.withOp, PT.cells]
theorem fr_eop (h : w.heap[p]? = some (.cells (laidIn (g.cells v).toArray 19 o.cells) 33 (0, 0))) : FrAt w p (g.withEop o) v := by
  unfold FrAt; rw [h]; simp [laidIn, FT.cells, FT.withEop, PT.cells]
theorem fr_ch (h : w.heap[p]? = some (.cells (laidIn (g.cells v).toArray 23 (Ch.chC c u).toList) 33 (0, 0))) : FrAt w p (g.withCh c) u := by
  unfold FrAt; rw [h]; simp [laidIn, FT.cells, FT.withCh]
end
theorem getT_ways (l : List UInt8) : ∃ (o : PT) (n : Int), getT l = .tuple #[.agg o.cells.toArray, .int .i64 n] ∧ ((n = 0 ∧ chk o = 0 ∧ rawL o = l) ∨ (n = 10 ∧ ∀ q : PT, chk q = 0 → rawL q ≠ l)) := by
  cases h : getX l with
  | none => exact ⟨_, _, getT_none h, .inr ⟨rfl, fun q hq e => by have := get_put hq; rw [e, h] at this; cases this⟩⟩
  | some o => exact ⟨_, _, getT_some h, .inl ⟨rfl, (get_back h).2⟩⟩
set_option maxRecDepth 100000 in
set_option maxHeartbeats 2000000 in
theorem getBehind_any {s l : List UInt8} {k : Int} {g : FT} (hst : St s k (nix k).length g l) (hk : kindB k = true) (hl : l.length ≤ 1000) {w : World} {b : Nat} (h : FrAt w b g v0) : Calls Try.prog 16 #[str l, .pointer (some ⟨b, 0, none⟩)] w (BehT s l k b w) := by
  have G0 := h
  have c0 : w.cell? ⟨b, 0, none⟩ = some (.int .i64 k) := by have := h.c0; rwa [hst.kind] at this
  have kg := hst.kind
  rcases behind_ways g with ⟨h0, e1, e2⟩ | ⟨h0, e1, e2⟩ | ⟨h0, e1, e2⟩ | ⟨h0, e1, e2⟩ | ⟨⟨n1, n4, n8, n2⟩, e1, e2⟩ <;> clear e1 e2
  · obtain rfl : k = 1 := by rw [← kg, h0]
    obtain ⟨o, n, q1, q2⟩ := getT_ways l
    have P := fun w => get_any l (by omega) w
    rw [q1] at P
    have HP := hide P
    have HQ := hide q2
    have HS := hide hst
    clear P q1 q2 hst h h0
    go_enter Try.func16, Try.ntmps16
    go_wp2_with (first
      | (go_at_call 33; (with_reducible refine (unhide HP _).mono ?_); rintro e w2 ⟨rfl, k2⟩)
      | ((with_reducible show wpList _ _ _ (⟨none, _, _, _, _, none⟩ :: _) _ _); refine wpL_put rfl 24 (.tmp 21) (.tmp 18) rfl b 7 o.cells rfl rfl (g.cells v0).toArray _ (G0.no k2) (by rw [List.size_toArray, FT.len]; show 7 + 4 ≤ 29; omega) info_op (PT.one _) ?_; intro w3 k3 g3 z3; have G3 := fr_op g3; clear z3 g3))
    go_ret
    have S := unhide HS
    refine ⟨_, _, _, rfl, G3, rfl, chg_one k2 k3, ?_⟩
    rcases unhide HQ with ⟨rfl, b2, b3⟩ | ⟨rfl, b2⟩
    · refine .inl ⟨rfl, isOf_beh S hk rfl ?_ ?_ (fun q => absurd rfl q) (fun _ => S.re) (fun _ => S.eop) (fun _ => S.ch), none, 0, ?_, ?_, fun q h => by cases h⟩
      · simp [behindB, FT.withOp, kg, b2]
      · simp [behindL, FT.withOp, kg, b3]
      · simp [FT.withOp, S.ch, Ch.cZero]
      · simp only [FT.withOp, S.ch]; exact sl_none _
    · exact .inr ⟨rfl, fun f hf hb hl => b2 f.op (by simpa [behindB, hf] using hb) (by simpa [behindL, hf] using hl)⟩
  · obtain rfl : k = 4 := by rw [← kg, h0]
    obtain ⟨o, n, q1, q2⟩ := getT_ways l
    have P := fun w => get_any l (by omega) w
    rw [q1] at P
    have HP := hide P
    have HQ := hide q2
    have HS := hide hst
    clear P q1 q2 hst h h0
    go_enter Try.func16, Try.ntmps16
    go_wp2_with (first
      | (go_at_call 33; (with_reducible refine (unhide HP _).mono ?_); rintro e w2 ⟨rfl, k2⟩)
      | ((with_reducible show wpList _ _ _ (⟨none, _, _, _, _, none⟩ :: _) _ _); refine wpL_put rfl 24 (.tmp 32) (.tmp 28) rfl b 19 o.cells rfl rfl (g.cells v0).toArray _ (G0.no k2) (by rw [List.size_toArray, FT.len]; show 19 + 4 ≤ 29; omega) info_op (PT.one _) ?_; intro w3 k3 g3 z3; have G3 := fr_eop g3; clear z3 g3))
    go_ret
    have S := unhide HS
    refine ⟨_, _, _, rfl, G3, rfl, chg_one k2 k3, ?_⟩
    rcases unhide HQ with ⟨rfl, b2, b3⟩ | ⟨rfl, b2⟩
    · refine .inl ⟨rfl, isOf_beh S hk rfl ?_ ?_ (fun _ => S.op) (fun _ => S.re) (fun q => absurd rfl q) (fun _ => S.ch), none, 0, ?_, ?_, fun q h => by cases h⟩
      · simp [behindB, FT.withEop, kg, b2]
      · simp [behindL, FT.withEop, kg, b3]
      · simp [FT.withEop, S.ch, Ch.cZero]
      · simp only [FT.withEop, S.ch]; exact sl_none _
    · exact .inr ⟨rfl, fun f hf hb hl => b2 f.eop (by simpa [behindB, hf] using hb) (by simpa [behindL, hf] using hl)⟩
  · obtain rfl : k = 8 := by rw [← kg, h0]
    have HP := hide (fun w => Ch.get_any w l hl)
    have HS := hide hst
    have HB := hide h.lt
    clear hst h h0
    go_enter Try.func16, Try.ntmps16
    go_wp2_with (first
      | (go_at_call 34; (with_reducible refine (unhide HP _).mono ?_); rintro e w2 ⟨c, n, gc, v, rfl, k2, o2, f2⟩; have HQ := hide gc; have HO := hide o2; have HF := hide f2; clear gc o2 f2)
      | ((with_reducible show wpList _ _ _ (⟨none, _, _, _, _, none⟩ :: _) _ _); refine wpL_put rfl 31 (.tmp 42) (.tmp 39) rfl b 23 (Ch.chC c v).toList rfl rfl (g.cells v0).toArray _ (G0.no k2) (by rw [List.size_toArray, FT.len]; show 23 + 3 ≤ 29; omega) info_ch (Ch.one_chC (unhide HO).one) ?_; intro w3 k3 g3 z3; have G3 := fr_ch g3; clear z3 g3))
    go_ret
    have S := unhide HS
    refine ⟨_, _, _, rfl, G3, (unhide HO).one, chg_one k2 k3, ?_⟩
    rcases unhide HQ with ⟨⟨b2, b3⟩, rfl⟩ | ⟨b2, rfl, rfl⟩
    · have o3 := OwnL.kept (unhide HO) k3 fun q hq e => by have e : q = b := e; have := unhide HF q hq; have := unhide HB; omega
      obtain ⟨ad, cap, e, sl⟩ := Ch.sl_own o3 (by have := (Ch.good_fits b2).len; omega)
      refine .inl ⟨rfl, isOf_beh S hk rfl ?_ ?_ (fun _ => S.op) (fun _ => S.re) (fun _ => S.eop) (fun q => absurd rfl q), ad, cap, e, sl, fun q hq => by
        subst hq
        subst e
        have := unhide HF q.block rfl
        have := unhide HB
        omega⟩
      · simp [behindB, FT.withCh, kg, b2]
      · simp [behindL, FT.withCh, kg, b3]
    · exact .inr ⟨rfl, fun f hf hb hl => b2 f.ch ⟨by simpa [behindB, hf] using hb, by simpa [behindL, hf] using hl⟩⟩
  · obtain rfl : k = 2 := by rw [← kg, h0]
    have e1 : g.withRe rZero = g := by rw [← hst.re]; rfl
    have G1 : FrAt w b (g.withRe rZero) v0 := by rw [e1]; exact h
    clear e1
    have HP := hide (getResult_any l hl g G1)
    have HS := hide hst
    clear hst h h0 G0 G1
    go_enter Try.func16, Try.ntmps16
    go_wp2_with (go_at_call 35; (refine (unhide HP).mono ?_); rintro e w2 ⟨r, ok, rfl, G2, k2, hr⟩; have HR := hide hr; clear hr)
    go_ret
    have S := unhide HS
    refine ⟨_, _, _, rfl, G2, rfl, k2, ?_⟩
    rcases unhide HR with ⟨rfl, b2, b3⟩ | ⟨rfl, b2⟩
    · refine .inl ⟨rfl, isOf_beh S hk rfl ?_ ?_ (fun _ => S.op) (fun q => absurd rfl q) (fun _ => S.eop) (fun _ => S.ch), none, 0, ?_, ?_, fun q h => by cases h⟩
      · simp [behindB, FT.withRe, kg, b2]
      · simp [behindL, FT.withRe, kg, b3]
      · simp [FT.withRe, S.ch, Ch.cZero]
      · simp only [FT.withRe, S.ch]; exact sl_none _
    · exact .inr ⟨rfl, fun f hf hb hl => b2 f.re (by simpa [behindB, hf] using hb) (by simpa [behindL, hf] using hl)⟩
  · have d1 : (k == 1) = false := by rw [← kg]; simpa using n1
    have d4 : (k == 4) = false := by rw [← kg]; simpa using n4
    have d8 : (k == 8) = false := by rw [← kg]; simpa using n8
    have d2 : (k == 2) = false := by rw [← kg]; simpa using n2
    have HS := hide hst
    have HG := hide h
    have HN := hide (show k ≠ 1 ∧ k ≠ 4 ∧ k ≠ 8 ∧ k ≠ 2 by rw [← kg]; exact ⟨n1, n4, n8, n2⟩)
    clear hst h n1 n4 n8 n2
    by_cases e : l = []
    · subst e
      go_enter Try.func16, Try.ntmps16
      go_wp2_with fail
      go_ret
      have S := unhide HS
      obtain ⟨n1, n4, n8, n2⟩ := unhide HN
      refine ⟨g, v0, true, rfl, unhide HG, rfl, Chg.refl _ _, .inl ⟨rfl, isOf_beh S hk rfl ?_ ?_ (fun _ => S.op) (fun _ => S.re) (fun _ => S.eop) (fun _ => S.ch), none, 0, ?_, ?_, fun q h => by cases h⟩⟩
      · simp [behindB, kg, n1, n4, n8, n2]
      · simp [behindL, kg, n1, n4, n8, n2]
      · simp [S.ch, Ch.cZero]
      · rw [S.ch]; exact sl_none _
    · go_enter Try.func16, Try.ntmps16
      go_wp2_with fail
      go_ret
      obtain ⟨n1, n4, n8, n2⟩ := unhide HN
      exact ⟨g, v0, _, rfl, unhide HG, rfl, Chg.refl _ _, .inr ⟨List.isEmpty_eq_false_iff.2 e, fun f hf hb hl => e (by rw [← hl]; simp [behindL, hf, n1, n4, n8, n2])⟩⟩
#print axioms getBehind_any
end Go.Proofs.Ytfplgmkbhpdmjaa.Fm
