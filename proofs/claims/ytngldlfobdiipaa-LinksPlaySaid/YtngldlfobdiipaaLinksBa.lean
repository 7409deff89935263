/-
  Links: the document's: New, List.
-/
import Derived.Test.YtngldlfobdiipaaLinksE
namespace Go.Proofs.Ytngldlfobdiipaa.Lk
open Go.ChangeShapes Go.WideShapes Go.ChangeAt Go.RowKit
set_option linter.unusedVariables false
attribute [local go_sem] bs_size bs_app bs_cut bs_tl bs_at
abbrev OwnM (w : World) (v : Value) (L : List ML) : Prop := OwnL w 33 ML.cells 3 v L
/-- the document's links, at b, with the mail v, in blocks of S -/
structure RefAt (w : World) (S : Nat → Prop) (b : Nat) (v : Value) (cap : Nat) (L : List ML) : Prop where
  blk : w.heap[b]? = some (.cells #[.int .i64 (cap : Int), v] 58 (0, 0))
  row : OwnM w v L
  inb : S b
  own : ∀ g, v.ownBlock = some g → S g
  lt : ∀ k, S k → k < w.heap.size
section
variable {w w' : World} {S T : Nat → Prop} {b cap : Nat} {v : Value} {L : List ML}
theorem RefAt.kept (h : RefAt w S b v cap L) (k : Chg T w w') (hd : ∀ i, S i → ¬ T i) : RefAt w' S b v cap L :=
  ⟨k.at h.blk (hd b h.inb), h.row.kept k fun g hg => hd g (h.own g hg), h.inb, h.own, fun i hi => k.lt (h.lt i hi)⟩
theorem RefAt.no (h : RefAt w S b v cap L) (k : Chg noBlk w w') : RefAt w' S b v cap L := h.kept k fun _ _ => id
theorem RefAt.c0 (h : RefAt w S b v cap L) : w.cell? ⟨b, 0, none⟩ = some (.int .i64 (cap : Int)) := cellAt h.blk 0 _ rfl
theorem RefAt.c1 (h : RefAt w S b v cap L) : w.cell? ⟨b, 1, none⟩ = some v := cellAt h.blk 1 _ rfl
theorem RefAt.bne (h : RefAt w S b v cap L) {g : Nat} (hg : v.ownBlock = some g) : g ≠ b := fun e => by
  obtain ⟨cur, hc⟩ := h.row.block hg
  rw [e, h.blk] at hc
  injection hc with hc
  injection hc with _ hc _
  exact absurd hc (by decide)
theorem RefAt.form (h : RefAt w S b v cap L) : ∃ ad cp, v = .slice ad L.length cp := by
  obtain ⟨ad, cp, e, _⟩ := h.row.form ML.len
  exact ⟨ad, cp, e⟩
theorem RefAt.at (h : RefAt w S b v cap L) {ad : Option Addr} {n c : Nat} (e : v = .slice ad n c) {k : Nat} {m : ML} (hm : L[k]? = some m) : ∃ g off, ad = some ⟨g, off, none⟩ ∧ w.rangeAt g (off + k * 3) m.cells := by
  obtain ⟨ad', cp, e', _, _, hr⟩ := h.row.form ML.len
  rw [e] at e'
  injection e' with e' _ _
  subst e'
  obtain ⟨_, g, off, e2, hc⟩ := hr k m hm
  exact ⟨g, off, e2, hc⟩
end
/-! ### New -/
/-- told: new ones of the document, without mail -/
def NewR (cap : Nat) (w : World) (e : Ending) (w' : World) : Prop := ∃ b, e = .returned (.tuple #[.pointer (some ⟨b, 0, none⟩), .int .i64 0]) ∧ w.heap.size ≤ b ∧ Chg noBlk w w' ∧ RefAt w' (oneBlk b) b nilS cap []
theorem rnew_yes (cap : Nat) (w : World) (h1 : 1 ≤ cap) (h2 : cap ≤ 64) : Calls Try.prog 9 #[.int .i64 (cap : Int)] w (NewR cap w) := by
  have d1 : decide ((cap : Int) < 1) = false := by simp; omega
  have d2 : decide ((64 : Int) < (cap : Int)) = false := by simp; omega
  have H1 := hide h1
  have H2 := hide h2
  clear h1 h2
  go_enter Try.func9, Try.ntmps9
  go_wp2
  go_ret2
  refine ⟨w.heap.size, rfl, Nat.le_refl _, (Chg.refl _ _).alloc _, heap_alloc_new w _, ownL_nil _ _ _ _, rfl, (fun g hg => by cases hg), fun k hk => ?_⟩
  have hk : k = w.heap.size := hk
  rw [hk, World.size_alloc]
  omega
theorem rnew_no (n : Int) (w : World) (h : n < 1 ∨ 64 < n) : Calls Try.prog 9 #[.int .i64 n] w (Told (.tuple #[.pointer none, .int .i64 2]) w) := by
  rcases h with h | h
  · go_enter Try.func9, Try.ntmps9
    go_wp2
    go_ret2
    exact ⟨rfl, rfl⟩
  · have h1 : ¬ n < 1 := by omega
    go_enter Try.func9, Try.ntmps9
    go_wp2
    go_ret2
    exact ⟨rfl, rfl⟩
/-! ### List -/
theorem sel_next {L : List ML} {n : Nat} {m : ML} (h : L[n]? = some m) (x y : Int) : sel (L.take (n + 1)) x y = sel (L.take n) x y ++ (if isP x y m = true then [m.txt] else []) := by
  rw [List.take_add_one, h, sel_app]
  congr 1
  cases e : isP x y m
  · exact sel_cons_miss [] e
  · exact sel_cons_hit [] e
theorem sel_few (L : List ML) (n : Nat) (x y : Int) : (sel (L.take n) x y).length ≤ n := Nat.le_trans (sel_len _ _ _) (by rw [List.length_take]; omega)
theorem grown_chg {w0 w w3 : World} {v v3 : Value} {o : Obj} (k : Chg noBlk w0 w) (f : ∀ g, v.ownBlock = some g → w0.heap.size ≤ g) (k3 : Chg (fun i => v.ownBlock = some i) (w.alloc o) w3) : Chg noBlk w0 w3 :=
  (k.alloc o).trans k3 fun i hi e => by have := f i e; omega
theorem grown_new {w0 w : World} {v v3 : Value} {o : Obj} (k : Chg noBlk w0 w) (f : ∀ g, v.ownBlock = some g → w0.heap.size ≤ g) (f3 : v3.ownBlock = v.ownBlock ∨ v3.ownBlock = some (w.alloc o).heap.size) : ∀ g, v3.ownBlock = some g → w0.heap.size ≤ g := fun g hg => by
  rcases f3 with e | e <;> rw [hg] at e
  · exact f g e.symm
  · have e := Option.some.inj e
    have := (k.alloc o).size
    omega
/-- where the going through stands -/
def SelAt (w0 : World) (L : List ML) (x y : Int) (v i : Value) (w : World) : Prop :=
  ∃ n : Nat, n ≤ L.length ∧ i = .int .i64 (n : Int) ∧ OwnT w v (sel (L.take n) x y) ∧ (∀ g, v.ownBlock = some g → w0.heap.size ≤ g) ∧ Chg noBlk w0 w
section
variable {w w' : World} {S T : Nat → Prop} {b cap : Nat} {v : Value} {L : List ML}
set_option maxRecDepth 100000 in
set_option maxHeartbeats 4000000 in
theorem rlist_any (h : RefAt w S b v cap L) (hl : L.length ≤ 1000) (x y : Int) : Calls Try.prog 25 #[.pointer (some ⟨b, 0, none⟩), .int .i64 x, .int .i64 y] w (NewT (sel L x y) w) := by
  have HS := hide h
  obtain ⟨ad, cp, rfl⟩ := h.form
  clear h
  go_enter Try.func25, Try.ntmps25
  go_wp2
  go_loopw [7, 8] (fun v i wr => SelAt w L x y v i wr) (fun v i wr => L.length - (intOf i).toNat)
  case atStart => exact ⟨0, by omega, rfl, ownL_nil _ _ _ _, (fun g hg => by cases hg), Chg.refl _ _⟩
  case round =>
    obtain ⟨n, hn, rfl, ho, hb, kw⟩ := hrel
    have KW := hide kw
    have HO := hide ho
    have HB := hide hb
    clear kw ho hb
    have h1 := ((unhide HS).no (unhide KW)).c1
    by_cases hlt : n < L.length
    · have d1 : decide (n < L.length) = true := by simpa using hlt
      obtain ⟨m, hm⟩ : ∃ m, L[n]? = some m := ⟨_, List.getElem?_eq_getElem hlt⟩
      obtain ⟨g, off, rfl, hr⟩ := ((unhide HS).no (unhide KW)).at rfl hm
      have c0 : wr.cell? ⟨g, off + n * 3, none⟩ = some (.int .i64 m.fr) := hr 0 _ rfl
      have c1 : wr.cell? ⟨g, off + n * 3 + 1, none⟩ = some (.int .i64 m.to) := hr 1 _ rfl
      have c2 : wr.cell? ⟨g, off + n * 3 + 2, none⟩ = some (str m.txt) := hr 2 _ rfl
      have i1 : (0 : Int) ≤ (n : Int) := by omega
      have i2 : (n : Int) < (L.length : Int) := by omega
      have i3 : (n : Int) ≤ 1000 := by omega
      have HFEW := hide (sel_few L n x y)
      have HN := hide (sel_next hm x y)
      clear hm hr
      by_cases e1 : m.fr = x
      · have d2 : (m.fr == x) = true := by simpa using e1
        by_cases e2 : m.to = y
        · have d3 : (m.to == y) = true := by simpa using e2
          have HE : Hid (sel (L.take (n + 1)) x y = sel (L.take n) x y ++ [m.txt]) := hide (by rw [unhide HN, if_pos (isP_yes.2 ⟨e1, e2⟩)])
          have M1 := hide (show (sel (L.take n) x y).length + 1 ≤ maxLen by have := unhide HFEW; unfold maxLen; omega)
          have M2 := hide (show ((sel (L.take n) x y).length + 1) * 16 ≤ 140737488355328 by have := unhide HFEW; omega)
          clear e1 e2 HN
          go_wp2_with ((with_reducible show wpList _ _ _ (⟨some 50, _, _, _, _, none⟩ :: _) _ _); refine wpL_append rfl (.tmp 40) (.tmp 49) 46 (by rfl) 9 (str []) 1 16 Try.underlying46 infx_str rfl (by decide) u7 (sel (L.take n) x y).length (flatC txC (sel (L.take n) x y)) (by rfl) (owns_kept (unhide HO) ((Chg.refl noBlk wr).alloc _) fun _ _ => id) (.slice (some ⟨wr.heap.size, 0, none⟩) 1 1) 1 [str m.txt] (by rfl) (reads_new1 (W := wr) (t := 9) (Chg.refl _ _) rfl (txC_one m.txt)) (unhide M1) (unhide M2) ?_; intro v3 w3 k3 o3 f3)
          have REL := hide (show SelAt w L x y v3 (.int .i64 ((n : Int) + 1)) w3 from ⟨n + 1, by omega, by go_num, by rw [unhide HE]; exact ownL_grew o3, grown_new (unhide KW) (unhide HB) f3, grown_chg (v3 := v3) (unhide KW) (unhide HB) k3⟩)
          clear k3 o3 f3 h1 c0 c1 c2
          go_roundw
          case rel => exact unhide REL
          case measure => simp [intOf]; omega
        · have d3 : (m.to == y) = false := by simpa using e2
          have HE : Hid (sel (L.take (n + 1)) x y = sel (L.take n) x y) := hide (by rw [unhide HN, if_neg (fun e => e2 (isP_yes.1 e).2), List.append_nil])
          have REL := hide (show SelAt w L x y u7 (.int .i64 ((n : Int) + 1)) wr from ⟨n + 1, by omega, by go_num, by rw [unhide HE]; exact unhide HO, unhide HB, unhide KW⟩)
          clear e1 e2 HN
          go_wp2
          go_roundw
          case rel => exact unhide REL
          case measure => simp [intOf]; omega
      · have d2 : (m.fr == x) = false := by simpa using e1
        have HE : Hid (sel (L.take (n + 1)) x y = sel (L.take n) x y) := hide (by rw [unhide HN, if_neg (fun e => e1 (isP_yes.1 e).1), List.append_nil])
        have REL := hide (show SelAt w L x y u7 (.int .i64 ((n : Int) + 1)) wr from ⟨n + 1, by omega, by go_num, by rw [unhide HE]; exact unhide HO, unhide HB, unhide KW⟩)
        clear e1 HN
        go_wp2
        go_roundw
        case rel => exact unhide REL
        case measure => simp [intOf]; omega
    · obtain rfl : n = L.length := by omega
      go_wp2
      go_ret
      refine ⟨u7, rfl, unhide KW, ?_, unhide HB⟩
      have := unhide HO
      rwa [List.take_length] at this
end
end Go.Proofs.Ytngldlfobdiipaa.Lk
