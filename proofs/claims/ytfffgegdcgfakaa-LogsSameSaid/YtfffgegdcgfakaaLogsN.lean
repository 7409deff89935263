/-
  Logs: two logs of the same entries: the first loop.
-/
import Derived.Test.YtfffgegdcgfakaaLogsM
import Derived.Deep.DeepCutAuto
namespace Go.Proofs.Ytfffgegdcgfakaa
open Go.ChangeShapes Go.WideShapes Go.ChangeAt Go.RowKit
set_option linter.unusedVariables false
attribute [local go_sem] bs_size bs_app bs_cut bs_tl bs_at
attribute [local go_sem ↓] eq_ress
attribute [local go_sem] eqRb_self
/-- an entry written: met whole -/
def stEnt (x y : Value) : Sem Unit := Instr.storeAt 34 x y
theorem stEnt_pre (x y : Value) : Instr.storeAt 34 x y = stEnt x y := rfl
theorem run_stEnt {w : World} {b : Nat} {cur : Array Value} (x : ET) (h : w.heap[b]? = some (.cells cur 34 (0, 0))) (hc : cur.size = 7) : (stEnt (.pointer (some ⟨b, 0, none⟩)) (.agg x.cells.toArray)).run Try.prog w = .ok () (w.setCells b 0 x.cells) := by
  have := run_storeAt_mid (P := Try.prog) w b 0 34 x.cells.toArray (fun j hj => ⟨by rw [cellAt h (0 + j) (cur[0 + j]'(by simp at hj; have : x.cells.length = 7 := rfl; omega)) (by simp)]; rfl, freeAt h _⟩) (by rw [info_ent]; rfl) (all_oneCell_toArray (ET.one x))
  unfold stEnt
  simpa using this
theorem put_ent {w : World} {b : Nat} {cur : Array Value} (x : ET) (h : w.heap[b]? = some (.cells cur 34 (0, 0))) (hc : cur.size = 7) : EntAt (w.setCells b 0 x.cells) b x ∧ Chg (oneBlk b) w (w.setCells b 0 x.cells) := by
  refine ⟨?_, setCells_chg w b x.cells 0⟩
  have := setCells_heap Try.prog h (o := 0) (vs := x.cells) (by have : x.cells.length = 7 := rfl; omega) (ET.one x)
  have e : laidIn cur 0 x.cells = x.cells.toArray := by
    unfold laidIn
    have h7 : x.cells.length = 7 := rfl
    rw [List.take_zero, List.nil_append, List.drop_of_length_le (by simp; omega), List.append_nil]
  rw [e] at this
  exact this
/-- the variable is made behind it, or ahead of it -/
theorem late_ent (w : World) (x : ET) : (stEnt (.pointer (some ⟨w.heap.size, 0, none⟩)) (.agg x.cells.toArray)).run Try.prog (w.alloc (.cells #[.int .i64 0, .int .i64 0, .int .i64 0, .int .i64 0, .string ⟨#[]⟩, .string ⟨#[]⟩, .int .i64 0] 34)) = .ok () ((w.alloc (.cells #[.int .i64 0, .int .i64 0, .int .i64 0, .int .i64 0, .string ⟨#[]⟩, .string ⟨#[]⟩, .int .i64 0] 34)).setCells w.heap.size 0 x.cells) := run_stEnt x (heap_alloc_new w _) rfl
theorem early_ent {w w' : World} (x : ET) (k : Chg noBlk ((w.alloc (.cells #[.int .i64 0, .int .i64 0, .int .i64 0, .int .i64 0, .string ⟨#[]⟩, .string ⟨#[]⟩, .int .i64 0] 34)).drew) w') : (stEnt (.pointer (some ⟨w.heap.size, 0, none⟩)) (.agg x.cells.toArray)).run Try.prog w' = .ok () (w'.setCells w.heap.size 0 x.cells) := run_stEnt x (k.at (heap_alloc_new w _) id) rfl
theorem late_put {w0 w : World} (x : ET) (k : Chg noBlk w0 w) : EntAt ((w.alloc (.cells #[.int .i64 0, .int .i64 0, .int .i64 0, .int .i64 0, .string ⟨#[]⟩, .string ⟨#[]⟩, .int .i64 0] 34)).setCells w.heap.size 0 x.cells) w.heap.size x ∧ w0.heap.size ≤ w.heap.size ∧ Chg noBlk w0 ((w.alloc (.cells #[.int .i64 0, .int .i64 0, .int .i64 0, .int .i64 0, .string ⟨#[]⟩, .string ⟨#[]⟩, .int .i64 0] 34)).setCells w.heap.size 0 x.cells) := by
  obtain ⟨h1, h2⟩ := put_ent x (heap_alloc_new w (.cells #[.int .i64 0, .int .i64 0, .int .i64 0, .int .i64 0, .string ⟨#[]⟩, .string ⟨#[]⟩, .int .i64 0] 34)) rfl
  exact ⟨h1, k.size, (k.alloc _).past h2 k.size⟩
theorem early_put {w w' : World} (x : ET) (k : Chg noBlk ((w.alloc (.cells #[.int .i64 0, .int .i64 0, .int .i64 0, .int .i64 0, .string ⟨#[]⟩, .string ⟨#[]⟩, .int .i64 0] 34)).drew) w') : EntAt (w'.setCells w.heap.size 0 x.cells) w.heap.size x ∧ w.heap.size ≤ w.heap.size ∧ Chg noBlk w (w'.setCells w.heap.size 0 x.cells) := by
  obtain ⟨h1, h2⟩ := put_ent x (k.at (heap_alloc_new w _) id) rfl
  exact ⟨h1, Nat.le_refl _, ((((Chg.refl noBlk w).alloc _).drew).andNo k).past h2 (Nat.le_refl _)⟩
theorem late_chg {w0 w : World} (x : ET) (k : Chg noBlk w0 w) : Chg noBlk w0 ((w.alloc (.cells #[.int .i64 0, .int .i64 0, .int .i64 0, .int .i64 0, .string ⟨#[]⟩, .string ⟨#[]⟩, .int .i64 0] 34)).setCells w.heap.size 0 x.cells) := (late_put x k).2.2
theorem early_chg {w w' : World} (x : ET) (k : Chg noBlk ((w.alloc (.cells #[.int .i64 0, .int .i64 0, .int .i64 0, .int .i64 0, .string ⟨#[]⟩, .string ⟨#[]⟩, .int .i64 0] 34)).drew) w') : Chg noBlk w (w'.setCells w.heap.size 0 x.cells) := (early_put x k).2.2
theorem late_chg' {w0 w : World} (x : ET) (k : Chg noBlk w0.drew w) : Chg noBlk w0 ((w.alloc (.cells #[.int .i64 0, .int .i64 0, .int .i64 0, .int .i64 0, .string ⟨#[]⟩, .string ⟨#[]⟩, .int .i64 0] 34)).setCells w.heap.size 0 x.cells) := late_chg x (((Chg.refl noBlk w0).drew).andNo k)
theorem act_keep {w w' : World} {b o : Nat} {a : AT} (h : w.rangeAt b o a.cells) (k : Chg noBlk w w') : Chg noBlk w w' ∧ w'.cell? ⟨b, o, none⟩ = some (.int .u8 a.k) ∧ w'.cell? ⟨b, o + 1, none⟩ = some (.int .i64 a.e.idx) ∧ w'.cell? ⟨b, o + 2, none⟩ = some (.int .i64 a.e.cl) ∧ w'.cell? ⟨b, o + 3, none⟩ = some (.int .i64 a.e.seq) ∧ w'.cell? ⟨b, o + 4, none⟩ = some (.int .i64 a.e.op.k) ∧ w'.cell? ⟨b, o + 5, none⟩ = some (str a.e.op.key) ∧ w'.cell? ⟨b, o + 6, none⟩ = some (str a.e.op.val) ∧ w'.cell? ⟨b, o + 7, none⟩ = some (.int .i64 a.e.op.ver) := by
  have r := range_kept h k
  exact ⟨k, r 0 _ rfl, r 1 _ rfl, r 2 _ rfl, r 3 _ rfl, r 4 _ rfl, r 5 _ rfl, r 6 _ rfl, r 7 _ rfl⟩
attribute [local go_sem ↓] stEnt_pre
/-- where the three logs stand -/
def SameAt (w0 : World) (pa pb pc : Value) (len : Nat) (i : Value) (w : World) : Prop :=
  ∃ (n : Nat) (E : List ET) (Sa Sb Sc : Nat → Prop), n ≤ len ∧ i = .int .i64 (n : Int) ∧ IsLog w Sa pa E ∧ IsLog w Sb pb E ∧ IsLog w Sc pc [] ∧ E.length ≤ n ∧
    (∀ k, Sa k → ¬ Sb k) ∧ (∀ k, Sa k → ¬ Sc k) ∧ (∀ k, Sb k → ¬ Sc k) ∧ (∀ k, Sa k → w0.heap.size ≤ k) ∧ (∀ k, Sb k → w0.heap.size ≤ k) ∧ (∀ k, Sc k → w0.heap.size ≤ k) ∧ Chg noBlk w0 w
theorem same_b {w0 wr w6 w7 w9 : World} {Sa Sb : Nat → Prop} {pb : Value} {E : List ET} (lb : IsLog wr Sb pb E) (dab : ∀ k, Sa k → ¬ Sb k) (K6 : Chg noBlk wr w6) (k7 : Chg Sa w6 w7) (K9 : Chg noBlk w7 w9) : IsLog w9 Sb pb E :=
  ((lb.no K6).kept k7 fun i h1 h2 => dab i h2 h1).no K9
theorem same_a {wr w6 w7 w9 w10 : World} {Sa Sa' Sb : Nat → Prop} {pa pb : Value} {E F : List ET} (lb : IsLog wr Sb pb E) (dab : ∀ k, Sa k → ¬ Sb k) (K6 : Chg noBlk wr w6) (g7 : Grew Sa w6 Sa' w7) (la7 : IsLog w7 Sa' pa F) (K9 : Chg noBlk w7 w9) (k10 : Chg Sb w9 w10) : IsLog w10 Sa' pa F :=
  (la7.no K9).kept k10 fun i h1 h2 => by
    have := lb.lt i h2
    have := K6.size
    rcases (g7 i h1).1 with h | h
    · exact dab i h h2
    · omega
theorem same_step {w0 wr w6 w7 w9 w10 wE : World} {Sa Sb Sc Sa' Sb' : Nat → Prop} {pa pb pc : Value} {E F : List ET} {n len : Nat} (la : IsLog wr Sa pa E) (lb : IsLog wr Sb pb E) (lc : IsLog wr Sc pc []) (dab : ∀ k, Sa k → ¬ Sb k) (dac : ∀ k, Sa k → ¬ Sc k) (dbc : ∀ k, Sb k → ¬ Sc k)
    (na : ∀ k, Sa k → w0.heap.size ≤ k) (nb : ∀ k, Sb k → w0.heap.size ≤ k) (nc : ∀ k, Sc k → w0.heap.size ≤ k) (kw : Chg noBlk w0 wr) (K6 : Chg noBlk wr w6) (k7 : Chg Sa w6 w7) (g7 : Grew Sa w6 Sa' w7) (la7 : IsLog w7 Sa' pa F) (K9 : Chg noBlk w7 w9) (k10 : Chg Sb w9 w10) (g10 : Grew Sb w9 Sb' w10) (lb10 : IsLog w10 Sb' pb F) (KE : Chg noBlk w10 wE)
    (hn : n + 1 ≤ len) (hF : F.length ≤ n + 1) : SameAt w0 pa pb pc len (.int .i64 ((n : Int) + 1)) wE := by
  have z0 := kw.size
  have z1 := K6.size
  have z2 := k7.size
  have z3 := K9.size
  refine ⟨n + 1, F, Sa', Sb', Sc, hn, by go_num, (same_a lb dab K6 g7 la7 K9 k10).no KE, lb10.no KE, ((((lc.no K6).kept k7 fun i h1 h2 => dac i h2 h1).no K9).kept k10 fun i h1 h2 => dbc i h2 h1).no KE, hF, fun k h1 h2 => ?_, fun k h1 h2 => ?_, fun k h1 h2 => ?_, fun k h1 => ?_, fun k h1 => ?_, nc, ?_⟩
  · rcases (g7 k h1).1 with h | h
    · rcases (g10 k h2).1 with h' | h'
      · exact dab k h h'
      · have := la.lt k h; omega
    · have h3 := (g7 k h1).2
      rcases (g10 k h2).1 with h' | h'
      · have := lb.lt k h'; omega
      · omega
  · rcases (g7 k h1).1 with h | h
    · exact dac k h h2
    · have := lc.lt k h2; omega
  · rcases (g10 k h1).1 with h | h
    · exact dbc k h h2
    · have := lc.lt k h2; omega
  · rcases (g7 k h1).1 with h | h
    · exact na k h
    · omega
  · rcases (g10 k h1).1 with h | h
    · exact nb k h
    · omega
  · have e1 : Chg noBlk w0 w7 := (kw.andNo K6).trans k7 fun i hi h => by have := na i h; omega
    have e2 : Chg noBlk w0 w10 := (e1.andNo K9).trans k10 fun i hi h => by have := nb i h; omega
    exact e2.andNo KE
/-- where the other log stands -/
def PutAt (w0 : World) (pa pc : Value) (E E2 : List ET) (Sa : Nat → Prop) (g2 : Nat) (i : Value) (w : World) : Prop :=
  ∃ (k : Nat) (Sc : Nat → Prop), k ≤ E2.length ∧ i = .int .i64 (k : Int) ∧ IsLog w Sc pc (E2.take k) ∧ IsLog w Sa pa E ∧ RowsIn ET.cells (fun _ => True) 7 w (some ⟨g2, 0, none⟩) E2 ∧ (∀ k, Sa k → ¬ Sc k) ∧ ¬ Sc g2 ∧ (∀ k, Sc k → w0.heap.size ≤ k) ∧ g2 < w.heap.size ∧ Chg noBlk w0 w
theorem put_step {w0 wr w7 wE : World} {pa pc : Value} {E E2 : List ET} {Sa Sc Sd : Nat → Prop} {g2 k : Nat} (lc : IsLog wr Sc pc (E2.take k)) (la : IsLog wr Sa pa E) (rw5 : RowsIn ET.cells (fun _ => True) 7 wr (some ⟨g2, 0, none⟩) E2) (dac : ∀ k, Sa k → ¬ Sc k) (gc : ¬ Sc g2) (nc : ∀ k, Sc k → w0.heap.size ≤ k) (hg : g2 < wr.heap.size) (kv : Chg noBlk w0 wr)
    (k7 : Chg Sc wr w7) (g7 : Grew Sc wr Sd w7) (l7 : IsLog w7 Sd pc (E2.take (k + 1))) (K9 : Chg noBlk w7 wE) (hk : k + 1 ≤ E2.length) : PutAt w0 pa pc E E2 Sa g2 (.int .i64 ((k : Int) + 1)) wE := by
  have z0 := kv.size
  have z1 := k7.size
  have z2 := K9.size
  refine ⟨k + 1, Sd, hk, by go_num, l7.no K9, (la.kept k7 fun i h => dac i h).no K9, fun i x hx => ?_, fun i h1 h2 => ?_, fun h => ?_, fun i h => ?_, by omega, (kv.trans k7 fun i hi h => by have := nc i h; omega).andNo K9⟩
  · obtain ⟨_, g, o, e, r⟩ := rw5 i x hx
    simp only [Option.some.injEq, Addr.mk.injEq, and_true] at e
    obtain ⟨rfl, rfl⟩ := e
    exact ⟨trivial, g2, 0, rfl, range_kept (fun j v hv => k7.cell (r j v hv) gc) K9⟩
  · rcases (g7 i h2).1 with h | h
    · exact dac i h1 h
    · have := la.lt i h1; omega
  · rcases (g7 g2 h).1 with h | h
    · exact gc h
    · omega
  · rcases (g7 i h).1 with h | h
    · exact nc i h
    · omega
theorem ent_keep {w w' : World} {b o : Nat} {i c s k n : Int} {y v : List UInt8} (h : w.rangeAt b o (ET.cells ⟨i, c, s, k, y, v, n⟩)) (k' : Chg noBlk w w') : Chg noBlk w w' ∧ w'.cell? ⟨b, o, none⟩ = some (.int .i64 i) ∧ w'.cell? ⟨b, o + 1, none⟩ = some (.int .i64 c) ∧ w'.cell? ⟨b, o + 2, none⟩ = some (.int .i64 s) ∧ w'.cell? ⟨b, o + 3, none⟩ = some (.int .i64 k) ∧ w'.cell? ⟨b, o + 4, none⟩ = some (str y) ∧ w'.cell? ⟨b, o + 5, none⟩ = some (str v) ∧ w'.cell? ⟨b, o + 6, none⟩ = some (.int .i64 n) := by
  have r := range_kept h k'
  exact ⟨k', r 0 _ rfl, r 1 _ rfl, r 2 _ rfl, r 3 _ rfl, r 4 _ rfl, r 5 _ rfl, r 6 _ rfl⟩
attribute [local go_sem ↓] eq_ent
theorem res_keep {w w' : World} {p q u : Nat} {r s : RT} {x : ET} (h1 : ResAt w p r) (h2 : ResAt w q s) (h3 : EntAt w u x) (k : Chg noBlk w w') : Chg noBlk w w' ∧ w'.cell? ⟨p, 0, none⟩ = some (.int .i64 r.code) ∧ w'.cell? ⟨p, 1, none⟩ = some (str r.val) ∧ w'.cell? ⟨p, 2, none⟩ = some (.int .i64 r.ver) ∧ w'.cell? ⟨p, 3, none⟩ = some (.int .i64 r.at_) ∧ w'.cell? ⟨q, 0, none⟩ = some (.int .i64 s.code) ∧ w'.cell? ⟨q, 1, none⟩ = some (str s.val) ∧ w'.cell? ⟨q, 2, none⟩ = some (.int .i64 s.ver) ∧ w'.cell? ⟨q, 3, none⟩ = some (.int .i64 s.at_) ∧ w'.cell? ⟨u, 4, none⟩ = some (str x.op.key) :=
  ⟨k, (h1.no k).c0, (h1.no k).c1, (h1.no k).c2, (h1.no k).c3, (h2.no k).c0, (h2.no k).c1, (h2.no k).c2, (h2.no k).c3, (h3.no k).c4⟩
attribute [local go_sem ↓] eq_res
set_option maxRecDepth 100000 in
set_option maxHeartbeats 8000000 in
theorem same_in (ad : Option Addr) (l : List AT) (cap : Nat) (which : Int) (hw : 0 ≤ which ∧ which ≤ 255) (w : World) (h : ActsIn w ad l) (hg : greatL l 50 = false) :
    Calls Try.prog 5 #[.slice ad l.length cap, .int .u8 which] w (ToldN (.bool true) w) := by
  have hl := (greatL_no hg).1
  have HG := hide (great_any ad l cap 50 w (by omega) h (by omega))
  rw [hg] at HG
  have HA := hide h
  have HN := hide log_new
  clear h hg
  have t1 : True := True.intro
  have t2 : True := True.intro
  go_enter Try.func5, Try.ntmps5
  go_wp2_with (first
    | (go_at_call 6; refine (unhide HG).mono ?_; rintro e w1 ⟨rfl, k1⟩)
    | (clear t1; go_at_call 8; refine (unhide HN _).mono ?_; rintro e w2 ⟨pa, Sa, rfl, fa, la, k2, ba, rfl⟩)
    | (clear t2; go_at_call 8; refine (unhide HN _).mono ?_; rintro e w3 ⟨pb, Sb, rfl, fb, lb, k3, bb, rfl⟩)
    | (go_at_call 8; refine (unhide HN _).mono ?_; rintro e w4 ⟨pc, Sc, rfl, fc, lc, k4, bc, rfl⟩))
  have z1 := k1.size
  have z2 := k2.size
  have z3 := k3.size
  have HB0 := hide (show SameAt w (.pointer (some ⟨ba, 0, none⟩)) (.pointer (some ⟨bb, 0, none⟩)) (.pointer (some ⟨bc, 0, none⟩)) l.length (.int .i64 0) w4 from
    ⟨0, [], Sa, Sb, Sc, by omega, rfl, (la.no k3).no k4, lb.no k4, lc, by simp, fun k h1 h2 => by have := la.lt k h1; have := fb k h2; omega, fun k h1 h2 => by have := la.lt k h1; have := fc k h2; have := k3.size; omega, fun k h1 h2 => by have := lb.lt k h1; have := fc k h2; omega, fun k h1 => by have := fa k h1; omega, fun k h1 => by have := fb k h1; omega, fun k h1 => by have := fc k h1; omega, ((k1.andNo k2).andNo k3).andNo k4⟩)
  clear k1 k2 k3 k4 la lb lc fa fb fc HG HN z1 z2 z3
  go_loopw [8] (fun i wr => SameAt w (.pointer (some ⟨ba, 0, none⟩)) (.pointer (some ⟨bb, 0, none⟩)) (.pointer (some ⟨bc, 0, none⟩)) l.length i wr) (fun i wr => l.length - (intOf i).toNat)
  case atStart => exact unhide HB0
  case round =>
    clear HB0
    obtain ⟨n, E, Sa, Sb, Sc, hn, rfl, la, lb, lc, hE, dab, dac, dbc, na, nb, nc, kw⟩ := hrel
    have LA := hide la
    have LB := hide lb
    have LC := hide lc
    have D1 := hide dab
    have D2 := hide dac
    have D3 := hide dbc
    have N1 := hide na
    have N2 := hide nb
    have N3 := hide nc
    have KW := hide kw
    clear la lb lc dab dac dbc na nb nc kw
    by_cases hlt : n < l.length
    · obtain ⟨a, ha⟩ : ∃ a, l[n]? = some a := ⟨_, List.getElem?_eq_getElem hlt⟩
      have d1 : decide (n < l.length) = true := by simpa using hlt
      obtain ⟨hok, bx, off, rfl, hrng⟩ := unhide HA n a ha
      have i1 : (0 : Int) ≤ (n : Int) := by omega
      have i2 : (n : Int) < (l.length : Int) := by omega
      have hr1 := range_kept hrng (unhide KW)
      have KE := hide (fun w' k => act_keep (w' := w') hr1 k)
      have B0 := Chg.refl noBlk wr
      have hk0 := hok.k0.1
      have hkl : a.e.op.key.length ≤ maxLen := by have := hok.e0.o0.kl; unfold maxLen; omega
      clear hrng hr1 hok ha
      obtain ⟨x, hx⟩ : ∃ x, nextE a (E.length : Int) = x := ⟨_, rfl⟩
      have HNX := hide (fun w => next_any a hk0 E.length (by omega) w)
      rw [hx] at HNX
      have hkx : x.op = a.e.op := by rw [← hx]; unfold nextE; split <;> rfl
      rw [← hkx] at hkl
      clear hx hkx hk0
      have HLEN := hide (fun w' (k : Chg noBlk wr w') => log_len ((unhide LA).no k))
      go_upto_region 7 with fail
      go_cut [9] from 29 to 95 (fun e wx => ∃ p, e = .pointer (some ⟨p, 0, none⟩) ∧ EntAt wx p x ∧ wr.heap.size ≤ p ∧ Chg noBlk wr wx)
      case first =>
        go_region_held3 (fun w' => Chg noBlk wr w' ∧ w'.cell? ⟨bx, off + n * 8, none⟩ = some (.int .u8 a.k) ∧ w'.cell? ⟨bx, off + n * 8 + 1, none⟩ = some (.int .i64 a.e.idx) ∧ w'.cell? ⟨bx, off + n * 8 + 2, none⟩ = some (.int .i64 a.e.cl) ∧ w'.cell? ⟨bx, off + n * 8 + 3, none⟩ = some (.int .i64 a.e.seq) ∧ w'.cell? ⟨bx, off + n * 8 + 4, none⟩ = some (.int .i64 a.e.op.k) ∧ w'.cell? ⟨bx, off + n * 8 + 5, none⟩ = some (str a.e.op.key) ∧ w'.cell? ⟨bx, off + n * 8 + 6, none⟩ = some (str a.e.op.val) ∧ w'.cell? ⟨bx, off + n * 8 + 7, none⟩ = some (.int .i64 a.e.op.ver))
          ((refine unhide KE _ ?_; go_split_ands; with_reducible (first | assumption | (refine Chg.drew ?_; assumption) | (refine Chg.drew (Chg.alloc ?_ _); assumption) | (refine Chg.drewN ?_ _; assumption) | (refine Chg.alloc ?_ _; assumption) | (refine early_chg x ?_; assumption) | (refine late_chg x ?_; assumption) | (refine late_chg' x ?_; assumption) | exact Chg.andNo (by assumption) (by assumption))))
          (first
            | (go_at_call 13; (with_reducible refine (unhide HLEN _ B0.drew).mono ?_); rintro e w5 ⟨rfl, rfl⟩)
            | (go_at_call 13; (with_reducible refine (unhide HLEN _ ((B0.alloc _).drew)).mono ?_); rintro e w5 ⟨rfl, rfl⟩)
            | (go_at_call 14; refine (unhide HNX _).mono ?_; rintro e w5 ⟨rfl, k5⟩; have s1 := late_ent w5 x; try (with_reducible have s2 := early_ent x k5)))
        all_goals
          go_wp2_with fail
          go_meet
          case rel =>
            first
              | exact ⟨_, rfl, (by with_reducible exact early_put x k5)⟩
              | exact ⟨_, rfl, late_put x (B0.drew.andNo k5)⟩
      case rest =>
      obtain ⟨p, rfl, hp, ep, kx⟩ := hcut
      have KX := hide kx
      have HCP := hide (log_copy ((unhide LA).no kx))
      have P0 := hide (fun w' (k : Chg noBlk wc w') => hp.no k)
      have pna : ¬ Sa p := fun e => by have := (unhide LA).lt p e; omega
      have pnb : ¬ Sb p := fun e => by have := (unhide LB).lt p e; omega
      clear kx hp KE B0 HLEN HNX
      by_cases hx0 : lchk E x = 0
      · obtain ⟨r, hr⟩ : ∃ r, appR (cellsN E E.length) ((E.length : Int) + 1) x.op = r := ⟨_, rfl⟩
        obtain ⟨F, hF⟩ : ∃ F, E ++ [x] = F := ⟨_, rfl⟩
        have hFl : F.length = E.length + 1 := by rw [← hF]; simp
        have B1 : begB E F = true := by rw [← hF]; exact begB_app E x
        have HAP := hide (fun w' (k : Chg noBlk wr w') => append_ok ((unhide LA).no k) hx0 hF hr)
        have HBP := hide (fun w' (h : IsLog w' Sb (.pointer (some ⟨bb, 0, none⟩)) E) => append_ok h hx0 hF hr)
        have BW := hide (fun w' Sw pw Sb' (h : IsLog w' Sw pw E) (h2 : IsLog w' Sb' (.pointer (some ⟨bb, 0, none⟩)) F) => log_begins h h2)
        rw [B1] at BW
        have BS := hide (fun w' S pa' S' pb' (h : IsLog w' S pa' F) (h2 : IsLog w' S' pb' F) => log_begins h h2)
        rw [begB_self] at BS
        obtain ⟨rl, hrl⟩ : ∃ rl, look (cellsN F F.length) x.op.key (F.length : Int) = rl := ⟨_, rfl⟩
        have LK := hide (fun w' S p' (h : IsLog w' S p' F) => log_look h hkl)
        rw [hrl] at LK
        clear hx0 hr hF B1 hrl
        obtain ⟨y1, y2, y3, y4⟩ := r
        have t1 : True := True.intro
        have t2 : True := True.intro
        have t3 : True := True.intro
        go_wp2_with (first
          | (go_at_call 9; (with_reducible refine (unhide HCP).mono ?_); rintro e w6 ⟨pw, Sw, rfl, fw, lw, k6, bw, rfl⟩; have P6 := unhide P0 _ k6; have K6 := hide ((unhide KX).andNo k6); have pn := pna; have LW := hide lw; have FW := hide fw)
          | (clear t1; go_at_call 12; (with_reducible refine (unhide HAP _ (unhide K6)).mono ?_); rintro e w7 ⟨rfl, k7, Sa', g7, la7⟩; have P7 : EntAt w7 p x := k7.at P6 pna; have K7 := hide k7; have G7 := hide g7; have L7 := hide la7)
          | (clear t2; go_at_call 12; (with_reducible refine (unhide HBP _ (same_b (w0 := w) (unhide LB) (unhide D1) (unhide K6) (unhide K7) KC)).mono ?_); rintro e w10 ⟨rfl, k10, Sb', g10, lb10⟩; have P10 : EntAt w10 p x := k10.at P9 pnb; have R10 : ResAt w10 p8 ⟨y1, y2, y3, y4⟩ := k10.at R9 p8b; have K10 := hide k10; have G10 := hide g10; have L10 := hide lb10)
          | ((with_reducible show wpList _ _ _ (_ :: _) _ _); first
            | (refine wpL_load rfl 34 (.tmp 9) rfl p rfl x.cells.toArray _ _ P9 _ Try.underlying34 rfl info_ent ?_)
            | (refine wpL_load rfl 34 (.tmp 9) rfl p rfl x.cells.toArray _ _ P6 _ Try.underlying34 rfl info_ent ?_)
            | (clear t3; refine wpL_alloc rfl 38 rfl _ zero_res ?_; intro p8 w8 e8 k8 g8 z8; have e8 := Nat.le_of_eq e8)
            | (refine wpL_store rfl 38 (.tmp 11) (.tmp 48) rfl p8 (RT.cells ⟨y1, y2, y3, y4⟩).toArray rfl rfl _ _ g8 info_res rfl (all_oneCell_toArray (RT.one _)) ?_; intro w9 k9 g9 z9; have KC := k8.past k9 e8; have P9 := P7.no KC; have R9 : ResAt w9 p8 ⟨y1, y2, y3, y4⟩ := g9; have p8b : ¬ Sb p8 := fun e => absurd ((unhide LB).lt p8 e) (Nat.not_lt_of_le (Nat.le_trans (Nat.le_trans (unhide K6).size (unhide K7).size) e8)))
            | (refine wpL_alloc rfl 38 rfl _ zero_res ?_; intro p11 w11 e11 k11 g11 z11; have e11 := Nat.le_of_eq e11)
            | (refine wpL_store rfl 38 (.tmp 13) (.tmp 56) rfl p11 (RT.cells ⟨y1, y2, y3, y4⟩).toArray rfl rfl _ _ g11 info_res rfl (all_oneCell_toArray (RT.one _)) ?_; intro w12 k12 g12 z12; have KD := k11.past k12 e11; have P12 := P10.no KD; have R12 := R10.no KD; have Q12 : ResAt w12 p11 ⟨y1, y2, y3, y4⟩ := g12)))
        have KE := hide (fun w' k => res_keep (w' := w') R12 Q12 P12 k)
        have B0 := Chg.refl noBlk w12
        have lw10 : IsLog w12 Sw (.pointer (some ⟨bw, 0, none⟩)) E := (((((unhide LW).kept (unhide K7) fun i h1 h2 => by have := (unhide LA).lt i h2; have := unhide FW i h1; have := (unhide KX).size; omega).no KC).kept (unhide K10) fun i h1 h2 => by have := (unhide LB).lt i h2; have := unhide FW i h1; have := (unhide KX).size; omega)).no KD
        have la12 : IsLog w12 Sa' _ F := (same_a (unhide LB) (unhide D1) (unhide K6) (unhide G7) (unhide L7) KC (unhide K10)).no KD
        have lb12 : IsLog w12 Sb' _ F := (unhide L10).no KD
        have HB1 := hide (fun w' (k : Chg noBlk w12 w') => (unhide BW w' Sw _ Sb' (lw10.no k) (lb12.no k)).mono fun _ _ h => h.toN)
        have HB2 := hide (fun w' (k : Chg noBlk w12 w') => (unhide BS w' Sa' _ Sb' _ (la12.no k) (lb12.no k)).mono fun _ _ h => h.toN)
        have HB3 := hide (fun w' (k : Chg noBlk w12 w') => (unhide BS w' Sb' _ Sa' _ (lb12.no k) (la12.no k)).mono fun _ _ h => h.toN)
        have HL1 := hide (fun w' (k : Chg noBlk w12 w') => unhide LK w' Sa' _ (la12.no k))
        have HL2 := hide (fun w' (k : Chg noBlk w12 w') => unhide LK w' Sb' _ (lb12.no k))
        have KCH := hide KC
        have KDH := hide KD
        clear P6 P7 P9 P10 P12 R9 R10 R12 Q12 k8 k9 g8 g9 k11 k12 g11 g12 KC KD lw10 la12 lb12 lw fw k7 g7 la7 k10 g10 lb10 k6
        have u1 : True := True.intro
        have u2 : True := True.intro
        have u3 : True := True.intro
        go_region_held3 (fun w' => Chg noBlk w12 w' ∧ w'.cell? ⟨p8, 0, none⟩ = some (.int .i64 y1) ∧ w'.cell? ⟨p8, 1, none⟩ = some (str y2) ∧ w'.cell? ⟨p8, 2, none⟩ = some (.int .i64 y3) ∧ w'.cell? ⟨p8, 3, none⟩ = some (.int .i64 y4) ∧ w'.cell? ⟨p11, 0, none⟩ = some (.int .i64 y1) ∧ w'.cell? ⟨p11, 1, none⟩ = some (str y2) ∧ w'.cell? ⟨p11, 2, none⟩ = some (.int .i64 y3) ∧ w'.cell? ⟨p11, 3, none⟩ = some (.int .i64 y4) ∧ w'.cell? ⟨p, 4, none⟩ = some (str x.op.key))
          ((refine unhide KE _ ?_; go_split_ands; first | assumption | exact Chg.drew (by assumption) | exact Chg.drewN (by assumption) _ | exact Chg.andNo (by assumption) (by assumption)))
          (first
            | (clear u1; go_at_call 16; (with_reducible refine (unhide HB1 _ B0.drew).mono ?_); rintro e w13 ⟨rfl, k13⟩)
            | (clear u2; go_at_call 16; (with_reducible refine (unhide HB2 _ (B0.drew.andNo k13)).mono ?_); rintro e w14 ⟨rfl, k14⟩)
            | (clear u3; go_at_call 16; (with_reducible refine (unhide HB3 _ ((B0.drew.andNo k13).andNo k14)).mono ?_); rintro e w15 ⟨rfl, k15⟩)
            | (go_at_call 10; (with_reducible refine (unhide HL1 _ (((B0.drew.andNo k13).andNo k14).andNo k15)).mono ?_); rintro e w16 ⟨rfl, k16⟩)
            | (go_at_call 10; (with_reducible refine (unhide HL2 _ ((((B0.drew.andNo k13).andNo k14).andNo k15).andNo k16)).mono ?_); rintro e w17 ⟨rfl, k17⟩))
        rename_i hJ
        have KJ := hide hJ.1
        clear hJ KE
        go_wp2
        go_roundw
        case rel => exact same_step (unhide LA) (unhide LB) (unhide LC) (unhide D1) (unhide D2) (unhide D3) (unhide N1) (unhide N2) (unhide N3) (unhide KW) (unhide K6) (unhide K7) (unhide G7) (unhide L7) (unhide KCH) (unhide K10) (unhide G10) (unhide L10) ((unhide KDH).andNo (unhide KJ)) (by omega) (by omega)
        case measure => simp [intOf]; omega
      · obtain ⟨er, her⟩ : ∃ er, lchk E x = er := ⟨_, rfl⟩
        have HAP := hide (fun w' (k : Chg noBlk wr w') => append_no ((unhide LA).no k) her (by rw [← her]; exact hx0))
        have d2 : (er != 0) = true := by rw [← her]; simpa using hx0
        clear hx0 her
        go_wp2_with (first
          | (go_at_call 9; (with_reducible refine (unhide HCP).mono ?_); rintro e w6 ⟨pw, Sw, rfl, fw, lw, k6, bw, rfl⟩; have P6 := unhide P0 _ k6)
          | (go_at_call 12; (with_reducible refine (unhide HAP _ ((unhide KX).andNo k6)).mono ?_); rintro e w7 ⟨rfl, k7⟩)
          | ((with_reducible show wpList _ _ _ (_ :: _) _ _); first
            | (refine wpL_load rfl 34 (.tmp 9) rfl p rfl x.cells.toArray _ _ P6 _ Try.underlying34 rfl info_ent ?_)
            | (refine wpL_alloc rfl 38 rfl _ zero_res ?_; intro p8 w8 e8 k8 g8 z8; have e8 := Nat.le_of_eq e8)
            | (refine wpL_store rfl 38 (.tmp 11) (.tmp 48) rfl p8 rZero.cells.toArray rfl rfl _ _ g8 info_res rfl (all_oneCell_toArray (RT.one _)) ?_; intro w9 k9 g9 z9)))
        have KE := ((unhide KX).andNo k6).andNo (k7.andNo (k8.past k9 e8))
        go_roundw
        case rel => exact ⟨n + 1, E, Sa, Sb, Sc, by omega, by go_num, (unhide LA).no KE, (unhide LB).no KE, (unhide LC).no KE, by omega, unhide D1, unhide D2, unhide D3, unhide N1, unhide N2, unhide N3, (unhide KW).andNo KE⟩
        case measure => simp [intOf]; omega
    · obtain rfl : n = l.length := by omega
      have HEN := hide (log_entries (unhide LA))
      have hfe := (unhide LA).fit
      have HFE := hide hfe
      clear hfe
      go_wp2_with (go_at_call 21; (with_reducible refine (unhide HEN).mono ?_); rintro e w2 ⟨v, rfl, k2, o2, f2⟩; obtain ⟨ad2, cap2, rfl, le2, few2, rw2⟩ := o2.form ET.len)
      have K2 := hide k2
      have O2 := hide o2
      have F2 := hide f2
      have R2 := hide rw2
      clear k2 o2 f2 rw2 HEN
      go_loopw [16] (fun i wq => ∃ k : Nat, k ≤ E.length ∧ i = .int .i64 (k : Int) ∧ Chg noBlk w2 wq) (fun i wq => E.length - (intOf i).toNat)
      case atStart => exact ⟨0, by omega, rfl, Chg.refl _ _⟩
      case round =>
        obtain ⟨k, hk, rfl, kq⟩ := hrel
        have KQ := hide kq
        clear kq
        by_cases hlt2 : k < E.length
        · have d2 : decide (k < E.length) = true := by simpa using hlt2
          obtain ⟨x, hx⟩ : ∃ x, E[k]? = some x := ⟨_, List.getElem?_eq_getElem hlt2⟩
          obtain ⟨_, g1, o1, rfl, r1⟩ := unhide R2 k x hx
          have HX := hide hx
          have R1 := hide r1
          have j1 : (0 : Int) ≤ (k : Int) := by omega
          have j2 : (k : Int) < (E.length : Int) := by omega
          clear hx r1
          go_wp2
          go_loopw [17] (fun i wq => ∃ j : Nat, j ≤ k ∧ i = .int .i64 (j : Int) ∧ Chg noBlk w2 wq) (fun i wq => k - (intOf i).toNat)
          case atStart => exact ⟨0, by omega, rfl, unhide KQ⟩
          case round =>
            obtain ⟨j, hj, rfl, kq2⟩ := hrel
            have KQ2 := hide kq2
            clear kq2
            by_cases hlt3 : j < k
            · have d3 : decide (j < k) = true := by simpa using hlt3
              obtain ⟨y, hy⟩ : ∃ y, E[j]? = some y := ⟨_, List.getElem?_eq_getElem (by omega)⟩
              obtain ⟨_, g3, o3, e3, r3⟩ := unhide R2 j y hy
              simp only [Option.some.injEq, Addr.mk.injEq, and_true] at e3
              obtain ⟨rfl, rfl⟩ := e3
              have q1 := range_kept (unhide R1) (unhide KQ2)
              have q3 := range_kept r3 (unhide KQ2)
              have x1 : wr.cell? ⟨g1, o1 + k * 7 + 1, none⟩ = _ := q1 1 _ rfl
              have x2 : wr.cell? ⟨g1, o1 + k * 7 + 2, none⟩ = _ := q1 2 _ rfl
              have y1 : wr.cell? ⟨g1, o1 + j * 7 + 1, none⟩ = _ := q3 1 _ rfl
              have y2 : wr.cell? ⟨g1, o1 + j * 7 + 2, none⟩ = _ := q3 2 _ rfl
              have j3 : (0 : Int) ≤ (j : Int) := by omega
              have j4 : (j : Int) < (E.length : Int) := by omega
              have hrise := (unhide HFE).rise j k y x hlt3 hy (unhide HX)
              clear q1 q3 r3 hy
              by_cases hc : y.cl = x.cl
              · have s1 : (y.cl == x.cl) = true := by simpa using hc
                have s2 : decide (x.seq ≤ y.seq) = false := by have := hrise hc; simp; omega
                clear hc hrise
                go_wp2
                go_quiet (fail)
                have KQ3 := hide ((unhide KQ2).drewN nq)
                go_wp2_with fail
                go_roundw
                case rel => exact ⟨j + 1, by omega, by go_num, unhide KQ3⟩
                case measure => simp [intOf]; omega
              · have s1 : (y.cl == x.cl) = false := by simpa using hc
                clear hc hrise
                go_wp2
                go_quiet (fail)
                have KQ3 := hide ((unhide KQ2).drewN nq)
                go_wp2_with fail
                go_roundw
                case rel => exact ⟨j + 1, by omega, by go_num, unhide KQ3⟩
                case measure => simp [intOf]; omega
            · obtain rfl : j = k := by omega
              go_wp2
              go_roundw
              case rel => exact ⟨j + 1, by omega, by go_num, unhide KQ2⟩
              case measure => simp [intOf]; omega
        · obtain rfl : k = E.length := by omega
          have KR := hide ((unhide K2).andNo (unhide KQ))
          have KV := hide ((unhide KW).andNo (unhide KR))
          by_cases hz : E.length = 0
          · have d0 : ((E.length : Int) == 0) = true := by simpa using hz
            clear hz
            go_wp2_with (go_at_call 7; (with_reducible refine (logged_any _).mono ?_); rintro e w4 ⟨rfl, k4⟩)
            go_ret
            exact ⟨rfl, (unhide KV).andNo k4⟩
          · have hpos : 0 < E.length := by omega
            have d0 : ((E.length : Int) == 0) = false := by simpa using hz
            have hne : (E.length : Int) ≠ 0 := by omega
            obtain ⟨n, hn⟩ : ∃ n : Nat, which % (E.length : Int) = (n : Int) := ⟨(which % (E.length : Int)).toNat, (Int.toNat_of_nonneg (Int.emod_nonneg which hne)).symm⟩
            have i0 : (0 : Int) < (E.length : Int) := by omega
            have hnl : n < E.length := by have h := Int.emod_lt_of_pos which i0; rw [hn] at h; exact_mod_cast h
            obtain ⟨x, hx⟩ : ∃ x, E[n]? = some x := ⟨_, List.getElem?_eq_getElem hnl⟩
            obtain ⟨g2, cap3, e3, _, _⟩ := World.ownsRow.form (unhide O2) hpos
            simp only [Value.slice.injEq, true_and] at e3
            obtain ⟨rfl, rfl⟩ := e3
            have w1' := hw.1
            have i1 : (0 : Int) ≤ (n : Int) := by omega
            have i2 : (n : Int) < (E.length : Int) := by omega
            have i3 : (0 : Int) < (E.length : Int) := by omega
            have O3 := (unhide O2).no (unhide KQ)
            obtain ⟨cur, hb3, hsz, hlaid⟩ := O3.laid ET.len (g := g2) (o := 3) (y := ⟨x.idx, x.cl, x.seq, xp⟩) (vs := [.int .i64 2, .string ⟨#[97, 110, 111, 116, 104, 101, 114]⟩, .string ⟨#[111, 110, 101]⟩, .int .i64 0]) rfl hx (by decide) rfl
            have HB3 := hide hb3
            have HLA := hide hlaid
            have HX := hide hx
            have LA3 := hide ((unhide LA).no (unhide KR))
            have LC3 := hide ((unhide LC).no (unhide KR))
            have F3 := hide (unhide F2 g2 rfl)
            have hgs : g2 < wr.heap.size := lt_of_block hb3
            clear O3 hb3 hlaid hx hz
            go_wp2_with ((with_reducible show wpList _ _ _ (_ :: _) _ _); refine wpL_put rfl 32 (.tmp 146) (.tmp 144) rfl g2 (n * 7 + 3) [.int .i64 2, .string ⟨#[97, 110, 111, 116, 104, 101, 114]⟩, .string ⟨#[111, 110, 101]⟩, .int .i64 0] rfl rfl _ _ (unhide HB3) hsz (by rw [info_op4]; rfl) (by simp [Value.oneCell']) ?_; intro w5 k5 g5 z5; have O5 := hide (unhide HLA _ g5); have K5 := hide k5)
            have hg0 : w.heap.size ≤ g2 := Nat.le_trans (unhide KW).size (unhide F3)
            have ga : ¬ Sa g2 := fun e => absurd ((unhide LA).lt g2 e) (Nat.not_lt_of_le (unhide F3))
            have gc : ¬ Sc g2 := fun e => absurd ((unhide LC).lt g2 e) (Nat.not_lt_of_le (unhide F3))
            have LA5 := hide ((unhide LA3).kept (unhide K5) fun i h e => ga (by have e : i = g2 := e; rwa [← e]))
            have LC5 := hide ((unhide LC3).kept (unhide K5) fun i h e => gc (by have e : i = g2 := e; rwa [← e]))
            have KV5 := hide ((unhide KV).past (unhide K5) hg0)
            obtain ⟨xi, xc, xs, xk, xy, xv, xn⟩ := x
            obtain ⟨pk, py, pv, pn, hp⟩ : ∃ a b c d, xp = ⟨a, b, c, d⟩ := ⟨_, _, _, _, rfl⟩
            have HP := hide hp
            have hfit : Fit (E.set n ⟨xi, xc, xs, xp⟩) := (unhide HFE).set (unhide HX) xp_ok.1 xp_ok.2
            have hnb1 := beg_set1 (y := ⟨xi, xc, xs, xp⟩) (unhide HX)
            have hnb2 := beg_set2 (y := ⟨xi, xc, xs, xp⟩) (unhide HX)
            have hset : (E.set n ⟨xi, xc, xs, xp⟩)[n]? = some ⟨xi, xc, xs, xp⟩ := List.getElem?_set_self hnl
            have hsl : (E.set n ⟨xi, xc, xs, xp⟩).length = E.length := by simp
            simp only at O5
            rw [hp] at O5 hfit hnb1 hnb2 hset hsl
            obtain ⟨sb, hsb⟩ : ∃ sb, eqEb ⟨xi, xc, xs, pk, py, pv, pn⟩ ⟨xi, xc, xs, xk, xy, xv, xn⟩ = sb := ⟨_, rfl⟩
            rw [hsb] at hnb1 hnb2
            obtain ⟨E2, hE2⟩ : ∃ E2, E.set n ⟨xi, xc, xs, pk, py, pv, pn⟩ = E2 := ⟨_, rfl⟩
            rw [hE2] at O5 hfit hnb1 hnb2 hset hsl
            obtain ⟨ad5, cap5, e5, _, _, rw5⟩ := (unhide O5).form ET.len
            rw [hsl] at e5
            simp only [Value.slice.injEq, true_and] at e5
            obtain ⟨rfl, rfl⟩ := e5
            have RW5 := hide rw5
            obtain ⟨_, gq, oq, eq5, r5⟩ := rw5 n _ hset
            simp only [Option.some.injEq, Addr.mk.injEq, and_true] at eq5
            obtain ⟨rfl, rfl⟩ := eq5
            rw [Nat.zero_add] at r5
            have HEN := hide (fun w' (k : Chg noBlk w5 w') => log_entries ((unhide LA5).no k))
            have KE := hide (fun w' k => ent_keep (w' := w') r5 k)
            have B0 := Chg.refl noBlk w5
            have HFIT := hide hfit
            have HB1 := hide hnb1
            have HB2 := hide hnb2
            have HSL := hide hsl
            clear hfit hnb1 hnb2 hset hsl rw5 r5 hp hE2 k5 g5 z5 HB3 HLA
            have ES := hide (fun w' (k : Chg noBlk w5 w') => unhide KE w' k)
            go_frame
            simp only [hn]
            clear hn
            go_cut [19] from 147 to 156 (fun e wx => e = .bool sb ∧ Chg noBlk w5 wx)
            case first =>
              obtain ⟨_, f0, f1, f2, f3, f4, f5, f6⟩ := unhide KE _ B0.drew
              go_region_with ((go_at_call 21; (with_reducible refine (unhide HEN _ B0.drew).mono ?_); rintro e w6 ⟨v6, rfl, k6, o6, f6⟩; obtain ⟨ad6, cap6, rfl, _, _, rw6⟩ := o6.form ET.len; obtain ⟨_, g6, o6', rfl, r6⟩ := rw6 n _ (unhide HX); have z0 : w6.cell? ⟨g6, o6' + n * 7, none⟩ = _ := r6 0 _ rfl; have z1 : w6.cell? ⟨g6, o6' + n * 7 + 1, none⟩ = _ := r6 1 _ rfl; have z2 : w6.cell? ⟨g6, o6' + n * 7 + 2, none⟩ = _ := r6 2 _ rfl; have z3 : w6.cell? ⟨g6, o6' + n * 7 + 3, none⟩ = _ := r6 3 _ rfl; have z4 : w6.cell? ⟨g6, o6' + n * 7 + 4, none⟩ = _ := r6 4 _ rfl; have z5 : w6.cell? ⟨g6, o6' + n * 7 + 5, none⟩ = _ := r6 5 _ rfl; have z6 : w6.cell? ⟨g6, o6' + n * 7 + 6, none⟩ = _ := r6 6 _ rfl; obtain ⟨_, h0, h1, h2, h3, h4, h5, h6⟩ := unhide KE _ (B0.drew.andNo k6); clear rw6 r6 o6 f6))
              all_goals
                go_wp2_with fail
                go_meet
                case rel => exact ⟨rfl, B0.drew.andNo k6⟩
            case rest =>
            obtain ⟨rfl, kx⟩ := hcut
            have HB0 := hide (show PutAt w (.pointer (some ⟨ba, 0, none⟩)) (.pointer (some ⟨bc, 0, none⟩)) E E2 Sa g2 (.int .i64 0) wc from
              ⟨0, Sc, by omega, rfl, (unhide LC5).no kx, (unhide LA5).no kx, rows_no (unhide RW5) kx, unhide D2, gc, unhide N3, Nat.lt_of_lt_of_le (Nat.lt_of_lt_of_le hgs (unhide K5).size) kx.size, (unhide KV5).andNo kx⟩)
            clear kx KE ES HEN B0 LA5 LC5 RW5 KV5 O5 K5 i0 i1 i2 i3
            go_wp2_with fail
            go_loopw [20] (fun i wq => PutAt w (.pointer (some ⟨ba, 0, none⟩)) (.pointer (some ⟨bc, 0, none⟩)) E E2 Sa g2 i wq) (fun i wq => E2.length - (intOf i).toNat)
            case atStart => exact unhide HB0
            case round =>
              clear HB0
              obtain ⟨k, Sd, hk, rfl, lc, la, rw5, dad, gd, nd, hgl, kv⟩ := hrel
              have LC6 := hide lc
              have LA6 := hide la
              have RW6 := hide rw5
              have D6 := hide dad
              have N6 := hide nd
              have KV6 := hide kv
              clear lc la rw5 dad nd kv
              by_cases hlt4 : k < E2.length
              · have d4 : decide (k < E.length) = true := by rw [unhide HSL] at hlt4; simpa using hlt4
                obtain ⟨y, hy⟩ : ∃ y, E2[k]? = some y := ⟨_, List.getElem?_eq_getElem hlt4⟩
                obtain ⟨_, g7, o7, e7, r7⟩ := unhide RW6 k y hy
                simp only [Option.some.injEq, Addr.mk.injEq, and_true] at e7
                obtain ⟨rfl, rfl⟩ := e7
                rw [Nat.zero_add] at r7
                have R7 := hide r7
                have j1 : (0 : Int) ≤ (k : Int) := by omega
                have j2 : (k : Int) < (E.length : Int) := by rw [unhide HSL] at hlt4; omega
                obtain ⟨r, hr⟩ : ∃ r, appR (cellsN (E2.take k) (E2.take k).length) (((E2.take k).length : Int) + 1) y.op = r := ⟨_, rfl⟩
                have HAP := hide (append_ok (unhide LC6) ((unhide HFIT).next hy) (take_next hy) hr)
                clear r7 hy hr
                go_wp2_with (first
                  | (go_at_call 12; (with_reducible refine (unhide HAP).mono ?_); rintro e w7 ⟨rfl, k7, Se, g7', l7⟩)
                  | ((with_reducible show wpList _ _ _ (_ :: _) _ _); first
                    | (refine wpList_load_mid rfl 34 (.tmp 167) rfl g2 (k * 7) rfl y.cells _ (unhide R7) Try.underlying34 rfl (by rw [info_ent]; rfl) ?_)
                    | (refine wpL_alloc rfl 38 rfl _ zero_res ?_; intro p8 w8 e8 k8 g8 z8; have e8 := Nat.le_of_eq e8)
                    | (refine wpL_store rfl 38 (.tmp 21) (.tmp 170) rfl p8 r.cells.toArray rfl rfl _ _ g8 info_res rfl (all_oneCell_toArray (RT.one _)) ?_; intro w9 k9 g9 z9)))
                have K9 := hide (k8.past k9 e8)
                have K7 := hide k7
                have G7 := hide g7'
                have L7 := hide l7
                clear k7 g7' l7 k8 g8 k9 g9 e8
                go_roundw
                case rel => exact put_step (unhide LC6) (unhide LA6) (unhide RW6) (unhide D6) gd (unhide N6) hgl (unhide KV6) (unhide K7) (unhide G7) (unhide L7) (unhide K9) (by omega)
                case measure => simp [intOf]; omega
              · have d4 : decide (k < E.length) = false := by rw [unhide HSL] at hlt4; simpa using hlt4
                have lcE : IsLog wr Sd (.pointer (some ⟨bc, 0, none⟩)) E2 := by have := unhide LC6; rwa [List.take_of_length_le (by omega)] at this
                have LCE := hide lcE
                have BB1 := hide (log_begins lcE (unhide LA6))
                have BB2 := hide (fun w' (c : Chg noBlk wr w') => log_begins ((unhide LA6).no c) (lcE.no c))
                have BB3 := hide (fun w' (c : Chg noBlk wr w') S p' (h : IsLog w' S p' []) => log_begins h (lcE.no c))
                rw [unhide HB1] at BB1
                rw [unhide HB2] at BB2
                rw [begB_nil] at BB3
                clear lcE
                have v1 : True := True.intro
                have v2 : True := True.intro
                cases sb
                all_goals
                  go_wp2_with (first
                    | (clear v1; go_at_call 16; (with_reducible refine (unhide BB1).mono ?_); rintro e w13 h13; obtain ⟨rfl, k13⟩ := h13.toN)
                    | (clear v2; go_at_call 16; (with_reducible refine (unhide BB2 _ k13).mono ?_); rintro e w14 h14; obtain ⟨rfl, k14⟩ := h14.toN)
                    | (go_at_call 8; refine (log_new _).mono ?_; rintro e w15 ⟨p7, S7, rfl, _, l7, k15, b7, rfl⟩)
                    | (go_at_call 16; (with_reducible refine (unhide BB3 _ ((k13.andNo k14).andNo k15) _ _ l7).mono ?_); rintro e w16 h16; obtain ⟨rfl, k16⟩ := h16.toN)
                    | (go_at_call 7; (with_reducible refine (logged_any _).mono ?_); rintro e w17 ⟨rfl, k17⟩))
                  go_ret
                  exact ⟨rfl, ((((((unhide KV6).andNo k13).andNo k14).andNo k15).andNo k16).andNo k17)⟩
end Go.Proofs.Ytfffgegdcgfakaa
