/-
  Logs: whatever is appended, and looked at, is the document's.
-/
import Derived.Test.YtfffgegdcgfakaaLogsS
import Derived.Deep.DeepCutAuto
namespace Go.Proofs.Ytfffgegdcgfakaa
open Go.ChangeShapes Go.WideShapes Go.ChangeAt Go.RowKit
set_option linter.unusedVariables false
attribute [local go_sem] bs_size bs_app bs_cut bs_tl bs_at
attribute [local go_sem ↓] eq_ress stRes_pre
attribute [local go_sem] eqRb_self
/-- where the two logs stand -/
def PlayAt (w0 : World) (pa : Value) (b len : Nat) (i : Value) (w : World) : Prop :=
  ∃ (n : Nat) (E : List ET) (S : Nat → Prop) (v : Value), n ≤ len ∧ i = .int .i64 (n : Int) ∧ IsLog w S pa E ∧ RefAt w b v E ∧ E.length ≤ n ∧ ¬ S b ∧ (∀ g, v.ownBlock = some g → ¬ S g) ∧ (∀ k, S k → w0.heap.size ≤ k) ∧ w0.heap.size ≤ b ∧ Chg noBlk w0 w
theorem playact_keep {w w' : World} {q b : Nat} {v : Value} {T : Nat → Prop} {a : AT} (h : ActAt w q a) (hb : w.cell? ⟨b, 0, none⟩ = some v) (hq : ¬ T q) (hT : ¬ T b) (k : Chg T w w') : Chg T w w' ∧ w'.cell? ⟨b, 0, none⟩ = some v ∧ w'.cell? ⟨q, 0, none⟩ = some (.int .u8 a.k) ∧ w'.cell? ⟨q, 1, none⟩ = some (.int .i64 a.e.idx) ∧ w'.cell? ⟨q, 2, none⟩ = some (.int .i64 a.e.cl) ∧ w'.cell? ⟨q, 3, none⟩ = some (.int .i64 a.e.seq) ∧ w'.cell? ⟨q, 4, none⟩ = some (.int .i64 a.e.op.k) ∧ w'.cell? ⟨q, 5, none⟩ = some (str a.e.op.key) ∧ w'.cell? ⟨q, 6, none⟩ = some (str a.e.op.val) ∧ w'.cell? ⟨q, 7, none⟩ = some (.int .i64 a.e.op.ver) := by
  have h' : ActAt w' q a := k.at h hq
  exact ⟨k, k.cell hb hT, cellAt h' 0 _ rfl, cellAt h' 1 _ rfl, cellAt h' 2 _ rfl, cellAt h' 3 _ rfl, cellAt h' 4 _ rfl, cellAt h' 5 _ rfl, cellAt h' 6 _ rfl, cellAt h' 7 _ rfl⟩
theorem key_keep {w w' : World} {q : Nat} {s : List UInt8} (h : w.cell? ⟨q, 5, none⟩ = some (str s)) (k : Chg noBlk w w') : Chg noBlk w w' ∧ w'.cell? ⟨q, 5, none⟩ = some (str s) := ⟨k, k.cell h id⟩
theorem zero_actv : (Try.prog.info? 36).bind (·.zero) = some (.agg aZero.cells.toArray) := zero_act
/-- told: what became of it; and the log has this -/
def DoneF (S : Nat → Prop) (p : Value) (F : List ET) (r : RT) (er : Int) (w : World) (e : Ending) (w' : World) : Prop :=
  e = .returned (.tuple #[.agg r.cells.toArray, .int .i64 er]) ∧ Chg S w w' ∧ ∃ S', Grew S w S' w' ∧ IsLog w' S' p F
def DoneG (b : Nat) (v : Value) (F : List ET) (r : RT) (er : Int) (w : World) (e : Ending) (w' : World) : Prop :=
  e = .returned (.tuple #[.agg r.cells.toArray, .int .i64 er]) ∧ Chg (oneBlk b) w w' ∧ ∃ v', RefAt w' b v' F ∧ ∀ g, v'.ownBlock = some g → v.ownBlock = some g ∨ w.heap.size ≤ g
theorem append_f {w : World} {S : Nat → Prop} {p : Value} {E F : List ET} {x : ET} {r : RT} {er : Int} (h : IsLog w S p E) (h1 : appE E x = F) (h2 : appX E x = r) (h3 : lchk E x = er) : Calls Try.prog 12 #[p, .agg x.cells.toArray] w (DoneF S p F r er w) := by
  subst h1; subst h2; subst h3
  exact log_append h x
theorem append_g {w : World} {b : Nat} {v : Value} {E F : List ET} {x : ET} {r : RT} {er : Int} (h : RefAt w b v E) (hl : E.length < 400) (h1 : appE E x = F) (h2 : appX E x = r) (h3 : lchk E x = er) : Calls Try.prog 15 #[.pointer (some ⟨b, 0, none⟩), .agg x.cells.toArray] w (DoneG b v F r er w) := by
  subst h1; subst h2; subst h3
  exact rappend_at h hl x
theorem play_end {w0 wr wE : World} {pa : Value} {b len n : Nat} {E : List ET} {S : Nat → Prop} {v : Value} (hn : n + 1 ≤ len) (la : IsLog wr S pa E) (lr : RefAt wr b v E) (hE : E.length ≤ n + 1) (nb : ¬ S b) (nv : ∀ g, v.ownBlock = some g → ¬ S g) (ns : ∀ k, S k → w0.heap.size ≤ k) (hb : w0.heap.size ≤ b) (kw : Chg noBlk w0 wr) (k : Chg noBlk wr wE) : PlayAt w0 pa b len (.int .i64 ((n : Int) + 1)) wE :=
  ⟨n + 1, E, S, v, hn, by go_num, la.no k, lr.no k, hE, nb, nv, ns, hb, kw.andNo k⟩
/-- a copy is spoilt -/
theorem spoil {w : World} {S : Nat → Prop} {p : Value} {E : List ET} (h : IsLog w S p E) : Calls Try.prog 12 #[p, .agg #[.int .i64 ((E.length : Int) + 1), .int .i64 0, .int .i64 1152921504606846976, .int .i64 2, .string ⟨#[107]⟩, .string ⟨#[]⟩, .int .i64 0]] w (fun e w' => ∃ u, e = .returned u ∧ Chg S w w') :=
  (log_append (x := ⟨(E.length : Int) + 1, 0, 1152921504606846976, 2, [107], [], 0⟩) h).mono fun e w' ⟨h1, h2, _⟩ => ⟨_, h1, h2⟩
/-- both have gone on -/
theorem play_mid {w0 wr w6 w9 w12 : World} {pa : Value} {b p8 p10 : Nat} {E F : List ET} {S : Nat → Prop} {v : Value} {r r2 : RT} (la : IsLog wr S pa E) (lr : RefAt wr b v E) (nb : ¬ S b) (nv : ∀ g, v.ownBlock = some g → ¬ S g) (ns : ∀ k, S k → w0.heap.size ≤ k) (hb : w0.heap.size ≤ b) (kw : Chg noBlk w0 wr) (K6 : Chg noBlk wr w6)
    (hL : AfterL w6 S pa F r p8 w9) (hR : AfterR w9 b v F r2 p10 w12) : ∃ S' v', IsLog w12 S' pa F ∧ RefAt w12 b v' F ∧ ¬ S' b ∧ (∀ g, v'.ownBlock = some g → ¬ S' g) ∧ (∀ k, S' k → w0.heap.size ≤ k) ∧ Chg noBlk w0 w12 ∧ ResAt w12 p8 r ∧ ResAt w12 p10 r2 := by
  obtain ⟨r8, e8, kL, S', gL, np8, lL⟩ := hL
  obtain ⟨r10, e10, kR, v', lR, hv⟩ := hR
  have z0 := kw.size
  have z6 := K6.size
  have z9 := kL.size
  have lb := lr.lt
  have nb' : ¬ S' b := fun h => by
    rcases (gL b h).1 with h | h
    · exact nb h
    · omega
  refine ⟨S', v', lL.kept kR fun i h e => nb' (by have e : i = b := e; rwa [← e]), lR, nb', fun g hg h => ?_, fun k h => ?_, ?_, kR.at r8 (fun e => by have e : p8 = b := e; omega), r10⟩
  · obtain ⟨h1, h2⟩ := gL g h
    rcases hv g hg with h' | h'
    · rcases h1 with h1 | h1
      · exact nv g h' h1
      · have := lr.ent.lt h'; omega
    · omega
  · rcases (gL k h).1 with h | h
    · exact ns k h
    · omega
  · exact ((kw.andNo K6).trans kL fun i hi h => by have := ns i h; omega).trans kR fun i hi e => by have e : i = b := e; omega
set_option maxRecDepth 100000 in
set_option maxHeartbeats 8000000 in
theorem play_in (ad : Option Addr) (l : List AT) (cap : Nat) (w : World) (h : ActsIn w ad l) (hg : greatL l 50 = false) :
    Calls Try.prog 3 #[.slice ad l.length cap] w (ToldN (.bool true) w) := by
  have hl := (greatL_no hg).1
  have HG := hide (great_any ad l cap 50 w (by omega) h (by omega))
  rw [hg] at HG
  have HA := hide h
  clear h hg
  go_enter Try.func3, Try.ntmps3
  go_wp2_with (first
    | (go_at_call 6; refine (unhide HG).mono ?_; rintro e w1 ⟨rfl, k1⟩)
    | (go_at_call 8; refine (log_new _).mono ?_; rintro e w2 ⟨pa, Sa, rfl, fa, la, k2, ba, rfl⟩)
    | ((with_reducible show wpList _ _ _ (_ :: _) _ _); refine wpL_box rfl 30 (.tmp 16) rfl #[.slice none 0 0] rfl ?_; intro b w3 e3 k3 g3 z3; have e3 := Nat.le_of_eq e3))
  have z1 := k1.size
  have z2 := k2.size
  have HB0 := hide (show PlayAt w (.pointer (some ⟨ba, 0, none⟩)) b l.length (.int .i64 0) w3 from ⟨0, [], Sa, .slice none 0 0, by omega, rfl, la.no k3, ⟨g3, ownL_nil _ _ _ _⟩, by simp, fun e => by have := la.lt b e; omega, (fun g hg => by cases hg), fun k hk => by have := fa k hk; omega, by omega, (k1.andNo k2).andNo k3⟩)
  clear k1 k2 k3 g3 la fa HG z1 z2 e3
  go_loopw [5] (fun i wr => PlayAt w (.pointer (some ⟨ba, 0, none⟩)) b l.length i wr) (fun i wr => l.length - (intOf i).toNat)
  case atStart => exact unhide HB0
  case round =>
    clear HB0
    obtain ⟨n, E, S, v, hn, rfl, la, lr, hE, nb, nv, ns, hb, kw⟩ := hrel
    have LA := hide la
    have LR := hide lr
    have NV := hide nv
    have NS := hide ns
    have KW := hide kw
    have lbr := lr.lt
    clear la lr nv ns kw
    by_cases hlt : n < l.length
    · obtain ⟨a, ha⟩ : ∃ a, l[n]? = some a := ⟨_, List.getElem?_eq_getElem hlt⟩
      have d1 : decide (n < l.length) = true := by simpa using hlt
      obtain ⟨hok, bx, off, rfl, hrng⟩ := unhide HA n a ha
      have i1 : (0 : Int) ≤ (n : Int) := by omega
      have i2 : (n : Int) < (l.length : Int) := by omega
      have hr1 := hide (range_kept hrng (unhide KW))
      have hk0 := hok.k0.1
      have hkl : a.e.op.key.length ≤ maxLen := by have := hok.e0.o0.kl; unfold maxLen; omega
      have HCP := hide (fun w' (c : Chg noBlk wr w') => log_copy ((unhide LA).no c))
      have HAL := hide (fun w' (c : Chg noBlk wr w') => alike_at ((unhide LA).no c) ((unhide LR).no c) (by omega))
      clear hrng hok ha
      by_cases s7 : a.k % 9 = 7
      · have t7 : (a.k % 9 == 7) = true := by simp; omega
        have t8 : (a.k % 9 == 8) = false := by simp; omega
        clear s7
        obtain ⟨r, hr⟩ : ∃ r, look (cellsN E E.length) a.e.op.key (E.length : Int) = r := ⟨_, rfl⟩
        have HL1 := hide (fun w' (c : Chg noBlk wr w') => log_look ((unhide LA).no c) hkl)
        have HL2 := hide (fun w' (c : Chg noBlk wr w') => rlook2_at ((unhide LR).no c) (by omega) a.e.op.key)
        rw [hr] at HL1 HL2
        clear hr
        go_wp2_with (first
          | (go_at_call 9; (with_reducible refine (unhide HCP _ k5).mono ?_); rintro e w6 ⟨pw, Sw, rfl, fw, lw, k6, bw, rfl⟩; have A6 := A5.no k6; have a0 := A6.c0; have a5 := A6.c5; have K6 := hide (k5.andNo k6))
          | ((with_reducible show wpList _ _ _ (_ :: _) _ _); first
            | (refine wpList_load_mid rfl 36 (.tmp 26) rfl bx (off + n * 8) rfl a.cells _ (unhide hr1) Try.underlying36 rfl (by rw [size_act]; rfl) ?_)
            | (refine wpL_alloc rfl 36 rfl _ zero_act ?_; intro q w4 e4 k4 g4 z4; have e4 := Nat.le_of_eq e4)
            | (refine wpL_store rfl 36 (.tmp 6) (.tmp 27) rfl q a.cells.toArray rfl rfl _ _ g4 (by rw [size_act]; rfl) rfl (all_oneCell_toArray (AT.one _)) ?_; intro w5 k5' g5 z5; have A5 : ActAt w5 q a := g5; have k5 := k4.past k5' e4)))
        have KE := hide (fun w' k => key_keep (w' := w') a5 k)
        have B0 := Chg.refl noBlk w6
        have HM1 := hide (fun w' (c : Chg noBlk w6 w') => unhide HL1 w' ((unhide K6).andNo c))
        have HM2 := hide (fun w' (c : Chg noBlk w6 w') => unhide HL2 w' ((unhide K6).andNo c))
        clear a0 k5 k6 A5 A6 lw fw k4 g4 k5' g5
        go_region_held3 (fun w' => Chg noBlk w6 w' ∧ w'.cell? ⟨q, 5, none⟩ = some (str a.e.op.key))
          ((refine unhide KE _ ?_; go_split_ands; first | assumption | exact Chg.drew (by assumption) | exact Chg.drewN (by assumption) _ | exact Chg.andNo (by assumption) (by assumption)))
          (first
            | (go_at_call 10; (with_reducible refine (unhide HM1 _ B0.drew).mono ?_); rintro e w7 ⟨rfl, k7⟩)
            | (go_at_call 11; (with_reducible refine (unhide HM2 _ (B0.drew.andNo k7)).mono ?_); rintro e w8 ⟨rfl, k8⟩))
        have K8 := hide ((unhide K6).andNo ((B0.drew.andNo k7).andNo k8))
        go_wp2_with (go_at_call 17; (with_reducible refine (unhide HAL _ (unhide K8)).mono ?_); rintro e w9 ⟨rfl, k9⟩)
        have K9 := hide ((unhide K8).andNo k9)
        go_roundw
        case rel => exact play_end (by omega) (unhide LA) (unhide LR) (by omega) nb (unhide NV) (unhide NS) hb (unhide KW) (unhide K9)
        case measure => simp [intOf]; omega
      by_cases s8 : a.k % 9 = 8
      · have t7 : (a.k % 9 == 7) = false := by simp; omega
        have t8 : (a.k % 9 == 8) = true := by simp; omega
        clear s7 s8
        obtain ⟨r, hr⟩ : ∃ r, look (cellsN E E.length) [107] (E.length : Int) = r := ⟨_, rfl⟩
        have HL1 := hide (fun w' (c : Chg noBlk wr w') => (show Calls Try.prog 10 #[.pointer (some ⟨ba, 0, none⟩), .string ⟨#[107]⟩] w' (ToldN (.agg (look (cellsN E E.length) [107] (E.length : Int)).cells.toArray) w') from log_look ((unhide LA).no c) (k := [107]) (by unfold maxLen; simp)))
        have HL2 := hide (fun w' (c : Chg noBlk wr w') => (show Calls Try.prog 11 #[.pointer (some ⟨b, 0, none⟩), .string ⟨#[107]⟩] w' (ToldN (.agg (look (cellsN E E.length) [107] (E.length : Int)).cells.toArray) w') from rlook2_at ((unhide LR).no c) (by omega) [107]))
        rw [hr] at HL1 HL2
        have HLN := hide (fun w' (c : Chg noBlk wr w') => log_len ((unhide LA).no c))
        have HSP := hide (fun w' S p (h : IsLog w' S p E) => spoil h)
        clear hr
        go_wp2_with (first
          | (go_at_call 9; (with_reducible refine (unhide HCP _ k5).mono ?_); rintro e w6 ⟨pw, Sw, rfl, fw, lw, k6, bw, rfl⟩; have A6 := A5.no k6; have a0 := A6.c0; have K6 := hide (k5.andNo k6); have LW := hide lw; have FW := hide fw; have AL := A5.lt)
          | (go_at_call 13; (with_reducible refine (unhide HLN _ (unhide K6)).mono ?_); rintro e wz ⟨rfl, rfl⟩)
          | (go_at_call 12; (with_reducible refine (unhide HSP _ _ _ (unhide LW)).mono ?_); rintro e w7 ⟨u7, rfl, k7⟩; have A7 : ActAt w7 q a := k7.at A6 (fun e => absurd (unhide FW q e) (Nat.not_le_of_lt AL)); have K7 := hide ((unhide K6).trans k7 (fun i hi e => absurd (Nat.le_trans k5.size (unhide FW i e)) (Nat.not_le_of_lt hi))))
          | (go_at_call 10; (with_reducible refine (unhide HL1 _ (unhide K8)).mono ?_); rintro e w9 ⟨rfl, k9⟩)
          | (go_at_call 11; (with_reducible refine (unhide HL2 _ ((unhide K8).andNo k9)).mono ?_); rintro e w10 ⟨rfl, k10⟩; have K10 := hide (((unhide K8).andNo k9).andNo k10))
          | (go_at_call 17; (with_reducible refine (unhide HAL _ (unhide K10)).mono ?_); rintro e w11 ⟨rfl, k11⟩)
          | ((with_reducible show wpList _ _ _ (_ :: _) _ _); first
            | (refine wpList_load_mid rfl 36 (.tmp 26) rfl bx (off + n * 8) rfl a.cells _ (unhide hr1) Try.underlying36 rfl (by rw [size_act]; rfl) ?_)
            | (refine wpL_alloc rfl 36 rfl _ zero_act ?_; intro q w4 e4 k4 g4 z4; have e4 := Nat.le_of_eq e4)
            | (refine wpL_store rfl 36 (.tmp 6) (.tmp 27) rfl q a.cells.toArray rfl rfl _ _ g4 (by rw [size_act]; rfl) rfl (all_oneCell_toArray (AT.one _)) ?_; intro w5 k5' g5 z5; have A5 : ActAt w5 q a := g5; have k5 := k4.past k5' e4)
            | (refine wpL_set rfl 9 (.tmp 105) (.const (.string ⟨#[107]⟩)) rfl q 5 (.string ⟨#[107]⟩) rfl rfl rfl (by kernel_rfl) _ _ A7 (by show 5 < 8; omega) ?_; intro w8 k8 g8 z8; have K8 := hide ((unhide K7).past k8 e4))))
        have K11 := hide ((unhide K10).andNo k11)
        go_roundw
        case rel => exact play_end (by omega) (unhide LA) (unhide LR) (by omega) nb (unhide NV) (unhide NS) hb (unhide KW) (unhide K11)
        case measure => simp [intOf]; omega
      · have t7 : (a.k % 9 == 7) = false := by simp; omega
        have t8 : (a.k % 9 == 8) = false := by simp; omega
        clear s7 s8
        obtain ⟨x, hx⟩ : ∃ x, nextE a (E.length : Int) = x := ⟨_, rfl⟩
        have HNX := hide (fun w => next_any a hk0 E.length (by omega) w)
        rw [hx] at HNX
        obtain ⟨F, hF⟩ : ∃ F, appE E x = F := ⟨_, rfl⟩
        obtain ⟨r, hr⟩ : ∃ r, appX E x = r := ⟨_, rfl⟩
        obtain ⟨er, her⟩ : ∃ er, lchk E x = er := ⟨_, rfl⟩
        obtain ⟨sb, hsb⟩ : ∃ sb, begB F E = sb := ⟨_, rfl⟩
        have hb1 : begB E F = true ∧ (er != 0) = sb ∧ F.length ≤ E.length + 1 := by
          rw [← hsb, ← hF, ← her]
          unfold appE
          by_cases h0 : lchk E x = 0
          · rw [if_pos h0, h0, begB_app, begB_long (by simp)]
            simp
          · rw [if_neg h0, begB_self]
            simp [h0]
        obtain ⟨hbw, hes, hFl⟩ := hb1
        have HAP := hide (fun w' (h : IsLog w' S (.pointer (some ⟨ba, 0, none⟩)) E) => append_f h hF hr her)
        have HGP := hide (fun w' (h : RefAt w' b v E) => append_g h (by omega) hF hr her)
        have HB1 := hide (fun w' Sw pw S' (h : IsLog w' Sw pw E) (h2 : IsLog w' S' (.pointer (some ⟨ba, 0, none⟩)) F) => log_begins h h2)
        have HB2 := hide (fun w' Sw pw S' (h : IsLog w' Sw pw E) (h2 : IsLog w' S' (.pointer (some ⟨ba, 0, none⟩)) F) => log_begins h2 h)
        rw [hbw] at HB1
        rw [hsb] at HB2
        have HES := hide hes
        clear hx hF hr her hsb hbw hes
        obtain ⟨adv, capv, rfl, _, _, _⟩ := (unhide LR).ent.form ET.len
        go_upto_region 10 with (first
          | (go_at_call 9; (with_reducible refine (unhide HCP _ k5).mono ?_); rintro e w6 ⟨pw, Sw, rfl, fw, lw, k6, bw, rfl⟩; have A6 := A5.no k6; have a0 := A6.c0; have K6 := hide (k5.andNo k6); have LW := hide lw; have FW := hide fw; have Z5 := k5.size)
          | ((with_reducible show wpList _ _ _ (_ :: _) _ _); first
            | (refine wpList_load_mid rfl 36 (.tmp 26) rfl bx (off + n * 8) rfl a.cells _ (unhide hr1) Try.underlying36 rfl (by rw [size_act]; rfl) ?_)
            | (refine wpL_alloc rfl 36 rfl _ zero_act ?_; intro q w4 e4 k4 g4 z4; have e4 := Nat.le_of_eq e4)
            | (refine wpL_store rfl 36 (.tmp 6) (.tmp 27) rfl q a.cells.toArray rfl rfl _ _ g4 (by rw [size_act]; rfl) rfl (all_oneCell_toArray (AT.one _)) ?_; intro w5 k5' g5 z5; have A5 : ActAt w5 q a := g5; have k5 := k4.past k5' e4)))
        have LA6 := hide ((unhide LA).no (unhide K6))
        have LR6 := hide ((unhide LR).no (unhide K6))
        have z6 := (unhide K6).size
        have nq : ¬ S q := fun e => by have := (unhide LA).lt q e; omega
        have nqb : ¬ oneBlk b q := fun e => by have e : q = b := e; omega
        have HT : ∀ k, S k → k < w6.heap.size := fun k hk => by have := (unhide LA).lt k hk; omega
        have HTH := hide HT
        have A6H := hide A6
        have b0 := (unhide LR6).c0
        have KE := hide (fun w' (k : Chg S w6 w') => playact_keep A6 b0 nq nb k)
        have HAP6 := hide (fun w' (c : Chg noBlk w6 w') => unhide HAP w' ((unhide LA6).no c))
        have B0 := Chg.refl noBlk w6
        have BS := Chg.refl S w6
        clear a0 A6 A5 k4 g4 k5' g5 k5 k6 lw fw b0 HT
        go_cut [8, 9] from 18 to 114 (fun s e wx => ∃ p8, s = .pointer (some ⟨p8, 0, none⟩) ∧ e = .int .i64 er ∧ AfterL w6 S (.pointer (some ⟨ba, 0, none⟩)) F r p8 wx)
        case first =>
          go_region_held3 (fun w' => Chg S w6 w' ∧ w'.cell? ⟨b, 0, none⟩ = some (.slice adv E.length capv) ∧ w'.cell? ⟨q, 0, none⟩ = some (.int .u8 a.k) ∧ w'.cell? ⟨q, 1, none⟩ = some (.int .i64 a.e.idx) ∧ w'.cell? ⟨q, 2, none⟩ = some (.int .i64 a.e.cl) ∧ w'.cell? ⟨q, 3, none⟩ = some (.int .i64 a.e.seq) ∧ w'.cell? ⟨q, 4, none⟩ = some (.int .i64 a.e.op.k) ∧ w'.cell? ⟨q, 5, none⟩ = some (str a.e.op.key) ∧ w'.cell? ⟨q, 6, none⟩ = some (str a.e.op.val) ∧ w'.cell? ⟨q, 7, none⟩ = some (.int .i64 a.e.op.ver))
            ((refine unhide KE _ ?_; go_split_ands; with_reducible (first | assumption | (refine Chg.drew ?_; assumption) | (refine Chg.drew (Chg.alloc ?_ _); assumption) | (refine Chg.drewN ?_ _; assumption) | (refine Chg.alloc ?_ _; assumption) | exact (way_early (unhide HTH) k7 k8 r).2.2.1 | exact (way_mid (unhide HTH) k7 k8 r).2.2.1 | exact (way_late (unhide HTH) k7 k8 r).2.2.1 | exact Chg.trans (by assumption) k8 (fun _ _ e => e) | exact Chg.andNo (by assumption) k7)))
            (first
              | (go_at_call 14; refine (unhide HNX _).mono ?_; rintro e w7 ⟨rfl, k7⟩)
              | (go_at_call 12; (with_reducible refine (unhide HAP6 _ (B0.drew.andNo k7)).mono ?_); rintro e w8 ⟨rfl, k8, S', g8, l8⟩; have s1 := run_stRes r (late_blk w8) rfl)
              | (go_at_call 12; (with_reducible refine (unhide HAP6 _ (((B0.alloc _).drew).andNo k7)).mono ?_); rintro e w8 ⟨rfl, k8, S', g8, l8⟩; have s2 := run_stRes r (early_blk (unhide HTH) k7 k8) rfl)
              | (go_at_call 12; (with_reducible refine (unhide HAP6 _ ((B0.drew.andNo k7).alloc _)).mono ?_); rintro e w8 ⟨rfl, k8, S', g8, l8⟩; have s3 := run_stRes r (mid_blk (unhide HTH) k7 k8) rfl))
          all_goals
            go_wp2_with fail
            go_meet
            case rel =>
              first
                | exact ⟨_, rfl, rfl, (by with_reducible exact afterL_early (unhide HTH) k7 k8 g8 l8 r)⟩
                | exact ⟨_, rfl, rfl, (by with_reducible exact afterL_mid (unhide HTH) k7 k8 g8 l8 r)⟩
                | exact ⟨_, rfl, rfl, afterL_late (unhide HTH) k7 k8 g8 l8 r⟩
        case rest =>
        obtain ⟨p8, rfl, rfl, hL⟩ := hcut
        obtain ⟨w9, rfl⟩ : ∃ w9, w9 = wc := ⟨_, rfl⟩
        have A9 := hide (show ActAt w9 q a from hL.2.2.1.at (unhide A6H) nq)
        have LR9 := hide ((unhide LR6).kept hL.2.2.1 nb (unhide NV))
        have HL := hide hL
        have hb9 : b < w9.heap.size := (unhide LR9).lt
        have HGP9 := hide (fun w' (c : Chg noBlk w9 w') => unhide HGP w' ((unhide LR9).no c))
        have C0 := Chg.refl noBlk w9
        have HTB := hide (show ∀ k, oneBlk b k → k < w9.heap.size from fun k e => by have e : k = b := e; omega)
        clear hL KE B0 BS HAP6
        go_upto_region 11 with fail
        go_cut [10, 11] from 18 to 114 (fun s e wx => ∃ p10, s = .pointer (some ⟨p10, 0, none⟩) ∧ e = .int .i64 er ∧ AfterR w9 b (.slice adv E.length capv) F r p10 wx)
        case first =>
          have b0 : w9.drew.cell? ⟨b, 0, none⟩ = some (.slice adv E.length capv) := (unhide LR9).c0
          have b1 : (w9.alloc (.cells #[.int .i64 0, .string ⟨#[]⟩, .int .i64 0, .int .i64 0] 38)).cell? ⟨b, 0, none⟩ = some (.slice adv E.length capv) := ((unhide LR9).no ((Chg.refl noBlk w9).alloc _)).c0
          have x0 : w9.drew.cell? ⟨q, 0, none⟩ = some (.int .u8 a.k) := cellAt (show w9.drew.heap[q]? = _ from unhide A9) 0 _ rfl
          have x1 : w9.drew.cell? ⟨q, 1, none⟩ = some (.int .i64 a.e.idx) := cellAt (show w9.drew.heap[q]? = _ from unhide A9) 1 _ rfl
          have x2 : w9.drew.cell? ⟨q, 2, none⟩ = some (.int .i64 a.e.cl) := cellAt (show w9.drew.heap[q]? = _ from unhide A9) 2 _ rfl
          have x3 : w9.drew.cell? ⟨q, 3, none⟩ = some (.int .i64 a.e.seq) := cellAt (show w9.drew.heap[q]? = _ from unhide A9) 3 _ rfl
          have x4 : w9.drew.cell? ⟨q, 4, none⟩ = some (.int .i64 a.e.op.k) := cellAt (show w9.drew.heap[q]? = _ from unhide A9) 4 _ rfl
          have x5 : w9.drew.cell? ⟨q, 5, none⟩ = some (str a.e.op.key) := cellAt (show w9.drew.heap[q]? = _ from unhide A9) 5 _ rfl
          have x6 : w9.drew.cell? ⟨q, 6, none⟩ = some (str a.e.op.val) := cellAt (show w9.drew.heap[q]? = _ from unhide A9) 6 _ rfl
          have x7 : w9.drew.cell? ⟨q, 7, none⟩ = some (.int .i64 a.e.op.ver) := cellAt (show w9.drew.heap[q]? = _ from unhide A9) 7 _ rfl
          have y0 : (w9.alloc (.cells #[.int .i64 0, .string ⟨#[]⟩, .int .i64 0, .int .i64 0] 38)).cell? ⟨q, 0, none⟩ = some (.int .u8 a.k) := cellAt (((Chg.refl noBlk w9).alloc _).at (unhide A9) id) 0 _ rfl
          have y1 : (w9.alloc (.cells #[.int .i64 0, .string ⟨#[]⟩, .int .i64 0, .int .i64 0] 38)).cell? ⟨q, 1, none⟩ = some (.int .i64 a.e.idx) := cellAt (((Chg.refl noBlk w9).alloc _).at (unhide A9) id) 1 _ rfl
          have y2 : (w9.alloc (.cells #[.int .i64 0, .string ⟨#[]⟩, .int .i64 0, .int .i64 0] 38)).cell? ⟨q, 2, none⟩ = some (.int .i64 a.e.cl) := cellAt (((Chg.refl noBlk w9).alloc _).at (unhide A9) id) 2 _ rfl
          have y3 : (w9.alloc (.cells #[.int .i64 0, .string ⟨#[]⟩, .int .i64 0, .int .i64 0] 38)).cell? ⟨q, 3, none⟩ = some (.int .i64 a.e.seq) := cellAt (((Chg.refl noBlk w9).alloc _).at (unhide A9) id) 3 _ rfl
          have y4 : (w9.alloc (.cells #[.int .i64 0, .string ⟨#[]⟩, .int .i64 0, .int .i64 0] 38)).cell? ⟨q, 4, none⟩ = some (.int .i64 a.e.op.k) := cellAt (((Chg.refl noBlk w9).alloc _).at (unhide A9) id) 4 _ rfl
          have y5 : (w9.alloc (.cells #[.int .i64 0, .string ⟨#[]⟩, .int .i64 0, .int .i64 0] 38)).cell? ⟨q, 5, none⟩ = some (str a.e.op.key) := cellAt (((Chg.refl noBlk w9).alloc _).at (unhide A9) id) 5 _ rfl
          have y6 : (w9.alloc (.cells #[.int .i64 0, .string ⟨#[]⟩, .int .i64 0, .int .i64 0] 38)).cell? ⟨q, 6, none⟩ = some (str a.e.op.val) := cellAt (((Chg.refl noBlk w9).alloc _).at (unhide A9) id) 6 _ rfl
          have y7 : (w9.alloc (.cells #[.int .i64 0, .string ⟨#[]⟩, .int .i64 0, .int .i64 0] 38)).cell? ⟨q, 7, none⟩ = some (.int .i64 a.e.op.ver) := cellAt (((Chg.refl noBlk w9).alloc _).at (unhide A9) id) 7 _ rfl
          go_region_with (first
            | (go_at_call 14; refine (unhide HNX _).mono ?_; rintro e w10 ⟨rfl, k10⟩)
            | (go_at_call 15; (with_reducible refine (unhide HGP9 _ (C0.drew.andNo k10)).mono ?_); rintro e w11 ⟨rfl, k11, v', l11, hv11⟩; have s1 := run_stRes r (late_blk w11) rfl)
            | (go_at_call 15; (with_reducible refine (unhide HGP9 _ (((C0.alloc _).drew).andNo k10)).mono ?_); rintro e w11 ⟨rfl, k11, v', l11, hv11⟩; have s2 := run_stRes r (early_blk (unhide HTB) k10 k11) rfl)
            | (go_at_call 15; (with_reducible refine (unhide HGP9 _ ((C0.drew.andNo k10).alloc _)).mono ?_); rintro e w11 ⟨rfl, k11, v', l11, hv11⟩; have s3 := run_stRes r (mid_blk (unhide HTB) k10 k11) rfl))
          all_goals
            go_wp2_with fail
            go_meet
            case rel =>
              first
                | exact ⟨_, rfl, rfl, (by with_reducible exact afterR_early hb9 k10 k11 l11 hv11 r)⟩
                | exact ⟨_, rfl, rfl, (by with_reducible exact afterR_mid hb9 k10 k11 l11 hv11 r)⟩
                | exact ⟨_, rfl, rfl, afterR_late hb9 k10 k11 l11 hv11 r⟩
        case rest =>
        obtain ⟨p10, rfl, rfl, hR⟩ := hcut
        obtain ⟨w12, rfl⟩ : ∃ w12, w12 = wc := ⟨_, rfl⟩
        obtain ⟨S', v', lA, lR, nb', nv', ns', kw', R8, R10⟩ := play_mid (unhide LA) (unhide LR) nb (unhide NV) (unhide NS) hb (unhide KW) (unhide K6) (unhide HL) hR
        have lw12 : IsLog w12 Sw (.pointer (some ⟨bw, 0, none⟩)) E := ((unhide LW).kept (unhide HL).2.2.1 fun i h1 h2 => by have := (unhide LA).lt i h2; have := unhide FW i h1; omega).kept hR.2.2.1 fun i h1 e => by have e : i = b := e; have := unhide FW i h1; omega
        have HC1 := hide (fun w' (c : Chg noBlk w12 w') => (unhide HB1 w' Sw _ S' (lw12.no c) (lA.no c)).mono fun _ _ h => h.toN)
        have HC2 := hide (fun w' (c : Chg noBlk w12 w') => (unhide HB2 w' Sw _ S' (lw12.no c) (lA.no c)).mono fun _ _ h => h.toN)
        have HAL2 := hide (fun w' (c : Chg noBlk w12 w') => alike_at (lA.no c) (lR.no c) (by omega))
        have LA12 := hide lA
        have LR12 := hide lR
        have NV' := hide nv'
        have NS' := hide ns'
        have KW' := hide kw'
        have C0 := Chg.refl noBlk w12
        have hes := unhide HES
        clear lA lR nv' ns' kw' lw12 hR
        have v1 : True := True.intro
        cases sb
        all_goals
          go_wp2_with (first
            | (clear v1; go_at_call 16; (with_reducible refine (unhide HC1 _ C0).mono ?_); rintro e w13 ⟨rfl, k13⟩)
            | (go_at_call 16; (with_reducible refine (unhide HC2 _ k13).mono ?_); rintro e w14 ⟨rfl, k14⟩)
            | (go_at_call 17; (with_reducible refine (unhide HAL2 _ (k13.andNo k14)).mono ?_); rintro e w15 ⟨rfl, k15⟩)
            | ((with_reducible show wpList _ _ _ (_ :: _) _ _); first
              | (refine wpL_load rfl 38 (.tmp 8) rfl p8 rfl r.cells.toArray _ _ R8 _ Try.underlying38 rfl info_res ?_)
              | (refine wpL_load rfl 38 (.tmp 10) rfl p10 rfl r.cells.toArray _ _ R10 _ Try.underlying38 rfl info_res ?_)))
          have KZ := hide ((k13.andNo k14).andNo k15)
          clear k13 k14 k15 hes C0 R8 R10
          go_roundw
          case rel => exact play_end (by omega) (unhide LA12) (unhide LR12) (by omega) nb' (unhide NV') (unhide NS') hb (unhide KW') (unhide KZ)
          case measure => simp [intOf]; omega
    · obtain rfl : n = l.length := by omega
      go_wp2_with (go_at_call 7; (with_reducible refine (logged_any _).mono ?_); rintro e w24 ⟨rfl, k24⟩)
      go_ret
      exact ⟨rfl, (unhide KW).andNo k24⟩
end Go.Proofs.Ytfffgegdcgfakaa
