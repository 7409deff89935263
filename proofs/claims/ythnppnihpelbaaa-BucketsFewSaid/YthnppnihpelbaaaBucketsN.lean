/-
  Buckets: no more tokens are taken than may be.
-/
import Derived.Test.YthnppnihpelbaaaBucketsD
import Derived.Test.YthnppnihpelbaaaBucketsM
import Derived.Test.YthnppnihpelbaaaKitI
namespace Go.Proofs.Ythnppnihpelbaaa
open Go.ChangeShapes Go.WideShapes Go.ChangeAt Go.RowKit
set_option linter.unusedVariables false
abbrev BytesIn (w : World) (ad : Option Addr) (l : List Nat) : Prop := RowsIn byteCells' (fun n => n ≤ 255) 1 w ad l
theorem info_int : (Try.prog.info? 3).map (fun i => (i.zero, i.size, i.bytes)) = some (some (.int .i64 0), 1, 8) := by kernel_rfl
theorem take_yes {x : Bkt} (o : x.Ok) {m : Int} (hp : 0 < (x.bring m).t) (hm : m ≤ (x.bring m).k) : (x.bring m).can m = true ∧ (x.bring m).take m = (x.bring m).less := by
  have h := bring_again o m m hm
  have hc : (x.bring m).can m = true := by unfold Bkt.can; rw [h]; simp; omega
  exact ⟨hc, by unfold Bkt.take; rw [hc, h]; rfl⟩
theorem take_not {x : Bkt} (o : x.Ok) {m : Int} (hp : (x.bring m).t = 0) (hm : m ≤ (x.bring m).k) : (x.bring m).can m = false ∧ (x.bring m).take m = x.bring m := by
  have h := bring_again o m m hm
  have hc : (x.bring m).can m = false := by unfold Bkt.can; rw [h]; simpa using hp
  exact ⟨hc, by unfold Bkt.take; rw [hc, h]; rfl⟩
/-- behind so many ticks gone by: the bucket, and the ticks at which tokens were taken -/
structure Few (w0 w : World) (b : Nat) (n q : Int) (k : Nat) (x : Bkt) (v : Value) (ts : List Int) : Prop where
  p : BK w b x
  c : x.c = n
  r : x.r = q
  set : Settled x
  small : x.k ≤ 255 * (k : Int)
  own : Ints 3 w0 b w v ts
  len : ts.length ≤ k
  wit : Within n q x ts
  nb : w0.heap.size ≤ b
  kept : Chg noBlk w0 w
section
variable {w0 wr w4 w5 : World} {b k : Nat} {n q m : Int} {x y : Bkt} {v v' : Value} {ts : List Int}
theorem Few.next (h : Few w0 wr b n q k x v ts) (hy : x.bring m = y) (ym : y.k = m) (hm : m ≤ 255 * ((k : Int) + 1)) : y.c = n ∧ y.r = q ∧ Settled y ∧ Within n q y ts ∧ y.Ok := by
  subst hy
  obtain ⟨h1, h2, _⟩ := bring_keeps x m
  exact ⟨h1.trans h.c, h2.trans h.r, bring_settled h.p.2 m, h.wit.bring h.p.2 m, h.p.2.bring m⟩
theorem Few.not (h : Few w0 wr b n q k x v ts) (hy : x.bring m = y) (ym : y.k = m) (hm : m ≤ 255 * ((k : Int) + 1)) (k1 : Chg (oneBlk b) wr w4) (h4 : BK w4 b y) : Few w0 w4 b n q (k + 1) y v ts := by
  obtain ⟨h1, h2, h3, h5, h6⟩ := h.next hy ym hm
  exact ⟨h4, h1, h2, h3, by rw [ym]; omega, h.own.kept k1 fun g _ hg e => hg e, by have := h.len; omega, h5, h.nb, h.kept.trans k1 fun i hi e => by have e : i = b := e; have := h.nb; omega⟩
theorem Few.took (h : Few w0 wr b n q k x v ts) (hy : x.bring m = y) (ym : y.k = m) (hm : m ≤ 255 * ((k : Int) + 1)) (hp : 0 < y.t) (k1 : Chg (oneBlk b) wr w4) (h4 : BK w4 b y.less) {o : Obj} (k5 : Chg (fun k => v.ownBlock = some k) (w4.alloc o) w5) (o5 : w5.ownsRow 0 3 1 v' (ts.length + 1) (ts.map (.int .i64 ·) ++ [.int .i64 m]))
    (f5 : v'.ownBlock = v.ownBlock ∨ v'.ownBlock = some (w4.alloc o).heap.size) : Few w0 w5 b n q (k + 1) y.less v' (ts ++ [m]) := by
  obtain ⟨h1, h2, h3, h5, h6⟩ := h.next hy ym hm
  have kA : Chg noBlk w4 (w4.alloc o) := (Chg.refl _ _).alloc _
  have hnb := h.nb
  have k7 : Chg noBlk w0 w4 := h.kept.trans k1 fun i hi e => by have e : i = b := e; omega
  have hw : Within n q y.less (ts ++ [m]) := by
    subst h1 h2 ym
    exact h5.take h6 h3 hp
  have own4 : Ints 3 w0 b (w4.alloc o) v ts := (h.own.kept k1 fun g _ hg e => hg e).kept kA fun _ _ _ e => e
  refine ⟨(h4.no kA).kept k5 fun e => (h.own.new b e).2 rfl, h1, h2, h3.less h6, by show y.k ≤ _; rw [ym]; omega, ?_, by have := h.len; simp; omega, hw, h.nb, (k7.andNo kA).trans k5 fun i hi e => by have := (h.own.new i e).1; omega⟩
  exact Ints.push own4 o5 f5 (by have := k7.size; have := kA.size; omega) (by have := h4.lt; have := kA.size; omega)
end
def FewAt (w0 : World) (b : Nat) (n q : Int) (len : Nat) (now v i : Value) (w : World) : Prop :=
  ∃ (k : Nat) (x : Bkt) (ts : List Int), k ≤ len ∧ now = .int .i64 x.k ∧ i = .int .i64 (k : Int) ∧ Few w0 w b n q k x v ts
set_option maxRecDepth 100000 in
set_option maxHeartbeats 40000000 in
theorem few_in (p p2 : Nat) (hp : p ≤ 255) (hp2 : p2 ≤ 255) (ad : Option Addr) (l : List Nat) (cap : Nat) (w : World) (hl : l.length ≤ 150) (h : BytesIn w ad l) :
    Calls Try.prog 5 #[.int .u8 (p : Int), .int .u8 (p2 : Int), .slice ad l.length cap] w (ToldB true w) := by
  have HA := hide h
  clear h
  obtain ⟨n, hn⟩ : ∃ n : Int, n = (p : Int) % 17 := ⟨_, rfl⟩
  obtain ⟨q, hq⟩ : ∃ q : Int, q = 1 + (p2 : Int) % 64 := ⟨_, rfl⟩
  have n0 : 0 ≤ n := by omega
  have n2 : n ≤ 16 := by omega
  have q1 : 1 ≤ q := by omega
  have q2 : q ≤ 64 := by omega
  have NW := hide (fun w => new_k (c := n) (r := q) (by simp [mayB]; omega) w)
  have HN := hide hn
  have HQ := hide hq
  clear hn hq
  go_enter Try.func5, Try.ntmps5
  go_wp2_with (first
    | (go_at_call 7; rw [← unhide HN, ← unhide HQ]; refine (unhide NW _).mono ?_; rintro e w1 ⟨b, rfl, hb, k1, h1⟩; have H1 := hide h1; have K1 := hide k1; clear NW h1 k1))
  have B0 : FewAt w b n q l.length (.int .i64 0) (.slice none 0 0) (.int .i64 0) w1 := ⟨0, _, [], by omega, rfl, rfl, unhide H1, rfl, rfl, ⟨fun _ => rfl, by show (0 : Int) < 0 + q; omega⟩, by simp, Ints.nil _ _ _ _, by simp, Within.nil, hb, unhide K1⟩
  have HB0 := hide B0
  clear B0 H1 K1
  go_loopw [11, 12, 13] (fun now v i wr => FewAt w b n q l.length now v i wr) (fun now v i wr => l.length - (intOf i).toNat)
  case atStart => exact unhide HB0
  case round =>
    clear HB0
    obtain ⟨k, x, ts, hk, rfl, rfl, hF⟩ := hrel
    have HF := hide hF
    have x0 : 0 ≤ x.k := by have := hF.p.2.s0; have := hF.p.2.sk; omega
    have xs := hF.small
    clear hF
    by_cases hlt : k < l.length
    · have d1 : decide (k < l.length) = true := by simpa using hlt
      obtain ⟨d, hd⟩ : ∃ d, l[k]? = some d := ⟨_, List.getElem?_eq_getElem hlt⟩
      obtain ⟨hd255, bb, off, rfl, hrng⟩ := unhide HA k d hd
      have i1 : (0 : Int) ≤ (k : Int) := by omega
      have i2 : (k : Int) < (l.length : Int) := by omega
      have cd := (range_kept hrng (unhide HF).kept) 0 (.int .u8 (d : Int)) rfl
      simp only [Nat.mul_one, Nat.add_zero] at cd
      have wr1 : IntKind.i64.wrap (x.k + (d : Int)) = x.k + (d : Int) := IntWalk.i64_in _ (by omega)
      clear hd hrng
      obtain ⟨m, hm⟩ : ∃ m, m = x.k + (d : Int) := ⟨_, rfl⟩
      have ym : (x.bring m).k = m := by rw [(bring_keeps x m).2.2]; omega
      have ly : (x.bring m).t ≤ n := by have := ((unhide HF).p.2.bring m).tc; rw [(bring_keeps x m).1, (unhide HF).c] at this; exact this
      have ly0 := ((unhide HF).p.2.bring m).t0
      have HM := hide hm
      have bm : -9223372036854775808 ≤ m ∧ m ≤ 9223372036854775807 := by omega
      have C1 := hide (left_k (unhide HF).p m bm rfl rfl)
      clear hm
      by_cases hp0 : 0 < (x.bring m).t
      · have hless := less_again (bring_settled (unhide HF).p.2 m) ((unhide HF).p.2.bring m) hp0 (m := m) (by omega)
        obtain ⟨t1, t2⟩ := take_yes (unhide HF).p.2 hp0 (m := m) (by omega)
        have C2 := hide (fun w' (h : BK w' b (x.bring m)) => take_k h m bm t1 t2)
        have C3 := hide (fun w' (h : BK w' b (x.bring m).less) => left_k h m bm (n := (x.bring m).t - 1) (by rw [hless]; rfl) hless)
        have YM := hide ym
        clear t1 t2 hless ym
        generalize hy : x.bring m = y at *
        have HY := hide hy
        clear hy
        have e1 : decide (y.t < 0) = false := by simp; omega
        have e2 : decide (n < y.t) = false := by simp; omega
        have e3 : decide (0 < y.t) = true := by simp; omega
        go_wp2_with (first
          | (go_at_call 9; rw [← unhide HM]; refine (unhide C1).mono ?_; rintro e w2 ⟨rfl, k2, h2⟩; clear C1)
          | (go_at_call 12; refine (unhide C2 _ h2).mono ?_; rintro e w3 ⟨rfl, k3, h3⟩; clear C2)
          | (go_at_call 9; refine (unhide C3 _ h3).mono ?_; rintro e w4 ⟨rfl, k4, h4⟩; clear C3)
          | (have tk := h4; clear tk; have own6 := owns_kept (unhide HF).own.own (((((Chg.refl _ wr).trans k2 fun _ _ e => e).trans k3 fun _ _ e => e).trans k4 fun _ _ e => e).alloc (.cells #[.int .i64 m] 3)) (fun g hg e => ((unhide HF).own.new g hg).2 e); refine wpL_append rfl (.tmp 81) (.tmp 83) 40 (by rfl) 3 (.int .i64 0) 1 8 Try.underlying40 info_int rfl (by decide) u12 ts.length (ts.map (.int .i64 ·)) rfl own6 (.slice (some ⟨w4.heap.size, 0, none⟩) 1 1) 1 [.int .i64 m] rfl (reads_new w4 _ rfl) (by have := (unhide HF).len; unfold maxLen; omega) (by have := (unhide HF).len; omega) ?_; intro v' w5 k5 o5 f5))
        have HF4 := hide ((unhide HF).took (unhide HY) (unhide YM) (by have := unhide HM; omega) hp0 (((Chg.refl _ wr).trans k2 fun _ _ e => e).trans k3 (fun _ _ e => e) |>.trans k4 fun _ _ e => e) h4 k5 o5 f5)
        refine ⟨⟨k + 1, y.less, ts ++ [m], by omega, ?_, by go_num, unhide HF4⟩, by simp [intOf]; omega⟩
        rw [← unhide YM]; rfl
      · have hz : (x.bring m).t = 0 := by omega
        obtain ⟨t1, t2⟩ := take_not (unhide HF).p.2 hz (m := m) (by omega)
        have C2 := hide (fun w' (h : BK w' b (x.bring m)) => take_k h m bm t1 t2)
        have YM := hide ym
        clear t1 t2 ym
        generalize hy : x.bring m = y at *
        have HY := hide hy
        clear hy
        have e1 : decide (y.t < 0) = false := by simp; omega
        have e2 : decide (n < y.t) = false := by simp; omega
        have e3 : decide (0 < y.t) = false := by simp; omega
        clear hz
        go_wp2_with (first
          | (go_at_call 9; rw [← unhide HM]; refine (unhide C1).mono ?_; rintro e w2 ⟨rfl, k2, h2⟩; clear C1)
          | (go_at_call 12; refine (unhide C2 _ h2).mono ?_; rintro e w3 ⟨rfl, k3, h3⟩; clear C2))
        have HF4 := hide ((unhide HF).not (unhide HY) (unhide YM) (by have := unhide HM; omega) (((Chg.refl _ wr).trans k2 fun _ _ e => e).trans k3 fun _ _ e => e) h3)
        refine ⟨⟨k + 1, y, ts, by omega, ?_, by go_num, unhide HF4⟩, by simp [intOf]; omega⟩
        rw [← unhide YM]
    · have d1 : decide (k < l.length) = false := by simpa using hlt
      obtain ⟨ad2, cap2, rfl, hts⟩ := (unhide HF).own.cells
      have HT := hide hts
      have WI := hide (unhide HF).wit
      have HL : ts.length ≤ 150 := by have := (unhide HF).len; omega
      have nq0 : 0 ≤ n * q := Int.mul_nonneg n0 (by omega)
      have nq1 : n * q ≤ 16 * 64 := Int.mul_le_mul n2 q2 (by omega) (by omega)
      have hfull : (x.bring (x.k + n * q)).t = n := by
        have h := full_again (unhide HF).p.2 (unhide HF).set (by rw [(unhide HF).c, (unhide HF).r]; omega)
        rw [(unhide HF).c, (unhide HF).r] at h
        exact h
      have C1 := hide (fun dn => left_k ((unhide HF).p.drewN dn) (x.k + n * q) (by omega) hfull rfl)
      have wr1 : IntKind.i64.wrap (n * q) = n * q := IntWalk.i64_in _ (by omega)
      have wr2 : IntKind.i64.wrap (x.k + n * q) = x.k + n * q := IntWalk.i64_in _ (by omega)
      have HI := hide (fun (i : Nat) (t : Int) (h : ts[i]? = some t) => ((unhide HF).wit.now i t h).1)
      clear hts hfull
      go_wp2_with fail
      go_loopw [15] (fun i wz => ∃ (i' dn : Nat), i' ≤ ts.length ∧ i = .int .i64 (i' : Int) ∧ wz = wr.drewN dn) (fun i wz => ts.length - (intOf i).toNat)
      case atStart => exact ⟨0, 0, by omega, rfl, rfl⟩
      case round =>
        obtain ⟨i', dn, hi, rfl, rfl⟩ := hrel
        by_cases hi2 : i' < ts.length
        · have d2 : decide (i' < ts.length) = true := by simpa using hi2
          obtain ⟨s, hs⟩ : ∃ s, ts[i']? = some s := ⟨_, List.getElem?_eq_getElem hi2⟩
          obtain ⟨g, rfl, ci⟩ := unhide HT i' s hs
          have HS := hide hs
          clear hs
          go_wp2_with fail
          go_loopw [16] (fun j wz => ∃ (j' dn : Nat), i' ≤ j' ∧ j' ≤ ts.length ∧ j = .int .i64 (j' : Int) ∧ wz = wr.drewN dn) (fun j wz => ts.length - (intOf j).toNat)
          case atStart => exact ⟨i', dn, by omega, by omega, rfl, rfl⟩
          case round =>
            obtain ⟨j', dn2, hij, hj, rfl, rfl⟩ := hrel
            by_cases hj2 : j' < ts.length
            · have d3 : decide (j' < ts.length) = true := by simpa using hj2
              obtain ⟨t, ht⟩ : ∃ t, ts[j']? = some t := ⟨_, List.getElem?_eq_getElem hj2⟩
              obtain ⟨g', hg', cj⟩ := unhide HT j' t ht
              obtain rfl : g' = g := by simpa using hg'.symm
              obtain ⟨hst, hq⟩ := (unhide WI).quo q1 hij (unhide HS) ht
              have ci' : (wr.drewN dn2).cell? ⟨g', i', none⟩ = some (.int .i64 s) := ci
              have cj' : (wr.drewN dn2).cell? ⟨g', j', none⟩ = some (.int .i64 t) := cj
              have hs0 := (unhide HI i' s (unhide HS)).1
              have ht0 := (unhide HI j' t ht).2
              have hz0 : 0 ≤ (t - s).tdiv q := by rw [Int.tdiv_eq_ediv_of_nonneg (by omega)]; exact Int.ediv_nonneg (by omega) (by omega)
              have hz1 : (t - s).tdiv q ≤ t - s := by rw [Int.tdiv_eq_ediv_of_nonneg (by omega)]; exact Int.ediv_le_self _ (by omega)
              obtain ⟨z, hz⟩ : ∃ z, (t - s).tdiv q = z := ⟨_, rfl⟩
              rw [hz] at hq hz0 hz1
              have d4 : decide (n + z < (j' : Int) - (i' : Int) + 1) = false := by simp; omega
              clear hg' ht
              go_wp2_with fail
              go_quiet (fail)
              go_wp2_with fail
              refine ⟨⟨j' + 1, dn2 + nq, by omega, by omega, by go_num, rfl⟩, by simp [intOf]; omega⟩
            · have d3 : decide (j' < ts.length) = false := by simpa using hj2
              go_wp2_with fail
              exact ⟨⟨i' + 1, dn2, by omega, by go_num, rfl⟩, by simp [intOf]; omega⟩
        · have d2 : decide (i' < ts.length) = false := by simpa using hi2
          go_wp2_with (first
            | (go_at_call 9; refine (unhide C1 _).mono ?_; rintro e w5 ⟨rfl, k5, h5⟩)
            | (go_at_call 6; refine (filled_any _).mono ?_; rintro e w6 ⟨rfl, k6⟩))
          go_ret
          exact ⟨rfl, (((unhide HF).kept.drewN _).trans k5 (fun i hi e => by have e : i = b := e; have := (unhide HF).nb; omega)).andNo k6⟩
end Go.Proofs.Ythnppnihpelbaaa
