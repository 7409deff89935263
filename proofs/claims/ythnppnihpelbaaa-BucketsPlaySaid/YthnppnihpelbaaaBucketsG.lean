/-
  Buckets: whatever is done with one, what is told is the document's.
-/
import Derived.Test.YthnppnihpelbaaaBucketsD
import Derived.Test.YthnppnihpelbaaaBucketsF
import Derived.Test.YthnppnihpelbaaaKitL
import Derived.OpenShut
import Derived.Deep.CutBlock
import Derived.Deep.CutRange
import Derived.Deep.RegionHeld3
namespace Go.Proofs.Ythnppnihpelbaaa
open Go.ChangeShapes Go.WideShapes Go.ChangeAt Go.RowKit
set_option linter.unusedVariables false
/-- an act: its kind, its tick -/
structure AT where
  k : Int
  i : Int
def AT.cells (a : AT) : List Value := [.int .u8 a.k, .int .i64 a.i]
structure AT.Ok (a : AT) : Prop where
  k0 : 0 ≤ a.k ∧ a.k ≤ 255
  i0 : -9223372036854775808 ≤ a.i ∧ a.i ≤ 9223372036854775807
theorem trod_act {H : Type} {enc : TypeId × Value → H} {w : World} {base : Nat} {spare : Nat → Bool} {held : Bool} {fuel : Nat} {cs : List Value} {x : DataW H × List MemPlace}
    (h : DataW.trod enc Try.prog w base spare held fuel 32 cs = some x) : ∃ a : AT, cs = a.cells ∧ a.Ok := by
  have hu := Try.underlying32
  have hlen : cs.length = 2 := (struct_len hu h).trans (by kernel_rfl)
  obtain ⟨k, hk, wk⟩ := int_at hu h 0 0 5 rfl (k := .u8) Try.underlying5 (by kernel_rfl)
  obtain ⟨i, hi, wi⟩ := int_at hu h 1 1 3 rfl (k := .i64) Try.underlying3 (by kernel_rfl)
  refine ⟨⟨k, i⟩, ?_, bounds_u8 wk, bounds_i64 wi⟩
  match cs, hlen with
  | [a, b], _ => simp at hk hi; rw [hk, hi]; rfl
abbrev ActsIn (w : World) (ad : Option Addr) (l : List AT) : Prop := RowsIn AT.cells AT.Ok 2 w ad l
theorem size_act : (Try.prog.info? 32).map (·.size) = some 2 := by kernel_rfl
theorem zero_act : (Try.prog.info? 32).bind (·.zero) = some (.agg #[.int .u8 0, .int .i64 0]) := by kernel_rfl
theorem AT.one (a : AT) : a.cells.toArray.all (·.oneCell') = true := all_oneCell_toArray (by simp [AT.cells, Value.oneCell'])
/-- the two buckets, alike, and apart -/
structure Both (w0 w : World) (b q : Nat) (x : Bkt) : Prop where
  p : BK w b x
  r : DK w q x
  ne : b ≠ q
  nb : w0.heap.size ≤ b
  nq : w0.heap.size ≤ q
  kept : Chg noBlk w0 w
section
variable {w0 w5 w6 w7 : World} {b q : Nat} {x y : Bkt}
theorem Both.no (h : Both w0 w5 b q x) (k : Chg noBlk w5 w6) : Both w0 w6 b q x := ⟨h.p.no k, h.r.no k, h.ne, h.nb, h.nq, h.kept.andNo k⟩
theorem both_two (h : Both w0 w5 b q x) (k6 : Chg (oneBlk b) w5 w6) (h6 : BK w6 b y) (k7 : Chg (oneBlk q) w6 w7) (h7 : DK w7 q y) : Both w0 w7 b q y :=
  ⟨h6.kept k7 (fun e => h.ne e), h7, h.ne, h.nb, h.nq, (h.kept.trans k6 fun i hi e => by have e : i = b := e; have := h.nb; omega).trans k7 fun i hi e => by have e : i = q := e; have := h.nq; omega⟩
end
/-- where the acts stand -/
def PlayAt (w0 : World) (b q len : Nat) (i : Value) (w : World) : Prop := ∃ (k : Nat) (x : Bkt), k ≤ len ∧ i = .int .i64 (k : Int) ∧ Both w0 w b q x
set_option maxRecDepth 100000 in
set_option maxHeartbeats 40000000 in
theorem play_in (c r : Int) (hm : mayB c r = true) (ad : Option Addr) (l : List AT) (cap : Nat) (w : World) (hl : l.length ≤ 150) (h : ActsIn w ad l) :
    Calls Try.prog 3 #[.int .i64 c, .int .i64 r, .slice ad l.length cap] w (ToldB true w) := by
  have HA := hide h
  clear h
  have NW := hide (fun w => new_k hm w)
  have RW := hide (fun w => rnew_yes hm w)
  clear hm
  go_enter Try.func3, Try.ntmps3
  go_wp2_with (first
    | (go_at_call 7; refine (unhide NW _).mono ?_; rintro e w2 ⟨b, rfl, e2, k2, h2⟩)
    | (go_at_call 8; refine (unhide RW _).mono ?_; rintro e w3 ⟨q, rfl, e3, k3, h3⟩))
  have B0 : Both w w3 b q ⟨c, r, c, 0, 0⟩ := ⟨h2.no k3, h3, by have := h2.lt; omega, by omega, by have := k2.size; omega, k2.andNo k3⟩
  have HB0 := hide B0
  clear B0 NW RW k2 k3 h2 h3 e2 e3
  go_loopw [11] (fun i wr => PlayAt w b q l.length i wr) (fun i wr => l.length - (intOf i).toNat)
  case atStart => exact ⟨0, _, by omega, rfl, unhide HB0⟩
  case round =>
    clear HB0
    obtain ⟨k, x, hk, rfl, hB⟩ := hrel
    have HB := hide hB
    clear hB
    by_cases hlt : k < l.length
    · have d1 : decide (k < l.length) = true := by simpa using hlt
      obtain ⟨a, ha⟩ : ∃ a, l[k]? = some a := ⟨_, List.getElem?_eq_getElem hlt⟩
      obtain ⟨hok, bb, off, rfl, hrng⟩ := unhide HA k a ha
      have i1 : (0 : Int) ≤ (k : Int) := by omega
      have i2 : (k : Int) < (l.length : Int) := by omega
      have hr1 := range_kept hrng (unhide HB).kept
      have HOK := hide hok
      clear ha hok hrng
      go_upto_block 2 with (first
        | (refine wpList_load_mid rfl 32 (.tmp 56) rfl bb (off + k * 2) rfl a.cells _ hr1 Try.underlying32 rfl (by rw [size_act]; rfl) ?_)
        | (refine wpL_alloc rfl 32 rfl _ zero_act ?_; intro x1 w4 e4 k4 g1 z4)
        | (refine wpL_store rfl 32 (.tmp 12) (.tmp 57) rfl x1 a.cells.toArray rfl rfl _ _ g1 (by rw [size_act]; rfl) rfl a.one ?_; intro w5 k5 g1 z5; have c9 := cellAt g1 0 (.int .u8 a.k) (by rfl)))
      have HB5 := hide ((unhide HB).no (k4.trans k5 fun i hi e => by have e : i = x1 := e; omega))
      have c9i := cellAt g1 1 (.int .i64 a.i) (by rfl)
      have ki := (unhide HOK).i0
      have k0 := (unhide HOK).k0
      have hxb : ¬ oneBlk b x1 := fun e => by have e : x1 = b := e; have := (unhide HB).p.lt; omega
      have hqb : ¬ oneBlk b q := fun e => by have e : q = b := e; have := (unhide HB).ne; omega
      clear k4 k5 g1 e4 z4 z5 hr1 i1 i2
      by_cases s3 : a.k % 5 = 3
      · have t3 : (a.k % 5 == 3) = true := by simp; omega
        clear s3
        have CA := hide (fun w' (h : BK w' b x) => left_k h a.i ki rfl rfl)
        have CB := hide (fun w' (h : DK w' q x) => left_d h a.i ki rfl rfl)
        go_wp2_with fail
        go_region_with (first
          | (go_at_call 9; refine (unhide CA _ (by exact (unhide HB5).p)).mono ?_; rintro e w6 ⟨rfl, k6', h6⟩; have k6 : Chg (oneBlk b) w5 w6 := (by exact ⟨k6'.os, k6'.tape, k6'.output, k6'.size, k6'.block⟩); clear k6'; have g6 := hide ((unhide HB5).r.kept k6 hqb); have c9j := k6.cell c9i hxb)
          | (go_at_call 10; refine (unhide CB _ (by exact unhide g6)).mono ?_; rintro e w7 ⟨rfl, k7', h7⟩; have k7 : Chg (oneBlk q) w6 w7 := (by exact ⟨k7'.os, k7'.tape, k7'.output, k7'.size, k7'.block⟩); clear k7'))
        all_goals
          have B7 := both_two (unhide HB5) k6 h6 k7 h7
          have HB7 := hide B7
          clear B7 k6 h6 k7 h7 g6 c9j CA CB
          go_wp2_with fail
          go_roundw
          case rel => first | exact ⟨k + 1, _, by omega, by go_num, unhide HB7⟩ | exact ⟨k + 1, _, by omega, by go_num, (unhide HB7).no ((Chg.refl _ _).drew)⟩
          case measure => simp [intOf]; omega
      by_cases s4 : a.k % 5 = 4
      · have t3 : (a.k % 5 == 3) = false := by simp; omega
        have t4 : (a.k % 5 == 4) = true := by simp; omega
        clear s3 s4
        have CC := hide (copy_k (unhide HB5).p)
        go_wp2_with (first
          | (go_at_call 11; refine (unhide CC).mono ?_; rintro e w6 ⟨b2, rfl, e6, k6, h6⟩; have c9i := k6.cell c9i id; have D1 := hide (take_k h6 1099511627776 (by omega) rfl rfl); have KC := hide k6; clear k6 h6 CC)
          | (go_at_call 12; refine (unhide D1).mono ?_; rintro e w7 ⟨rfl, k7, h7⟩; have KC := hide ((unhide KC).trans k7 (fun i hi e => (by have e : i = b2 := e; omega))); clear k7 h7 D1))
        go_roundw
        case rel => exact ⟨k + 1, x, by omega, by go_num, (unhide HB5).no (unhide KC)⟩
        case measure => simp [intOf]; omega
      have t3 : (a.k % 5 == 3) = false := by simp; omega
      have t4 : (a.k % 5 == 4) = false := by simp; omega
      clear s3 s4
      have CA := hide (fun w' (h : BK w' b x) => take_k h a.i ki rfl rfl)
      have CB := hide (fun w' (h : DK w' q x) => take_d h a.i ki rfl rfl)
      go_wp2_with fail
      go_region_with (first
        | (go_at_call 12; refine (unhide CA _ (by exact (unhide HB5).p)).mono ?_; rintro e w6 ⟨rfl, k6', h6⟩; have k6 : Chg (oneBlk b) w5 w6 := (by exact ⟨k6'.os, k6'.tape, k6'.output, k6'.size, k6'.block⟩); clear k6'; have g6 := hide ((unhide HB5).r.kept k6 hqb); have c9j := k6.cell c9i hxb)
        | (go_at_call 13; refine (unhide CB _ (by exact unhide g6)).mono ?_; rintro e w7 ⟨rfl, k7', h7⟩; have k7 : Chg (oneBlk q) w6 w7 := (by exact ⟨k7'.os, k7'.tape, k7'.output, k7'.size, k7'.block⟩); clear k7'))
      all_goals
        have B7 := both_two (unhide HB5) k6 h6 k7 h7
        have HB7 := hide B7
        clear B7 k6 h6 k7 h7 g6 c9j CA CB
        go_wp2_with fail
        go_roundw
        case rel => first | exact ⟨k + 1, _, by omega, by go_num, unhide HB7⟩ | exact ⟨k + 1, _, by omega, by go_num, (unhide HB7).no ((Chg.refl _ _).drew)⟩
        case measure => simp [intOf]; omega
    · have d1 : decide (k < l.length) = false := by simpa using hlt
      have CC := hide (copy_k (unhide HB).p)
      obtain ⟨z, hz⟩ : ∃ z, x.bring 0 = z := ⟨_, rfl⟩
      obtain ⟨z1, z2⟩ := bring_back (unhide HB).p.2
      rw [hz] at z1 z2
      have HZ := hide hz
      have Z1 := hide z1
      have Z2 := hide z2
      clear hz z1 z2
      go_wp2_with (first
        | (go_at_call 11; refine (unhide CC).mono ?_; rintro e w2 ⟨b2, rfl, e2, k2, h2⟩; have HB2 := hide ((unhide HB).no k2); have eb : b ≠ b2 := (by have := (unhide HB).p.lt; omega); have eq : q ≠ b2 := (by have := (unhide HB).r.lt; omega); have nb2 : w.heap.size ≤ b2 := (by have := (unhide HB).kept.size; omega); have C1 := hide (left_k h2 0 (by omega) (n := z.t) (y := z) (by rw [unhide HZ]) (unhide HZ)); clear h2 k2 CC)
        | (go_at_call 9; refine (unhide C1).mono ?_; rintro e w3 ⟨rfl, k3, h3⟩; clear C1; have HP3 := hide ((unhide HB2).p.kept k3 (fun e => eb e)); have K3 := hide ((unhide HB2).kept.trans k3 (fun i hi e => (by have e : i = b2 := e; omega))); have C2 := hide (left_d ((unhide HB2).r.kept k3 (fun e => eq e)) 0 (by omega) (n := z.t) (y := z) (by rw [unhide HZ]) (unhide HZ)); clear k3 h3)
        | (go_at_call 10; refine (unhide C2).mono ?_; rintro e w4 ⟨rfl, k4, h4⟩; clear C2; have HD4 := hide h4; have K4 := hide ((unhide K3).trans k4 (fun i hi e => (by have e : i = q := e; have := (unhide HB).nq; omega))); have C3 := hide (left_k ((unhide HP3).kept k4 (fun e => (unhide HB).ne e)) (-1) (by omega) (n := z.t) (y := z) (by rw [unhide Z2]) (unhide Z2)); clear k4 h4 K3)
        | (go_at_call 9; refine (unhide C3).mono ?_; rintro e w5 ⟨rfl, k5, h5⟩; clear C3; have K5 := hide ((unhide K4).trans k5 (fun i hi e => (by have e : i = b := e; have := (unhide HB).nb; omega))); have C4 := hide (left_d ((unhide HD4).kept k5 (fun e => (unhide HB).ne e.symm)) (-1) (by omega) (n := z.t) (y := z) (by rw [unhide Z1]) (unhide Z1)); clear k5 h5 K4)
        | (go_at_call 10; refine (unhide C4).mono ?_; rintro e w6 ⟨rfl, k6, h6⟩; clear C4; have K6 := hide ((unhide K5).trans k6 (fun i hi e => (by have e : i = q := e; have := (unhide HB).nq; omega))); clear k6 h6 K5)
        | (go_at_call 6; refine (filled_any _).mono ?_; rintro e w7 ⟨rfl, k7⟩))
      go_ret
      exact ⟨rfl, (unhide K6).andNo k7⟩
end Go.Proofs.Ythnppnihpelbaaa
