/-
  Rings: acts as an argument; are they more than is gone through?
-/
import Derived.Test.YtbhjeakaedbanaaRingsI
import Derived.Deep.DeepCutAuto
import Derived.OpenShut
namespace Go.Proofs.Ytbhjeakaedbanaa
open Go.ChangeShapes Go.WideShapes Go.ChangeAt Go.RowKit
set_option linter.unusedVariables false
attribute [local go_sem ↓] ldFr_pre stFr_pre
/-- an act: its kind, its frame (its cells; members), its number -/
structure AT where
  k : Int
  c : List Value
  i : Int
  n : Nat
  xs : List Value
def AT.cells (a : AT) : List Value := .int .u8 a.k :: (a.c ++ [.int .i64 a.i])
def AT.f (a : AT) : Fr := frOf a.c a.n a.xs
structure AT.Ok (a : AT) (w : World) : Prop where
  ty : Typed a.c
  fr : FrR w a.c a.f
  mem : ∃ ad cap, a.c[24]? = some (.slice ad a.n cap)
  xs : ∀ u ∈ a.xs, ∃ k, u = .int .i64 k
  k0 : 0 ≤ a.k ∧ a.k ≤ 255
  i0 : -9223372036854775808 ≤ a.i ∧ a.i ≤ 9223372036854775807
theorem AT.len {a : AT} (h : Typed a.c) : a.cells.length = 31 := by simp [AT.cells, h.len]
section
variable {H : Type} {enc : TypeId × Value → H} {w : World} {base : Nat} {spare : Nat → Bool} {held : Bool} {fuel : Nat} {cs : List Value} {x : DataW H × List MemPlace}
theorem trod_act (h : DataW.trod enc Try.prog w base spare held fuel 44 cs = some x) : ∃ a : AT, cs = a.cells ∧ a.Ok w := by
  have hu := Try.underlying44
  have hlen : cs.length = 31 := (struct_len hu h).trans (by kernel_rfl)
  obtain ⟨k, hk, wk⟩ := int_at hu h 0 0 5 rfl (k := .u8) Try.underlying5 (by kernel_rfl)
  obtain ⟨i, hi, wi⟩ := int_at hu h 2 30 3 rfl (k := .i64) Try.underlying3 cint
  obtain ⟨sub, n, y, hy, hj⟩ := field_sub hu h 1 1 42 29 rfl (by kernel_rfl)
  obtain ⟨ht, m, xs, hf, hm, hx⟩ := trod_fr hy
  refine ⟨⟨k, sub, i, m, xs⟩, ?_, ⟨ht, hf, hm, hx, bounds_u8 wk, bounds_i64 wi⟩⟩
  apply List.ext_getElem?
  intro j
  have hl := ht.len
  rcases (show j = 0 ∨ (1 ≤ j ∧ j < 30) ∨ j = 30 ∨ 31 ≤ j by omega) with rfl | ⟨h1, h2⟩ | rfl | h1
  · rw [hk]; rfl
  · obtain ⟨j, rfl⟩ : ∃ q, j = q + 1 := ⟨j - 1, by omega⟩
    have := hj j (by omega)
    simp only [AT.cells, List.getElem?_cons_succ]
    rw [List.getElem?_append_left (by omega), this, Nat.add_comm]
  · rw [hi]; simp only [AT.cells, List.getElem?_cons_succ]
    rw [List.getElem?_append_right (by omega), hl]; rfl
  · rw [List.getElem?_eq_none (by omega), List.getElem?_eq_none (by simp [AT.cells, hl]; omega)]
end
/-- bytes of the text at that place -/
def szAt (c : List Value) (i : Nat) : Nat := match (c[i]? : Option Value) with | some (.string s) => s.size | _ => 0
/-- members -/
def nmAt (c : List Value) : Nat := match (c[24]? : Option Value) with | some (.slice _ n _) => n | _ => 0
def big (c : List Value) : Bool := decide (200 < szAt c 8) || decide (200 < szAt c 9) || decide (200 < szAt c 20) || decide (200 < szAt c 21) || decide (200 < szAt c 12) || decide (10 < nmAt c)
def greatB (l : List AT) (most : Nat) : Bool := l.any (fun a => big a.c) || decide (most < l.length)
theorem great_big {l : List AT} {k : Nat} {a : AT} {most : Nat} (h : l[k]? = some a) (hb : big a.c = true) : greatB l most = true := by
  unfold greatB
  rw [List.any_eq_true.2 ⟨a, List.mem_of_getElem? h, hb⟩]; rfl
theorem great_few {l : List AT} {most : Nat} (h : ∀ (j : Nat) a, l[j]? = some a → big a.c = false) : greatB l most = decide (most < l.length) := by
  unfold greatB
  have : l.any (fun a => big a.c) = false := by
    rw [List.any_eq_false]
    intro a ha
    obtain ⟨j, hj⟩ := List.mem_iff_getElem?.1 ha
    rw [h j a hj]; simp
  rw [this]; rfl
/-- the acts lie in the slice's cells -/
def ActsIn (w : World) (ad : Option Addr) (l : List AT) : Prop := ∀ (i : Nat) a, l[i]? = some a → Typed a.c ∧ ∃ b off, ad = some ⟨b, off, none⟩ ∧ w.rangeAt b (off + i * 31) a.cells
theorem range_kept {w w' : World} {b o : Nat} {cs : List Value} (h : w.rangeAt b o cs) (k : Chg noBlk w w') : w'.rangeAt b o cs := fun j v hv => k.cell (h j v hv) id
theorem range_fr {w : World} {b o : Nat} {a : AT} (h : w.rangeAt b o a.cells) (ht : Typed a.c) : w.rangeAt b (o + 1) a.c := fun j v hv => by
  have hj := (List.getElem?_eq_some_iff.1 hv).1
  have := h (j + 1) v (by simp only [AT.cells, List.getElem?_cons_succ]; rw [List.getElem?_append_left hj]; exact hv)
  rwa [show o + (j + 1) = o + 1 + j by omega] at this
set_option maxRecDepth 100000 in
set_option maxHeartbeats 2000000 in
theorem great_any (ad : Option Addr) (l : List AT) (cap most : Nat) (w : World) (hl : l.length ≤ 9223372036854775807) (hm : most ≤ 1000) (h : ActsIn w ad l) :
    Calls Try.prog 6 #[.slice ad l.length cap, .int .i64 (most : Int)] w (ToldB (greatB l most) w) := by
  have HA := hide h
  clear h
  go_enter Try.func6, Try.ntmps6
  go_wp2
  go_loopw [5] (fun i wr => ∃ k : Nat, k ≤ l.length ∧ i = .int .i64 (k : Int) ∧ (∀ (j : Nat) a, j < k → l[j]? = some a → big a.c = false) ∧ Chg noBlk w wr) (fun i wr => l.length - (intOf i).toNat)
  case atStart => exact ⟨0, by omega, rfl, fun j a hj => by omega, Chg.refl _ _⟩
  case round =>
    obtain ⟨k, hk, rfl, hsm, kw⟩ := hrel
    have HS := hide hsm
    have KW := hide kw
    clear hsm kw
    by_cases hlt : k < l.length
    · obtain ⟨a, ha⟩ : ∃ a, l[k]? = some a := ⟨_, List.getElem?_eq_getElem hlt⟩
      obtain ⟨ht, bb, off, rfl, hr⟩ := unhide HA k a ha
      have hr' := range_fr (range_kept hr (unhide KW)) ht
      have la := run_ldFr hr' ht.len
      have h29 := is29 ht.len ht.one
      obtain ⟨s8, e8, m8⟩ := ht.strs 8 (by simp)
      obtain ⟨s9, e9, m9⟩ := ht.strs 9 (by simp)
      obtain ⟨s12, e12, m12⟩ := ht.strs 12 (by simp)
      obtain ⟨s20, e20, m20⟩ := ht.strs 20 (by simp)
      obtain ⟨s21, e21, m21⟩ := ht.strs 21 (by simp)
      obtain ⟨am, nm, cm, e24⟩ := ht.mem
      unfold maxLen at m8 m9 m12 m20 m21
      have hbig : big a.c = (decide (200 < s8.size) || decide (200 < s9.size) || decide (200 < s20.size) || decide (200 < s21.size) || decide (200 < s12.size) || decide (10 < nm)) := by
        simp [big, szAt, nmAt, e8, e9, e12, e20, e21, e24]
      have HBG := hide hbig
      have HA' := hide ha
      have E8 := hide e8
      have E9 := hide e9
      have E12 := hide e12
      have E20 := hide e20
      have E21 := hide e21
      have E24 := hide e24
      have H29 := hide h29
      clear hbig ha hr hr' e8 e9 e12 e20 e21 e24 ht h29
      go_upto_region 5 with (first
        | (refine wpL_alloc rfl 42 rfl _ zero_fr ?_; intro x w3 e3 k3 gx z3)
        | (refine wpL_store rfl 42 (.tmp 6) (.tmp 17) rfl x a.c.toArray rfl rfl _ _ gx (by rw [size_fr, (unhide H29).1]) (by rw [(unhide H29).1]; rfl) (unhide H29).2 ?_; intro w4 k4 gx z4))
      have K4 : Chg noBlk w w4 := ((unhide KW).andNo k3).trans k4 fun i hi e => by have e : i = x := e; have := (unhide KW).size; omega
      have KK := hide K4
      have q8 := cellAt gx 8 _ (show a.c.toArray[8]? = _ by simpa using unhide E8)
      have q9 := cellAt gx 9 _ (show a.c.toArray[9]? = _ by simpa using unhide E9)
      have q12 := cellAt gx 12 _ (show a.c.toArray[12]? = _ by simpa using unhide E12)
      have q20 := cellAt gx 20 _ (show a.c.toArray[20]? = _ by simpa using unhide E20)
      have q21 := cellAt gx 21 _ (show a.c.toArray[21]? = _ by simpa using unhide E21)
      have q24 := cellAt gx 24 _ (show a.c.toArray[24]? = _ by simpa using unhide E24)
      clear K4 k3 k4 gx z3 z4 e3 la
      by_cases t8 : 200 < s8.size
      · have d8 : decide ((200 : Int) < (s8.size : Int)) = true := by simp; omega
        have B8 := hide (great_big (most := most) (unhide HA') (by rw [unhide HBG]; simp [t8]))
        clear t8
        go_wp2
        go_ret
        exact ⟨by rw [unhide B8]; rfl, unhide KK⟩
      have d8 : decide ((200 : Int) < (s8.size : Int)) = false := by simp; omega
      have T8 := hide t8
      clear t8
      by_cases t9 : 200 < s9.size
      · have d9 : decide ((200 : Int) < (s9.size : Int)) = true := by simp; omega
        have B9 := hide (great_big (most := most) (unhide HA') (by rw [unhide HBG]; simp [t9]))
        clear t9
        go_wp2
        go_ret
        exact ⟨by rw [unhide B9]; rfl, unhide KK⟩
      have d9 : decide ((200 : Int) < (s9.size : Int)) = false := by simp; omega
      have T9 := hide t9
      clear t9
      by_cases t20 : 200 < s20.size
      · have d20 : decide ((200 : Int) < (s20.size : Int)) = true := by simp; omega
        have B20 := hide (great_big (most := most) (unhide HA') (by rw [unhide HBG]; simp [t20]))
        clear t20
        go_wp2
        go_ret
        exact ⟨by rw [unhide B20]; rfl, unhide KK⟩
      have d20 : decide ((200 : Int) < (s20.size : Int)) = false := by simp; omega
      have T20 := hide t20
      clear t20
      by_cases t21 : 200 < s21.size
      · have d21 : decide ((200 : Int) < (s21.size : Int)) = true := by simp; omega
        have B21 := hide (great_big (most := most) (unhide HA') (by rw [unhide HBG]; simp [t21]))
        clear t21
        go_wp2
        go_ret
        exact ⟨by rw [unhide B21]; rfl, unhide KK⟩
      have d21 : decide ((200 : Int) < (s21.size : Int)) = false := by simp; omega
      have T21 := hide t21
      clear t21
      by_cases t12 : 200 < s12.size
      · have d12 : decide ((200 : Int) < (s12.size : Int)) = true := by simp; omega
        have B12 := hide (great_big (most := most) (unhide HA') (by rw [unhide HBG]; simp [t12]))
        clear t12
        go_wp2
        go_ret
        exact ⟨by rw [unhide B12]; rfl, unhide KK⟩
      have d12 : decide ((200 : Int) < (s12.size : Int)) = false := by simp; omega
      have T12 := hide t12
      clear t12
      by_cases t24 : 10 < nm
      · have d24 : decide ((10 : Int) < (nm : Int)) = true := by simp; omega
        have B24 := hide (great_big (most := most) (unhide HA') (by rw [unhide HBG]; simp [t24]))
        clear t24
        go_wp2
        go_ret
        exact ⟨by rw [unhide B24]; rfl, unhide KK⟩
      have d24 : decide ((10 : Int) < (nm : Int)) = false := by simp; omega
      have T24 := hide t24
      clear t24
      have B := hide (show big a.c = false by rw [unhide HBG]; simp [unhide T8, unhide T9, unhide T20, unhide T21, unhide T12, unhide T24])
      go_wp2
      go_roundw
      case rel =>
        refine ⟨k + 1, by omega, by go_num, fun j b hj hb => ?_, unhide KK⟩
        by_cases hjk : j < k
        · exact unhide HS j b hjk hb
        · obtain rfl : j = k := by omega
          have := unhide HA'; rw [hb] at this; cases this; exact unhide B
      case measure => simp [intOf]; omega
    · have hkl : k = l.length := by omega
      have ret := great_few (most := most) (fun j a hj => unhide HS j a (by have := (List.getElem?_eq_some_iff.1 hj).1; omega) hj)
      have RT := hide ret
      clear hkl ret
      by_cases tm : most < l.length
      · have dm : decide (most < l.length) = true := by simpa using tm
        go_wp2
        go_ret
        exact ⟨by rw [unhide RT, dm]; rfl, unhide KW⟩
      · have dm : decide (most < l.length) = false := by simpa using tm
        go_wp2
        go_ret
        exact ⟨by rw [unhide RT, dm]; rfl, unhide KW⟩
end Go.Proofs.Ytbhjeakaedbanaa
