/-
  Links: acts as arguments; are they more than is gone through? Links that are none.
-/
import Derived.Test.YtngldlfobdiipaaLinksL
namespace Go.Proofs.Ytngldlfobdiipaa.Lk
open Go.ChangeShapes Go.WideShapes Go.ChangeAt Go.RowKit
set_option linter.unusedVariables false
attribute [local go_sem] bs_size bs_app bs_cut bs_tl bs_at
/-! ### acts -/
/-- a mail's numbers -/
structure ML.Ok (m : ML) : Prop where
  f0 : -9223372036854775808 ≤ m.fr ∧ m.fr ≤ 9223372036854775807
  t0 : -9223372036854775808 ≤ m.to ∧ m.to ≤ 9223372036854775807
  l0 : m.txt.length ≤ 9223372036854775807
theorem trod_mail {H : Type} {enc : TypeId × Value → H} {w : World} {base : Nat} {spare : Nat → Bool} {held : Bool} {fuel : Nat} {cs : List Value} {x : DataW H × List MemPlace}
    (h : DataW.trod enc Try.prog w base spare held fuel 33 cs = some x) : ∃ o : ML, cs = o.cells ∧ o.Ok := by
  have hu := Try.underlying33
  have hlen : cs.length = 3 := (struct_len hu h).trans (by kernel_rfl)
  obtain ⟨k, hk, wk⟩ := int_at hu h 0 0 3 rfl (k := .i64) Try.underlying3 (by kernel_rfl)
  obtain ⟨n, hn, wn⟩ := int_at hu h 1 1 3 rfl (k := .i64) Try.underlying3 (by kernel_rfl)
  obtain ⟨s, hs, ws⟩ := string_at hu h 2 2 9 rfl Try.underlying9 (by kernel_rfl)
  refine ⟨⟨k, n, s.data.toList⟩, ?_, bounds_i64 wk, bounds_i64 wn, ?_⟩
  · match cs, hlen with
    | [a, b, c], _ =>
      simp at hk hs hn
      rw [hk, hs, hn]
      show _ = [Value.int .i64 k, .int .i64 n, .string (bs s.data.toList)]
      rw [← bs_list]
  · unfold maxLen at ws
    show s.data.toList.length ≤ _
    rw [Array.length_toList]; exact ws
/-- an act: its kind, its mail, its number -/
structure AT where
  k : Int
  m : ML
  i : Int
def AT.cells (a : AT) : List Value := [.int .u8 a.k, .int .i64 a.m.fr, .int .i64 a.m.to, str a.m.txt, .int .i64 a.i]
structure AT.Ok (a : AT) : Prop where
  k0 : 0 ≤ a.k ∧ a.k ≤ 255
  m0 : a.m.Ok
  i0 : -9223372036854775808 ≤ a.i ∧ a.i ≤ 9223372036854775807
theorem trod_act {H : Type} {enc : TypeId × Value → H} {w : World} {base : Nat} {spare : Nat → Bool} {held : Bool} {fuel : Nat} {cs : List Value} {x : DataW H × List MemPlace}
    (h : DataW.trod enc Try.prog w base spare held fuel 35 cs = some x) : ∃ a : AT, cs = a.cells ∧ a.Ok := by
  have hu := Try.underlying35
  have hlen : cs.length = 5 := (struct_len hu h).trans (by kernel_rfl)
  obtain ⟨k, hk, wk⟩ := int_at hu h 0 0 5 rfl (k := .u8) Try.underlying5 (by kernel_rfl)
  obtain ⟨sub, m, y, hy, hj⟩ := field_sub hu h 1 1 33 3 rfl (by kernel_rfl)
  obtain ⟨o, rfl, ho⟩ := trod_mail hy
  obtain ⟨i, hi, wi⟩ := int_at hu h 2 4 3 rfl (k := .i64) Try.underlying3 (by kernel_rfl)
  have j0 := hj 0 (by omega)
  have j1 := hj 1 (by omega)
  have j2 := hj 2 (by omega)
  refine ⟨⟨k, o, i⟩, ?_, bounds_u8 wk, ho, bounds_i64 wi⟩
  match cs, hlen with
  | [a, b, c, d, e], _ =>
    simp [ML.cells] at hk hi j0 j1 j2
    rw [hk, hi, ← j0, ← j1, ← j2]
    rfl
abbrev ActsIn (w : World) (ad : Option Addr) (l : List AT) : Prop := RowsIn AT.cells AT.Ok 5 w ad l
theorem size_act : (Try.prog.info? 35).map (·.size) = some 5 := by kernel_rfl
def aZero : AT := ⟨0, mZero, 0⟩
theorem zero_act : (Try.prog.info? 35).bind (·.zero) = some (.agg aZero.cells.toArray) := by kernel_rfl
theorem AT.len (a : AT) : a.cells.length = 5 := rfl
theorem AT.one (a : AT) : ∀ u ∈ a.cells, u.oneCell' = true := by intro u hu; simp [AT.cells] at hu; rcases hu with rfl | rfl | rfl | rfl | rfl <;> rfl
/-- an act at b -/
def ActAt (w : World) (b : Nat) (a : AT) : Prop := w.heap[b]? = some (.cells a.cells.toArray 35 (0, 0))
section
variable {w w' : World} {b : Nat} {a : AT}
theorem ActAt.no (h : ActAt w b a) (k : Chg noBlk w w') : ActAt w' b a := k.at h id
theorem ActAt.c0 (h : ActAt w b a) : w.cell? ⟨b, 0, none⟩ = some (.int .u8 a.k) := cellAt h 0 _ rfl
theorem ActAt.c1 (h : ActAt w b a) : w.cell? ⟨b, 1, none⟩ = some (.int .i64 a.m.fr) := cellAt h 1 _ rfl
theorem ActAt.c2 (h : ActAt w b a) : w.cell? ⟨b, 2, none⟩ = some (.int .i64 a.m.to) := cellAt h 2 _ rfl
theorem ActAt.c3 (h : ActAt w b a) : w.cell? ⟨b, 3, none⟩ = some (str a.m.txt) := cellAt h 3 _ rfl
theorem ActAt.c4 (h : ActAt w b a) : w.cell? ⟨b, 4, none⟩ = some (.int .i64 a.i) := cellAt h 4 _ rfl
theorem ActAt.mail (h : ActAt w b a) : w.rangeAt b 1 a.m.cells := fun j v hv => by
  have hl : j < 3 := (List.getElem?_eq_some_iff.1 hv).1
  refine cellAt h _ _ ?_
  rw [← hv]
  rcases j with _ | _ | _ | j
  · rfl
  · rfl
  · rfl
  · omega
end
/-- is it more than is gone through? -/
def greatB (m : ML) : Bool := decide (600 < m.txt.length)
/-- are these? -/
def greatL (l : List AT) (n : Nat) : Bool := l.any (fun a => greatB a.m) || decide (n < l.length)
theorem greatL_hit {l : List AT} {k : Nat} {a : AT} (n : Nat) (h : l[k]? = some a) (hg : greatB a.m = true) : greatL l n = true := by
  unfold greatL
  rw [List.any_eq_true.2 ⟨a, List.mem_of_getElem? h, hg⟩]; rfl
theorem greatL_end {l : List AT} (n : Nat) (h : ∀ (i : Nat) (a : AT), i < l.length → l[i]? = some a → greatB a.m = false) : greatL l n = decide (n < l.length) := by
  unfold greatL
  have : l.any (fun a => greatB a.m) = false := List.any_eq_false.2 fun a ha => by
    obtain ⟨i, hi, e⟩ := List.getElem_of_mem ha
    simp [h i a hi (by rw [List.getElem?_eq_getElem hi, e])]
  rw [this]; rfl
theorem greatL_no {l : List AT} {n : Nat} (h : greatL l n = false) : l.length ≤ n ∧ ∀ (i : Nat) (a : AT), l[i]? = some a → greatB a.m = false := by
  unfold greatL at h
  rw [Bool.or_eq_false_iff] at h
  refine ⟨by simpa using h.2, fun i a ha => ?_⟩
  have := List.any_eq_false.1 h.1 a (List.mem_of_getElem? ha)
  simpa using this
set_option maxRecDepth 100000 in
theorem great_any (ad : Option Addr) (l : List AT) (cap n : Nat) (w : World) (hn : n ≤ 1000) (h : ActsIn w ad l) (hm : l.length ≤ 9223372036854775807) :
    Calls Try.prog 6 #[.slice ad l.length cap, .int .i64 (n : Int)] w (Told (.bool (greatL l n)) w) := by
  have HA := hide h
  have HM := hide hm
  clear h hm
  go_enter Try.func6, Try.ntmps6
  go_wp2
  go_loop [5] (fun i => ∃ k : Nat, k ≤ l.length ∧ i = .int .i64 (k : Int) ∧ (∀ j a, j < k → l[j]? = some a → greatB a.m = false)) (fun i => l.length - (intOf i).toNat)
  case atStart => exact ⟨0, by omega, rfl, fun j a hj => by omega⟩
  case round =>
    obtain ⟨k, hk, rfl, hg⟩ := hrel
    have HG := hide hg
    clear hg
    by_cases hlt : k < l.length
    · have d1 : decide (k < l.length) = true := by simpa using hlt
      obtain ⟨a, ha⟩ : ∃ a, l[k]? = some a := ⟨_, List.getElem?_eq_getElem hlt⟩
      obtain ⟨hok, bb, off, rfl, hrng⟩ := unhide HA k a ha
      have i1 : (0 : Int) ≤ (k : Int) := by omega
      have i2 : (k : Int) < (l.length : Int) := by omega
      have i3 : (k : Int) < 9223372036854775807 := by have := unhide HM; omega
      have x3 : w.cell? ⟨bb, off + k * 5 + 3, none⟩ = some (str a.m.txt) := hrng 3 _ rfl
      have HAA := hide ha
      clear ha hok hrng
      by_cases hg : 600 < a.m.txt.length
      · have HE := hide (greatL_hit n (unhide HAA) (by unfold greatB; simpa using hg))
        have d2 : (600 : Int) < (a.m.txt.length : Int) := by omega
        clear hg
        go_wp2
        go_ret
        exact ⟨by rw [unhide HE]; rfl, rfl⟩
      · have HE := hide (show greatB a.m = false by unfold greatB; simpa using hg)
        have d2 : ¬ (600 : Int) < (a.m.txt.length : Int) := by omega
        clear hg
        go_wp2
        go_round
        case rel =>
          refine ⟨k + 1, by omega, by go_num, fun j b hj hb => ?_⟩
          by_cases e : j = k
          · subst e
            have := unhide HAA
            rw [this] at hb
            obtain rfl : a = b := Option.some.inj hb
            exact unhide HE
          · exact unhide HG j b (by omega) hb
        case measure => simp [intOf]; omega
    · obtain rfl : k = l.length := by omega
      have HE := hide (greatL_end n (unhide HG))
      go_wp2
      go_ret
      refine ⟨?_, rfl⟩
      rw [unhide HE]
      simp
/-! ### links that are none -/
section
variable {w w' : World} {p : Value}
set_option maxRecDepth 100000 in
theorem find_none (h : NoneAt w p) (x y i : Int) : Calls Try.prog 23 #[p, .int .i64 x, .int .i64 y, .int .i64 i] w (ToldM mZero 1 w) := by
  have hin := hide (fun w' (c : Chg noBlk w w') => isnone_yes (h.no c))
  clear h
  have tk : True := True.intro
  go_enter Try.func23, Try.ntmps23
  go_wp2_with (first
    | (go_at_call 26; (with_reducible refine (unhide hin _ k1).mono ?_); rintro e w2 ⟨rfl, rfl⟩)
    | ((with_reducible show wpList _ _ _ (_ :: _) _ _); first
      | (clear tk; refine wpL_alloc rfl 33 rfl _ zero_mail ?_; intro q w1 e1 k1 g1 z1; have eq0 : w.heap.size ≤ q := Nat.le_of_eq e1; clear e1 z1)
      | (refine wpL_store rfl 33 (.tmp 8) (.tmp 13) rfl q mZero.cells.toArray rfl rfl _ _ g1 info_mail rfl (all_oneCell_toArray (ML.one _)) ?_; intro w3 k3 g3 z3)))
  refine bodyPost_ret (results_row_tmp rfl _ _ q _ _ _ _ rfl g3 Try.underlying33 rfl info_mail) rfl ?_
  exact ⟨rfl, k1.past k3 eq0⟩
set_option maxRecDepth 100000 in
theorem deliver_none (h : NoneAt w p) (x y i : Int) : Calls Try.prog 10 #[p, .int .i64 x, .int .i64 y, .int .i64 i] w (ToldM mZero 1 w) := by
  have HF := hide (fun w' (c : Chg noBlk w w') => find_none (h.no c) x y i)
  clear h
  have tk : True := True.intro
  go_enter Try.func10, Try.ntmps10
  go_wp2_with (first
    | (go_at_call 23; (with_reducible refine (unhide HF _ k1).mono ?_); rintro e w2 ⟨rfl, k2⟩; have g2 := k2.at g1 id)
    | ((with_reducible show wpList _ _ _ (_ :: _) _ _); first
      | (clear tk; refine wpL_alloc rfl 33 rfl _ zero_mail ?_; intro q w1 e1 k1 g1 z1; have eq0 : w.heap.size ≤ q := Nat.le_of_eq e1; clear e1 z1)
      | (refine wpL_store rfl 33 (.tmp 8) (.tmp 16) rfl q mZero.cells.toArray rfl rfl _ _ g2 info_mail rfl (all_oneCell_toArray (ML.one _)) ?_; intro w3 k3 g3 z3; have K3 := hide ((k1.andNo k2).past k3 eq0))
      | (refine wpL_load rfl 33 (.tmp 8) rfl q rfl mZero.cells.toArray _ _ g3 _ Try.underlying33 rfl info_mail ?_)
      | (refine wpL_store rfl 33 (.tmp 8) (.tmp 26) rfl q mZero.cells.toArray rfl rfl _ _ g3 info_mail rfl (all_oneCell_toArray (ML.one _)) ?_; intro w5 k5 g5 z5)))
  refine bodyPost_ret (results_row_tmp rfl _ _ q _ _ _ _ rfl g5 Try.underlying33 rfl info_mail) rfl ?_
  exact ⟨rfl, (unhide K3).past k5 eq0⟩
set_option maxRecDepth 100000 in
theorem drop_none (h : NoneAt w p) (x y i : Int) : Calls Try.prog 12 #[p, .int .i64 x, .int .i64 y, .int .i64 i] w (ToldN (.int .i64 1) w) := by
  have HD := hide (deliver_none h x y i)
  clear h
  go_enter Try.func12, Try.ntmps12
  go_wp2_with (first
    | (go_at_call 10; (with_reducible refine (unhide HD).mono ?_); rintro e w1 ⟨rfl, k1⟩)
    | ((with_reducible show wpList _ _ _ (_ :: _) _ _); first
      | (refine wpL_alloc rfl 33 rfl _ zero_mail ?_; intro q w2 e2 k2 g2 z2; have eq2 : w1.heap.size ≤ q := Nat.le_of_eq e2; clear e2 z2)
      | (refine wpL_store rfl 33 (.tmp 9) (.tmp 17) rfl q mZero.cells.toArray rfl rfl _ _ g2 info_mail rfl (all_oneCell_toArray (ML.one _)) ?_; intro w3 k3 g3 z3; have K3 := k2.past k3 eq2)))
  go_ret
  exact ⟨rfl, k1.andNo K3⟩
set_option maxRecDepth 100000 in
theorem double_none (h : NoneAt w p) (x y i : Int) : Calls Try.prog 13 #[p, .int .i64 x, .int .i64 y, .int .i64 i] w (ToldN (.int .i64 1) w) := by
  have HF := hide (find_none h x y i)
  clear h
  go_enter Try.func13, Try.ntmps13
  go_wp2_with (first
    | (go_at_call 23; (with_reducible refine (unhide HF).mono ?_); rintro e w1 ⟨rfl, k1⟩)
    | ((with_reducible show wpList _ _ _ (_ :: _) _ _); first
      | (refine wpL_alloc rfl 33 rfl _ zero_mail ?_; intro q w2 e2 k2 g2 z2; have eq2 : w1.heap.size ≤ q := Nat.le_of_eq e2; clear e2 z2)
      | (refine wpL_store rfl 33 (.tmp 9) (.tmp 17) rfl q mZero.cells.toArray rfl rfl _ _ g2 info_mail rfl (all_oneCell_toArray (ML.one _)) ?_; intro w3 k3 g3 z3; have K3 := k2.past k3 eq2)))
  go_ret
  exact ⟨rfl, k1.andNo K3⟩
set_option maxRecDepth 100000 in
theorem send_none (h : NoneAt w p) (x : ML) : Calls Try.prog 16 #[p, .agg x.cells.toArray] w (ToldN (.int .i64 1) w) := by
  have hin := hide (fun w' (c : Chg noBlk w w') => isnone_yes (h.no c))
  clear h
  have tk : True := True.intro
  go_enter Try.func16, Try.ntmps16
  go_wp2_with (first
    | (go_at_call 26; (with_reducible refine (unhide hin _ k1).mono ?_); rintro e w2 ⟨rfl, rfl⟩)
    | ((with_reducible show wpList _ _ _ (_ :: _) _ _); clear tk; refine wpL_box rfl 33 (.tmp 1) rfl x.cells.toArray rfl ?_; intro q w1 e1 k1 g1 z1; clear g1 z1 e1))
  go_ret
  exact ⟨rfl, k1⟩
theorem pairs_none (h : NoneAt w p) : Calls Try.prog 19 #[p] w (Told (.slice none 0 0) w) := by
  have hin := hide (isnone_yes h)
  clear h
  go_enter Try.func19, Try.ntmps19
  go_wp2_with (go_at_call 26; (with_reducible refine (unhide hin).mono ?_); rintro e w2 ⟨rfl, rfl⟩)
  go_ret
  exact ⟨rfl, rfl⟩
theorem count_none (h : NoneAt w p) (x y : Int) : Calls Try.prog 20 #[p, .int .i64 x, .int .i64 y] w (Told (.int .i64 0) w) := by
  have hin := hide (isnone_yes h)
  clear h
  go_enter Try.func20, Try.ntmps20
  go_wp2_with (go_at_call 26; (with_reducible refine (unhide hin).mono ?_); rintro e w2 ⟨rfl, rfl⟩)
  go_ret
  exact ⟨rfl, rfl⟩
theorem list_none (h : NoneAt w p) (x y : Int) : Calls Try.prog 21 #[p, .int .i64 x, .int .i64 y] w (Told (.slice none 0 0) w) := by
  have hin := hide (isnone_yes h)
  clear h
  go_enter Try.func21, Try.ntmps21
  go_wp2_with (go_at_call 26; (with_reducible refine (unhide hin).mono ?_); rintro e w2 ⟨rfl, rfl⟩)
  go_ret
  exact ⟨rfl, rfl⟩
theorem all_none (h : NoneAt w p) : Calls Try.prog 22 #[p] w (Told (.int .i64 0) w) := by
  have hin := hide (isnone_yes h)
  clear h
  go_enter Try.func22, Try.ntmps22
  go_wp2_with (go_at_call 26; (with_reducible refine (unhide hin).mono ?_); rintro e w2 ⟨rfl, rfl⟩)
  go_ret
  exact ⟨rfl, rfl⟩
theorem copy_none (h : NoneAt w p) : Calls Try.prog 15 #[p] w (Told (.pointer none) w) := by
  have hin := hide (isnone_yes h)
  clear h
  go_enter Try.func15, Try.ntmps15
  go_wp2_with (go_at_call 26; (with_reducible refine (unhide hin).mono ?_); rintro e w2 ⟨rfl, rfl⟩)
  go_ret
  exact ⟨rfl, rfl⟩
end
end Go.Proofs.Ytngldlfobdiipaa.Lk
