/-
  Chains: the walk of the law that what is put is got.
-/
import Derived.Test.YtiapkmncgafofaaChainsX
import Derived.Test.YtiapkmncgafofaaChainsQ
import Derived.Test.YtiapkmncgafofaaChainsV
import Derived.Test.YtiapkmncgafofaaChainsZ
import Derived.Deep.QuietTactic
import Derived.BigQuiet
namespace Go.Proofs.Ytiapkmncgafofaa
open Go.ChangeShapes Go.WideShapes Go.ChangeAt Go.RowKit
set_option linter.unusedVariables false
attribute [local go_sem] bs_size bs_app bs_cut bs_tl bs_at
/-- told: bytes' chain, open -/
theorem got_open {l : List UInt8} {w w' : World} {x : Ending} (h : Got l w x w') : ∃ c n ad cap, GotOf l c n ∧ x = .returned (.tuple #[.agg #[.int .i64 c.ep, .slice ad c.ms.length cap, .int .i64 c.dr], .int .i64 n]) ∧ Chg noBlk w w' ∧ Sl w' ad cap c.ms := by
  obtain ⟨c, n, hg, hx⟩ := h
  have hf : c.ms.length ≤ 100 := by
    rcases hg with ⟨h1, _⟩ | ⟨_, h2, _⟩
    · have := (good_fits h1.1).len
      omega
    · rw [h2]
      decide
  obtain ⟨ad, cap, e, k, s⟩ := newCE_open hx hf
  exact ⟨c, n, ad, cap, hg, e, k, s⟩
theorem get_back {c : CT} (g : good c = true) (w : World) : Calls Try.prog 23 #[str (putL c)] w (fun x w' => ∃ ad cap, x = .returned (.tuple #[.agg #[.int .i64 c.ep, .slice ad c.ms.length cap, .int .i64 c.dr], .int .i64 0]) ∧ Chg noBlk w w' ∧ Sl w' ad cap c.ms) := by
  have hl := putL_len c (good_fits g).len
  refine (get_any w (putL c) (by omega)).mono fun x w' hx => ?_
  obtain ⟨d, n, ad, cap, hg, e, k, s⟩ := got_open hx
  obtain ⟨rfl, rfl⟩ := got_one hg (.inl ⟨⟨g, rfl⟩, rfl⟩)
  exact ⟨ad, cap, e, k, s⟩
theorem get_none {l : List UInt8} (hl : l.length ≤ 1000) (h : ∀ d, ¬ IsOf l d) (w : World) : Calls Try.prog 23 #[str l] w (fun x w' => ∃ ad cap, x = .returned (.tuple #[.agg #[.int .i64 0, .slice ad 0 cap, .int .i64 0], .int .i64 10]) ∧ Chg noBlk w w') := by
  refine (get_any w l hl).mono fun x w' hx => ?_
  obtain ⟨d, n, ad, cap, hg, e, k, s⟩ := got_open hx
  obtain ⟨rfl, rfl⟩ := got_one hg (.inr ⟨h, rfl, rfl⟩)
  exact ⟨ad, cap, e, k⟩
section
variable {w : World} {ad : Option Addr} {cap : Nat} {c : CT}
set_option maxRecDepth 100000 in
theorem back_great (n : Int) (h : greatB c = true) : Calls Try.prog 6 #[chV c (.slice ad c.ms.length cap), .int .u8 n] w (ToldN (.bool true) w) := by
  have G := fun w => great_any c ad cap w
  rw [h] at G
  have HG := hide G
  clear G h
  go_enter Try.func6, Try.ntmps6
  go_wp2_with (first
    | (go_at_call 8; (with_reducible refine (unhide HG _).mono ?_); rintro e w2 ⟨rfl, k2⟩)
    | (go_at_call 9; (with_reducible refine (linked_any _).mono ?_); rintro e w3 ⟨rfl, k3⟩)
    | ((with_reducible show wpList _ _ _ (⟨_, _, _, _, _, none⟩ :: _) _ _); first
      | (refine wpL_box rfl 24 (.tmp 0) rfl (chC c (.slice ad c.ms.length cap)) (by rfl) ?_; intro p w1 e1 k1 g1 z1; have G1 : ChAt w1 p c (.slice ad c.ms.length cap) := g1; clear e1 z1 g1)
      | (refine wpL_load rfl 24 (.tmp 2) rfl p rfl (chC c (.slice ad c.ms.length cap)) _ _ G1 _ Try.underlying24 rfl info_ch ?_)))
  go_ret
  exact ⟨rfl, (k1.andNo k2).andNo k3⟩
set_option maxRecDepth 100000 in
theorem back_bad (hs : Sl w ad cap c.ms) (n : Int) (h : greatB c = false) (g : good c = false) : Calls Try.prog 6 #[chV c (.slice ad c.ms.length cap), .int .u8 n] w (ToldN (.bool true) w) := by
  have G := fun w => great_any c ad cap w
  rw [h] at G
  have HG := hide G
  have HC := hide (fun w' (k : Chg noBlk w w') => check_no (hs.no k) g)
  have HP := hide (fun w' (k : Chg noBlk w w') => (by have := put_any (hs.no k); rw [putB_no g, chk_no g] at this; exact this : Calls Try.prog 11 #[chV c (.slice ad c.ms.length cap)] w' (ToldN (.tuple #[str [], .int .i64 2]) w')))
  clear G h hs g
  go_enter Try.func6, Try.ntmps6
  go_wp2_with (first
    | (go_at_call 8; (with_reducible refine (unhide HG _).mono ?_); rintro e w2 ⟨rfl, k2⟩; have G2 := G1.no k2)
    | (go_at_call 11; (with_reducible refine (unhide HP _ (k1.andNo k2)).mono ?_); rintro e w5 ⟨rfl, k5⟩; have x0 := (G2.no k5).c0; have x1 := (G2.no k5).c1; have x2 := (G2.no k5).c2)
    | (go_at_call 13; (with_reducible refine (unhide HC _ ((k1.andNo k2).andNo k5)).mono ?_); rintro e w4 ⟨rfl, k4⟩)
    | (go_at_call 9; (with_reducible refine (linked_any _).mono ?_); rintro e w3 ⟨rfl, k3⟩)
    | ((with_reducible show wpList _ _ _ (⟨_, _, _, _, _, none⟩ :: _) _ _); first
      | (refine wpL_box rfl 24 (.tmp 0) rfl (chC c (.slice ad c.ms.length cap)) (by rfl) ?_; intro p w1 e1 k1 g1 z1; have G1 : ChAt w1 p c (.slice ad c.ms.length cap) := g1; clear e1 z1 g1)
      | (refine wpL_load rfl 24 (.tmp 2) rfl p rfl (chC c (.slice ad c.ms.length cap)) _ _ (by first | exact G2 | exact G1) _ Try.underlying24 rfl info_ch ?_)))
  go_ret
  exact ⟨rfl, (((k1.andNo k2).andNo k5).andNo k4).andNo k3⟩
set_option maxRecDepth 100000 in
set_option maxHeartbeats 2000000 in
theorem back_good (hs : Sl w ad cap c.ms) (n : Nat) (hn : n ≤ 255) (h : greatB c = false) (g : good c = true) : Calls Try.prog 6 #[chV c (.slice ad c.ms.length cap), .int .u8 (n : Int)] w (ToldN (.bool true) w) := by
  have G := fun w => great_any c ad cap w
  rw [h] at G
  have HG := hide G
  have HP := hide (fun w' (k : Chg noBlk w w') => (by have := put_any (hs.no k); rw [putB_yes g, chk_yes g] at this; exact this : Calls Try.prog 11 #[chV c (.slice ad c.ms.length cap)] w' (ToldN (.tuple #[str (putL c), .int .i64 0]) w')))
  have hp := putL_pos c g
  have hl := putL_len c (good_fits g).len
  have hk : n % (putL c).length < (putL c).length := Nat.mod_lt _ hp
  have H1 := hide (fun w' => get_back g w')
  have H2 := hide (fun w' => get_none (l := (putL c).take (n % (putL c).length)) (by rw [List.length_take]; omega) (fun d => isOf_cut g hk) w')
  have H3 := hide (fun w' => (by have := get_none (l := putL c ++ [0]) (by simp; omega) (fun d => isOf_more g) w'; rw [show str (putL c ++ [0]) = Value.string (bs (putL c) ++ ⟨#[0]⟩) by rw [show (⟨#[0]⟩ : ByteArray) = bs [0] from rfl, bs_app]] at this; exact this : Calls Try.prog 23 #[.string (bs (putL c) ++ ⟨#[0]⟩)] w' (fun x w'' => ∃ ad cap, x = .returned (.tuple #[.agg #[.int .i64 0, .slice ad 0 cap, .int .i64 0], .int .i64 10]) ∧ Chg noBlk w' w'')))
  have HS := hide (fun w' (a : Option Addr) (cp : Nat) (k : Chg noBlk w w') (s : Sl w' a cp c.ms) => (by have := same_any (c := c) (d := c) s (hs.no k); rw [show sameB c c = true from decide_eq_true rfl] at this; exact this : Calls Try.prog 15 #[.agg #[.int .i64 c.ep, .slice a c.ms.length cp, .int .i64 c.dr], chV c (.slice ad c.ms.length cap)] w' (ToldN (.bool true) w')))
  generalize putL c = B at *
  obtain ⟨z, hz⟩ : ∃ z, n % B.length = z := ⟨_, rfl⟩
  have hm : ((n : Int) % (B.length : Int)) = (z : Int) := by omega
  rw [hz] at H2 hk
  have hm0 : (0 : Int) ≤ (z : Int) := by omega
  have hm1 : (z : Int) ≤ (B.length : Int) := by omega
  clear hz
  have hc : IntKind.i64.wrap (n : Int) = (n : Int) := IntWalk.i64_in _ (by omega)
  have hb0 : ((B.length : Int) == 0) = false := beq_eq_false_iff_ne.2 (by omega)
  have s1 : ¬ 9223372036854775807 < B.length + 1 := by omega
  clear G h hs g
  go_enter Try.func6, Try.ntmps6
  go_wp2_with (first
    | (go_at_call 8; (with_reducible refine (unhide HG _).mono ?_); rintro e w2 ⟨rfl, k2⟩; have G2 := G1.no k2)
    | (go_at_call 11; (with_reducible refine (unhide HP _ (k1.andNo k2)).mono ?_); rintro e w5 ⟨rfl, k5⟩; have KA := ((k1.andNo k2).andNo k5); have G5 := G2.no k5)
    | (go_at_call 15; (with_reducible refine (unhide HS _ _ _ ((KA.andNo J8).andNo (J11.andNo J14)) (unhide S8 _ (J11.andNo J14)).2).mono ?_); rintro e w15 ⟨rfl, k15⟩; clear x0 x1 x2 y0 y1 y2; obtain ⟨u0, u1, u2⟩ := unhide S11 _ (J14.andNo k15); obtain ⟨v0, v1, v2⟩ := unhide S14 _ k15)
    | (go_at_call 9; (with_reducible refine (linked_any _).mono ?_); rintro e w16 ⟨rfl, k16⟩)
    | (go_at_call 23; (with_reducible refine (unhide H1 _).mono ?_); rintro e w6 ⟨a6, c6, rfl, k6, s6⟩)
    | (go_at_call 23; (with_reducible refine (unhide H2 _).mono ?_); rintro e w9 ⟨a9, c9, rfl, k9⟩)
    | (go_at_call 23; (with_reducible refine (unhide H3 _).mono ?_); rintro e w12 ⟨a12, c12, rfl, k12⟩)
    | ((with_reducible show wpList _ _ _ (⟨_, _, _, _, _, none⟩ :: _) _ _); first
      | (refine wpL_box rfl 24 (.tmp 0) rfl (chC c (.slice ad c.ms.length cap)) (by rfl) ?_; intro p w1 e1 k1 g1 z1; have G1 : ChAt w1 p c (.slice ad c.ms.length cap) := g1; clear e1 z1 g1)
      | (refine wpL_load rfl 24 (.tmp 2) rfl p rfl (chC c (.slice ad c.ms.length cap)) _ _ (by first | exact G2 | exact G1) _ Try.underlying24 rfl info_ch ?_)
      | (have tk := k12; refine wpL_alloc rfl 24 rfl _ zero_ch ?_; intro p13 w13 e13 k13 g13 z13)
      | (have tk := k9; refine wpL_alloc rfl 24 rfl _ zero_ch ?_; intro p10 w10 e10 k10 g10 z10)
      | (refine wpL_alloc rfl 24 rfl _ zero_ch ?_; intro p7 w7 e7 k7 g7 z7)
      | (refine wpL_store rfl 24 (.tmp 7) (.tmp 43) rfl p7 #[.int .i64 c.ep, .slice a6 c.ms.length c6, .int .i64 c.dr] rfl (by rfl) _ _ g7 info_ch rfl (three_one _ _ _ rfl) ?_; intro w8 k8 g8 z8; have j8 : Chg noBlk w6 w8 := k7.past k8 (Nat.le_of_eq e7); have J8 := k6.andNo j8; have S8 := hide (fun w' (k : Chg noBlk w8 w') => And.intro (three_at (k.at g8 id)) ((s6.no j8).no k)); clear e7 g7 z7 z8 k7 k8 s6)
      | (refine wpL_store rfl 24 (.tmp 9) (.tmp 54) rfl p10 #[.int .i64 0, .slice a9 0 c9, .int .i64 0] rfl (by rfl) _ _ g10 info_ch rfl (three_one _ _ _ rfl) ?_; intro w11 k11 g11 z11; have j11 : Chg noBlk w9 w11 := k10.past k11 (Nat.le_of_eq e10); have J11 := k9.andNo j11; have S11 := hide (fun w' (k : Chg noBlk w11 w') => three_at (k.at g11 id)); clear e10 g10 z10 z11 k10 k11)
      | (refine wpL_store rfl 24 (.tmp 11) (.tmp 60) rfl p13 #[.int .i64 0, .slice a12 0 c12, .int .i64 0] rfl (by rfl) _ _ g13 info_ch rfl (three_one _ _ _ rfl) ?_; intro w14 k14 g14 z14; have j14 : Chg noBlk w12 w14 := k13.past k14 (Nat.le_of_eq e13); have J14 := k12.andNo j14; have S14 := hide (fun w' (k : Chg noBlk w14 w') => three_at (k.at g14 id)); clear e13 g13 z13 z14 k13 k14; obtain ⟨x0, x1, x2⟩ := (unhide S8 _ (J11.andNo J14)).1; have GG := G5.no (J8.andNo (J11.andNo J14)); have y0 := GG.c0; have y1 := GG.c1; have y2 := GG.c2)))
  go_ret
  exact ⟨rfl, ((KA.andNo J8).andNo (J11.andNo J14)).andNo (k15.andNo k16)⟩
end
theorem backlaw_any {w : World} {ad : Option Addr} {cap : Nat} {c : CT} (hs : Sl0 w ad cap c.ms) (n : Nat) (hn : n ≤ 255) : Calls Try.prog 6 #[chV c (.slice ad c.ms.length cap), .int .u8 (n : Int)] w (ToldN (.bool true) w) := by
  cases h : greatB c
  · have hl := greatB_no h
    cases g : good c
    · exact back_bad (hs.sl (by omega)) n h g
    · exact back_good (hs.sl (by omega)) n hn h g
  · exact back_great n h
#print axioms backlaw_any
end Go.Proofs.Ytiapkmncgafofaa
