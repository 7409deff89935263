/-
  Frames: the walk of the law that what is put is got.
-/
import Derived.Test.YtfplgmkbhpdmjaaFramesO
namespace Go.Proofs.Ytfplgmkbhpdmjaa.Fm
open Go.ChangeShapes Go.WideShapes Go.ChangeAt Go.RowKit
set_option linter.unusedVariables false
attribute [local go_sem] bs_size bs_app bs_cut bs_tl bs_at
section
variable {w : World} {ad : Option Addr} {cap : Nat} {f : FT}
set_option maxRecDepth 100000 in
theorem back_great (n : Int) (h : greatB f = true) : Calls Try.prog 4 #[frV f (.slice ad f.ch.ms.length cap), .int .u16 n] w (ToldN (.bool true) w) := by
  have G := fun w => great_any f ad cap w
  rw [h] at G
  have HG := hide G
  clear G h
  go_enter Try.func4, Try.ntmps4
  go_wp2_with (first
    | (go_at_call 10; (with_reducible refine (unhide HG _).mono ?_); rintro e w2 ⟨rfl, k2⟩)
    | (go_at_call 6; (with_reducible refine (sent_any _).mono ?_); rintro e w3 ⟨rfl, k3⟩)
    | ((with_reducible show wpList _ _ _ (⟨_, _, _, _, _, none⟩ :: _) _ _); first
      | (refine wpL_box rfl 33 (.tmp 0) rfl (f.cells (.slice ad f.ch.ms.length cap)).toArray rfl ?_; intro p w1 e1 k1 g1 z1; have G1 : FrAt w1 p f (.slice ad f.ch.ms.length cap) := g1; clear e1 z1 g1)
      | (refine wpL_load rfl 33 (.tmp 2) rfl p rfl (f.cells (.slice ad f.ch.ms.length cap)).toArray _ _ (G1) _ Try.underlying33 rfl info_fr ?_)))
  go_ret
  exact ⟨rfl, (k1.andNo k2).andNo k3⟩
/-- what the law's first half is told -/
theorem plain_mono (hs : Ch.Sl w ad cap f.ch.ms) (hsm : Small f) {g : FT} (hg : plainF f = g) : ∀ w', Chg noBlk w w' → Calls Try.prog 11 #[frV f (.slice ad f.ch.ms.length cap)] w' (fun e w'' => ∃ ad cap, e = .returned (frV g (.slice ad g.ch.ms.length cap)) ∧ Chg noBlk w' w'' ∧ Ch.Sl w'' ad cap g.ch.ms) := by
  subst hg
  exact fun w' k => plain_any f hsm (hs.no k)
theorem put_mono (hs : Ch.Sl w ad cap f.ch.ms) {B : List UInt8} {n : Int} (h1 : putF f = B) (h2 : errF f = n) : ∀ w', Chg noBlk w w' → Calls Try.prog 12 #[frV f (.slice ad f.ch.ms.length cap)] w' (ToldN (.tuple #[str B, .int .i64 n]) w') := by
  subst h1 h2
  exact fun w' k => put_any f (hs.no k)
theorem put_at {g : FT} {B : List UInt8} {n : Int} (h1 : putF g = B) (h2 : errF g = n) : ∀ (w : World) ad cap, Ch.Sl w ad cap g.ch.ms → Calls Try.prog 12 #[frV g (.slice ad g.ch.ms.length cap)] w (ToldN (.tuple #[str B, .int .i64 n]) w) := by
  subst h1 h2
  exact fun w ad cap h => put_any g h
theorem small_plain {f : FT} (h : Small f) : Small (plainF f) := by
  have z : pZero.key.length ≤ 1000 ∧ pZero.val.length ≤ 1000 ∧ rZero.val.length ≤ 1000 := by decide
  refine ⟨?_, ?_, ?_, ?_, ?_⟩ <;> simp only [plainF]
  · split
    · exact h.ok
    · exact z.1
  · split
    · exact h.ov
    · exact z.2.1
  · split
    · exact h.ek
    · exact z.1
  · split
    · exact h.ev
    · exact z.2.1
  · split
    · exact h.rv
    · exact z.2.2
attribute [local go_sem ↓] ldFr_pre in
set_option maxRecDepth 100000 in
set_option maxHeartbeats 2000000 in
theorem back_bad (hs : Ch.Sl w ad cap f.ch.ms) (hsm : Small f) (n : Int) (h : greatB f = false) (ho : okF f = false) : Calls Try.prog 4 #[frV f (.slice ad f.ch.ms.length cap), .int .u16 n] w (ToldN (.bool true) w) := by
  have G := fun w => great_any f ad cap w
  rw [h] at G
  have HG := hide G
  obtain ⟨g, hg⟩ : ∃ g, plainF f = g := ⟨_, rfl⟩
  have HPL := hide (plain_mono hs hsm hg)
  have HP := hide (put_mono hs (putF_no ho).1 (putF_no ho).2)
  have HQ := hide (put_at (g := g) (by rw [← hg, (plain_put f).1, (putF_no ho).1]) (by rw [← hg, (plain_put f).2, (putF_no ho).2]))
  have hpl : IsPl g := by rw [← hg]; exact plain_is f
  have hsg : Small g := by rw [← hg]; exact small_plain hsm
  have hk : g.n 0 = f.n 0 := by rw [← hg]; exact plain_zero f
  have HPG := hide (fun (w : World) ad cap (h : Ch.Sl w ad cap g.ch.ms) => plain_pl hpl hsg h)
  have HSG := hide (fun (w : World) a1 a2 c1 c2 (h1 : Ch.Sl w a1 c1 g.ch.ms) (h2 : Ch.Sl w a2 c2 g.ch.ms) => same_self g h1 h2)
  have HK := hide hk
  clear G h hs hsm ho hg hpl hsg hk
  go_enter Try.func4, Try.ntmps4
  go_wp2_with (first
    | (go_at_call 10; (with_reducible refine (unhide HG _).mono ?_); rintro e w2 ⟨rfl, k2⟩; have G2 := G1.no k2)
    | (go_at_call 11; (with_reducible refine (unhide HPL _ (k1.andNo k2)).mono ?_); rintro e w3 ⟨a3, c3, rfl, k3, s3⟩; have HS3 := hide s3; clear s3)
    | (go_at_call 12; (with_reducible refine (unhide HP _ ((k1.andNo k2).andNo (k3.andNo j5))).mono ?_); rintro e w6 ⟨rfl, k6⟩; have G6 := G5.no k6)
    | (go_at_call 12; (with_reducible refine (unhide HQ _ _ _ ((unhide HS3).no (j5.andNo k6))).mono ?_); rintro e w7 ⟨rfl, k7⟩)
    | ((with_reducible show wpList _ _ _ (⟨_, _, _, _, _, none⟩ :: _) _ _); first
      | (refine wpL_box rfl 33 (.tmp 0) rfl (f.cells (.slice ad f.ch.ms.length cap)).toArray rfl ?_; intro p w1 e1 k1 g1 z1; have G1 : FrAt w1 p f (.slice ad f.ch.ms.length cap) := g1; clear e1 z1 g1)
      | (refine wpL_load rfl 33 (.tmp 2) rfl p rfl (f.cells (.slice ad f.ch.ms.length cap)).toArray _ _ (by first | exact F5 | exact G2 | exact G1) _ Try.underlying33 rfl info_fr ?_)
      | (refine wpL_load rfl 33 (.tmp 5) rfl p5 rfl (g.cells (.slice a3 g.ch.ms.length c3)).toArray _ _ G6 _ Try.underlying33 rfl info_fr ?_)
      | (refine wpL_alloc rfl 33 rfl _ zero_fr ?_; intro p5 w4 e4 k4 g4 z4; have E4 := hide (Nat.le_of_eq e4); clear z4 e4)
      | (refine wpL_store rfl 33 (.tmp 5) (.tmp 20) rfl p5 (g.cells (.slice a3 g.ch.ms.length c3)).toArray rfl rfl _ _ g4 info_fr rfl (all_oneCell_toArray (FT.one _ rfl)) ?_; intro w5 k5 g5 z5; have j5 : Chg noBlk w3 w5 := k4.past k5 (unhide E4); have G5 : FrAt w5 p5 g (.slice a3 g.ch.ms.length c3) := g5; have F5 := (G2.no k3).no j5; clear z5 g5 g4 k5 k4)))
  have KE := hide (fun w' (k : Chg noBlk w7 w') => (⟨k, ((unhide HS3).no (j5.andNo k6)).no (k7.andNo k), run_ldFr (G6.no (k7.andNo k)), by have := (G6.no (k7.andNo k)).c0; rwa [unhide HK] at this, (F5.no (k6.andNo (k7.andNo k))).c0⟩ : Chg noBlk w7 w' ∧ Ch.Sl w' a3 c3 g.ch.ms ∧ (ldFr (.pointer (some ⟨p5, 0, none⟩))).run Try.prog w' = .ok (frV g (.slice a3 g.ch.ms.length c3)) w' ∧ w'.cell? ⟨p5, 0, none⟩ = some (.int .i64 (f.n 0)) ∧ w'.cell? ⟨p, 0, none⟩ = some (.int .i64 (f.n 0))))
  have B0 := Chg.refl noBlk w7
  have HPH := hide (fun (w' : World) (h : Chg noBlk w7 w' ∧ Ch.Sl w' a3 c3 g.ch.ms ∧ (ldFr (.pointer (some ⟨p5, 0, none⟩))).run Try.prog w' = .ok (frV g (.slice a3 g.ch.ms.length c3)) w' ∧ w'.cell? ⟨p5, 0, none⟩ = some (.int .i64 (f.n 0)) ∧ w'.cell? ⟨p, 0, none⟩ = some (.int .i64 (f.n 0))) => unhide HPG w' _ _ h.2.1)
  have HSH := hide (fun (w' : World) a1 c1 (h1 : Ch.Sl w' a1 c1 g.ch.ms) (h : Chg noBlk w7 w' ∧ Ch.Sl w' a3 c3 g.ch.ms ∧ (ldFr (.pointer (some ⟨p5, 0, none⟩))).run Try.prog w' = .ok (frV g (.slice a3 g.ch.ms.length c3)) w' ∧ w'.cell? ⟨p5, 0, none⟩ = some (.int .i64 (f.n 0)) ∧ w'.cell? ⟨p, 0, none⟩ = some (.int .i64 (f.n 0))) => unhide HSG w' _ _ _ _ h1 h.2.1)
  have KA := ((k1.andNo k2).andNo (k3.andNo j5)).andNo (k6.andNo k7)
  have GG6 := hide G6
  have K67 := k7
  clear HPL HP HQ HPG G1 G2 F5 G5 G6 k1 k2 k3 j5 k6 k7
  go_region_held3 (fun w' => Chg noBlk w7 w' ∧ Ch.Sl w' a3 c3 g.ch.ms ∧ (ldFr (.pointer (some ⟨p5, 0, none⟩))).run Try.prog w' = .ok (frV g (.slice a3 g.ch.ms.length c3)) w' ∧ w'.cell? ⟨p5, 0, none⟩ = some (.int .i64 (f.n 0)) ∧ w'.cell? ⟨p, 0, none⟩ = some (.int .i64 (f.n 0)))
    ((refine unhide KE _ ?_; go_split_ands; first | assumption | exact Chg.drew (by assumption) | exact Chg.drewN (by assumption) _ | exact Chg.andNo (by assumption) (by assumption)))
    (first
      | (go_at_call 11; (with_reducible refine (unhide HPH _ (by assumption)).mono ?_); rintro e w8 ⟨a8, c8, rfl, k8, s8⟩)
      | (go_at_call 13; (with_reducible refine (unhide HSH _ _ _ s8 (by assumption)).mono ?_); rintro e w9 ⟨rfl, k9⟩))
  rename_i hH
  obtain ⟨K9, SL9, _, _, _⟩ := hH
  go_wp2_with (go_at_call 6; (with_reducible refine (sent_any _).mono ?_); rintro e w10 ⟨rfl, k10⟩)
  go_ret
  exact ⟨rfl, (KA.andNo K9).andNo k10⟩
attribute [local go_sem ↓] ldFr_pre in
set_option maxRecDepth 100000 in
set_option maxHeartbeats 4000000 in
theorem back_good (hs : Ch.Sl w ad cap f.ch.ms) (hsm : Small f) (n : Nat) (hn : n ≤ 65535) (h : greatB f = false) (ho : okF f = true) : Calls Try.prog 4 #[frV f (.slice ad f.ch.ms.length cap), .int .u16 (n : Int)] w (ToldN (.bool true) w) := by
  have G := fun w => great_any f ad cap w
  rw [h] at G
  have HG := hide G
  obtain ⟨g, hg⟩ : ∃ g, plainF f = g := ⟨_, rfl⟩
  have HPL := hide (plain_mono hs hsm hg)
  have HP := hide (put_mono hs (putF_yes ho).1 (putF_yes ho).2)
  have HQ := hide (put_at (g := g) (by rw [← hg, (plain_put f).1, (putF_yes ho).1]) (by rw [← hg, (plain_put f).2, (putF_yes ho).2]))
  have hpl : IsPl g := by rw [← hg]; exact plain_is f
  have hsg : Small g := by rw [← hg]; exact small_plain hsm
  have hk : g.n 0 = f.n 0 := by rw [← hg]; exact plain_zero f
  have hp := rawF_pos ho
  have hl := rawF_len ho
  have hz : n % (rawF f).length < (rawF f).length := Nat.mod_lt _ hp
  have H1 := hide (fun w' => get_put (by omega) (hg ▸ isOf_put ho) w')
  have H2 := hide (fun w' => get_none (l := (rawF f).take (n % (rawF f).length)) (by rw [List.length_take]; omega) (fun d => isOf_cut ho hz) w')
  have H3 := hide (fun w' => (by have := get_none (l := rawF f ++ [0]) (by simp; omega) (fun d => isOf_more ho) w'; rw [show str (rawF f ++ [0]) = Value.string (bs (rawF f) ++ ⟨#[0]⟩) by rw [show (⟨#[0]⟩ : ByteArray) = bs [0] from rfl, bs_app]] at this; exact this : Calls Try.prog 7 #[.string (bs (rawF f) ++ ⟨#[0]⟩)] w' (fun e w'' => ∃ ad cap, e = .returned (.tuple #[frV fZero (.slice ad 0 cap), .int .i64 10]) ∧ Chg noBlk w' w'' ∧ Ch.Sl w'' ad cap [])))
  have HPG := hide (fun (w : World) ad cap (h : Ch.Sl w ad cap g.ch.ms) => plain_pl hpl hsg h)
  have HSG := hide (fun (w : World) a1 a2 c1 c2 (h1 : Ch.Sl w a1 c1 g.ch.ms) (h2 : Ch.Sl w a2 c2 g.ch.ms) => same_self g h1 h2)
  have HZ := hide (fun (w : World) a c (h : Ch.Sl w a c []) => (same_self fZero (a2 := none) (c2 := 0) h (sl_none w) : Calls Try.prog 13 #[frV fZero (.slice a 0 c), .agg (litZ v0)] w (ToldN (.bool true) w)))
  have HK := hide hk
  generalize rawF f = B at *
  obtain ⟨z, hzz⟩ : ∃ z, n % B.length = z := ⟨_, rfl⟩
  have hm : ((n : Int) % (B.length : Int)) = (z : Int) := by omega
  rw [hzz] at H2 hz
  have hm0 : (0 : Int) ≤ (z : Int) := by omega
  have hm1 : (z : Int) ≤ (B.length : Int) := by omega
  clear hzz
  have hc : IntKind.i64.wrap (n : Int) = (n : Int) := IntWalk.i64_in _ (by omega)
  have hb0 : ((B.length : Int) == 0) = false := beq_eq_false_iff_ne.2 (by omega)
  have hb1 : ¬ (512 : Int) < (B.length : Int) := by omega
  have eB : (B == B) = true := by simp
  have eC : (B != B) = false := by simp
  have s1 : ¬ 9223372036854775807 < B.length + 1 := by omega
  clear G h hs hsm ho hg hpl hsg hk
  go_enter Try.func4, Try.ntmps4
  go_wp2_with (first
    | (go_at_call 10; (with_reducible refine (unhide HG _).mono ?_); rintro e w2 ⟨rfl, k2⟩; have G2 := G1.no k2)
    | (go_at_call 11; (with_reducible refine (unhide HPL _ (k1.andNo k2)).mono ?_); rintro e w3 ⟨a3, c3, rfl, k3, s3⟩; have HS3 := hide s3; clear s3)
    | (go_at_call 12; (with_reducible refine (unhide HP _ ((k1.andNo k2).andNo (k3.andNo j5))).mono ?_); rintro e w6 ⟨rfl, k6⟩; have G6 := G5.no k6)
    | (go_at_call 12; (with_reducible refine (unhide HQ _ _ _ ((unhide HS3).no (j5.andNo k6))).mono ?_); rintro e w7 ⟨rfl, k7⟩)
    | ((with_reducible show wpList _ _ _ (⟨_, _, _, _, _, none⟩ :: _) _ _); first
      | (refine wpL_box rfl 33 (.tmp 0) rfl (f.cells (.slice ad f.ch.ms.length cap)).toArray rfl ?_; intro p w1 e1 k1 g1 z1; have G1 : FrAt w1 p f (.slice ad f.ch.ms.length cap) := g1; clear e1 z1 g1)
      | (refine wpL_load rfl 33 (.tmp 2) rfl p rfl (f.cells (.slice ad f.ch.ms.length cap)).toArray _ _ (by first | exact F5 | exact G2 | exact G1) _ Try.underlying33 rfl info_fr ?_)
      | (refine wpL_load rfl 33 (.tmp 5) rfl p5 rfl (g.cells (.slice a3 g.ch.ms.length c3)).toArray _ _ G6 _ Try.underlying33 rfl info_fr ?_)
      | (refine wpL_alloc rfl 33 rfl _ zero_fr ?_; intro p5 w4 e4 k4 g4 z4; have E4 := hide (Nat.le_of_eq e4); clear z4 e4)
      | (refine wpL_store rfl 33 (.tmp 5) (.tmp 20) rfl p5 (g.cells (.slice a3 g.ch.ms.length c3)).toArray rfl rfl _ _ g4 info_fr rfl (all_oneCell_toArray (FT.one _ rfl)) ?_; intro w5 k5 g5 z5; have j5 : Chg noBlk w3 w5 := k4.past k5 (unhide E4); have G5 : FrAt w5 p5 g (.slice a3 g.ch.ms.length c3) := g5; have F5 := (G2.no k3).no j5; clear z5 g5 g4 k5 k4)))
  have KE := hide (fun w' (k : Chg noBlk w7 w') => (⟨k, ((unhide HS3).no (j5.andNo k6)).no (k7.andNo k), run_ldFr (G6.no (k7.andNo k)), by have := (G6.no (k7.andNo k)).c0; rwa [unhide HK] at this, (F5.no (k6.andNo (k7.andNo k))).c0⟩ : Chg noBlk w7 w' ∧ Ch.Sl w' a3 c3 g.ch.ms ∧ (ldFr (.pointer (some ⟨p5, 0, none⟩))).run Try.prog w' = .ok (frV g (.slice a3 g.ch.ms.length c3)) w' ∧ w'.cell? ⟨p5, 0, none⟩ = some (.int .i64 (f.n 0)) ∧ w'.cell? ⟨p, 0, none⟩ = some (.int .i64 (f.n 0))))
  have B0 := Chg.refl noBlk w7
  have HPH := hide (fun (w' : World) (h : Chg noBlk w7 w' ∧ Ch.Sl w' a3 c3 g.ch.ms ∧ (ldFr (.pointer (some ⟨p5, 0, none⟩))).run Try.prog w' = .ok (frV g (.slice a3 g.ch.ms.length c3)) w' ∧ w'.cell? ⟨p5, 0, none⟩ = some (.int .i64 (f.n 0)) ∧ w'.cell? ⟨p, 0, none⟩ = some (.int .i64 (f.n 0))) => unhide HPG w' _ _ h.2.1)
  have HSH := hide (fun (w' : World) a1 c1 (h1 : Ch.Sl w' a1 c1 g.ch.ms) (h : Chg noBlk w7 w' ∧ Ch.Sl w' a3 c3 g.ch.ms ∧ (ldFr (.pointer (some ⟨p5, 0, none⟩))).run Try.prog w' = .ok (frV g (.slice a3 g.ch.ms.length c3)) w' ∧ w'.cell? ⟨p5, 0, none⟩ = some (.int .i64 (f.n 0)) ∧ w'.cell? ⟨p, 0, none⟩ = some (.int .i64 (f.n 0))) => unhide HSG w' _ _ _ _ h1 h.2.1)
  have KA := ((k1.andNo k2).andNo (k3.andNo j5)).andNo (k6.andNo k7)
  have GG6 := hide G6
  have K67 := k7
  clear HPL HP HQ HPG G1 G2 F5 G5 G6 k1 k2 k3 j5 k6 k7
  go_region_held3 (fun w' => Chg noBlk w7 w' ∧ Ch.Sl w' a3 c3 g.ch.ms ∧ (ldFr (.pointer (some ⟨p5, 0, none⟩))).run Try.prog w' = .ok (frV g (.slice a3 g.ch.ms.length c3)) w' ∧ w'.cell? ⟨p5, 0, none⟩ = some (.int .i64 (f.n 0)) ∧ w'.cell? ⟨p, 0, none⟩ = some (.int .i64 (f.n 0)))
    ((refine unhide KE _ ?_; go_split_ands; first | assumption | exact Chg.drew (by assumption) | exact Chg.drewN (by assumption) _ | exact Chg.andNo (by assumption) (by assumption)))
    (first
      | (go_at_call 11; (with_reducible refine (unhide HPH _ (by assumption)).mono ?_); rintro e w8 ⟨a8, c8, rfl, k8, s8⟩)
      | (go_at_call 13; (with_reducible refine (unhide HSH _ _ _ s8 (by assumption)).mono ?_); rintro e w9 ⟨rfl, k9⟩))
  rename_i hH
  obtain ⟨K9, SL9, _, _, _⟩ := hH
  have G9 : Hid (FrAt w9 p5 g (.slice a3 g.ch.ms.length c3)) := hide (((unhide GG6).no K67).no K9)
  have S9 := hide SL9
  have KB := KA.andNo K9
  clear KE B0 HPH HSH GG6 K67 K9 SL9 KA HS3
  go_wp2_with (first
    | (go_at_call 7; (with_reducible refine (unhide H1 _).mono ?_); rintro e w10 ⟨a10, c10, rfl, k10, s10⟩; have HS10 := hide s10; clear s10)
    | (go_at_call 7; (with_reducible refine (unhide H2 _).mono ?_); rintro e w13 ⟨a13, c13, rfl, k13, s13⟩; have HS13 := hide s13; clear s13)
    | (go_at_call 7; (with_reducible refine (unhide H3 _).mono ?_); rintro e w16 ⟨a16, c16, rfl, k16, s16⟩; have HS16 := hide s16; clear s16)
    | (go_at_call 13; (with_reducible refine (unhide HSG _ _ _ _ _ ((unhide HS10).no (j12.andNo (J15.andNo J18))) ((unhide S9).no (J12.andNo (J15.andNo J18)))).mono ?_); rintro e w19 ⟨rfl, k19⟩; clear la lb; have lc := run_ldFr ((unhide G15).no (J18.andNo k19)))
    | (have tk := k20; clear tk; go_at_call 13; (refine (unhide HZ _ _ _ ((unhide HS16).no ((j18.andNo k19).andNo k20))).mono ?_); rintro e w21 ⟨rfl, k21⟩)
    | (go_at_call 13; (refine (unhide HZ _ _ _ ((unhide HS13).no ((j15.andNo J18).andNo k19))).mono ?_); rintro e w20 ⟨rfl, k20⟩; clear lc; have ld := run_ldFr ((unhide G18).no (k19.andNo k20)))
    | (go_at_call 6; (with_reducible refine (sent_any _).mono ?_); rintro e w22 ⟨rfl, k22⟩)
    | ((with_reducible show wpList _ _ _ (⟨_, _, _, _, _, none⟩ :: _) _ _); first
      | (have tk := k16; clear tk; refine wpL_alloc rfl 33 rfl _ zero_fr ?_; intro p17 w17 e17 k17 g17 z17; have E17 := hide (Nat.le_of_eq e17); clear z17 e17)
      | (have tk := k13; clear tk; refine wpL_alloc rfl 33 rfl _ zero_fr ?_; intro p14 w14 e14 k14 g14 z14; have E14 := hide (Nat.le_of_eq e14); clear z14 e14)
      | (refine wpL_alloc rfl 33 rfl _ zero_fr ?_; intro p11 w11 e11 k11 g11 z11; have E11 := hide (Nat.le_of_eq e11); clear z11 e11)
      | (refine wpL_store rfl 33 (.tmp 10) (.tmp 79) rfl p11 (g.cells (.slice a10 g.ch.ms.length c10)).toArray rfl rfl _ _ g11 info_fr rfl (all_oneCell_toArray (FT.one _ rfl)) ?_; intro w12 k12 g12 z12; have j12 : Chg noBlk w10 w12 := k11.past k12 (unhide E11); have G12 : Hid (FrAt w12 p11 g (.slice a10 g.ch.ms.length c10)) := hide g12; have J12 := k10.andNo j12; clear z12 g12 g11 k11 k12)
      | (refine wpL_store rfl 33 (.tmp 12) (.tmp 90) rfl p14 (fZero.cells (.slice a13 0 c13)).toArray rfl rfl _ _ g14 info_fr rfl (all_oneCell_toArray (FT.one _ rfl)) ?_; intro w15 k15 g15 z15; have j15 : Chg noBlk w13 w15 := k14.past k15 (unhide E14); have G15 : Hid (FrAt w15 p14 fZero (.slice a13 0 c13)) := hide g15; have J15 := k13.andNo j15; clear z15 g15 g14 k14 k15)
      | (refine wpL_store rfl 33 (.tmp 14) (.tmp 96) rfl p17 (fZero.cells (.slice a16 0 c16)).toArray rfl rfl _ _ g17 info_fr rfl (all_oneCell_toArray (FT.one _ rfl)) ?_; intro w18 k18 g18 z18; have j18 : Chg noBlk w16 w18 := k17.past k18 (unhide E17); have G18 : Hid (FrAt w18 p17 fZero (.slice a16 0 c16)) := hide g18; have J18 := k16.andNo j18; have la := run_ldFr ((unhide G12).no (J15.andNo J18)); have lb := run_ldFr ((unhide G9).no (J12.andNo (J15.andNo J18))); clear z18 g18 g17 k17 k18)))
  go_ret
  exact ⟨rfl, (KB.andNo (J12.andNo (J15.andNo J18))).andNo ((k19.andNo k20).andNo (k21.andNo k22))⟩
end
theorem backlaw_any {w : World} {ad : Option Addr} {cap : Nat} {f : FT} (hs : Ch.Sl0 w ad cap f.ch.ms) (n : Nat) (hn : n ≤ 65535) : Calls Try.prog 4 #[frV f (.slice ad f.ch.ms.length cap), .int .u16 (n : Int)] w (ToldN (.bool true) w) := by
  cases h : greatB f
  · obtain ⟨hsm, hl⟩ := great_no h
    cases ho : okF f
    · exact back_bad (hs.sl (by omega)) hsm n h ho
    · exact back_good (hs.sl (by omega)) hsm n hn h ho
  · exact back_great n h
#print axioms backlaw_any
end Go.Proofs.Ytfplgmkbhpdmjaa.Fm
