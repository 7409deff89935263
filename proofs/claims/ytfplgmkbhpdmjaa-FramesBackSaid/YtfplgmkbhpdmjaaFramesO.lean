/-
  Frames: a frame that is handed in; what is more than is gone through.
-/
import Derived.Test.YtfplgmkbhpdmjaaFramesN
import Derived.Test.YtfplgmkbhpdmjaaChainsZ
import Derived.OpenShut
namespace Go.Proofs.Ytfplgmkbhpdmjaa.Fm
open Go.ChangeShapes Go.WideShapes Go.ChangeAt Go.RowKit Go.Deep
set_option linter.unusedVariables false
attribute [local go_sem] bs_size bs_app bs_cut bs_tl bs_at
theorem cells29 {cs : List Value} (hl : cs.length = 29) {a0 a1 a2 a3 a4 a5 a6 a7 a8 a9 a10 a11 a12 a13 a14 a15 a16 a17 a18 a19 a20 a21 a22 a23 a24 a25 a26 a27 a28 : Value} (h0 : cs[0]? = some a0) (h1 : cs[1]? = some a1) (h2 : cs[2]? = some a2) (h3 : cs[3]? = some a3) (h4 : cs[4]? = some a4) (h5 : cs[5]? = some a5) (h6 : cs[6]? = some a6) (h7 : cs[7]? = some a7) (h8 : cs[8]? = some a8) (h9 : cs[9]? = some a9) (h10 : cs[10]? = some a10) (h11 : cs[11]? = some a11) (h12 : cs[12]? = some a12) (h13 : cs[13]? = some a13) (h14 : cs[14]? = some a14) (h15 : cs[15]? = some a15) (h16 : cs[16]? = some a16) (h17 : cs[17]? = some a17) (h18 : cs[18]? = some a18) (h19 : cs[19]? = some a19) (h20 : cs[20]? = some a20) (h21 : cs[21]? = some a21) (h22 : cs[22]? = some a22) (h23 : cs[23]? = some a23) (h24 : cs[24]? = some a24) (h25 : cs[25]? = some a25) (h26 : cs[26]? = some a26) (h27 : cs[27]? = some a27) (h28 : cs[28]? = some a28) : cs = [a0, a1, a2, a3, a4, a5, a6, a7, a8, a9, a10, a11, a12, a13, a14, a15, a16, a17, a18, a19, a20, a21, a22, a23, a24, a25, a26, a27, a28] := by
  match cs, hl with
  | [c0, c1, c2, c3, c4, c5, c6, c7, c8, c9, c10, c11, c12, c13, c14, c15, c16, c17, c18, c19, c20, c21, c22, c23, c24, c25, c26, c27, c28], _ =>
    simp only [List.getElem?_cons_zero, List.getElem?_cons_succ, Option.some.injEq] at h0 h1 h2 h3 h4 h5 h6 h7 h8 h9 h10 h11 h12 h13 h14 h15 h16 h17 h18 h19 h20 h21 h22 h23 h24 h25 h26 h27 h28
    subst h0 h1 h2 h3 h4 h5 h6 h7 h8 h9 h10 h11 h12 h13 h14 h15 h16 h17 h18 h19 h20 h21 h22 h23 h24 h25 h26 h27 h28
    rfl
theorem cint : Try.prog.cellsOf 3 = 1 := by kernel_rfl
theorem cstr : Try.prog.cellsOf 9 = 1 := by kernel_rfl
section
variable {H : Type} {enc : TypeId × Value → H} {w : World} {base : Nat} {spare : Nat → Bool} {held : Bool} {fuel : Nat} {c : List Value} {x : DataW H × List MemPlace}
theorem sub_get {c sub : List Value} {k m : Nat} (h : ∀ j, j < m → sub[j]? = c[k + j]?) (j : Nat) (hj : j < m) {v : Value} (hv : sub[j]? = some v) : c[k + j]? = some v := by rw [← h j hj]; exact hv
theorem str_of (s : ByteArray) : Value.string s = str s.data.toList := by show _ = Value.string (bs s.data.toList); rw [← bs_list]
theorem trod_op (h : DataW.trod enc Try.prog w base spare held fuel 24 c = some x) : ∃ o : PT, c[0]? = some (.int .i64 o.k) ∧ c[1]? = some (str o.key) ∧ c[2]? = some (str o.val) ∧ c[3]? = some (.int .i64 o.ver) := by
  have hu := Try.underlying24
  obtain ⟨a0, h0, _⟩ := int_at hu h 0 0 3 rfl (k := .i64) Try.underlying3 cint
  obtain ⟨a1, h1, m1⟩ := string_at hu h 1 1 9 rfl Try.underlying9 cstr
  obtain ⟨a2, h2, m2⟩ := string_at hu h 2 2 9 rfl Try.underlying9 cstr
  obtain ⟨a3, h3, _⟩ := int_at hu h 3 3 3 rfl (k := .i64) Try.underlying3 cint
  exact ⟨⟨a0, a1.data.toList, a2.data.toList, a3⟩, h0, by rw [h1, str_of], by rw [h2, str_of], h3⟩
theorem trod_fr (h : DataW.trod enc Try.prog w base spare held fuel 33 c = some x) : ∃ (f : FT) (ad : Option Addr) (cap : Nat), c = f.cells (.slice ad f.ch.ms.length cap) ∧ Ch.Sl0 w ad cap f.ch.ms := by
  have hu := Try.underlying33
  have hlen : c.length = 29 := (struct_len hu h).trans (by kernel_rfl)
  obtain ⟨x0, i0, _⟩ := int_at hu h 0 0 3 rfl (k := .i64) Try.underlying3 cint
  obtain ⟨x1, i1, _⟩ := int_at hu h 1 1 3 rfl (k := .i64) Try.underlying3 cint
  obtain ⟨x2, i2, _⟩ := int_at hu h 2 2 3 rfl (k := .i64) Try.underlying3 cint
  obtain ⟨x3, i3, _⟩ := int_at hu h 3 3 3 rfl (k := .i64) Try.underlying3 cint
  obtain ⟨x4, i4, _⟩ := int_at hu h 4 4 3 rfl (k := .i64) Try.underlying3 cint
  obtain ⟨x5, i5, _⟩ := int_at hu h 5 5 3 rfl (k := .i64) Try.underlying3 cint
  obtain ⟨x6, i6, _⟩ := int_at hu h 6 6 3 rfl (k := .i64) Try.underlying3 cint
  obtain ⟨x15, i15, _⟩ := int_at hu h 9 15 3 rfl (k := .i64) Try.underlying3 cint
  obtain ⟨x26, i26, _⟩ := int_at hu h 12 26 3 rfl (k := .i64) Try.underlying3 cint
  obtain ⟨x27, i27, _⟩ := int_at hu h 13 27 3 rfl (k := .i64) Try.underlying3 cint
  obtain ⟨x28, i28, _⟩ := int_at hu h 14 28 3 rfl (k := .i64) Try.underlying3 cint
  obtain ⟨so, no, yo, ho, jo⟩ := field_sub hu h 7 7 24 4 rfl (by kernel_rfl)
  obtain ⟨o, q7, q8, q9, q10⟩ := trod_op ho
  have i7 := sub_get jo 0 (by omega) q7
  have i8 := sub_get jo 1 (by omega) q8
  have i9 := sub_get jo 2 (by omega) q9
  have i10 := sub_get jo 3 (by omega) q10
  obtain ⟨sr, nr, yr, hr, jr⟩ := field_sub hu h 8 11 26 4 rfl (by kernel_rfl)
  have ur := Try.underlying26
  obtain ⟨x11, q11, _⟩ := int_at ur hr 0 0 3 rfl (k := .i64) Try.underlying3 cint
  obtain ⟨x12, q12, _⟩ := string_at ur hr 1 1 9 rfl Try.underlying9 cstr
  obtain ⟨x13, q13, _⟩ := int_at ur hr 2 2 3 rfl (k := .i64) Try.underlying3 cint
  obtain ⟨x14, q14, _⟩ := int_at ur hr 3 3 3 rfl (k := .i64) Try.underlying3 cint
  rw [str_of] at q12
  have i11 := sub_get jr 0 (by omega) q11
  have i12 := sub_get jr 1 (by omega) q12
  have i13 := sub_get jr 2 (by omega) q13
  have i14 := sub_get jr 3 (by omega) q14
  obtain ⟨se, ne, ye, he, je⟩ := field_sub hu h 10 16 28 7 rfl (by kernel_rfl)
  have ue := Try.underlying28
  obtain ⟨x16, q16, _⟩ := int_at ue he 0 0 3 rfl (k := .i64) Try.underlying3 cint
  obtain ⟨x17, q17, _⟩ := int_at ue he 1 1 3 rfl (k := .i64) Try.underlying3 cint
  obtain ⟨x18, q18, _⟩ := int_at ue he 2 2 3 rfl (k := .i64) Try.underlying3 cint
  have i16 := sub_get je 0 (by omega) q16
  have i17 := sub_get je 1 (by omega) q17
  have i18 := sub_get je 2 (by omega) q18
  obtain ⟨sp, np, yp, hp, jp⟩ := field_sub ue he 3 3 24 4 rfl (by kernel_rfl)
  obtain ⟨e, q19, q20, q21, q22⟩ := trod_op hp
  have i19 := sub_get je 3 (by omega) (sub_get jp 0 (by omega) q19)
  have i20 := sub_get je 4 (by omega) (sub_get jp 1 (by omega) q20)
  have i21 := sub_get je 5 (by omega) (sub_get jp 2 (by omega) q21)
  have i22 := sub_get je 6 (by omega) (sub_get jp 3 (by omega) q22)
  obtain ⟨sc, nc, yc, hc, jc⟩ := field_sub hu h 11 23 31 3 rfl (by kernel_rfl)
  obtain ⟨ch, ad, cap, hcs, hsl⟩ := Ch.trod_ch hc
  subst hcs
  have i23 := sub_get jc 0 (by omega) rfl
  have i24 := sub_get jc 1 (by omega) rfl
  have i25 := sub_get jc 2 (by omega) rfl
  refine ⟨⟨fun i => match i with | 0 => x0 | 1 => x1 | 2 => x2 | 3 => x3 | 4 => x4 | 5 => x5 | 6 => x6 | 15 => x15 | 16 => x16 | 17 => x17 | 18 => x18 | 26 => x26 | 27 => x27 | 28 => x28 | _ => 0, o, ⟨x11, x12.data.toList, x13, x14⟩, e, ch⟩, ad, cap, ?_, hsl⟩
  exact cells29 hlen i0 i1 i2 i3 i4 i5 i6 i7 i8 i9 i10 i11 i12 i13 i14 i15 i16 i17 i18 i19 i20 i21 i22 i23 i24 i25 i26 i27 i28
end
/-- is it more than is gone through? -/
def greatB (f : FT) : Bool := decide (300 < (f.op.key.length : Int)) || (decide (300 < (f.op.val.length : Int)) || (decide (300 < (f.eop.key.length : Int)) || (decide (300 < (f.eop.val.length : Int)) || (decide (300 < (f.re.val.length : Int)) || decide (12 < (f.ch.ms.length : Int))))))
theorem great_no {f : FT} (h : greatB f = false) : Small f ∧ f.ch.ms.length ≤ 12 := by
  simp [greatB] at h
  exact ⟨⟨by omega, by omega, by omega, by omega, by omega⟩, by omega⟩
set_option maxRecDepth 100000 in
theorem great_any (f : FT) (ad : Option Addr) (cap : Nat) (w : World) : Calls Try.prog 10 #[frV f (.slice ad f.ch.ms.length cap)] w (ToldN (.bool (greatB f)) w) := by
  obtain ⟨d1, h1⟩ : ∃ d, decide (300 < (f.op.key.length : Int)) = d := ⟨_, rfl⟩
  obtain ⟨d2, h2⟩ : ∃ d, decide (300 < (f.op.val.length : Int)) = d := ⟨_, rfl⟩
  obtain ⟨d3, h3⟩ : ∃ d, decide (300 < (f.eop.key.length : Int)) = d := ⟨_, rfl⟩
  obtain ⟨d4, h4⟩ : ∃ d, decide (300 < (f.eop.val.length : Int)) = d := ⟨_, rfl⟩
  obtain ⟨d5, h5⟩ : ∃ d, decide (300 < (f.re.val.length : Int)) = d := ⟨_, rfl⟩
  obtain ⟨d6, h6⟩ : ∃ d, decide (12 < (f.ch.ms.length : Int)) = d := ⟨_, rfl⟩
  have hw : ∃ e, greatB f = e ∧ ((d1 = true ∧ e = true) ∨ (d1 = false ∧ d2 = true ∧ e = true) ∨ (d1 = false ∧ d2 = false ∧ d3 = true ∧ e = true) ∨ (d1 = false ∧ d2 = false ∧ d3 = false ∧ d4 = true ∧ e = true) ∨ (d1 = false ∧ d2 = false ∧ d3 = false ∧ d4 = false ∧ d5 = true ∧ e = true) ∨ (d1 = false ∧ d2 = false ∧ d3 = false ∧ d4 = false ∧ d5 = false ∧ e = d6)) := by
    refine ⟨_, rfl, ?_⟩
    unfold greatB
    rw [h1, h2, h3, h4, h5, h6]
    cases d1 <;> cases d2 <;> cases d3 <;> cases d4 <;> cases d5 <;> simp
  obtain ⟨e, he, hw⟩ := hw
  rw [he]
  clear he
  rcases hw with ⟨rfl, rfl⟩ | ⟨rfl, rfl, rfl⟩ | ⟨rfl, rfl, rfl, rfl⟩ | ⟨rfl, rfl, rfl, rfl, rfl⟩ | ⟨rfl, rfl, rfl, rfl, rfl, rfl⟩ | ⟨rfl, rfl, rfl, rfl, rfl, rfl⟩
  all_goals
    go_enter Try.func10, Try.ntmps10
    go_wp2_with ((with_reducible show wpList _ _ _ (⟨_, _, _, _, _, none⟩ :: _) _ _); refine wpL_box rfl 33 _ rfl (f.cells (.slice ad f.ch.ms.length cap)).toArray rfl ?_; intro p w1 e1 k1 g1 z1; have c8 : w1.cell? ⟨p, 8, none⟩ = some (str f.op.key) := cellAt g1 8 _ rfl; have c9 : w1.cell? ⟨p, 9, none⟩ = some (str f.op.val) := cellAt g1 9 _ rfl; have c20 : w1.cell? ⟨p, 20, none⟩ = some (str f.eop.key) := cellAt g1 20 _ rfl; have c21 : w1.cell? ⟨p, 21, none⟩ = some (str f.eop.val) := cellAt g1 21 _ rfl; have c12 : w1.cell? ⟨p, 12, none⟩ = some (str f.re.val) := cellAt g1 12 _ rfl; have c24 : w1.cell? ⟨p, 24, none⟩ = some (.slice ad f.ch.ms.length cap) := cellAt g1 24 _ rfl; clear e1 z1 g1)
    go_ret
    exact ⟨rfl, k1⟩
#print axioms great_any
#print axioms trod_fr
end Go.Proofs.Ytfplgmkbhpdmjaa.Fm
