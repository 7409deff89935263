/-
  The document's ring: one popped, one pushed.
-/
import Derived.Test.YtbhjeakaedbanaaRingsM
import Derived.Deep.RegionLaw
import Derived.Deep.DrawnRows
namespace Go.Proofs.Ytbhjeakaedbanaa
open Go.ChangeShapes Go.WideShapes Go.ChangeAt Go.RowKit
set_option linter.unusedVariables false
attribute [local go_sem ↓] ldFr_pre stFr_pre
theorem size_slf : (Try.prog.info? 48).map (·.size) = some 1 := by kernel_rfl
set_option maxRecDepth 100000 in
theorem rpop_no (T : Nat → Prop) (q : Value) (cap : Int) (w : World) (h : RefQ w T q cap []) : Calls Try.prog 11 #[q] w (ToldN w) := by
  have H := hide h
  clear h
  go_enter Try.func11, Try.ntmps11
  go_wp2_with (first
    | (have tk := k3; clear tk; refine wpL_alloc rfl 42 rfl _ zero_fr ?_; intro b4 w4 e4 k4 g4 z4; replace g2 := k4.at (k3.at g2 id) id)
    | (refine wpL_alloc rfl 42 rfl _ zero_fr ?_; intro b2 w2 e2 k2 g2 z2; have AT := hide (rtell_no T q cap [] (by simp) 0 (by simp) w2 ((unhide H).keptNo k2)))
    | (go_at_call 13; refine (unhide AT).mono ?_; rintro e w3 ⟨rfl, k3⟩)
    | (refine wpL_store rfl 42 (.tmp 4) (.tmp 9) rfl b4 zeroFr.toArray rfl rfl _ _ g4 (by rw [size_fr]; rfl) rfl zero_one ?_; intro w5 k5 g5 z5; replace g2 := k5.at g2 (by show ¬ (_ = _); have := k3.size; omega))
    | (refine wpL_load rfl 42 (.tmp 4) rfl b4 rfl _ _ _ g5 _ Try.underlying42 rfl (by rw [size_fr]; rfl) ?_)
    | (refine wpL_store rfl 42 (.tmp 2) (.tmp 20) rfl b2 zeroFr.toArray rfl rfl _ _ g2 (by rw [size_fr]; rfl) rfl zero_one ?_; intro w6 k6 g6 z6))
  refine bodyPost_ret (results_row_tmp rfl _ _ b2 _ _ (0, 0) _ rfl g6 Try.underlying42 rfl (by rw [size_fr]; rfl)) rfl ?_
  exact ⟨rfl, ((((k2.andNo k3).andNo k4).trans k5 fun i hi e => by have e : i = b4 := e; have := k3.size; omega).trans k6 fun i hi e => by have e : i = b2 := e; omega)⟩
/-- the first one is told, and stands there no more -/
def PoppedQ (T : Nat → Prop) (q : Value) (cap : Int) (f : Fr) (L : List Fr) (w : World) (e : Ending) (w' : World) : Prop :=
  ∃ c, e = .returned (.tuple #[.agg c.toArray, .bool true]) ∧ FrH w' T c f ∧ Chg T w w' ∧ RefQ w' T q cap L
theorem popH {w : World} {S : Nat → Prop} {g off off' cp n : Nat} {rows : List (List Value)} (h : Holds w S 29 (.slice (some ⟨g, off, none⟩) (n + 1) cp) (n + 1) rows.flatten) (hr : rows.length = n + 1) (h7 : ∀ c ∈ rows, c.length = 29) (ho : n = 0 ∨ off' = off + 29) :
    Holds w S 29 (.slice (some ⟨g, off', none⟩) n (cp - 1)) n rows.tail.flatten := by
  obtain ⟨c, rest, rfl⟩ : ∃ c rest, rows = c :: rest := by cases rows with | nil => simp at hr | cons c rest => exact ⟨c, rest, rfl⟩
  obtain ⟨h1, h2, h3⟩ := h
  have hc := h7 c (by simp)
  simp only [List.tail_cons, List.flatten_cons, List.length_append] at *
  refine ⟨by omega, fun u hu => h2 u (by simp [hu]), .inr ?_⟩
  rcases h3 with ⟨h, _⟩ | ⟨g1, off1, cap1, h, hS, hg, hn, hcell⟩
  · simp at h
  · simp only [Value.slice.injEq, Option.some.injEq, Addr.mk.injEq] at h
    obtain ⟨⟨rfl, rfl, _⟩, _, rfl⟩ := h
    refine ⟨g, off', cp - 1, rfl, hS, hg, by omega, fun j u hu => ?_⟩
    rcases ho with rfl | rfl
    · have := (List.getElem?_eq_some_iff.1 hu).1; omega
    · have := hcell (29 + j) u (by rw [List.getElem?_append_right (by omega), hc]; simpa using hu)
      rwa [← Nat.add_assoc] at this
set_option maxRecDepth 100000 in
set_option maxHeartbeats 1000000 in
theorem rpop_yes (T : Nat → Prop) (q : Value) (cap : Int) (f : Fr) (L : List Fr) (hL : L.length ≤ 999) (w : World) (h : RefQ w T q cap (f :: L)) : Calls Try.prog 11 #[q] w (PoppedQ T q cap f L w) := by
  have H := hide h
  have o := h.ok f (by simp)
  obtain ⟨b, s, rows, rfl, hTb, h3, h4, h5, h6, h7, h8, h9⟩ := h
  obtain ⟨c0, hc0, hf0⟩ := h8 0 f (by simp)
  obtain ⟨g, off, cp, rfl, hg, hrng⟩ := row_range h5 h7 hc0 (by simp)
  have hcp : L.length + 1 ≤ cp := by
    rcases h5.2.2 with ⟨h, _⟩ | ⟨_, _, _, h, _, _, hn, _⟩
    · simp at h
    · simp only [Value.slice.injEq] at h; obtain ⟨_, _, rfl⟩ := h; simpa using hn
  have hb := lt_of_block h3
  have H3 := hide h3
  have H4 := hide h4
  have H5 := hide h5
  have H6 := hide h6
  have H7 := hide h7
  have H8 := hide h8
  have H9 := hide h9
  have hgT := hg.1
  have hgb := hg.2
  clear h3 h4 h5 h6 h7 h8 h9 hc0 hf0 hrng hg
  by_cases h1 : cp = 1
  · obtain rfl : cp = 1 := h1
    obtain rfl : L = [] := by
      cases L with
      | nil => rfl
      | cons a l => simp at hcp
    clear hcp hL
    go_enter Try.func11, Try.ntmps11
    go_upto_region 3 with (first
      | (have tk := k3; clear tk; refine wpL_alloc rfl 42 rfl _ zero_fr ?_; intro b4 w4 e4 k4 g4 z4; replace g2 := k4.at (k3.at g2 id) id)
      | (refine wpL_alloc rfl 42 rfl _ zero_fr ?_; intro b2 w2 e2 k2 g2 z2; have AT := hide (rtell T _ cap [f] f (by simp) 0 (by simp) w2 ((unhide H).keptNo k2)))
      | (go_at_call 13; refine (unhide AT).mono ?_; rintro e w3 ⟨c, rfl, hf, k3⟩; have h29 := hf.reads.is29 o)
      | (refine wpL_store rfl 42 (.tmp 4) (.tmp 9) rfl b4 c.toArray rfl rfl _ _ g4 (by rw [size_fr, h29.1]) (by rw [h29.1]; rfl) h29.2 ?_; intro w5 k5 g5 z5; replace g2 := k5.at g2 (by show ¬ (_ = _); have := k3.size; omega)))
    have K5 : Chg noBlk w w5 := (((k2.andNo k3).andNo k4).trans k5 fun i hi e => by have e : i = b4 := e; have := k3.size; omega)
    have hbk := K5.at (unhide H3) id
    have c1 := cellAt hbk 1 _ rfl
    go_wp2_with (first
      | (refine wpL_set rfl 48 (.tmp 19) (.tmp 17) rfl b 1 (.slice (some ⟨g, off, none⟩) 0 0) rfl rfl rfl size_slf _ _ hbk (by simp) ?_; intro w6 k6 g6 z6; have g5' := k6.at g5 (by show ¬ (_ = _); have := k3.size; omega); have g2' := k6.at g2 (by show ¬ (_ = _); omega))
      | (refine wpL_load rfl 42 (.tmp 4) rfl b4 rfl _ _ _ g5' _ Try.underlying42 rfl (by rw [size_fr, h29.1]) ?_)
      | (refine wpL_store rfl 42 (.tmp 2) (.tmp 20) rfl b2 c.toArray rfl rfl _ _ g2' (by rw [size_fr, h29.1]) (by rw [h29.1]; rfl) h29.2 ?_; intro w7 k7 g7 z7))
    refine bodyPost_ret (results_row_tmp rfl _ _ b2 _ _ (0, 0) _ rfl g7 Try.underlying42 rfl (by rw [size_fr, h29.1])) rfl ?_
    have K6 : Chg T w w6 := ((K5.no T).trans k6 fun i _ e => by rw [show i = b from e]; exact hTb)
    have K7 : Chg T w w7 := K6.trans k7 fun i hi e => by have e : i = b2 := e; omega
    have KO : Chg (oneBlk b) w w7 := ((K5.no (oneBlk b)).trans k6 fun _ _ e => e).trans k7 fun i hi e => by have e : i = b2 := e; omega
    have e3 := k2.size
    have e3' := k3.size
    refine ⟨c, rfl, ?_, K7, b, _, rows.tail, rfl, hTb, k7.at (by rw [g6]; rfl) (by show ¬ (_ = _); omega), fun i hi => K7.lt (unhide H4 i hi), (popH (unhide H5) (unhide H6) (unhide H7) (.inl rfl)).kept KO (fun i _ hi e => hi.2 e), by simp [unhide H6], fun d hd => unhide H7 d (List.mem_of_mem_tail hd), fun i x hx => ?_, fun x hx => unhide H9 x (by simp [hx])⟩
    · have f1 := (((hf.kept k4 fun _ _ _ => id).kept k5 fun i _ hi e => by have e : i = b4 := e; have := unhide H4 i hi.1; omega).kept k6 fun i _ hi e => hi.2 (by rw [show i = b from e])).kept k7 fun i _ hi e => by have e : i = b2 := e; have := unhide H4 i hi.1; omega
      exact f1.mono fun i _ hi => hi.1
    · obtain ⟨d, e1, e2⟩ := unhide H8 (i + 1) x (by simp at hx)
      exact ⟨d, by rw [List.getElem?_tail]; exact e1, e2.kept KO fun j _ hj e => hj.2 e⟩
  · go_enter Try.func11, Try.ntmps11
    go_upto_region 3 with (first
      | (have tk := k3; clear tk; refine wpL_alloc rfl 42 rfl _ zero_fr ?_; intro b4 w4 e4 k4 g4 z4; replace g2 := k4.at (k3.at g2 id) id)
      | (refine wpL_alloc rfl 42 rfl _ zero_fr ?_; intro b2 w2 e2 k2 g2 z2; have AT := hide (rtell T _ cap (f :: L) f (by simp; omega) 0 (by simp) w2 ((unhide H).keptNo k2)))
      | (go_at_call 13; refine (unhide AT).mono ?_; rintro e w3 ⟨c, rfl, hf, k3⟩; have h29 := hf.reads.is29 o)
      | (refine wpL_store rfl 42 (.tmp 4) (.tmp 9) rfl b4 c.toArray rfl rfl _ _ g4 (by rw [size_fr, h29.1]) (by rw [h29.1]; rfl) h29.2 ?_; intro w5 k5 g5 z5; replace g2 := k5.at g2 (by show ¬ (_ = _); have := k3.size; omega)))
    have K5 : Chg noBlk w w5 := (((k2.andNo k3).andNo k4).trans k5 fun i hi e => by have e : i = b4 := e; have := k3.size; omega)
    have hbk := K5.at (unhide H3) id
    have c1 := cellAt hbk 1 _ rfl
    go_wp2_with (first
      | (refine wpL_set rfl 48 (.tmp 19) (.tmp 17) rfl b 1 (.slice (some ⟨g, off + 29, none⟩) L.length (cp - 1)) rfl rfl rfl size_slf _ _ hbk (by simp) ?_; intro w6 k6 g6 z6; have g5' := k6.at g5 (by show ¬ (_ = _); have := k3.size; omega); have g2' := k6.at g2 (by show ¬ (_ = _); omega))
      | (refine wpL_load rfl 42 (.tmp 4) rfl b4 rfl _ _ _ g5' _ Try.underlying42 rfl (by rw [size_fr, h29.1]) ?_)
      | (refine wpL_store rfl 42 (.tmp 2) (.tmp 20) rfl b2 c.toArray rfl rfl _ _ g2' (by rw [size_fr, h29.1]) (by rw [h29.1]; rfl) h29.2 ?_; intro w7 k7 g7 z7))
    refine bodyPost_ret (results_row_tmp rfl _ _ b2 _ _ (0, 0) _ rfl g7 Try.underlying42 rfl (by rw [size_fr, h29.1])) rfl ?_
    have K6 : Chg T w w6 := ((K5.no T).trans k6 fun i _ e => by rw [show i = b from e]; exact hTb)
    have K7 : Chg T w w7 := K6.trans k7 fun i hi e => by have e : i = b2 := e; omega
    have KO : Chg (oneBlk b) w w7 := ((K5.no (oneBlk b)).trans k6 fun _ _ e => e).trans k7 fun i hi e => by have e : i = b2 := e; omega
    have e3 := k2.size
    have e3' := k3.size
    refine ⟨c, rfl, ?_, K7, b, _, rows.tail, rfl, hTb, k7.at (by rw [g6]; rfl) (by show ¬ (_ = _); omega), fun i hi => K7.lt (unhide H4 i hi), (popH (unhide H5) (unhide H6) (unhide H7) (.inr rfl)).kept KO (fun i _ hi e => hi.2 e), by simp [unhide H6], fun d hd => unhide H7 d (List.mem_of_mem_tail hd), fun i x hx => ?_, fun x hx => unhide H9 x (by simp [hx])⟩
    · have f1 := (((hf.kept k4 fun _ _ _ => id).kept k5 fun i _ hi e => by have e : i = b4 := e; have := unhide H4 i hi.1; omega).kept k6 fun i _ hi e => hi.2 (by rw [show i = b from e])).kept k7 fun i _ hi e => by have e : i = b2 := e; have := unhide H4 i hi.1; omega
      exact f1.mono fun i _ hi => hi.1
    · obtain ⟨d, e1, e2⟩ := unhide H8 (i + 1) x (by simpa using hx)
      exact ⟨d, by rw [List.getElem?_tail]; exact e1, e2.kept KO fun j _ hj e => hj.2 e⟩
end Go.Proofs.Ytbhjeakaedbanaa
