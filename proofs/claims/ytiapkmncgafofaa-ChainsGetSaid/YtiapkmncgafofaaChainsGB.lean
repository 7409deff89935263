/-
  Chains: a contract of the document's numbers of bytes.
-/
import Derived.Test.YtiapkmncgafofaaChainsGA
import Derived.Test.YtiapkmncgafofaaKitI
namespace Go.Proofs.Ytiapkmncgafofaa
open Go.ChangeShapes Go.WideShapes Go.ChangeAt Go.RowKit
set_option linter.unusedVariables false
attribute [local go_sem] bs_size bs_app bs_cut bs_tl bs_at
theorem runint_n (l : List UInt8) (hl : l.length ≤ 1048576) (w : World) : Calls Try.prog 54 #[str l] w (ToldN (.tuple #[.int .i64 (tkN l), str (tkR l), .bool (tkO l)]) w) :=
  (runint_any l hl w).mono fun _ _ ⟨a, b⟩ => ⟨a, Chg.ofBelow b⟩
theorem infx_int : (Try.prog.info? 3).map (fun i => (i.zero, i.size, i.bytes)) = some (some (.int .i64 0), 1, 8) := by kernel_rfl
/-- a slice of the call's own that has these numbers -/
structure NumAt (w0 w : World) (v : Value) (T : List Int) : Prop where
  own : w.ownsRow 0 3 1 v T.length (T.map (.int .i64 ·))
  new : ∀ g, v.ownBlock = some g → w0.heap.size ≤ g
  chg : Chg noBlk w0 w
theorem NumAt.nil (w0 : World) : NumAt w0 w0 (.slice none 0 0) [] := ⟨World.ownsRow_nil _ _ _ _, (fun g h => by simp [Value.ownBlock] at h), Chg.refl _ _⟩
theorem NumAt.no {w0 w w' : World} {v : Value} {T : List Int} (h : NumAt w0 w v T) (k : Chg noBlk w w') : NumAt w0 w' v T := ⟨owns_kept h.own k (fun _ _ => id), h.new, h.chg.andNo k⟩
theorem NumAt.push {w0 w wA wD : World} {v v' : Value} {T : List Int} {t : Int} (h : NumAt w0 w v T) (kA : Chg noBlk w wA) (kD : Chg (fun k => v.ownBlock = some k) wA wD) (oD : wD.ownsRow 0 3 1 v' (T.length + 1) (T.map (.int .i64 ·) ++ [.int .i64 t])) (fD : v'.ownBlock = v.ownBlock ∨ v'.ownBlock = some wA.heap.size) : NumAt w0 wD v' (T ++ [t]) := by
  refine ⟨by simpa using oD, fun g hg => ?_, (h.chg.andNo kA).trans kD fun i hi x => by have := h.new i x; omega⟩
  rcases fD with f | f
  · exact h.new g (f ▸ hg)
  · rw [f] at hg
    have := Option.some.inj hg
    have := h.chg.size
    have := kA.size
    omega
/-- as a slice, with its cells -/
theorem NumAt.form {w0 w : World} {v : Value} {T : List Int} (h : NumAt w0 w v T) : ∃ ad cap, v = .slice ad T.length cap ∧ T.length ≤ cap ∧ ∀ (j : Nat) t, T[j]? = some t → ∃ g, ad = some ⟨g, 0, none⟩ ∧ w.cell? ⟨g, j, none⟩ = some (.int .i64 t) := by
  rcases h.own.2 with ⟨rfl, h2⟩ | ⟨g, cap, cur, rfl, hb, hg, hn, hm, hc, ht⟩
  · have : T = [] := List.eq_nil_of_length_eq_zero h2
    subst this
    exact ⟨none, 0, rfl, by simp, fun j t hj => by simp at hj⟩
  · refine ⟨_, cap, rfl, hn, fun j t hj => ⟨g, rfl, cellAt hg j _ ?_⟩⟩
    have h1 : (T.map (Value.int .i64 ·))[j]? = some (.int .i64 t) := by simp [hj]
    rw [← ht, List.getElem?_take] at h1
    split at h1
    · simpa using h1
    · cases h1
/-- how far numbers have gone: T ahead, l left, of s -/
structure Gone (s : List UInt8) (T : List Int) (l : List UInt8) : Prop where
  on : ∀ L, Nums l L → Nums s (T ++ L)
  back : ∀ L, Nums s L → ∃ L', L = T ++ L' ∧ Nums l L'
  len : T.length + l.length ≤ s.length
theorem gone_start (s : List UInt8) : Gone s [] s := ⟨fun L h => h, fun L h => ⟨L, rfl, h⟩, by simp⟩
theorem gone_next {s l : List UInt8} {T : List Int} (h : Gone s T l) (hl : l ≠ []) (ho : tkO l = true) : Gone s (T ++ [tkN l]) (tkR l) := by
  refine ⟨fun L hL => ?_, fun L hL => ?_, ?_⟩
  · have := h.on _ (Nums.cons l L hl ho hL)
    simpa using this
  · obtain ⟨L', rfl, h2⟩ := h.back L hL
    cases h2 with
    | nil => exact absurd rfl hl
    | cons _ L2 _ _ h3 => exact ⟨L2, by simp, h3⟩
  · obtain ⟨r, e⟩ := tk_range ho
    have h1 := intL_ne _ r
    have h2 := congrArg List.length e
    have h3 := h.len
    simp at h2 ⊢
    omega
theorem gone_end {s : List UInt8} {T : List Int} (h : Gone s T []) : Nums s T := by
  have := h.on [] Nums.nil
  rwa [List.append_nil] at this
theorem gone_bad {s l : List UInt8} {T : List Int} (h : Gone s T l) (hl : l ≠ []) (ho : tkO l = false) : ∀ L, ¬ Nums s L := fun L hL => by
  obtain ⟨L', rfl, h2⟩ := h.back L hL
  cases h2 with
  | nil => exact hl rfl
  | cons _ L2 _ h3 _ => rw [ho] at h3; cases h3
def strLen : Value → Nat
  | .string b => b.size
  | _ => 0
/-- told: the numbers, or none -/
def NumsTold (s : List UInt8) (w : World) (e : Ending) (w' : World) : Prop := ∃ v T, e = .returned v ∧ NumAt w w' v T ∧ T.length ≤ s.length ∧ (Nums s T ∨ (T = [] ∧ ∀ L, ¬ Nums s L))
set_option maxRecDepth 100000 in
set_option maxHeartbeats 1000000 in
theorem numbers_any (s : List UInt8) (hs : s.length ≤ 1000) (w : World) : Calls Try.prog 46 #[str s] w (NumsTold s w) := by
  have HU := hide (fun l (hl : l.length ≤ 1048576) w' => runint_n l hl w')
  go_enter Try.func46, Try.ntmps46
  go_wp2
  go_loopw [0, 3] (fun a b wr => ∃ (l : List UInt8) (T : List Int), a = str l ∧ NumAt w wr b T ∧ Gone s T l) (fun a b wr => strLen a)
  case atStart => exact ⟨s, [], rfl, NumAt.nil w, gone_start s⟩
  case round =>
    obtain ⟨l, T, rfl, hn, hg⟩ := hrel
    have hlen := hg.len
    by_cases hl : l = []
    · subst hl
      have R := hide (gone_end hg)
      have HN := hide hn
      clear hg hn
      go_wp2
      go_ret
      exact ⟨_, T, rfl, unhide HN, by omega, .inl (unhide R)⟩
    · have h1 : 0 < l.length := by
        cases l with
        | nil => exact absurd rfl hl
        | cons a t => simp
      have h2 : (0 : Int) < (l.length : Int) := by omega
      have yl : l.length ≤ 1048576 := by omega
      cases ho : tkO l
      · have R := hide (gone_bad hg hl ho)
        have HN := hide hn
        have HU2 := hide (fun w' => (by have := unhide HU l yl w'; rw [ho] at this; exact this : Calls Try.prog 54 #[str l] w' (ToldN (.tuple #[.int .i64 (tkN l), str (tkR l), .bool false]) w')))
        clear hg hn ho hl
        go_wp2_with (go_at_call 54; (with_reducible refine (unhide HU2 _).mono ?_); rintro e w2 ⟨rfl, k2⟩)
        go_ret
        exact ⟨_, [], rfl, ⟨World.ownsRow_nil _ _ _ _, (fun g h => by simp [Value.ownBlock] at h), (unhide HN).chg.andNo k2⟩, by simp, .inr ⟨rfl, unhide R⟩⟩
      · have R := hide (gone_next hg hl ho)
        have HN := hide hn
        have HU2 := hide (fun w' => (by have := unhide HU l yl w'; rw [ho] at this; exact this : Calls Try.prog 54 #[str l] w' (ToldN (.tuple #[.int .i64 (tkN l), str (tkR l), .bool true]) w')))
        have b2 : T.length + 1 ≤ maxLen := by unfold maxLen; omega
        have b4 : (T.length + 1) * 8 ≤ 140737488355328 := by omega
        have hsh : (tkR l).length + 1 ≤ l.length := by
          obtain ⟨r, e⟩ := tk_range ho
          have h1 := intL_ne _ r
          have h2 := congrArg List.length e
          simp at h2
          omega
        clear hg hn ho hl
        go_wp2_with (first
          | (go_at_call 54; (with_reducible refine (unhide HU2 _).mono ?_); rintro e w2 ⟨rfl, k2⟩; have N2 := hide ((unhide HN).no k2))
          | ((with_reducible show wpList _ _ _ (⟨some 21, _, _, _, _, none⟩ :: _) _ _); refine wpL_append rfl (.tmp 18) (.tmp 20) 58 rfl 3 (.int .i64 0) 1 8 Try.underlying58 infx_int rfl (by decide) u3 T.length (T.map (.int .i64 ·)) (by rfl) (owns_kept (unhide N2).own ((Chg.refl noBlk w2).alloc _) (fun _ _ => id)) (.slice (some ⟨w2.heap.size, 0, none⟩) 1 1) 1 [.int .i64 (tkN l)] (by rfl) (reads_new w2 _ rfl) b2 b4 ?_; intro v5 w5 k5 o5 f5; have N5 := hide ((unhide N2).push ((Chg.refl noBlk w2).alloc (.cells #[.int .i64 (tkN l)] 3)) k5 o5 f5); clear k5 o5 f5))
        go_roundw
        case rel => exact ⟨_, _, rfl, unhide N5, unhide R⟩
        case measure => simp [strLen, bs_size]; omega
end Go.Proofs.Ytiapkmncgafofaa
