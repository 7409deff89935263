/-
  Keys with values: the document's cells without a key.
-/
import Derived.Test.YtfffgegdcgfakaaKvQ0
namespace Go.Proofs.Ytfffgegdcgfakaa
open Go.ChangeShapes Go.WideShapes Go.ChangeAt Go.RowKit
set_option linter.unusedVariables false
attribute [local go_sem] bs_size bs_app bs_cut bs_tl bs_at
theorem info_cl : (Try.prog.info? 87).map (fun i => (i.zero, i.size, i.bytes)) = some (some (.agg (KV.cells ⟨[], [], 0⟩).toArray), 3, 40) := by kernel_rfl
theorem size_cl : (Try.prog.info? 87).map (·.size) = some 3 := by kernel_rfl
theorem del_next {L : List KV} {n : Nat} {c : KV} (h : L[n]? = some c) (k : List UInt8) : del (L.take (n + 1)) k = del (L.take n) k ++ (if c.key = k then [] else [c]) := by
  have hn := (List.getElem?_eq_some_iff.1 h).1
  have e : L[n] = c := by rw [List.getElem?_eq_getElem hn] at h; simpa using h
  rw [List.take_succ_eq_append_getElem hn, e]
  unfold del
  rw [List.filter_append]
  congr 1
  by_cases hk : c.key = k <;> simp [hk]
theorem del_few (L : List KV) (n : Nat) (k : List UInt8) : (del (L.take n) k).length ≤ n := by
  have := del_len (L.take n) k
  rw [List.length_take] at this
  omega
/-- a cell's block as a slice of one -/
theorem one_reads {w : World} {b : Nat} {t : TypeId} {c : KV} (h : w.heap[b]? = some (.cells c.cells.toArray t (0, 0))) : Reads w 3 (.slice (some ⟨b, 0, none⟩) 1 1) 1 c.cells :=
  ⟨rfl, c.one, .inr ⟨⟨b, 0, none⟩, 1, rfl, Nat.le_refl _, fun j u hu => by
    rw [Addr.add_mid, Nat.zero_add]
    exact cellAt h j u (by simpa using hu)⟩⟩
theorem flat_snoc (M : List KV) (c : KV) : flat M ++ c.cells = flat (M ++ [c]) := by unfold flat; simp
theorem own_no {w w' : World} {e size n : Nat} {v : Value} {xs : List Value} (h : w.ownsRow 0 e size v n xs) (k : Chg noBlk w w') : w'.ownsRow 0 e size v n xs := by
  refine ⟨h.1, ?_⟩
  rcases h.2 with h2 | ⟨g, cap, cur, h3, h4, h5, h6⟩
  · exact .inl h2
  · exact .inr ⟨g, cap, cur, h3, h4, k.at h5 id, h6⟩
/-- so far -/
def WoAt (w0 : World) (L : List KV) (k : List UInt8) (v i : Value) (w : World) : Prop :=
  ∃ n : Nat, n ≤ L.length ∧ i = .int .i64 (n : Int) ∧ w.ownsRow 0 87 3 v (del (L.take n) k).length (flat (del (L.take n) k)) ∧ (∀ b, v.ownBlock = some b → w0.heap.size ≤ b) ∧ Chg noBlk w0 w
set_option maxRecDepth 100000 in
set_option maxHeartbeats 4000000 in
theorem rwithout_own {ad : Option Addr} {cap : Nat} {L : List KV} {w : World} (h : SlC w ad cap L) (hl : L.length ≤ 1000) (k : List UInt8) :
    Calls Try.prog 49 #[.slice ad L.length cap, str k] w (fun e w' => ∃ v, e = .returned v ∧ w'.ownsRow 0 87 3 v (del L k).length (flat (del L k)) ∧ Chg noBlk w w') := by
  have HS := hide h.cells
  clear h
  go_enter Try.func49, Try.ntmps49
  go_wp2
  go_loopw [5, 6] (fun v i wr => WoAt w L k v i wr) (fun v i wr => L.length - (intOf i).toNat)
  case atStart => exact ⟨0, by omega, rfl, World.ownsRow_nil _ _ _ _, (fun b e => by cases e), Chg.refl _ _⟩
  case round =>
    obtain ⟨n, hn, rfl, ho, hb, kw⟩ := hrel
    have KW := hide kw
    have HO := hide ho
    have HB := hide hb
    clear kw ho hb
    by_cases hlt : n < L.length
    · have d1 : decide (n < L.length) = true := by simpa using hlt
      obtain ⟨c, hc⟩ : ∃ c, L[n]? = some c := ⟨_, List.getElem?_eq_getElem hlt⟩
      obtain ⟨_, g, off, rfl, hr⟩ := unhide HS n c hc
      have hr1 := range_kept hr (unhide KW)
      have c0 : wr.cell? ⟨g, off + n * 3, none⟩ = some (str c.key) := hr1 0 _ rfl
      have HR1 := hide hr1
      have i1 : (0 : Int) ≤ (n : Int) := by omega
      have i2 : (n : Int) < (L.length : Int) := by omega
      have hfew := del_few L n k
      have HN := hide (del_next hc k)
      clear hc hr hr1
      by_cases he : c.key = k
      · have dq : (c.key == k) = true := by simpa using he
        have HE : Hid (del (L.take (n + 1)) k = del (L.take n) k) := hide (by rw [unhide HN, if_pos he, List.append_nil])
        clear he
        go_wp2
        go_roundw
        case rel => exact ⟨n + 1, by omega, by go_num, by rw [unhide HE]; exact unhide HO, unhide HB, unhide KW⟩
        case measure => simp [intOf]; omega
      · have dq : (c.key == k) = false := by simpa using he
        have HE : Hid (del (L.take (n + 1)) k = del (L.take n) k ++ [c]) := hide (by rw [unhide HN, if_neg he])
        clear he
        go_wp2_with ((with_reducible show wpList _ _ _ (_ :: _) _ _); first
          | (refine wpList_load_mid rfl 87 (.tmp 23) rfl g (off + n * 3) rfl c.cells _ (unhide HR1) Try.underlying87 rfl (by rw [size_cl]; rfl) ?_)
          | (refine wpL_one rfl 67 (.tmp 24) rfl 87 (KV.cells ⟨[], [], 0⟩).toArray Try.underlying67 (by kernel_rfl) (by decide) (by decide) c.cells.toArray rfl rfl ?_; intro b2 w2 e2 k2 g2 z2; have h63 : wr.heap.size ≤ b2 := Nat.le_of_eq e2; clear e2 z2)
          | (refine wpL_append rfl (.tmp 20) (.tmp 25) 67 rfl 87 (.agg (KV.cells ⟨[], [], 0⟩).toArray) 3 40 Try.underlying67 info_cl rfl (by decide) u5 (del (L.take n) k).length (flat (del (L.take n) k)) rfl (own_no (unhide HO) k2) (.slice (some ⟨b2, 0, none⟩) 1 1) 1 c.cells rfl (one_reads g2) (by unfold maxLen; omega) (by omega) ?_; intro v3 w3 k3 o3 f3))
        have KW3 := hide (((unhide KW).andNo k2).trans k3 fun i hi e => by have := unhide HB i e; omega)
        rw [flat_snoc] at o3
        have O3 : Hid (w3.ownsRow 0 87 3 v3 (del (L.take (n + 1)) k).length (flat (del (L.take (n + 1)) k))) := hide (by rw [unhide HE]; simpa using o3)
        have B3 : Hid (∀ b, v3.ownBlock = some b → w.heap.size ≤ b) := hide fun b hb => by
          rcases f3 with f3 | f3
          · exact unhide HB b (by rw [← f3]; exact hb)
          · rw [f3] at hb
            have := Option.some.inj hb
            have := (unhide KW).size
            have := k2.size
            omega
        clear k3 o3 f3 k2 g2
        go_roundw
        case rel => exact ⟨n + 1, by omega, by go_num, unhide O3, unhide B3, unhide KW3⟩
        case measure => simp [intOf]; omega
    · obtain rfl : n = L.length := by omega
      go_wp2
      go_ret
      refine ⟨u5, rfl, ?_, unhide KW⟩
      have := unhide HO
      rwa [List.take_length] at this
theorem rwithout_at {ad : Option Addr} {cap : Nat} {L : List KV} {w : World} (h : SlC w ad cap L) (hl : L.length ≤ 1000) (k : List UInt8) :
    Calls Try.prog 49 #[.slice ad L.length cap, str k] w (fun e w' => ∃ ad' cap', e = .returned (.slice ad' (del L k).length cap') ∧ SlC w' ad' cap' (del L k) ∧ Chg noBlk w w') := by
  refine (rwithout_own h hl k).mono ?_
  rintro e w' ⟨v, rfl, ho, hk⟩
  obtain ⟨ad', cap', rfl, hs⟩ := SlC.own ho
  exact ⟨ad', cap', rfl, hs, hk⟩
end Go.Proofs.Ytfffgegdcgfakaa
