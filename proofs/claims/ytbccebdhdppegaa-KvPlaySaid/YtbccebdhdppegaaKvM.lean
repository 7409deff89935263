/-
  Keys with values: what is put is there, and nothing else turns; versions.
-/
import Derived.Test.YtbccebdhdppegaaKvL
namespace Go.Proofs.Ytbccebdhdppegaa
open Go.ChangeShapes Go.WideShapes Go.ChangeAt Go.RowKit
set_option linter.unusedVariables false
attribute [local go_sem] bs_size bs_app bs_cut bs_tl bs_at
theorem fnd_cons (c : KV) (L : List KV) (k : List UInt8) : fnd (c :: L) k = if (c.key == k) = true then some c else fnd L k := by
  unfold fnd
  rw [List.find?_cons]
  cases c.key == k <;> rfl
theorem fnd_ins_same (c : KV) : ∀ L : List KV, (∀ y ∈ L, y.key ≠ c.key) → fnd (ins c L) c.key = some c
  | [], _ => by unfold ins; rw [fnd_cons]; simp
  | y :: r, h => by
    unfold ins
    split
    · rw [fnd_cons]; simp
    · have hy : (y.key == c.key) = false := by simpa using h y (by simp)
      rw [fnd_cons, hy, fnd_ins_same c r (fun z hz => h z (by simp [hz]))]
      simp
theorem fnd_ins_other (c : KV) {k : List UInt8} (hk : k ≠ c.key) : ∀ L : List KV, fnd (ins c L) k = fnd L k
  | [] => by
    have : (c.key == k) = false := by simpa using Ne.symm hk
    unfold ins; rw [fnd_cons, this]; simp
  | y :: r => by
    have : (c.key == k) = false := by simpa using Ne.symm hk
    unfold ins
    split
    · rw [fnd_cons, this]; simp
    · rw [fnd_cons, fnd_cons, fnd_ins_other c hk r]
theorem fnd_del_other {k k' : List UInt8} (hk : k ≠ k') : ∀ L : List KV, fnd (del L k') k = fnd L k
  | [] => rfl
  | y :: r => by
    have ih := fnd_del_other hk r
    unfold del at ih ⊢
    rw [List.filter_cons]
    by_cases e : y.key = k'
    · have e1 : (!(y.key == k')) = false := by simp [e]
      have e2 : (y.key == k) = false := by rw [e]; simpa using Ne.symm hk
      rw [e1, fnd_cons, e2]
      simpa using ih
    · have e1 : (!(y.key == k')) = true := by simp [e]
      rw [e1, if_pos rfl, fnd_cons, fnd_cons, ih]
theorem fnd_put_same (L : List KV) (c : KV) : fnd (put L c) c.key = some c := fnd_ins_same c _ del_key
theorem fnd_put_other (L : List KV) (c : KV) {k : List UInt8} (hk : k ≠ c.key) : fnd (put L c) k = fnd L k := (fnd_ins_other c hk _).trans (fnd_del_other hk L)
theorem look_put_same (L : List KV) (c : KV) (a : Int) : look (put L c) c.key a = ⟨1, c.val, c.ver, a⟩ := look_some (fnd_put_same L c) a
theorem look_put_other (L : List KV) (c : KV) {k : List UInt8} (hk : k ≠ c.key) (a : Int) : look (put L c) k a = look L k a := by rw [look_eq, fnd_put_other L c hk]; rfl
/-- versions are entries' -/
def Vers (L : List KV) : Prop := ∀ c ∈ L, 0 ≤ c.ver ∧ c.ver ≤ 4096
/-- keys are no longer than they may be -/
def Keyd (L : List KV) : Prop := ∀ c ∈ L, c.key.length ≤ 16
theorem mem_del {L : List KV} {k : List UInt8} {c : KV} (h : c ∈ del L k) : c ∈ L := (List.mem_filter.1 h).1
theorem mem_ins (c : KV) : ∀ {L : List KV} {y : KV}, y ∈ ins c L → y = c ∨ y ∈ L
  | [], y, h => by
    unfold ins at h
    exact .inl (by simpa using h)
  | z :: r, y, h => by
    unfold ins at h
    split at h
    · rcases List.mem_cons.1 h with h | h
      · exact .inl h
      · exact .inr h
    · rcases List.mem_cons.1 h with h | h
      · exact .inr (by simp [h])
      · rcases mem_ins c h with h | h
        · exact .inl h
        · exact .inr (by simp [h])
theorem mem_put {L : List KV} {c y : KV} (h : y ∈ put L c) : y = c ∨ y ∈ L := (mem_ins c h).imp id mem_del
theorem mem_app {L : List KV} {i : Int} {o : PT} {y : KV} (h : y ∈ appL L i o) : y ∈ L ∨ (may i o = true ∧ y = ⟨o.key, o.val, i⟩) := by
  rcases app_ways L i o with ⟨_, e, _⟩ | ⟨hm, _, e, _⟩ | ⟨_, _, _, e, _⟩ | ⟨_, _, _, e, _⟩ | ⟨_, _, _, e, _⟩ | ⟨hm, _, _, e, _⟩ | ⟨_, _, e, _⟩ <;> rw [e] at h
  · exact .inl h
  · exact (mem_put h).elim (fun e => .inr ⟨hm, e⟩) .inl
  · exact .inl h
  · exact .inl (mem_del h)
  · exact .inl h
  · exact (mem_put h).elim (fun e => .inr ⟨hm, e⟩) .inl
  · exact .inl h
theorem Vers.app {L : List KV} (h : Vers L) (i : Int) (o : PT) : Vers (appL L i o) := fun c hc => by
  rcases mem_app hc with hc | ⟨hm, rfl⟩
  · exact h c hc
  · have := may_yes.1 hm
    exact ⟨by show (0 : Int) ≤ i; omega, this.2.1⟩
theorem Keyd.app {L : List KV} (h : Keyd L) (i : Int) (o : PT) : Keyd (appL L i o) := fun c hc => by
  rcases mem_app hc with hc | ⟨hm, rfl⟩
  · exact h c hc
  · exact (chk_fit.1 (may_yes.1 hm).2.2).l1
theorem Vers.look {L : List KV} (h : Vers L) (k : List UInt8) : 0 ≤ (look L k 0).ver ∧ (look L k 0).ver ≤ 4096 := by
  cases hf : fnd L k with
  | none => rw [look_none hf]; exact ⟨Int.le_refl _, by show (0 : Int) ≤ 4096; omega⟩
  | some c =>
    rw [look_some hf]
    exact h c (List.mem_of_find?_eq_some hf)
/-- the swap that is asked for -/
def swp (o : PT) (v : Int) : PT := ⟨4, o.key, o.val, v⟩
theorem swp_fit {o : PT} (h : chk (swp o 0) = 0) {v : Int} (h0 : 0 ≤ v) (h1 : v ≤ 4096) : chk (swp o v) = 0 := by
  have f := chk_fit.1 h
  exact chk_fit.2 ⟨f.k1, f.k4, f.key, h0, h1, fun e => absurd rfl e, fun _ e => absurd rfl e, f.l1, f.l2⟩
theorem swp_may {o : PT} (h : chk (swp o 0) = 0) {v i : Int} (h0 : 0 ≤ v) (h1 : v ≤ 4096) (i1 : 1 ≤ i) (i2 : i ≤ 4096) : may i (swp o v) = true := may_yes.2 ⟨i1, i2, swp_fit h h0 h1⟩
theorem swp_yes {L : List KV} {o : PT} (h : chk (swp o 0) = 0) {v i : Int} (h0 : 0 ≤ v) (h1 : v ≤ 4096) (i1 : 1 ≤ i) (i2 : i ≤ 4096) (e : (look L o.key 0).ver = v) :
    appL L i (swp o v) = put L ⟨o.key, o.val, i⟩ ∧ appR L i (swp o v) = ⟨1, [], i, i⟩ := by
  have hm := swp_may h h0 h1 i1 i2
  have hp : puts L (swp o v) = true := by
    unfold puts swp
    simp [e]
  unfold appL appR
  rw [hm, hp]
  exact ⟨rfl, rfl⟩
theorem swp_no {L : List KV} {o : PT} (h : chk (swp o 0) = 0) {v i : Int} (h0 : 0 ≤ v) (h1 : v ≤ 4096) (i1 : 1 ≤ i) (i2 : i ≤ 4096) (e : (look L o.key 0).ver ≠ v) :
    appL L i (swp o v) = L ∧ appR L i (swp o v) = ⟨3, (look L o.key 0).val, (look L o.key 0).ver, i⟩ := by
  have hm := swp_may h h0 h1 i1 i2
  have hp : puts L (swp o v) = false := by
    unfold puts swp
    simp [e]
  unfold appL appR
  rw [hm, hp]
  exact ⟨rfl, rfl⟩
theorem swp_keyd {L L2 : List KV} {o : PT} {i : Int} {c : KV} (h : chk (swp o 0) = 0) (hy : Keyd L) (h2 : L2 = L ∨ L2 = put L ⟨o.key, o.val, i⟩) (hc : c ∈ L2) : c.key.length ≤ maxLen := by
  have hl : o.key.length ≤ 16 := (chk_fit.1 h).l1
  have : c.key.length ≤ 16 := by
    rcases h2 with rfl | rfl
    · exact hy c hc
    · rcases mem_put hc with rfl | hc
      · exact hl
      · exact hy c hc
  unfold maxLen; omega
/-- these keys lie in the slice -/
def KeysAt (w : World) (ad : Option Addr) (L : List KV) : Prop := ∀ (i : Nat) (c : KV), L[i]? = some c → ∃ g, ad = some ⟨g, 0, none⟩ ∧ w.cell? ⟨g, i, none⟩ = some (str c.key)
theorem KeysAt.no {w w' : World} {ad : Option Addr} {L : List KV} (h : KeysAt w ad L) (k : Chg noBlk w w') : KeysAt w' ad L := fun i c hc => by
  obtain ⟨g, h1, h2⟩ := h i c hc
  exact ⟨g, h1, k.cell h2 id⟩
theorem keys_any {w : World} {b m : Nat} {L : List KV} (h : StAt w b m L) (hn : L.length ≤ 1000000) : Calls Try.prog 17 #[.pointer (some ⟨b, 0, none⟩)] w (fun e w' => ∃ ad cap, e = .returned (.slice ad L.length cap) ∧ Chg noBlk w w' ∧ KeysAt w' ad L) := by
  refine (keys_at h hn).mono ?_
  rintro e w' ⟨v, rfl, k, hr⟩
  rcases hr.2 with ⟨rfl, hz⟩ | ⟨g, cap, cur, rfl, hbase, hb, r1, r2, r3, r4⟩
  · refine ⟨none, 0, by rw [hz], k, fun i c hc => ?_⟩
    have := (List.getElem?_eq_some_iff.1 hc).1
    omega
  · refine ⟨some ⟨g, 0, none⟩, cap, rfl, k, fun i c hc => ⟨g, rfl, ?_⟩⟩
    have e : (L.map fun c => str c.key)[i]? = some (str c.key) := by rw [List.getElem?_map, hc]; rfl
    have hc2 := World.ownsRow.cells hr (g := g) rfl i _ e
    rw [Addr.add_mid, Nat.zero_add] at hc2
    exact hc2
theorem apply_put0 {w : World} {b m : Nat} {L : List KV} {o : PT} {i : Int} (h : StAt w b m L) (hn : L.length < maxLen) (e : appL L i o = put L ⟨o.key, o.val, i⟩ ∧ appR L i o = ⟨1, [], i, i⟩) :
    Calls Try.prog 12 #[.pointer (some ⟨b, 0, none⟩), .int .i64 i, .agg o.cells.toArray] w (fun e w' => e = .returned (.agg #[.int .i64 1, .string ⟨#[]⟩, .int .i64 i, .int .i64 i]) ∧ Chg (oneBlk m) w w' ∧ StAt w' b m (put L ⟨o.key, o.val, i⟩)) := apply_is h hn e
theorem swp_put0 {w : World} {b m : Nat} {L : List KV} {o : PT} {v i : Int} (h : StAt w b m L) (hn : L.length < maxLen) (e : appL L i (swp o v) = put L ⟨o.key, o.val, i⟩ ∧ appR L i (swp o v) = ⟨1, [], i, i⟩) :
    Calls Try.prog 12 #[.pointer (some ⟨b, 0, none⟩), .int .i64 i, .agg (swp o v).cells.toArray] w (fun e w' => e = .returned (.agg #[.int .i64 1, .string ⟨#[]⟩, .int .i64 i, .int .i64 i]) ∧ Chg (oneBlk m) w w' ∧ StAt w' b m (put L ⟨o.key, o.val, i⟩)) := apply_is h hn e
theorem look_is {w : World} {b m : Nat} {L : List KV} {k : List UInt8} {a : Int} {c n t : Int} {v : List UInt8} (h : StAt w b m L) (hk : k.length ≤ maxLen) (e : look L k a = ⟨c, v, n, t⟩) :
    Calls Try.prog 10 #[.pointer (some ⟨b, 0, none⟩), str k, .int .i64 a] w (fun e w' => e = .returned (.agg #[.int .i64 c, str v, .int .i64 n, .int .i64 t]) ∧ Chg noBlk w w') := by
  have := look_at h hk a
  rw [e] at this
  exact this
theorem look_put0 {w : World} {b m : Nat} {L : List KV} {k v : List UInt8} {i a : Int} (h : StAt w b m (put L ⟨k, v, i⟩)) (hk : k.length ≤ maxLen) :
    Calls Try.prog 10 #[.pointer (some ⟨b, 0, none⟩), str k, .int .i64 a] w (fun e w' => e = .returned (.agg #[.int .i64 1, str v, .int .i64 i, .int .i64 a]) ∧ Chg noBlk w w') := look_is h hk (look_put_same L ⟨k, v, i⟩ a)
end Go.Proofs.Ytbccebdhdppegaa
