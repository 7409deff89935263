/-
  Keys with values: contracts of Copy, Keys, Same.
-/
import Derived.Test.YtbccebdhdppegaaKvF
import Derived.Test.YtbccebdhdppegaaIter
import Derived.Maps.RangeWalk
import Derived.Sort.EncStr
namespace Go.Proofs.Ytbccebdhdppegaa
open Go.ChangeShapes Go.WideShapes Go.ChangeAt Go.RowKit
set_option linter.unusedVariables false
attribute [local go_sem] bs_size bs_app bs_cut bs_tl bs_at
section
variable {w : World} {b m : Nat} {L : List KV}
theorem clone_map (h : MapAt w m L) : Calls Try.prog 21 #[.map (some m)] w (fun e w' => ∃ m2, e = .returned (.map (some m2)) ∧ m2 = w.heap.size ∧ Chg noBlk w w' ∧ MapAt w' m2 L) :=
  (AnyW.maps_Clone_owns Try.clone21 9 cellR m L.length (dat L) w h).mono fun e w' ⟨h1, h2, _, h4⟩ => ⟨_, h1, rfl, Chg.ofBelow h4, h2⟩
/-- told: another store that has L -/
def NewS (L : List KV) (w : World) (e : Ending) (w' : World) : Prop := ∃ b m, e = .returned (.pointer (some ⟨b, 0, none⟩)) ∧ w.heap.size ≤ b ∧ w.heap.size ≤ m ∧ Chg noBlk w w' ∧ StAt w' b m L
theorem copy_at (h : StAt w b m L) : Calls Try.prog 9 #[.pointer (some ⟨b, 0, none⟩)] w (NewS L w) := by
  have hin := hide (isnone_at h)
  have hcl := hide (clone_map h.m)
  have c0 := h.c0
  clear h
  go_enter Try.func9, Try.ntmps9
  go_wp2_with (first
    | (go_at_call 20; (with_reducible refine (unhide hin).mono ?_); rintro e w2 ⟨rfl, rfl⟩)
    | (go_at_call 21; (with_reducible refine (unhide hcl).mono ?_); rintro e w2 ⟨m2, rfl, e2, k2, h2⟩; have e3 : w.heap.size ≤ m2 := Nat.le_of_eq e2.symm; clear e2))
  go_ret
  exact ⟨w2.heap.size, m2, rfl, k2.size, e3, k2.alloc _, heap_alloc_new w2 _, h2.no ((Chg.refl _ _).alloc _)⟩
theorem keys_fn (h : MapAt w m L) (hn : L.length ≤ 1000000) : Calls Try.prog 29 #[.func (.func 37) #[] #[.pointer (some ⟨w.heap.size, 0, none⟩)]] (w.alloc (.cells #[.map (some m)] 45))
    (fun e w' => ∃ v, e = .returned v ∧ Chg noBlk (w.alloc (.cells #[.map (some m)] 45)) w' ∧ w'.ownsRow w.heap.size 9 1 v L.length (L.map fun c => str c.key)) := by
  have hs : ∀ k, AnyZ.SortsIn Try.prog Try.sorted29_ren Fence.wide k := fun k =>
    ⟨fun blk off cap ss W hH hblk hsz => callsIn_wide.2 (AnyM.slices_Sort_string Try.sort36 blk off cap ss W hH hblk hsz), fun p cap W => callsIn_wide.2 (AnyM.slices_Sort_string_none Try.sort36 p cap W)⟩
  have hsz : Maps.size (dat L) ≤ 1000000 := by rw [dat_size]; exact hn
  have hseq : SeqGives Fence.wide 2 Try.prog 37 #[.pointer (some ⟨w.heap.size, 0, none⟩)] encStr (fun ss => ss.Perm (strKeys (dat L))) (Maps.size (dat L)) (w.alloc (.cells #[.map (some m)] 45)) :=
    AnyZ.keys_gives (ρ := Try.keys30_ren) { Try.keys30 with } Fence.wide _ trivial rfl (by omega) w.heap.size m L.length (dat L) _ (by simp) (by simp) (h.no ((Chg.refl _ _).alloc _))
  have hc := callsIn_wide.1 (AnyZ.sorted_in Try.sorted29 Fence.wide 5 trivial trivial trivial trivial rfl (by omega) (hs _) (enters_of Try.func36 (by kernel_rfl) rfl) 37 #[.pointer (some ⟨w.heap.size, 0, none⟩)] trivial (enters_of Try.func37 (by kernel_rfl) rfl) _ _ (by unfold maxLen; omega) (by omega) _ hseq)
  refine hc.mono ?_
  rintro e w' ⟨v, ss, rfl, hp, hrow, _, hb⟩
  rw [dat_keys] at hp
  have hl : ss.length = L.length := by rw [hp.length_eq]; simp
  rw [rise_keys h.rise hp, hl] at hrow
  have e : (L.map (·.key)).map encStr = L.map fun c => str c.key := by rw [List.map_map]; rfl
  rw [e] at hrow
  exact ⟨v, rfl, Chg.ofBelow hb, ownsRow_base_a hrow (by simp)⟩
theorem keys_it (m : Nat) (w : World) : Calls Try.prog 30 #[.map (some m)] w (fun e w' => e = .returned (.func (.func 37) #[] #[.pointer (some ⟨w.heap.size, 0, none⟩)]) ∧ w' = w.alloc (.cells #[.map (some m)] 45)) :=
  callsIn_wide.1 (AnyZ.keys_in Try.keys30 Fence.wide 5 trivial rfl (some m) w)
/-- told: the keys, in a new slice -/
def KeysS (L : List KV) (w : World) (e : Ending) (w' : World) : Prop := ∃ v, e = .returned v ∧ Chg noBlk w w' ∧ w'.ownsRow w.heap.size 9 1 v L.length (L.map fun c => str c.key)
theorem keys_at (h : StAt w b m L) (hn : L.length ≤ 1000000) : Calls Try.prog 17 #[.pointer (some ⟨b, 0, none⟩)] w (KeysS L w) := by
  have hin := hide (isnone_at h)
  have hk := hide (keys_it m)
  have hs := hide (keys_fn h.m hn)
  have c0 := h.c0
  clear h hn
  go_enter Try.func17, Try.ntmps17
  go_wp2_with (first
    | (go_at_call 20; (with_reducible refine (unhide hin).mono ?_); rintro e w2 ⟨rfl, rfl⟩)
    | (go_at_call 30; (with_reducible refine (unhide hk _).mono ?_); rintro e w2 ⟨rfl, rfl⟩)
    | (go_at_call 29; (with_reducible refine (unhide hs).mono ?_); rintro e w3 ⟨v, rfl, k3, hr⟩))
  go_ret
  exact ⟨v, rfl, ((Chg.refl _ _).alloc _).andNo k3, hr⟩
end
end Go.Proofs.Ytbccebdhdppegaa
