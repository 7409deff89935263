/-
  Chains: a chain that is handed in.
-/
import Derived.Test.YtfplgmkbhpdmjaaChainsE
import Derived.OpenShut
namespace Go.Proofs.Ytfplgmkbhpdmjaa.Ch
open Go.ChangeShapes Go.WideShapes Go.ChangeAt Go.RowKit Go.Deep
set_option linter.unusedVariables false
theorem trod_mem {H : Type} {enc : TypeId × Value → H} {w : World} {base : Nat} {spare : Nat → Bool} {held : Bool} {fuel : Nat} {cs : List Value} {x : DataW H × List MemPlace}
    (h : DataW.trod enc Try.prog w base spare held fuel 61 cs = some x) : ∃ m : MT, cs = m.cells ∧ True := by
  have hu := Try.underlying61
  have hlen : cs.length = 2 := (struct_len hu h).trans (by kernel_rfl)
  obtain ⟨k, hk, wk⟩ := int_at hu h 0 0 3 rfl (k := .i64) Try.underlying3 (by kernel_rfl)
  obtain ⟨n, hn, wn⟩ := int_at hu h 1 1 3 rfl (k := .i64) Try.underlying3 (by kernel_rfl)
  refine ⟨⟨k, n⟩, ?_, trivial⟩
  match cs, hlen with
  | [a, b], _ =>
    simp at hk hn
    rw [hk, hn]
    rfl
/-- a slice's members at hand -/
structure Sl0 (w : World) (ad : Option Addr) (cap : Nat) (L : List MT) : Prop where
  rows : RowsIn MT.cells (fun _ => True) 2 w ad L
  room : L.length ≤ cap
  top : L.length ≤ 9223372036854775807
  nil : ad = none → cap = 0
theorem Sl0.sl {w : World} {ad : Option Addr} {cap : Nat} {L : List MT} (h : Sl0 w ad cap L) (hf : L.length ≤ 100) : Sl w ad cap L := ⟨h.rows, h.room, hf, h.nil⟩
theorem trod_mems {H : Type} {enc : TypeId × Value → H} {w : World} {base : Nat} {spare : Nat → Bool} {held : Bool} {fuel : Nat} {cs : List Value} {x : DataW H × List MemPlace}
    (h : DataW.trod enc Try.prog w base spare held fuel 29 cs = some x) : ∃ (L : List MT) (ad : Option Addr) (cap : Nat), cs = [.slice ad L.length cap] ∧ Sl0 w ad cap L := by
  have h0 := h
  rcases slice_rows (m := 2) (by kernel_rfl) Try.underlying29 h with e | ⟨a, len, cap, rows, e, h1, h2, _, _⟩
  · exact ⟨[], none, 0, e, fun i x hx => by simp at hx, by simp, by simp, fun _ => rfl⟩
  · subst e
    obtain ⟨L, hl, hm, hR⟩ := rows_in MT.cells (fun _ => True) 2 (by kernel_rfl) (by omega) Try.underlying29 (fun cs n y h => trod_mem h) h0
    subst hl
    exact ⟨L, some a, cap, rfl, hR, h1, hm, fun e => by cases e⟩
theorem trod_ch {H : Type} {enc : TypeId × Value → H} {w : World} {base : Nat} {spare : Nat → Bool} {held : Bool} {fuel : Nat} {cs : List Value} {x : DataW H × List MemPlace}
    (h : DataW.trod enc Try.prog w base spare held fuel 31 cs = some x) : ∃ (c : CT) (ad : Option Addr) (cap : Nat), cs = (chC c (.slice ad c.ms.length cap)).toList ∧ Sl0 w ad cap c.ms := by
  have hu := Try.underlying31
  have hlen : cs.length = 3 := (struct_len hu h).trans (by kernel_rfl)
  obtain ⟨k, hk, wk⟩ := int_at hu h 0 0 3 rfl (k := .i64) Try.underlying3 (by kernel_rfl)
  obtain ⟨n, hn, wn⟩ := int_at hu h 2 2 3 rfl (k := .i64) Try.underlying3 (by kernel_rfl)
  obtain ⟨sub, m, y, hy, hj⟩ := field_sub hu h 1 1 29 1 rfl (by kernel_rfl)
  obtain ⟨L, ad, cap, rfl, s⟩ := trod_mems hy
  have hv := hj 0 (by omega)
  refine ⟨⟨k, L, n⟩, ad, cap, ?_, s⟩
  match cs, hlen with
  | [a, b, d], _ =>
    simp at hk hn hv
    rw [hk, hn, ← hv]
#print axioms trod_ch
end Go.Proofs.Ytfplgmkbhpdmjaa.Ch
