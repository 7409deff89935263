/-
  Small facts of no program: bytes in a row as a text; what is kept.
-/
import Derived.WalkKit
import Derived.ProofKit
import Derived.Lib.Hide
import Derived.Below
import Derived.Laws.BytesArg
import Derived.Laws.AppendOwn
namespace Go.Proofs.Ytngldlfobdiipaa
open Go.ChangeShapes Go.WideShapes Go.ChangeAt Go.RowKit

/-- a text of bytes -/
def bs (l : List UInt8) : ByteArray := ⟨l.toArray⟩
abbrev str (l : List UInt8) : Value := .string (bs l)
theorem bs_size (l : List UInt8) : (bs l).size = l.length := by simp [bs, ByteArray.size]
theorem bs_app (l r : List UInt8) : bs l ++ bs r = bs (l ++ r) := by
  apply ByteArray.ext; simp [bs]
theorem bs_list (s : ByteArray) : s = bs s.data.toList := by apply ByteArray.ext; simp [bs]
theorem bs_toList (l : List UInt8) : (bs l).data.toList = l := by simp [bs]
theorem bs_tl (l : List UInt8) : (bs l).toList = l := by unfold bs; exact ByteArray.toList_mk l
theorem bs_cut (l : List UInt8) (i j : Nat) : (bs l).extract i j = bs ((l.take j).drop i) := by
  apply ByteArray.ext; apply Array.toList_inj.1; simp [bs, List.drop_take]
theorem bs_at (l : List UInt8) (i : Nat) (h : i < (bs l).size) : (bs l)[i] = l[i]'(by rw [bs_size] at h; exact h) := by
  show (bs l).data[i] = _; simp [bs]
theorem bs_inj {l r : List UInt8} : bs l = bs r ↔ l = r := by
  constructor
  · intro h; have := congrArg (fun x => x.data.toList) h; simpa [bs] using this
  · rintro rfl; rfl
/-- bytes as a row's cells -/
def cellsOf (l : List UInt8) : List Value := l.map fun b => .int .u8 (b.toNat : Int)
theorem cellsOf_len (l : List UInt8) : (cellsOf l).length = l.length := by simp [cellsOf]
theorem cellsOf_app (l r : List UInt8) : cellsOf (l ++ r) = cellsOf l ++ cellsOf r := by simp [cellsOf]
theorem cellsOf_one (l : List UInt8) : ∀ u ∈ cellsOf l, u.oneCell' = true := by
  intro u hu; simp only [cellsOf, List.mem_map] at hu; obtain ⟨b, _, rfl⟩ := hu; rfl
theorem run_text {P : Program} (w : World) (src dst e : TypeId) (hs : P.underlying src = some (.slice e)) (he : P.underlying e = some (.int .u8)) (hd : P.underlying dst = some .string)
    (b off cap : Nat) (l : List UInt8) (n : Nat) (hn : l.length = n) (hc : ∀ j u, (cellsOf l)[j]? = some u → w.cell? ⟨b, off + j, none⟩ = some u) :
    (convert src dst (.slice (some ⟨b, off, none⟩) n cap)).run P w = .ok (str l) w := by
  have h := run_convert_bytes_arg (P := P) w src e hs he b off n cap (l.map fun x => (x.toNat : Int)) (by simp [hn]) (fun i hi => by
    have e1 : (cellsOf l)[i]? = some (.int .u8 ((l[i]'(by omega)).toNat : Int)) := by simp [cellsOf, hn, hi]
    rw [hc i _ e1]; simp [List.getD, hn, hi]) dst hd
  rw [h]; unfold str bs; congr 2
  apply ByteArray.ext; apply Array.toList_inj.1
  rw [strOfNums_data, List.map_map]
  show _ = l
  conv => rhs; rw [← List.map_id l]
  apply List.map_congr_left
  intro x _; simp
theorem run_text_own {P : Program} (w : World) (src dst e : TypeId) (hs : P.underlying src = some (.slice e)) (he : P.underlying e = some (.int .u8)) (hd : P.underlying dst = some .string)
    {base : Nat} {v : Value} {n : Nat} {l : List UInt8} (h : w.ownsRow base e 1 v n (cellsOf l)) : (convert src dst v).run P w = .ok (str l) w := by
  have hl : l.length = n := by have := h.1; simp [cellsOf] at this; omega
  rcases h.2 with ⟨rfl, rfl⟩ | ⟨g, cap, cur, rfl, h1, h2, h3, h4, h5, h6⟩
  · have : l = [] := List.eq_nil_of_length_eq_zero hl
    subst this
    rw [run_convert_bytes_nil w src e hs he 0 0 dst hd]; rfl
  · refine run_text w src dst e hs he hd g 0 cap l n hl (fun j u hu => ?_)
    have := h.cells (g := g) rfl j u hu
    have e1 : (⟨g, 0, none⟩ : Addr).add j = ⟨g, 0 + j, none⟩ := by unfold Addr.add; split <;> simp_all
    rwa [e1] at this
theorem own_new {w : World} {e : TypeId} {cs : Array Value} {n : Nat} {xs : List Value} (hn : xs.length = n) (hx : cs.toList = xs) (hm : n ≤ maxLen) :
    (w.alloc (.cells cs e)).ownsRow w.heap.size e 1 (.slice (some ⟨w.heap.size, 0, none⟩) n n) n xs := by
  have hc : cs.size = n := by rw [← hn, ← hx]; simp
  exact ⟨by simp [hn], .inr ⟨w.heap.size, n, cs, rfl, Nat.le_refl _, heap_alloc_new w _, Nat.le_refl _, hm, by omega, by rw [hx, Nat.mul_one, ← hn, List.take_length]⟩⟩
end Go.Proofs.Ytngldlfobdiipaa
