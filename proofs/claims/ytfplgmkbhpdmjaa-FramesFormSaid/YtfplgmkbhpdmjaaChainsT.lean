/-
  Chains: a contract of the function in Get that takes a number off.
-/
import Derived.Test.YtfplgmkbhpdmjaaChainsS
import Derived.Test.YtfplgmkbhpdmjaaChainsIX
namespace Go.Proofs.Ytfplgmkbhpdmjaa.Ch
open Go.ChangeShapes Go.WideShapes Go.ChangeAt Go.RowKit
set_option linter.unusedVariables false
attribute [local go_sem] bs_size bs_app bs_cut bs_tl bs_at
/-- what is left, and whether all was there, in two variables -/
structure TkAt (w : World) (bs bo : Nat) (l : List UInt8) (o : Bool) : Prop where
  s : w.heap[bs]? = some (.cells #[str l] 9 (0, 0))
  o : w.heap[bo]? = some (.cells #[.bool o] 4 (0, 0))
section
variable {w w' : World} {b1 b2 : Nat} {l : List UInt8} {o : Bool}
theorem TkAt.ne (h : TkAt w b1 b2 l o) : b1 ≠ b2 := ne_type h.s h.o (by decide)
theorem TkAt.no (h : TkAt w b1 b2 l o) (k : Chg noBlk w w') : TkAt w' b1 b2 l o := ⟨k.at h.s id, k.at h.o id⟩
theorem TkAt.kept {S : Nat → Prop} (h : TkAt w b1 b2 l o) (k : Chg S w w') (n1 : ¬ S b1) (n2 : ¬ S b2) : TkAt w' b1 b2 l o := ⟨k.at h.s n1, k.at h.o n2⟩
/-- told: a number; and it is off -/
def Took (b1 b2 : Nat) (l : List UInt8) (o : Bool) (w : World) (e : Ending) (w' : World) : Prop := e = .returned (.int .i64 (tkN l)) ∧ Chg (twoBlk b1 b2) w w' ∧ TkAt w' b1 b2 (tkR l) (o && tkO l)
set_option maxRecDepth 100000 in
theorem take_any (h : TkAt w b1 b2 l o) (hl : l.length ≤ 1048576) : Calls Try.prog 53 #[.pointer (some ⟨b1, 0, none⟩), .pointer (some ⟨b2, 0, none⟩)] w (Took b1 b2 l o w) := by
  have U := unint_n l hl
  have hn := h.ne
  show Calls Try.prog _ _ w (fun e w' => e = .returned (.int .i64 (unintT l).1) ∧ Chg (twoBlk b1 b2) w w' ∧ TkAt w' b1 b2 (unintT l).2.1 (o && (unintT l).2.2))
  generalize unintT l = t at *
  obtain ⟨n, r, b⟩ := t
  have HU := hide (fun w' => U w')
  have HT := hide (fun w' (k : Chg noBlk w w') => h.no k)
  have c0 : w.cell? ⟨b1, 0, none⟩ = some (str l) := cellAt h.s 0 _ rfl
  clear U h
  cases o
  · go_enter Try.func53, Try.ntmps53
    go_wp2_with (first
      | (go_at_call 30; (with_reducible refine (unhide HU _).mono ?_); rintro e w2 ⟨rfl, k2⟩; have s2 := (unhide HT _ k2).s; have o2 := (unhide HT _ k2).o; have c1 : w2.cell? ⟨b2, 0, none⟩ = some (.bool false) := cellAt o2 0 _ rfl)
      | ((with_reducible show wpList _ _ _ (_ :: _) _ _); first
        | (refine wpL_set rfl 9 (.tmp 0) (.tmp 12) rfl b1 0 (str r) rfl (by rfl) rfl (by kernel_rfl) _ _ s2 (by simp) ?_; intro w3 k3 g3 z3; have o3 := k3.at o2 (show ¬ b2 = b1 from fun e => hn e.symm))
        | (refine wpL_set rfl 4 (.tmp 1) (.tmp 16) rfl b2 0 (.bool false) rfl (by rfl) rfl (by kernel_rfl) _ _ o3 (by simp) ?_; intro w4 k4 g4 z4)))
    go_ret
    exact ⟨rfl, ((k2.no _).trans k3 fun _ _ e => .inl e).trans k4 fun _ _ e => .inr e, k4.at g3 (show ¬ b1 = b2 from hn), g4⟩
  · go_enter Try.func53, Try.ntmps53
    go_wp2_with (first
      | (go_at_call 30; (with_reducible refine (unhide HU _).mono ?_); rintro e w2 ⟨rfl, k2⟩; have s2 := (unhide HT _ k2).s; have o2 := (unhide HT _ k2).o; have c1 : w2.cell? ⟨b2, 0, none⟩ = some (.bool true) := cellAt o2 0 _ rfl)
      | ((with_reducible show wpList _ _ _ (_ :: _) _ _); first
        | (refine wpL_set rfl 9 (.tmp 0) (.tmp 12) rfl b1 0 (str r) rfl (by rfl) rfl (by kernel_rfl) _ _ s2 (by simp) ?_; intro w3 k3 g3 z3; have o3 := k3.at o2 (show ¬ b2 = b1 from fun e => hn e.symm))
        | (refine wpL_set rfl 4 (.tmp 1) (.tmp 16) rfl b2 0 (.bool b) rfl (by rfl) rfl (by kernel_rfl) _ _ o3 (by simp) ?_; intro w4 k4 g4 z4)))
    go_ret
    exact ⟨rfl, ((k2.no _).trans k3 fun _ _ e => .inl e).trans k4 fun _ _ e => .inr e, k4.at g3 (show ¬ b1 = b2 from hn), g4⟩
end
#print axioms take_any
end Go.Proofs.Ytfplgmkbhpdmjaa.Ch
