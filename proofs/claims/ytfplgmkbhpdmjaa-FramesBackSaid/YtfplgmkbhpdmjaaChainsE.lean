/-
  Chains: contracts of Head, Tail, Next, Prev, Since.
-/
import Derived.Test.YtfplgmkbhpdmjaaChainsD
namespace Go.Proofs.Ytfplgmkbhpdmjaa.Ch
open Go.ChangeShapes Go.WideShapes Go.ChangeAt Go.RowKit
set_option linter.unusedVariables false
theorem stepF_no {c : CT} {n b : Int} (h : pos n c.ms < 0) : stepF c n b = -1 := by unfold stepF; rw [if_pos h]
theorem stepF_at {c : CT} {n b : Int} (h : ¬ pos n c.ms < 0) : stepF c n b = nodeA c (pos n c.ms + b) := by unfold stepF; rw [if_neg h]
theorem stepF_prev (c : CT) (n : Int) : nodeA c (pos n c.ms - 1) = stepF c n (-1) := by
  by_cases h : pos n c.ms < 0
  · rw [stepF_no h, nodeA_lo (by omega)]
  · rw [stepF_at h]; rfl
theorem sinceF_bad {c : CT} {n : Int} (h : good c = false) : sinceF c n = (0, false) := by unfold sinceF; rw [if_neg (by simp [h])]
theorem sinceF_none {c : CT} {n : Int} (h : pos n c.ms < 0) : sinceF c n = (0, false) := by unfold sinceF; rw [if_neg (by omega)]
theorem sinceF_at {c : CT} {n : Int} {k : Nat} {x : MT} (h : good c = true) (hp : pos n c.ms = (k : Int)) (hx : c.ms[k]? = some x) : sinceF c n = (x.since, true) := by
  unfold sinceF
  rw [if_pos ⟨h, by omega⟩, hp, Int.toNat_natCast, hx]
/-- a chain's three cells, kept -/
theorem ch_keep {w1 : World} {p : Nat} {c : CT} {v : Value} (h : ChAt w1 p c v) : ∀ w', Chg noBlk w1 w' → Chg noBlk w1 w' ∧ w'.cell? ⟨p, 0, none⟩ = some (.int .i64 c.ep) ∧ w'.cell? ⟨p, 1, none⟩ = some v ∧ w'.cell? ⟨p, 2, none⟩ = some (.int .i64 c.dr) :=
  fun w' k => ⟨k, (h.no k).c0, (h.no k).c1, (h.no k).c2⟩
section
variable {w : World} {ad : Option Addr} {cap : Nat} {c : CT}
end
end Go.Proofs.Ytfplgmkbhpdmjaa.Ch
