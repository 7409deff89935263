/-
  No cell of these rows narrows 'for every input' (looked for: loops, veiled, ifaces, maps, wideKeys, modest, calm, conditions, laid).
  DERIVED. THE GIVEN ROWS OF THIS SEAT. 4 by the template 'for every input the law returns true; each argument reads behind the call as it read before'; 0 by the template 'total and deterministic' (their statements: YtmknjeomkfoidaaTotals.lean).
  GIVEN WITH THE SEED: the statements are not yours to turn. If you find one false, say at which input.
  Laid BY PROGRAM, IN A SANDBOX (cutbox-rows.mjs): the forced cells as the released guide's own fill.sh prints them over the translation 4f5b7608bee3ab9e… (all of the seat's roots in one cut). By AI agents, Wed Nov 11 2026. No macro, syntax, notation, axiom, sorry.
-/
import Derived.Test.YtmknjeomkfoidaaChecked
import GoSem.Claim
import GoSem.ClaimJoined
import GoSem.ClaimMapViews
import Derived.JoinedTies
import Derived.KernelRfl
namespace Go.Proofs.Ytmknjeomkfoidaa
/- THE CELL 'sum', in the pinned program and in every row, IS THE sha256 OF THE DUMP (.gsa) THAT YtmknjeomkfoidaaProg.lean LOADS. Nothing in Lean hashes anything: it is a label: what it is worth is what the hold of that sum in a sandbox is worth. -/
noncomputable def Try.pinned : Pinned := { name := "ytmknjeomkfoidaa", sum := "4f5b7608bee3ab9e55b34c030b56de94c56ec6f2cadc9e83f6550ee06e3ce727", checked := Try.checked }
namespace Rows
def none {H : Type} : Left H := { results := [], args := [] }

/-- 'fairwaylaw09.OpsTell': WHATEVER THE INPUT: true; the input reads as it did. -/
def opsTellSpec : ChangeSpec := { name := "opsTell", fn := fun _ => fun
  | [d] => { results := [.lit (.bool true)], args := [d] }
  | _ => none }
def opsTellRow : OpenClaim := { program := "ytmknjeomkfoidaa", sum := "4f5b7608bee3ab9e55b34c030b56de94c56ec6f2cadc9e83f6550ee06e3ce727", func := "fairway/fairwaylaw09.OpsTell", spec := "opsTell", recurses := true, apart := false }
def OpsTellSaid : Prop := opsTellRow.holds Try.pinned (OpenSpec.ofChange opsTellSpec)

/-- ITS FALSE NEIGHBOUR: 'it returns false'. Refute it at one input. -/
def opsTellWrong : ChangeSpec := { name := "opsTell", fn := fun _ => fun
  | [d] => { results := [.lit (.bool false)], args := [d] }
  | _ => none }
def OpsTellWrongFalsely : Prop := opsTellRow.holds Try.pinned (OpenSpec.ofChange opsTellWrong)

/-- 'fairwaylaw09.OpsGet': WHATEVER THE INPUT: true; the input reads as it did. -/
def opsGetSpec : ChangeSpec := { name := "opsGet", fn := fun _ => fun
  | [d] => { results := [.lit (.bool true)], args := [d] }
  | _ => none }
def opsGetRow : OpenClaim := { program := "ytmknjeomkfoidaa", sum := "4f5b7608bee3ab9e55b34c030b56de94c56ec6f2cadc9e83f6550ee06e3ce727", func := "fairway/fairwaylaw09.OpsGet", spec := "opsGet", recurses := true, apart := false }
def OpsGetSaid : Prop := opsGetRow.holds Try.pinned (OpenSpec.ofChange opsGetSpec)

/-- ITS FALSE NEIGHBOUR: 'it returns false'. Refute it at one input. -/
def opsGetWrong : ChangeSpec := { name := "opsGet", fn := fun _ => fun
  | [d] => { results := [.lit (.bool false)], args := [d] }
  | _ => none }
def OpsGetWrongFalsely : Prop := opsGetRow.holds Try.pinned (OpenSpec.ofChange opsGetWrong)

/-- 'fairwaylaw09.OpsBack': WHATEVER THE INPUT: true; the input reads as it did. -/
def opsBackSpec : ChangeSpec := { name := "opsBack", fn := fun _ => fun
  | [d1, d2] => { results := [.lit (.bool true)], args := [d1, d2] }
  | _ => none }
def opsBackRow : OpenClaim := { program := "ytmknjeomkfoidaa", sum := "4f5b7608bee3ab9e55b34c030b56de94c56ec6f2cadc9e83f6550ee06e3ce727", func := "fairway/fairwaylaw09.OpsBack", spec := "opsBack", apart := false }
def OpsBackSaid : Prop := opsBackRow.holds Try.pinned (OpenSpec.ofChange opsBackSpec)

/-- ITS FALSE NEIGHBOUR: 'it returns false'. Refute it at one input. -/
def opsBackWrong : ChangeSpec := { name := "opsBack", fn := fun _ => fun
  | [d1, d2] => { results := [.lit (.bool false)], args := [d1, d2] }
  | _ => none }
def OpsBackWrongFalsely : Prop := opsBackRow.holds Try.pinned (OpenSpec.ofChange opsBackWrong)

/-- 'fairwaylaw09.OpsForm': WHATEVER THE INPUT: true; the input reads as it did. -/
def opsFormSpec : ChangeSpec := { name := "opsForm", fn := fun _ => fun
  | [d] => { results := [.lit (.bool true)], args := [d] }
  | _ => none }
def opsFormRow : OpenClaim := { program := "ytmknjeomkfoidaa", sum := "4f5b7608bee3ab9e55b34c030b56de94c56ec6f2cadc9e83f6550ee06e3ce727", func := "fairway/fairwaylaw09.OpsForm", spec := "opsForm", apart := false }
def OpsFormSaid : Prop := opsFormRow.holds Try.pinned (OpenSpec.ofChange opsFormSpec)

/-- ITS FALSE NEIGHBOUR: 'it returns false'. Refute it at one input. -/
def opsFormWrong : ChangeSpec := { name := "opsForm", fn := fun _ => fun
  | [d] => { results := [.lit (.bool false)], args := [d] }
  | _ => none }
def OpsFormWrongFalsely : Prop := opsFormRow.holds Try.pinned (OpenSpec.ofChange opsFormWrong)

/- THE SECOND FORM. 'bulk': how many values and letters a reading holds, each counted each time it is reached (what is shared counts as often as it is met; a slice's spare places count too). A statement '..UptoSaid' is the law's where the arguments, and the package variables that the reading takes, are together of bulk at most 1048576: NARROWER than '..Said'. Prove '..Said' where nothing that the law and all that it calls make is longer than what came in: it says more and counts as full. Else prove '..UptoSaid'. A law counts once. -/
mutual
def uptoBulk {H : Type} : DataW H → Nat
  | .lit (.string bytes) => bytes.length + 1
  | .lit _ => 1
  | .nil => 1
  | .ptr d => uptoBulk d + 1
  | .slice elems spare => uptoBulkAll elems + uptoBulkAll spare + 1
  | .agg parts => uptoBulkAll parts + 1
  | .iface _ d => uptoBulk d + 1
  | .map entries => uptoBulkEntries entries + 1
  | .held _ => 1
def uptoBulkAll {H : Type} : List (DataW H) → Nat
  | [] => 0
  | d :: r => uptoBulk d + uptoBulkAll r
def uptoBulkEntries {H : Type} : List (Lit × DataW H) → Nat
  | [] => 0
  | x :: r => uptoBulkEntry x + uptoBulkEntries r
def uptoBulkEntry {H : Type} : Lit × DataW H → Nat
  | (.string bytes, d) => bytes.length + uptoBulk d + 1
  | (_, d) => uptoBulk d + 1
 end
def uptoSmall : (H : Type) → List (DataW H) → Bool := fun _ ds => decide (uptoBulkAll ds ≤ 1048576)
def OpenSpec.upto (s : _root_.Go.ChangeSpec) : _root_.Go.OpenSpec := { _root_.Go.OpenSpec.ofChange s with cond := some uptoSmall }

/-- 'fairwaylaw09.OpsTell', WHERE WHAT IT READS IS OF BULK AT MOST 1048576: true; the input reads as it did. -/
def opsTellUptoRow : OpenClaim := { program := "ytmknjeomkfoidaa", sum := "4f5b7608bee3ab9e55b34c030b56de94c56ec6f2cadc9e83f6550ee06e3ce727", func := "fairway/fairwaylaw09.OpsTell", spec := "opsTell", recurses := true, apart := false, narrowed := true }
def OpsTellUptoSaid : Prop := opsTellUptoRow.holds Try.pinned (OpenSpec.upto opsTellSpec)

/-- 'fairwaylaw09.OpsGet', WHERE WHAT IT READS IS OF BULK AT MOST 1048576: true; the input reads as it did. -/
def opsGetUptoRow : OpenClaim := { program := "ytmknjeomkfoidaa", sum := "4f5b7608bee3ab9e55b34c030b56de94c56ec6f2cadc9e83f6550ee06e3ce727", func := "fairway/fairwaylaw09.OpsGet", spec := "opsGet", recurses := true, apart := false, narrowed := true }
def OpsGetUptoSaid : Prop := opsGetUptoRow.holds Try.pinned (OpenSpec.upto opsGetSpec)

/-- 'fairwaylaw09.OpsBack', WHERE WHAT IT READS IS OF BULK AT MOST 1048576: true; the input reads as it did. -/
def opsBackUptoRow : OpenClaim := { program := "ytmknjeomkfoidaa", sum := "4f5b7608bee3ab9e55b34c030b56de94c56ec6f2cadc9e83f6550ee06e3ce727", func := "fairway/fairwaylaw09.OpsBack", spec := "opsBack", apart := false, narrowed := true }
def OpsBackUptoSaid : Prop := opsBackUptoRow.holds Try.pinned (OpenSpec.upto opsBackSpec)

/-- 'fairwaylaw09.OpsForm', WHERE WHAT IT READS IS OF BULK AT MOST 1048576: true; the input reads as it did. -/
def opsFormUptoRow : OpenClaim := { program := "ytmknjeomkfoidaa", sum := "4f5b7608bee3ab9e55b34c030b56de94c56ec6f2cadc9e83f6550ee06e3ce727", func := "fairway/fairwaylaw09.OpsForm", spec := "opsForm", apart := false, narrowed := true }
def OpsFormUptoSaid : Prop := opsFormUptoRow.holds Try.pinned (OpenSpec.upto opsFormSpec)

end Rows
end Go.Proofs.Ytmknjeomkfoidaa
