/-
  No cell of these rows narrows 'for every input' (looked for: loops, veiled, ifaces, maps, wideKeys, modest, calm, conditions, laid).
  DERIVED. THE GIVEN ROWS OF THIS SEAT. 3 by the template 'for every input the law returns true; each argument reads behind the call as it read before'; 0 by the template 'total and deterministic' (their statements: YtpgmpfhhmnnejaaTotals.lean).
  GIVEN WITH THE SEED: the statements are not yours to turn. If you find one false, say at which input.
  Laid BY PROGRAM, IN A SANDBOX (cutbox-rows.mjs): the forced cells as the released guide's own fill.sh prints them over the translation 97e9da4faa110059… (all of the seat's roots in one cut). By AI agents, Wed Nov 11 2026. No macro, syntax, notation, axiom, sorry.
-/
import Derived.Test.YtpgmpfhhmnnejaaChecked
import GoSem.Claim
import GoSem.ClaimJoined
import GoSem.ClaimMapViews
import Derived.JoinedTies
import Derived.KernelRfl
namespace Go.Proofs.Ytpgmpfhhmnnejaa
/- THE CELL 'sum', in the pinned program and in every row, IS THE sha256 OF THE DUMP (.gsa) THAT YtpgmpfhhmnnejaaProg.lean LOADS. Nothing in Lean hashes anything: it is a label: what it is worth is what the hold of that sum in a sandbox is worth. -/
noncomputable def Try.pinned : Pinned := { name := "ytpgmpfhhmnnejaa", sum := "97e9da4faa1100599da2a932e27f23e152ab4d224122828c615ff9874fb6db89", checked := Try.checked }
namespace Rows
def none {H : Type} : Left H := { results := [], args := [] }

/-- 'fairwaylaw07.CountsPlay': WHATEVER THE INPUT: true; the input reads as it did. -/
def countsPlaySpec : ChangeSpec := { name := "countsPlay", fn := fun _ => fun
  | [d1, d2] => { results := [.lit (.bool true)], args := [d1, d2] }
  | _ => none }
def countsPlayRow : OpenClaim := { program := "ytpgmpfhhmnnejaa", sum := "97e9da4faa1100599da2a932e27f23e152ab4d224122828c615ff9874fb6db89", func := "fairway/fairwaylaw07.CountsPlay", spec := "countsPlay", inPlace := ["sync/atomic.LoadInt64", "sync/atomic.CompareAndSwapInt64", "sync/atomic.StoreInt64"], apart := false }
def CountsPlaySaid : Prop := countsPlayRow.holds Try.pinned (OpenSpec.ofChange countsPlaySpec)

/-- ITS FALSE NEIGHBOUR: 'it returns false'. Refute it at one input. -/
def countsPlayWrong : ChangeSpec := { name := "countsPlay", fn := fun _ => fun
  | [d1, d2] => { results := [.lit (.bool false)], args := [d1, d2] }
  | _ => none }
def CountsPlayWrongFalsely : Prop := countsPlayRow.holds Try.pinned (OpenSpec.ofChange countsPlayWrong)

/-- 'fairwaylaw07.CountsNone': WHATEVER THE INPUT: true; the input reads as it did. -/
def countsNoneSpec : ChangeSpec := { name := "countsNone", fn := fun _ => fun
  | [d] => { results := [.lit (.bool true)], args := [d] }
  | _ => none }
def countsNoneRow : OpenClaim := { program := "ytpgmpfhhmnnejaa", sum := "97e9da4faa1100599da2a932e27f23e152ab4d224122828c615ff9874fb6db89", func := "fairway/fairwaylaw07.CountsNone", spec := "countsNone", inPlace := ["sync/atomic.LoadInt64", "sync/atomic.CompareAndSwapInt64", "sync/atomic.StoreInt64"], apart := false }
def CountsNoneSaid : Prop := countsNoneRow.holds Try.pinned (OpenSpec.ofChange countsNoneSpec)

/-- ITS FALSE NEIGHBOUR: 'it returns false'. Refute it at one input. -/
def countsNoneWrong : ChangeSpec := { name := "countsNone", fn := fun _ => fun
  | [d] => { results := [.lit (.bool false)], args := [d] }
  | _ => none }
def CountsNoneWrongFalsely : Prop := countsNoneRow.holds Try.pinned (OpenSpec.ofChange countsNoneWrong)

/-- 'fairwaylaw07.CountsOrder': WHATEVER THE INPUT: true; the input reads as it did. -/
def countsOrderSpec : ChangeSpec := { name := "countsOrder", fn := fun _ => fun
  | [d1, d2] => { results := [.lit (.bool true)], args := [d1, d2] }
  | _ => none }
def countsOrderRow : OpenClaim := { program := "ytpgmpfhhmnnejaa", sum := "97e9da4faa1100599da2a932e27f23e152ab4d224122828c615ff9874fb6db89", func := "fairway/fairwaylaw07.CountsOrder", spec := "countsOrder", inPlace := ["sync/atomic.LoadInt64", "sync/atomic.CompareAndSwapInt64"], apart := false }
def CountsOrderSaid : Prop := countsOrderRow.holds Try.pinned (OpenSpec.ofChange countsOrderSpec)

/-- ITS FALSE NEIGHBOUR: 'it returns false'. Refute it at one input. -/
def countsOrderWrong : ChangeSpec := { name := "countsOrder", fn := fun _ => fun
  | [d1, d2] => { results := [.lit (.bool false)], args := [d1, d2] }
  | _ => none }
def CountsOrderWrongFalsely : Prop := countsOrderRow.holds Try.pinned (OpenSpec.ofChange countsOrderWrong)

/- THE SECOND FORM. 'bulk': how many values and letters a reading holds, each counted each time it is reached (what is shared counts as often as it is met; a slice's spare places count too). A statement '..UptoSaid' is the law's where the arguments, and the package variables that the reading takes, are together of bulk at most 1048576: NARROWER than '..Said'. Prove '..Said' where nothing that the law and all that it calls make is longer than what came in: it says more and counts as full. Else prove '..UptoSaid'. A law counts once. -/
mutual
def uptoBulk {H : Type} : DataW H → Nat
  | .lit (.string bytes) => bytes.length + 1
  | .lit _ => 1
  | .nil => 1
  | .ptr d => uptoBulk d + 1
  | .slice elems spare => uptoBulkAll elems + uptoBulkAll spare + 1
  | .agg parts => uptoBulkAll parts + 1
  | .iface _ d => uptoBulk d + 1
  | .map entries => uptoBulkEntries entries + 1
  | .held _ => 1
def uptoBulkAll {H : Type} : List (DataW H) → Nat
  | [] => 0
  | d :: r => uptoBulk d + uptoBulkAll r
def uptoBulkEntries {H : Type} : List (Lit × DataW H) → Nat
  | [] => 0
  | x :: r => uptoBulkEntry x + uptoBulkEntries r
def uptoBulkEntry {H : Type} : Lit × DataW H → Nat
  | (.string bytes, d) => bytes.length + uptoBulk d + 1
  | (_, d) => uptoBulk d + 1
 end
def uptoSmall : (H : Type) → List (DataW H) → Bool := fun _ ds => decide (uptoBulkAll ds ≤ 1048576)
def OpenSpec.upto (s : _root_.Go.ChangeSpec) : _root_.Go.OpenSpec := { _root_.Go.OpenSpec.ofChange s with cond := some uptoSmall }

/-- 'fairwaylaw07.CountsPlay', WHERE WHAT IT READS IS OF BULK AT MOST 1048576: true; the input reads as it did. -/
def countsPlayUptoRow : OpenClaim := { program := "ytpgmpfhhmnnejaa", sum := "97e9da4faa1100599da2a932e27f23e152ab4d224122828c615ff9874fb6db89", func := "fairway/fairwaylaw07.CountsPlay", spec := "countsPlay", inPlace := ["sync/atomic.LoadInt64", "sync/atomic.CompareAndSwapInt64", "sync/atomic.StoreInt64"], apart := false, narrowed := true }
def CountsPlayUptoSaid : Prop := countsPlayUptoRow.holds Try.pinned (OpenSpec.upto countsPlaySpec)

/-- 'fairwaylaw07.CountsNone', WHERE WHAT IT READS IS OF BULK AT MOST 1048576: true; the input reads as it did. -/
def countsNoneUptoRow : OpenClaim := { program := "ytpgmpfhhmnnejaa", sum := "97e9da4faa1100599da2a932e27f23e152ab4d224122828c615ff9874fb6db89", func := "fairway/fairwaylaw07.CountsNone", spec := "countsNone", inPlace := ["sync/atomic.LoadInt64", "sync/atomic.CompareAndSwapInt64", "sync/atomic.StoreInt64"], apart := false, narrowed := true }
def CountsNoneUptoSaid : Prop := countsNoneUptoRow.holds Try.pinned (OpenSpec.upto countsNoneSpec)

/-- 'fairwaylaw07.CountsOrder', WHERE WHAT IT READS IS OF BULK AT MOST 1048576: true; the input reads as it did. -/
def countsOrderUptoRow : OpenClaim := { program := "ytpgmpfhhmnnejaa", sum := "97e9da4faa1100599da2a932e27f23e152ab4d224122828c615ff9874fb6db89", func := "fairway/fairwaylaw07.CountsOrder", spec := "countsOrder", inPlace := ["sync/atomic.LoadInt64", "sync/atomic.CompareAndSwapInt64"], apart := false, narrowed := true }
def CountsOrderUptoSaid : Prop := countsOrderUptoRow.holds Try.pinned (OpenSpec.upto countsOrderSpec)

end Rows
end Go.Proofs.Ytpgmpfhhmnnejaa
