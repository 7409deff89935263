/-
  Buckets: ticks that are too many are not gone through.
-/
import Derived.Test.YthnppnihpelbaaaBucketsN
namespace Go.Proofs.Ythnppnihpelbaaa
open Go.ChangeShapes Go.WideShapes Go.ChangeAt Go.RowKit
set_option linter.unusedVariables false
set_option maxRecDepth 100000 in
theorem few_out (p p2 : Nat) (ad : Option Addr) (n : Nat) (cap : Nat) (w : World) (hn : 150 < n) :
    Calls Try.prog 5 #[.int .u8 (p : Int), .int .u8 (p2 : Int), .slice ad n cap] w (ToldB true w) := by
  go_enter Try.func5, Try.ntmps5
  go_wp2_with (first
    | (go_at_call 6; refine (filled_any _).mono ?_; rintro e w4 ⟨rfl, k4⟩))
  go_ret
  exact ⟨rfl, k4⟩
theorem few_any (p p2 : Nat) (hp : p ≤ 255) (hp2 : p2 ≤ 255) (ad : Option Addr) (l : List Nat) (cap : Nat) (w : World) (h : BytesIn w ad l) :
    Calls Try.prog 5 #[.int .u8 (p : Int), .int .u8 (p2 : Int), .slice ad l.length cap] w (ToldB true w) := by
  by_cases hl : l.length ≤ 150
  · exact few_in p p2 hp hp2 ad l cap w hl h
  · exact few_out p p2 ad l.length cap w (by omega)
end Go.Proofs.Ythnppnihpelbaaa
