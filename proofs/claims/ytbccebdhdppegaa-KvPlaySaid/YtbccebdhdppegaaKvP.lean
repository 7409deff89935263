/-
  Keys with values: a swap is done, or tells why: both ways together.
-/
import Derived.Test.YtbccebdhdppegaaKvO
namespace Go.Proofs.Ytbccebdhdppegaa
open Go.ChangeShapes Go.WideShapes Go.ChangeAt Go.RowKit
theorem kvswap_any (ad : Option Addr) (l : List AT) (cap : Nat) (o : PT) (p : Nat) (hp : p ≤ 65535) (w : World) (h : ActsIn w ad l) (hm : l.length ≤ 9223372036854775807) :
    Calls Try.prog 5 #[.slice ad l.length cap, .agg o.cells.toArray, .int .u16 (p : Int)] w (ToldN (.bool true) w) := by
  by_cases hg : greatL l 60 = true
  · exact swap_out ad l cap o p w h hm (.inl hg)
  by_cases hc : chk (swp o 0) = 0
  · exact swap_in ad l cap o p hp w h (by simpa using hg) hc
  · exact swap_out ad l cap o p w h hm (.inr hc)
end Go.Proofs.Ytbccebdhdppegaa
