/-
  Links: the law that whatever is done, each answer and all mail is the document's: whatever is given.
-/
import Derived.Test.YtngldlfobdiipaaLinksCc
namespace Go.Proofs.Ytngldlfobdiipaa.Lk
open Go.ChangeShapes Go.WideShapes Go.ChangeAt Go.RowKit
set_option linter.unusedVariables false
attribute [local go_sem] bs_size bs_app bs_cut bs_tl bs_at
set_option maxRecDepth 100000 in
theorem play_great (ad : Option Addr) (l : List AT) (cp : Nat) (n : Int) (w : World) (h : ActsIn w ad l) (hg : greatL l 120 = true) (hm : l.length ≤ 9223372036854775807) :
    Calls Try.prog 3 #[.int .i64 n, .slice ad l.length cp] w (ToldN (.bool true) w) := by
  have HG := hide (show Calls Try.prog 6 #[.slice ad l.length cp, .int .i64 120] w (Told (.bool true) w) from hg ▸ great_any ad l cp 120 w (by omega) h hm)
  clear h hg hm
  go_enter Try.func3, Try.ntmps3
  go_wp2_with (first
    | (go_at_call 6; (with_reducible refine (unhide HG).mono ?_); rintro e w1 ⟨rfl, rfl⟩)
    | (go_at_call 7; (with_reducible refine (mailed_any _).mono ?_); rintro e9 w9 ⟨rfl, k9⟩))
  go_ret
  exact ⟨rfl, k9⟩
set_option maxRecDepth 100000 in
theorem play_none (ad : Option Addr) (l : List AT) (cp : Nat) (n : Int) (w : World) (h : ActsIn w ad l) (hn : n < 1 ∨ 64 < n) (hg : greatL l 120 = false) (hm : l.length ≤ 9223372036854775807) :
    Calls Try.prog 3 #[.int .i64 n, .slice ad l.length cp] w (ToldN (.bool true) w) := by
  have HG := hide (show Calls Try.prog 6 #[.slice ad l.length cp, .int .i64 120] w (Told (.bool false) w) from hg ▸ great_any ad l cp 120 w (by omega) h hm)
  have HN := hide (new_no n w hn)
  have HR := hide (fun w => rnew_no n w hn)
  clear h hg hm hn
  go_enter Try.func3, Try.ntmps3
  go_wp2_with (first
    | (go_at_call 6; (with_reducible refine (unhide HG).mono ?_); rintro e w1 ⟨rfl, rfl⟩)
    | (go_at_call 8; (with_reducible refine (unhide HN).mono ?_); rintro e w1 ⟨rfl, rfl⟩)
    | (go_at_call 9; (with_reducible refine (unhide HR _).mono ?_); rintro e w1 ⟨rfl, rfl⟩)
    | (go_at_call 7; (with_reducible refine (mailed_any _).mono ?_); rintro e9 w9 ⟨rfl, k9⟩))
  go_ret
  exact ⟨rfl, k9⟩
theorem play_any (ad : Option Addr) (l : List AT) (cp : Nat) (n : Int) (w : World) (h : ActsIn w ad l) (hm : l.length ≤ 9223372036854775807) :
    Calls Try.prog 3 #[.int .i64 n, .slice ad l.length cp] w (ToldN (.bool true) w) := by
  cases hg : greatL l 120
  · by_cases hn : n < 1 ∨ 64 < n
    · exact play_none ad l cp n w h hn hg hm
    · obtain ⟨cap, rfl⟩ := Int.eq_ofNat_of_zero_le (show 0 ≤ n by omega)
      exact play_in ad l cp cap w h (by omega) (by omega) hg hm
  · exact play_great ad l cp n w h hg hm
end Go.Proofs.Ytngldlfobdiipaa.Lk
