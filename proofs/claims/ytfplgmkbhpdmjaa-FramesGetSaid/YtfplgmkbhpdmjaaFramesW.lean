/-
  Frames: the walk of the law that holds what is got against the document's.
-/
import Derived.Test.YtfplgmkbhpdmjaaFramesV
namespace Go.Proofs.Ytfplgmkbhpdmjaa.Fm
open Go.ChangeShapes Go.WideShapes Go.ChangeAt Go.RowKit
set_option linter.unusedVariables false
attribute [local go_sem] bs_size bs_app bs_cut bs_tl bs_at
set_option maxRecDepth 100000 in
theorem getlaw_long (s : List UInt8) (h : 700 < s.length) (w : World) : Calls Try.prog 3 #[str s] w (ToldN (.bool true) w) := by
  have HS := hide (fun w => sent_any w)
  have i1 : (700 : Int) < (s.length : Int) := by omega
  clear h
  go_enter Try.func3, Try.ntmps3
  go_wp2_with (go_at_call 6; (with_reducible refine (unhide HS _).mono ?_); rintro e w2 ⟨rfl, k2⟩)
  go_ret
  exact ⟨rfl, k2⟩
set_option maxRecDepth 100000 in
theorem getlaw_in (s : List UInt8) (h : ¬ 700 < s.length) (w : World) : Calls Try.prog 3 #[str s] w (ToldN (.bool true) w) := by
  have HS := hide (fun w => sent_any w)
  have HG := hide (fun w => get_any s (by omega) w)
  have HR := hide (fun w => rget_any s (by omega) w)
  have i1 : ¬ (700 : Int) < (s.length : Int) := by omega
  clear h
  have ta : True := True.intro
  go_enter Try.func3, Try.ntmps3
  go_wp2_with (first
    | (go_at_call 7; (with_reducible refine (unhide HG _).mono ?_); rintro e w2 ⟨f, n, ad, cap, hg, rfl, k2, sl⟩; have HG1 := hide hg; have SL := hide sl; clear hg sl)
    | (go_at_call 8; (with_reducible refine (unhide HR _).mono ?_); rintro e w5 ⟨f', n', ad', cap', hg', rfl, k5, sl'⟩; obtain ⟨rfl, rfl⟩ := got_one (unhide HG1) hg'; have SL' := hide sl'; clear hg' sl')
    | (go_at_call 9; (refine (rsame_self f ((unhide SL).no (j4.andNo (k5.andNo j7))) ((unhide SL').no j7)).mono ?_); rintro e w8 ⟨rfl, k8⟩)
    | (go_at_call 6; (with_reducible refine (unhide HS _).mono ?_); rintro e w9 ⟨rfl, k9⟩)
    | ((with_reducible show wpList _ _ _ (⟨_, _, _, _, _, none⟩ :: _) _ _); first
      | (clear ta; refine wpL_alloc rfl 33 rfl _ zero_fr ?_; intro p w3 e3 k3 g3 z3; have E3 := hide (Nat.le_of_eq e3); clear z3 e3)
      | (refine wpL_alloc rfl 33 rfl _ zero_fr ?_; intro q w6 e6 k6 g6 z6; have E6 := hide (Nat.le_of_eq e6); clear z6 e6)
      | (refine wpL_store rfl 33 (.tmp 3) (.tmp 14) rfl p (f.cells (.slice ad f.ch.ms.length cap)).toArray rfl rfl _ _ g3 info_fr rfl (all_oneCell_toArray (FT.one _ rfl)) ?_; intro w4 k4 g4 z4; have G4 : FrAt w4 p f (.slice ad f.ch.ms.length cap) := g4; have j4 : Chg noBlk w2 w4 := k3.past k4 (unhide E3); clear z4 g4 k3 k4 g3)
      | (refine wpL_store rfl 33 (.tmp 5) (.tmp 19) rfl q (f.cells (.slice ad' f.ch.ms.length cap')).toArray rfl rfl _ _ g6 info_fr rfl (all_oneCell_toArray (FT.one _ rfl)) ?_; intro w7 k7 g7 z7; have G7 : FrAt w7 q f (.slice ad' f.ch.ms.length cap') := g7; have j7 : Chg noBlk w5 w7 := k6.past k7 (unhide E6); clear z7 g7 k6 k7 g6)
      | (refine wpL_load rfl 33 (.tmp 3) rfl p rfl (f.cells (.slice ad f.ch.ms.length cap)).toArray _ _ ((G4.no k5).no j7) _ Try.underlying33 rfl info_fr ?_)
      | (refine wpL_load rfl 33 (.tmp 5) rfl q rfl (f.cells (.slice ad' f.ch.ms.length cap')).toArray _ _ G7 _ Try.underlying33 rfl info_fr ?_)))
  go_ret
  exact ⟨rfl, ((k2.andNo j4).andNo (k5.andNo j7)).andNo (k8.andNo k9)⟩
theorem getlaw_any (s : List UInt8) (w : World) : Calls Try.prog 3 #[str s] w (ToldN (.bool true) w) := by
  by_cases h : 700 < s.length
  · exact getlaw_long s h w
  · exact getlaw_in s h w
#print axioms getlaw_any
end Go.Proofs.Ytfplgmkbhpdmjaa.Fm
