
/- How high marking a program counts. -/

import Derived.Test.YtghkdkagnibkgaaGreatDoorGM

namespace Go.Proofs.YtghkdkagnibkgaaGreatDoor
set_option linter.unusedSimpArgs false
set_option linter.unusedVariables false
open Go.RowKit

theorem vcntP11_le {x : DProg} (h : szProg x ≤ 1048580) : 0 ≤ vcntProg x ∧ vcntProg x ≤ 5243000 := by
  have g1 := sum_bound (f := cntSelect) (s := szSelect) (a := 5) (b := 5) (fun g => by unfold cntSelect szSelect; omega) x.fSels
  have g2 := sum_bound (f := cntProc) (s := szProc) (a := 5) (b := 5) (fun g => by unfold cntProc szProc; omega) x.fProcs
  have p1 := sum_pos cntSelect_pos x.fSels
  have p2 := sum_pos cntProc_pos x.fProcs
  unfold szProg at h
  unfold vcntProg
  omega
end Go.Proofs.YtghkdkagnibkgaaGreatDoor
