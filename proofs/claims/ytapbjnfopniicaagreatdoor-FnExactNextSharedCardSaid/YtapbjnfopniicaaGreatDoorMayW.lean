
/- MayWait: the program's and the model's. Laid by wip/gen9/mayw.py. -/

import Derived.Test.YtapbjnfopniicaaGreatDoorGMay

import Derived.Deep.Cut

namespace Go.Proofs.YtapbjnfopniicaaGreatDoor
set_option linter.unusedSimpArgs false
set_option linter.unusedVariables false
open Go.RowKit

theorem may_same {p : DProg} {g : DGor} (hp : progOkB p = true) (hat : 0 ≤ g.fPc ∧ g.fPc < instrsZ p g.fProc) :
    (decide ((atI p g).fOp = 8) || (decide ((atI p g).fOp = 9) || (decide ((atI p g).fOp = 12) || (decide ((atI p g).fOp = 11) && decide ((selI p (atI p g)).fElse = -1))))) = mayB p g := by
  have h := (at_names hp hat).2.2.1
  unfold mayB
  by_cases h1 : (atI p g).fOp = 11
  · obtain ⟨_, h2, _⟩ := h h1
    have h3 : decide ((selI p (atI p g)).fElse = -1) = decide ((selI p (atI p g)).fElse < 0) := by
      rw [decide_eq_decide]
      omega
    rw [h3]
  · rw [decide_eq_false h1, Bool.false_and, Bool.false_and]
theorem gorB_at {n : Int} {g : DGor} (h : gorB n g = true) : 0 ≤ g.fPc ∧ g.fPc < n := by
  unfold gorB at h
  rw [Bool.and_eq_true] at h
  exact of_decide_eq_true h.1

end Go.Proofs.YtapbjnfopniicaaGreatDoor
