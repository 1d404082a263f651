
/- Copies of a channel: append(nil, row...) of flat rows (the program's copied), the program's copyChan, the model's l06Copy. -/

import Derived.Test.YtapbjnfopniicaaGreatDoorQueue

import Derived.Test.YtapbjnfopniicaaGreatDoorGChanI

import Derived.Deep.Cut

namespace Go.Proofs.YtapbjnfopniicaaGreatDoor
set_option linter.unusedSimpArgs false
set_option linter.unusedVariables false
open Go.RowKit

theorem cells_one (xs : List DWaiter) : ∀ u ∈ (xs.map fun x => [Value.int .i64 x.fG, .int .i64 x.fCase, .int .i64 x.fVal]).flatten, u.oneCell' = true := by
  intro u hu
  simp only [List.mem_flatten, List.mem_map] at hu
  obtain ⟨l, ⟨x, _, rfl⟩, hu⟩ := hu
  simp at hu
  rcases hu with rfl | rfl | rfl <;> rfl
end Go.Proofs.YtapbjnfopniicaaGreatDoor
