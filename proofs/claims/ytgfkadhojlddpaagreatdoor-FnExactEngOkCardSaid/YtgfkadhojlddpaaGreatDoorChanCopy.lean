
/- Copies of a channel: append(nil, row...) of flat rows (the program's copied), the program's copyChan, the model's l06Copy. -/

import Derived.Test.YtgfkadhojlddpaaGreatDoorQueue

import Derived.Test.YtgfkadhojlddpaaGreatDoorGChanI

import Derived.Deep.Cut

namespace Go.Proofs.YtgfkadhojlddpaaGreatDoor
set_option linter.unusedSimpArgs false
set_option linter.unusedVariables false
open Go.RowKit

theorem cells_one (xs : List DWaiter) : ∀ u ∈ (xs.map fun x => [Value.int .i64 x.fG, .int .i64 x.fCase, .int .i64 x.fVal]).flatten, u.oneCell' = true := by
  intro u hu
  simp only [List.mem_flatten, List.mem_map] at hu
  obtain ⟨l, ⟨x, _, rfl⟩, hu⟩ := hu
  simp at hu
  rcases hu with rfl | rfl | rfl <;> rfl
/-- A copy of a channel: the same, its slices in blocks of their own. -/
def CopiedC (x : DChan) (w : World) (e : Ending) (w' : World) : Prop :=
  Below w.heap.size w w' ∧ ∃ A1 c1 A2 c2 A3 c3 F1 F2 F3, e = .returned (.agg #[.int .i64 x.fCap, .slice A1 x.fBuf.length c1, .slice A2 x.fSends.length c2, .slice A3 x.fRecvs.length c3, .bool x.fClosed]) ∧
    OwnR Lay.int 3 w' F1 A1 x.fBuf.length c1 x.fBuf ∧ OwnR layWaiter 95 w' F2 A2 x.fSends.length c2 x.fSends ∧ OwnR layWaiter 95 w' F3 A3 x.fRecvs.length c3 x.fRecvs ∧
    (∀ g, F1 g ∨ F2 g ∨ F3 g → w.heap.size ≤ g ∧ g < w'.heap.size) ∧ (∀ g, F1 g → ¬ F2 g) ∧ (∀ g, F1 g → ¬ F3 g) ∧ ∀ g, F2 g → ¬ F3 g

end Go.Proofs.YtgfkadhojlddpaaGreatDoor
