
/- The program's count over a queue (with any function of one element), all, ChanOk, CanSend, CanRecv, Waits. -/

import Derived.Test.YtapbjnfopniicaaGreatDoorQueue

import Derived.Test.YtapbjnfopniicaaGreatDoorGChanI

namespace Go.Proofs.YtapbjnfopniicaaGreatDoor
set_option linter.unusedSimpArgs false
set_option linter.unusedVariables false
open Go.RowKit

theorem enters_val : Enters 91 := enters_of Tryz.func91 (by kernel_rfl) (by kernel_rfl)
theorem hpVal (w W : World) (d : Int) (h : Below w.heap.size w W) : Calls Tryz.prog 91 (#[.int .i64 d] ++ #[]) W fun e W' => e = .returned (.bool (okV d)) ∧ Below W.heap.size W W' := by
  rw [Array.append_empty]
  exact (isValC_any d W).mono fun e W' h => ⟨h.1, by rw [← h.2]; exact Below.refl _ _⟩
end Go.Proofs.YtapbjnfopniicaaGreatDoor
