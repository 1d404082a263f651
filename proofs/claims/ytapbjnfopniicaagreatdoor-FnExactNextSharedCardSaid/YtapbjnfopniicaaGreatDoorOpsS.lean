
/- Contracts of the model's OpWord and Fields. -/

import Derived.Test.YtapbjnfopniicaaGreatDoorOpTab

import Derived.Handy

namespace Go.Proofs.YtapbjnfopniicaaGreatDoor

open Go.RowKit

set_option maxRecDepth 100000 in
set_option maxHeartbeats 1000000 in
theorem specFields_any (z : Int) (w : World) :
    Calls Tryz.prog 114 #[.int .i64 z] w fun e w' => e = .returned (.int .i64 (opField z)) ∧ w = w' := by
  by_cases h : 1 ≤ z ∧ z ≤ 15
  · rcases op_cases h with rfl | rfl | rfl | rfl | rfl | rfl | rfl | rfl | rfl | rfl | rfl | rfl | rfl | rfl | rfl
    all_goals
      clear h
      go_enter Tryz.func114, Tryz.ntmps114
      go_wp2
      go_ret
      exact ⟨rfl, rfl⟩
  · have ho : opField z = -1 := by rw [opField, if_neg h]
    rw [ho]
    clear ho
    by_cases h1 : z < 1
    · clear h
      go_enter Tryz.func114, Tryz.ntmps114
      go_wp2
      go_ret
      exact ⟨rfl, rfl⟩
    · have h2 : 15 < z := by omega
      clear h
      go_enter Tryz.func114, Tryz.ntmps114
      go_wp2
      go_ret
      exact ⟨rfl, rfl⟩
end Go.Proofs.YtapbjnfopniicaaGreatDoor
