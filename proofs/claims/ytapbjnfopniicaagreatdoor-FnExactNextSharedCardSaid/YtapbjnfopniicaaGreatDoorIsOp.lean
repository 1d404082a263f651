
/- The contract of the program's isOp. -/

import Derived.Test.YtapbjnfopniicaaGreatDoorInstrS

namespace Go.Proofs.YtapbjnfopniicaaGreatDoor

open Go.RowKit

theorem isOp_any (v : Int) (w : World) : Calls Tryz.prog 123 #[.int .i64 v] w fun e w' => e = .returned (.bool (inB v 1 15)) ∧ w = w' := by
  by_cases h0 : 1 ≤ v
  · by_cases h1 : v ≤ 15
    · rw [inB_yes (by omega)]
      go_enter Tryz.func123, Tryz.ntmps123
      go_wp2
      go_ret
      exact ⟨rfl, rfl⟩
    · rw [inB_no (by omega)]
      have h2 : decide (v ≤ 15) = false := decide_eq_false h1
      clear h1
      go_enter Tryz.func123, Tryz.ntmps123
      go_wp2
      go_ret
      exact ⟨rfl, rfl⟩
  · rw [inB_no (by omega)]
    have h2 : decide (1 ≤ v) = false := decide_eq_false h0
    clear h0
    go_enter Tryz.func123, Tryz.ntmps123
    go_wp2
    go_ret
    exact ⟨rfl, rfl⟩
end Go.Proofs.YtapbjnfopniicaaGreatDoor
