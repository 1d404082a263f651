
/- The contract of the program's isOp. -/

import Derived.Test.YtapbjnfopniicaaDoorInstrS

namespace Go.Proofs.YtapbjnfopniicaaDoor

open Go.RowKit

theorem isOp_any (v : Int) (w : World) : Calls Tryd.prog 85 #[.int .i64 v] w fun e w' => e = .returned (.bool (inB v 1 15)) ∧ w = w' := by
  by_cases h0 : 1 ≤ v
  · by_cases h1 : v ≤ 15
    · rw [inB_yes (by omega)]
      go_enter Tryd.func85, Tryd.ntmps85
      go_wp2
      go_ret
      exact ⟨rfl, rfl⟩
    · rw [inB_no (by omega)]
      have h2 : decide (v ≤ 15) = false := decide_eq_false h1
      clear h1
      go_enter Tryd.func85, Tryd.ntmps85
      go_wp2
      go_ret
      exact ⟨rfl, rfl⟩
  · rw [inB_no (by omega)]
    have h2 : decide (1 ≤ v) = false := decide_eq_false h0
    clear h0
    go_enter Tryd.func85, Tryd.ntmps85
    go_wp2
    go_ret
    exact ⟨rfl, rfl⟩
end Go.Proofs.YtapbjnfopniicaaDoor
