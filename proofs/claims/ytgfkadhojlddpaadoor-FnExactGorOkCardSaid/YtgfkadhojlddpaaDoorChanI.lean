
/- The program's looks at a channel: values, waiters, who may send and receive, ChanOk, CanSend, CanRecv. -/

import Derived.Test.YtgfkadhojlddpaaDoorChanM

namespace Go.Proofs.YtgfkadhojlddpaaDoor
set_option linter.unusedSimpArgs false
set_option linter.unusedVariables false
open Go.RowKit

theorem isValC_any (v : Int) (w : World) : Calls Tryd.prog 108 #[.int .i64 v] w fun e w' => e = .returned (.bool (okV v)) ∧ w = w' := by
  by_cases h0 : 0 ≤ v
  · by_cases h1 : v ≤ 999
    · rw [okV_yes (by omega)]
      go_enter Tryd.func108, Tryd.ntmps108
      go_wp2
      go_ret
      exact ⟨rfl, rfl⟩
    · rw [okV_no (by omega)]
      have h2 : decide (v ≤ 999) = false := decide_eq_false h1
      clear h1
      go_enter Tryd.func108, Tryd.ntmps108
      go_wp2
      go_ret
      exact ⟨rfl, rfl⟩
  · rw [okV_no (by omega)]
    have h2 : decide (0 ≤ v) = false := decide_eq_false h0
    clear h0
    go_enter Tryd.func108, Tryd.ntmps108
    go_wp2
    go_ret
    exact ⟨rfl, rfl⟩

/-- A waiter as a value. -/
def wtV (d : DWaiter) : Value := .agg #[.int .i64 d.fG, .int .i64 d.fCase, .int .i64 d.fVal]

end Go.Proofs.YtgfkadhojlddpaaDoor
