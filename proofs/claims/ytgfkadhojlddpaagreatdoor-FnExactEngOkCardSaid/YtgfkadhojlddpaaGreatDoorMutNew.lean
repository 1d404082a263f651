
/- MutexNew: the program's, the model's; what a law's helpers say of it. -/

import Derived.Test.YtgfkadhojlddpaaGreatDoorGDEng

import Derived.Test.YtgfkadhojlddpaaGreatDoorGMEng

import Derived.Test.YtgfkadhojlddpaaGreatDoorMutM

namespace Go.Proofs.YtgfkadhojlddpaaGreatDoor
set_option linter.unusedSimpArgs false
set_option linter.unusedVariables false
open Go.RowKit

theorem eqNew_any (w : World) : Calls Tryz.prog 129 #[.agg #[.int .i64 (-1), .slice none 0 0], .agg #[.int .i64 (-1), .slice none 0 0]] w fun e w' => e = .returned (.bool true) ∧ Below w.heap.size w w' :=
  eqMutex_same (see_newM w 0) (see_newM w 0) (Nat.zero_le _) (Nat.zero_le _) (by decide)
end Go.Proofs.YtgfkadhojlddpaaGreatDoor
