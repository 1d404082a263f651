
/- Waiter: how it lies, how it is opened as an argument; the contracts of the laws' helpers over it. Laid by wip/tools/gen.py. -/

import Derived.Test.YtakogbpjijbpeaaDoorDInt

namespace Go.Proofs.YtakogbpjijbpeaaDoor
set_option linter.unusedSimpArgs false
set_option linter.unusedVariables false
open Go.RowKit

structure DWaiter where
  fG : Int
  fCase : Int
  fVal : Int
/-- How it lies: in its cells alone. -/
def layWaiter : Lay DWaiter := Lay.flat 3 (fun x => [.int .i64 x.fG, .int .i64 x.fCase, .int .i64 x.fVal]) (fun x => (Lit.int .i64 x.fG).wf = true ∧ (Lit.int .i64 x.fCase).wf = true ∧ (Lit.int .i64 x.fVal).wf = true) (fun _ => rfl)
end Go.Proofs.YtakogbpjijbpeaaDoor
