
/- Place: how it lies, how it is opened as an argument; the contracts of the laws' helpers over it. Laid by wip/tools/gen.py and turned by hand. -/

import Derived.Test.YtapbjnfopniicaaGreatDoorDInt

import Derived.Test.YtapbjnfopniicaaGreatDoorGDEng

namespace Go.Proofs.YtapbjnfopniicaaGreatDoor
set_option linter.unusedSimpArgs false
set_option linter.unusedVariables false
open Go.RowKit

structure DPlace where
  fMutex : Bool
  fObj : Int
  fSend : Bool
  fG : Int
  fCase : Int
  fVal : Int
deriving DecidableEq
/-- How it lies: in its cells alone. -/
def layPlace : Lay DPlace := Lay.flat 6 (fun x => [.bool x.fMutex, .int .i64 x.fObj, .bool x.fSend, .int .i64 x.fG, .int .i64 x.fCase, .int .i64 x.fVal]) (fun x => (Lit.int .i64 x.fObj).wf = true ∧ (Lit.int .i64 x.fG).wf = true ∧ (Lit.int .i64 x.fCase).wf = true ∧ (Lit.int .i64 x.fVal).wf = true) (fun _ => rfl)
end Go.Proofs.YtapbjnfopniicaaGreatDoor
