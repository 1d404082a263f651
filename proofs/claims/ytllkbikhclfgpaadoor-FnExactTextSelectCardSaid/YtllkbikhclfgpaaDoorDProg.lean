
/- Prog: how it lies, how it is opened as an argument; the contracts of the laws' helpers over it. Laid by wip/tools/gen.py. -/

import Derived.Test.YtllkbikhclfgpaaDoorDInt

import Derived.Test.YtllkbikhclfgpaaDoorDSelect

import Derived.Test.YtllkbikhclfgpaaDoorDProc

namespace Go.Proofs.YtllkbikhclfgpaaDoor
set_option linter.unusedSimpArgs false
set_option linter.unusedVariables false
open Go.RowKit

structure DProg where
  fCaps : List Int
  fMus : Int
  fSels : List DSelect
  fProcs : List DProc
/-- How much it holds. -/
def szProg (x : DProg) : Nat := x.fCaps.length + (x.fSels.length + (x.fSels.map szSelect).sum) + (x.fProcs.length + (x.fProcs.map szProc).sum)

end Go.Proofs.YtllkbikhclfgpaaDoor
