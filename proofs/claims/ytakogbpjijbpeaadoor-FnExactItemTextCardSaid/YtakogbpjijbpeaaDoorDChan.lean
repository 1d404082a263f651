
/- Chan: how it lies, how it is opened as an argument; the contracts of the laws' helpers over it. Laid by wip/tools/gen.py. -/

import Derived.Test.YtakogbpjijbpeaaDoorTail

import Derived.Test.YtakogbpjijbpeaaDoorDInt

import Derived.Test.YtakogbpjijbpeaaDoorDWaiter

namespace Go.Proofs.YtakogbpjijbpeaaDoor
set_option linter.unusedSimpArgs false
set_option linter.unusedVariables false
open Go.RowKit

structure DChan where
  fCap : Int
  fBuf : List Int
  fSends : List DWaiter
  fRecvs : List DWaiter
  fClosed : Bool
/-- How much it holds. -/
def szChan (x : DChan) : Nat := x.fBuf.length + x.fSends.length + x.fRecvs.length

end Go.Proofs.YtakogbpjijbpeaaDoor
