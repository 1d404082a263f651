
/- Over: the program's and the model's. Laid by wip/gen8/gorover.py. -/

import Derived.Test.YtapbjnfopniicaaDoorGorTell

namespace Go.Proofs.YtapbjnfopniicaaDoor
set_option linter.unusedSimpArgs false
set_option linter.unusedVariables false
open Go.RowKit

end Go.Proofs.YtapbjnfopniicaaDoor
