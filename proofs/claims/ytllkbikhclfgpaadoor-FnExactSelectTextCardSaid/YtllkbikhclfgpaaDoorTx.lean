
/- A text, as a value. No program is named here. -/

import Derived.Test.YtllkbikhclfgpaaDoorWords

namespace Go.Proofs.YtllkbikhclfgpaaDoor

open Go.RowKit

abbrev Tx (l : List UInt8) : Value := .string ⟨l.toArray⟩
end Go.Proofs.YtllkbikhclfgpaaDoor
