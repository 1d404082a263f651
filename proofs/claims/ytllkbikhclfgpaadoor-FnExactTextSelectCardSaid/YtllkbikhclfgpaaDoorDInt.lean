
/- Rows of ints: the contracts of the laws' helpers over them: szIntS, toIntS, eqIntS. -/

import Derived.Test.YtllkbikhclfgpaaDoorProg

import Derived.Test.YtllkbikhclfgpaaDoorBase

import Derived.Deep.QuietTactic

import Derived.BigQuiet

import Derived.Deep.RegionWith

import Derived.Handy

namespace Go.Proofs.YtllkbikhclfgpaaDoor

open Go.RowKit

theorem int_info : (Tryd.prog.info? 3).map (fun i => (i.zero, i.size, i.bytes)) = some (some (.int .i64 0), 1, 8) := by kernel_rfl

end Go.Proofs.YtllkbikhclfgpaaDoor
