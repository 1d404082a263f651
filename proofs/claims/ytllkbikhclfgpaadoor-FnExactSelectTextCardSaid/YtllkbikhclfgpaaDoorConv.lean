
/- One byte as a text. -/

import Derived.Test.YtllkbikhclfgpaaDoorByte

namespace Go.Proofs.YtllkbikhclfgpaaDoor

open Go.RowKit

theorem conv_one {W : World} {g : Nat} {x : Int} (h : W.cell? ⟨g, 0, none⟩ = some (.int .u8 x)) :
    (convert 92 9 (.slice (some ⟨g, 0, none⟩) 1 1)).run Tryd.prog W = .ok (.string ⟨#[UInt8.ofNat x.toNat]⟩) W := by
  have := run_convert_bytes_arg (P := Tryd.prog) W 92 5 Tryd.underlying92 Tryd.underlying5 g 0 1 1 [x] rfl (fun i hi => by
    have : i = 0 := by omega
    subst this
    simpa using h) 9 Tryd.underlying9
  simpa [strOfNums] using this
end Go.Proofs.YtllkbikhclfgpaaDoor
