
/- What the rows' conditions on package-level variables give the walks of texts: the table of instructions and the powers of ten. -/

import Derived.Test.YtgfkadhojlddpaaGreatDoorLaid

import Derived.Test.YtgfkadhojlddpaaGreatDoorFieldTextI

import Derived.Test.YtgfkadhojlddpaaGreatDoorOpTab

namespace Go.Proofs.YtgfkadhojlddpaaGreatDoor

open Go.RowKit

/-- The table of the powers of ten, listed third, and the table of instructions behind it. -/
theorem laid_text {W : World} {x y : String × DataW Unit} {rest : List (String × DataW Unit)} (h : laidMet Tryz.prog (x :: y :: ("internal/strconv.uint64pow10", Rows.laid_internal_strconv_uint64pow10) :: ("loop.example/g00679/impl.opRows", Rows.laid_loop_example_g00679_impl_opRows) :: rest) W) : PowTab W ∧ OpCells W :=
  ⟨tab_of_laid h, opCells_of (opTab_of_laid h.tail.tail.tail)⟩
theorem laid_below {W W' : World} (h : PowTab W ∧ OpCells W) (hb : Below W.heap.size W W') : PowTab W' ∧ OpCells W' := ⟨tab_below h.1 hb (Nat.le_refl _), opCells_below h.2 hb⟩
end Go.Proofs.YtgfkadhojlddpaaGreatDoor
