
/- Small words for what is ready. No program is named here but for the types' forms. -/

import Derived.Test.YtghkdkagnibkgaaGInv

namespace Go.Proofs.Ytghkdkagnibkgaa
set_option linter.unusedSimpArgs false
set_option linter.unusedVariables false
open Go.RowKit

theorem putI4 {w : World} {b : Nat} {t : TypeId} {x0 x1 x2 x3 u0 u1 u2 u3 : Value} (h : w.heap[b]? = some (.cells [x0, x1, x2, x3].toArray t (0, 0))) : (putCells w b 0 [u0, u1, u2, u3]).heap[b]? = some (.cells #[u0, u1, u2, u3] t (0, 0)) :=
  box_set (j := 3) (box_set (j := 2) (box_set (j := 1) (box_set (j := 0) h)))
theorem cell_up {w w' : World} {g j : Nat} {u : Value} (h : w.cell? ⟨g, j, none⟩ = some u) (hb : Below w.heap.size w w') : w'.cell? ⟨g, j, none⟩ = some u := by
  rw [← h]
  rcases Nat.lt_or_ge g w.heap.size with h1 | h1
  · exact World.cell?_of_block (hb.block _ h1)
  · simp [World.cell?, Array.getElem?_eq_none h1] at h
end Go.Proofs.Ytghkdkagnibkgaa
