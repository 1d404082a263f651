
/- What a later world reads, as rules. No program is named here. -/

import Derived.Test.YtegbnmlipajclaaGBase

import Derived.Test.YtegbnmlipajclaaFlow

namespace Go.Proofs.Ytegbnmlipajclaa
set_option linter.unusedSimpArgs false
set_option linter.unusedVariables false
open Go.RowKit

/-! ### What a later world reads, as rules -/

theorem rdB {hi : Nat} {w w' : World} (h : Below hi w w') : ∀ b j, b < hi → w'.cell? ⟨b, j, none⟩ = w.cell? ⟨b, j, none⟩ := fun b j hb => h.cell (p := ⟨b, j, none⟩) hb
theorem rzB {hi : Nat} {w w' : World} (h : Below hi w w') : ∀ b j, b < hi → w'.frozen? ⟨b, j, none⟩ = w.frozen? ⟨b, j, none⟩ := fun b j hb => h.frozen (p := ⟨b, j, none⟩) hb
theorem rdT {F : Nat → Prop} {w w' : World} (h : TurnedF F w w') : ∀ b j, b < w.heap.size → ¬ F b → w'.cell? ⟨b, j, none⟩ = w.cell? ⟨b, j, none⟩ := fun b j hb hn => World.cell?_of_block (h.block b hb hn)
theorem rzT {F : Nat → Prop} {w w' : World} (h : TurnedF F w w') : ∀ b j, b < w.heap.size → ¬ F b → w'.frozen? ⟨b, j, none⟩ = w.frozen? ⟨b, j, none⟩ := fun b j hb hn => World.frozen?_of_block (h.block b hb hn)
theorem bxc {w : World} {b : Nat} {c : List Value} {t : TypeId} (h : w.heap[b]? = some (.cells c.toArray t (0, 0))) : ∀ j, w.cell? ⟨b, j, none⟩ = c[j]? := fun j => by simp [World.cell?, h]
theorem bxz {w : World} {b : Nat} {c : List Value} {t : TypeId} (h : w.heap[b]? = some (.cells c.toArray t (0, 0))) : ∀ j, w.frozen? ⟨b, j, none⟩ = false := box_free h
theorem bxl {w : World} {b : Nat} {o : Obj} (h : w.heap[b]? = some o) : b < w.heap.size := (Array.getElem?_eq_some_iff.1 h).1

end Go.Proofs.Ytegbnmlipajclaa
