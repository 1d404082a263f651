
/- Drop's contracts, as a law's walk takes them. -/

import Derived.Test.YtgdmcdblhpdlmaaChanDrop

import Derived.Test.YtgdmcdblhpdlmaaMWaiter

namespace Go.Proofs.Ytgdmcdblhpdlmaa
set_option linter.unusedSimpArgs false
set_option linter.unusedVariables false
open Go.RowKit

theorem leftW_made {w w' : World} {g : Int} {l : List DWaiter} {e : Ending} (hw : ∀ x ∈ l, (Lit.int .i64 x.fG).wf = true ∧ (Lit.int .i64 x.fCase).wf = true ∧ (Lit.int .i64 x.fVal).wf = true) (h : LeftW w (dropW g l) e w') : MadeR layWaiter 29 w (dropW g l).length (dropW g l) e w' := by
  obtain ⟨B, c', he, hown, hb⟩ := h
  exact ⟨B, c', he, ownR_flat hown rfl fun x hx => hw x (List.mem_filter.1 hx).1, hb⟩
theorem specDrop_law {w : World} {hi n c : Nat} {A : Option Addr} {ds : List DWaiter} {g : Int} (h : SeenR layWaiter w hi A n ds) (hhi : hi ≤ w.heap.size) (hn : n ≤ 1048576) :
    Calls Try.prog 36 #[.slice A n c, .int .i64 g] w (MadeR layWaiter 29 w (dropW g ds).length (dropW g ds)) := (specDrop_any h hhi hn).mono fun _ _ => leftW_made (seenR_flat h).2
theorem implDrop_law {w : World} {hi n c : Nat} {A : Option Addr} {ds : List DWaiter} {g : Int} (h : SeenR layWaiter w hi A n ds) (hhi : hi ≤ w.heap.size) (hn : n ≤ 1048576) :
    Calls Try.prog 38 #[.slice A n c, .int .i64 g] w (MadeR layWaiter 29 w (dropW g ds).length (dropW g ds)) := (implDrop_any h hhi hn).mono fun _ _ => leftW_made (seenR_flat h).2
theorem dropW_le {g : Int} {l : List DWaiter} {n : Nat} (h : l.length ≤ n) : (dropW g l).length ≤ n := Nat.le_trans (List.length_filter_le _ _) h
end Go.Proofs.Ytgdmcdblhpdlmaa
