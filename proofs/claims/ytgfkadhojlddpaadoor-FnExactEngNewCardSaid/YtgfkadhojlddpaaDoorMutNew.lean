
/- MutexNew: the program's, the model's; what a law's helpers say of it. -/

import Derived.Test.YtgfkadhojlddpaaDoorGDEng

import Derived.Test.YtgfkadhojlddpaaDoorGMEng

import Derived.Test.YtgfkadhojlddpaaDoorMutM

namespace Go.Proofs.YtgfkadhojlddpaaDoor
set_option linter.unusedSimpArgs false
set_option linter.unusedVariables false
open Go.RowKit

set_option maxRecDepth 100000 in
theorem implMutexNew_any (w : World) : Calls Tryd.prog 67 #[] w fun e w' => e = .returned (.agg #[.int .i64 (-1), .slice none 0 0]) ∧ Below w.heap.size w w' := by
  have hR := box_new w #[.int .i64 0, .slice none 0 0] 106
  have g0 := box_free hR 0
  have g1 := box_free hR 1
  have a0 := box_cell (j := 0) hR rfl
  have a1 := box_cell (j := 1) hR rfl
  have HR := Lib.hid hR
  clear hR
  go_enter Tryd.func67, Tryd.ntmps67
  go_wp2_with fail
  have hRF : (((w.alloc (.cells #[.int .i64 0, .slice none 0 0] 106)).setCell ⟨w.heap.size, 0, none⟩ (.int .i64 (-1))).setCell ⟨w.heap.size, 1, none⟩ (.slice none 0 0)).heap[w.heap.size]? = some (.cells #[.int .i64 (-1), .slice none 0 0] 106 (0, 0)) := box_set (j := 1) (u := .slice none 0 0) (box_set (j := 0) (u := .int .i64 (-1)) HR.out)
  have hBF : Below w.heap.size w (((w.alloc (.cells #[.int .i64 0, .slice none 0 0] 106)).setCell ⟨w.heap.size, 0, none⟩ (.int .i64 (-1))).setCell ⟨w.heap.size, 1, none⟩ (.slice none 0 0)) := below_set (below_set ((Below.refl _ _).alloc (Nat.le_refl _) _) (by simp only; omega) (.int .i64 (-1))) (by simp only; omega) (.slice none 0 0)
  generalize ((w.alloc (.cells #[.int .i64 0, .slice none 0 0] 106)).setCell ⟨w.heap.size, 0, none⟩ (.int .i64 (-1))).setCell ⟨w.heap.size, 1, none⟩ (.slice none 0 0) = WF at *
  have y0 := box_cell (j := 0) hRF rfl
  have y1 := box_cell (j := 1) hRF rfl
  refine bodyPost_ret (v := .agg #[.int .i64 (-1), .slice none 0 0]) (by simp [results, Tryd.results67, go_sem, y0, y1]) rfl ?_
  exact ⟨rfl, (Below.refl _ _).alloc (Nat.le_refl _) _⟩

set_option maxRecDepth 100000 in
theorem specMutexNew_any (w : World) : Calls Tryd.prog 65 #[] w fun e w' => e = .returned (.agg #[.int .i64 (-1), .slice none 0 0]) ∧ Below w.heap.size w w' := by
  have hR := box_new w #[.int .i64 0, .slice none 0 0] 106
  have g0 := box_free hR 0
  have g1 := box_free hR 1
  have a0 := box_cell (j := 0) hR rfl
  have a1 := box_cell (j := 1) hR rfl
  have HR := Lib.hid hR
  clear hR
  go_enter Tryd.func65, Tryd.ntmps65
  go_wp2_with fail
  have hRF : (((w.alloc (.cells #[.int .i64 0, .slice none 0 0] 106)).setCell ⟨w.heap.size, 0, none⟩ (.int .i64 (-1))).setCell ⟨w.heap.size, 1, none⟩ (.slice none 0 0)).heap[w.heap.size]? = some (.cells #[.int .i64 (-1), .slice none 0 0] 106 (0, 0)) := box_set (j := 1) (u := .slice none 0 0) (box_set (j := 0) (u := .int .i64 (-1)) HR.out)
  have hBF : Below w.heap.size w (((w.alloc (.cells #[.int .i64 0, .slice none 0 0] 106)).setCell ⟨w.heap.size, 0, none⟩ (.int .i64 (-1))).setCell ⟨w.heap.size, 1, none⟩ (.slice none 0 0)) := below_set (below_set ((Below.refl _ _).alloc (Nat.le_refl _) _) (by simp only; omega) (.int .i64 (-1))) (by simp only; omega) (.slice none 0 0)
  generalize ((w.alloc (.cells #[.int .i64 0, .slice none 0 0] 106)).setCell ⟨w.heap.size, 0, none⟩ (.int .i64 (-1))).setCell ⟨w.heap.size, 1, none⟩ (.slice none 0 0) = WF at *
  have y0 := box_cell (j := 0) hRF rfl
  have y1 := box_cell (j := 1) hRF rfl
  refine bodyPost_ret (v := .agg #[.int .i64 (-1), .slice none 0 0]) (by simp [results, Tryd.results65, go_sem, y0, y1]) rfl ?_
  exact ⟨rfl, (Below.refl _ _).alloc (Nat.le_refl _) _⟩

theorem eqNew_any (w : World) : Calls Tryd.prog 116 #[.agg #[.int .i64 (-1), .slice none 0 0], .agg #[.int .i64 (-1), .slice none 0 0]] w fun e w' => e = .returned (.bool true) ∧ Below w.heap.size w w' :=
  eqMutex_same (see_newM w 0) (see_newM w 0) (Nat.zero_le _) (Nat.zero_le _) (by decide)
end Go.Proofs.YtgfkadhojlddpaaDoor
