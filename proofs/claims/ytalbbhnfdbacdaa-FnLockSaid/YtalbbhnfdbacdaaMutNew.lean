
/- MutexNew: the program's, the model's; what a law's helpers say of it. -/

import Derived.Test.YtalbbhnfdbacdaaDMutex

import Derived.Test.YtalbbhnfdbacdaaMMutex

import Derived.Test.YtalbbhnfdbacdaaMutX

namespace Go.Proofs.Ytalbbhnfdbacdaa
set_option linter.unusedSimpArgs false
set_option linter.unusedVariables false
open Go.RowKit

def newM : DMutex := ⟨-1, []⟩
theorem own_newM (w : World) (F : Nat → Prop) : layMutex.own w F newM [.int .i64 (-1), .slice none 0 0] :=
  ownMutex (x := newM) (by decide) (TailR.of (ownR_nil _ _ _)) (fun _ h => h.elim)
theorem see_newM (w : World) (hi : Nat) : layMutex.see w hi newM [.int .i64 (-1), .slice none 0 0] :=
  layMutex.seen (hi := hi) (own_newM w (fun _ => False)) fun g hg => hg.elim

set_option maxRecDepth 100000 in
theorem implMutexNew_any (w : World) : Calls Try.prog 8 #[] w fun e w' => e = .returned (.agg #[.int .i64 (-1), .slice none 0 0]) ∧ Below w.heap.size w w' := by
  have hR := box_new w #[.int .i64 0, .slice none 0 0] 25
  have g0 := box_free hR 0
  have g1 := box_free hR 1
  have a0 := box_cell (j := 0) hR rfl
  have a1 := box_cell (j := 1) hR rfl
  have HR := Lib.hid hR
  clear hR
  go_enter Try.func8, Try.ntmps8
  go_wp2_with fail
  have hRF : (((w.alloc (.cells #[.int .i64 0, .slice none 0 0] 25)).setCell ⟨w.heap.size, 0, none⟩ (.int .i64 (-1))).setCell ⟨w.heap.size, 1, none⟩ (.slice none 0 0)).heap[w.heap.size]? = some (.cells #[.int .i64 (-1), .slice none 0 0] 25 (0, 0)) := box_set (j := 1) (u := .slice none 0 0) (box_set (j := 0) (u := .int .i64 (-1)) HR.out)
  have hBF : Below w.heap.size w (((w.alloc (.cells #[.int .i64 0, .slice none 0 0] 25)).setCell ⟨w.heap.size, 0, none⟩ (.int .i64 (-1))).setCell ⟨w.heap.size, 1, none⟩ (.slice none 0 0)) := below_set (below_set ((Below.refl _ _).alloc (Nat.le_refl _) _) (by simp only; omega) (.int .i64 (-1))) (by simp only; omega) (.slice none 0 0)
  generalize ((w.alloc (.cells #[.int .i64 0, .slice none 0 0] 25)).setCell ⟨w.heap.size, 0, none⟩ (.int .i64 (-1))).setCell ⟨w.heap.size, 1, none⟩ (.slice none 0 0) = WF at *
  have y0 := box_cell (j := 0) hRF rfl
  have y1 := box_cell (j := 1) hRF rfl
  refine bodyPost_ret (v := .agg #[.int .i64 (-1), .slice none 0 0]) (by simp [results, Try.results8, go_sem, y0, y1]) rfl ?_
  exact ⟨rfl, (Below.refl _ _).alloc (Nat.le_refl _) _⟩

set_option maxRecDepth 100000 in
theorem specMutexNew_any (w : World) : Calls Try.prog 17 #[] w fun e w' => e = .returned (.agg #[.int .i64 (-1), .slice none 0 0]) ∧ Below w.heap.size w w' := by
  have hR := box_new w #[.int .i64 0, .slice none 0 0] 25
  have g0 := box_free hR 0
  have g1 := box_free hR 1
  have a0 := box_cell (j := 0) hR rfl
  have a1 := box_cell (j := 1) hR rfl
  have HR := Lib.hid hR
  clear hR
  go_enter Try.func17, Try.ntmps17
  go_wp2_with fail
  have hRF : (((w.alloc (.cells #[.int .i64 0, .slice none 0 0] 25)).setCell ⟨w.heap.size, 0, none⟩ (.int .i64 (-1))).setCell ⟨w.heap.size, 1, none⟩ (.slice none 0 0)).heap[w.heap.size]? = some (.cells #[.int .i64 (-1), .slice none 0 0] 25 (0, 0)) := box_set (j := 1) (u := .slice none 0 0) (box_set (j := 0) (u := .int .i64 (-1)) HR.out)
  have hBF : Below w.heap.size w (((w.alloc (.cells #[.int .i64 0, .slice none 0 0] 25)).setCell ⟨w.heap.size, 0, none⟩ (.int .i64 (-1))).setCell ⟨w.heap.size, 1, none⟩ (.slice none 0 0)) := below_set (below_set ((Below.refl _ _).alloc (Nat.le_refl _) _) (by simp only; omega) (.int .i64 (-1))) (by simp only; omega) (.slice none 0 0)
  generalize ((w.alloc (.cells #[.int .i64 0, .slice none 0 0] 25)).setCell ⟨w.heap.size, 0, none⟩ (.int .i64 (-1))).setCell ⟨w.heap.size, 1, none⟩ (.slice none 0 0) = WF at *
  have y0 := box_cell (j := 0) hRF rfl
  have y1 := box_cell (j := 1) hRF rfl
  refine bodyPost_ret (v := .agg #[.int .i64 (-1), .slice none 0 0]) (by simp [results, Try.results17, go_sem, y0, y1]) rfl ?_
  exact ⟨rfl, (Below.refl _ _).alloc (Nat.le_refl _) _⟩

theorem eqNew_any (w : World) : Calls Try.prog 16 #[.agg #[.int .i64 (-1), .slice none 0 0], .agg #[.int .i64 (-1), .slice none 0 0]] w fun e w' => e = .returned (.bool true) ∧ Below w.heap.size w w' :=
  eqMutex_same (see_newM w 0) (see_newM w 0) (Nat.zero_le _) (Nat.zero_le _) (by decide)
theorem markNew_any (w : World) : Calls Try.prog 18 #[.agg #[.int .i64 (-1), .slice none 0 0], .int .i64 1] w fun e w' => e = .returned (.int .i64 1) ∧ Below w.heap.size w w' :=
  (markMutex_any (F := fun _ => False) (k := 1) (own_newM w _) (fun g hg => hg.elim) (by decide) (by decide) (by decide)).mono fun e w' ⟨h1, _, h3⟩ => ⟨h1, h3.below (fun g hg => hg.elim) (Nat.le_refl _)⟩
theorem heldNew_any (w : World) : Calls Try.prog 19 #[.agg #[.int .i64 (-1), .slice none 0 0], .int .i64 1] w fun e w' => e = .returned (.int .i64 1) ∧ Below w.heap.size w w' :=
  (heldMutex_any (x := newM) (k := 1) (hi := 0) (see_newM w 0) (Nat.zero_le _) (by decide) (by decide) (by decide)).mono fun e w' ⟨h1, h3⟩ => ⟨h1, h3⟩
end Go.Proofs.Ytalbbhnfdbacdaa
