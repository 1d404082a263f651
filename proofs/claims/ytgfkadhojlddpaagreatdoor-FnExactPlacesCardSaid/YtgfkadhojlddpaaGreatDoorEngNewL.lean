
/- EngNew, as a law's walk takes it: how much it holds, how many marks it takes. -/

import Derived.Test.YtgfkadhojlddpaaGreatDoorEngX

import Derived.Test.YtgfkadhojlddpaaGreatDoorGMEng

import Derived.Test.YtgfkadhojlddpaaGreatDoorGMProg

namespace Go.Proofs.YtgfkadhojlddpaaGreatDoor
set_option linter.unusedSimpArgs false
set_option linter.unusedVariables false
open Go.RowKit

theorem vcntGor_le' {x : DGor} (h : szGor x ≤ 1048580) : 0 ≤ vcntGor x ∧ vcntGor x ≤ 4194400 := by
  unfold szGor at h
  unfold vcntGor
  omega
theorem vcntP_le {x : DProg} (h : szProg x ≤ 1048580) : 0 ≤ vcntProg x ∧ vcntProg x ≤ 8388700 := by
  have g1 := sum_bound (f := cntSelect) (s := szSelect) (a := 5) (b := 5) (fun g => by unfold cntSelect szSelect; omega) x.fSels
  have g2 := sum_bound (f := cntProc) (s := szProc) (a := 5) (b := 5) (fun g => by unfold cntProc szProc; omega) x.fProcs
  have p1 := sum_pos cntSelect_pos x.fSels
  have p2 := sum_pos cntProc_pos x.fProcs
  unfold szProg at h
  unfold vcntProg
  omega
theorem sum_zero {α : Type} {f : α → Nat} {l : List α} (h : ∀ x ∈ l, f x = 0) : (l.map f).sum = 0 := by
  induction l with
  | nil => rfl
  | cons x l ih =>
    simp only [List.map_cons, List.sum_cons]
    rw [h x (by simp), ih fun y hy => h y (by simp [hy])]
theorem newE_sz {p : DProg} : szEng (newE p) ≤ 1048576 := by
  cases h : progOkB p
  · rw [newE_no h]
    decide
  · rw [newE_yes h]
    obtain ⟨c1, c2, c3, -⟩ := progOk_counts h
    unfold szEng
    simp only [List.length_map, List.length_replicate, List.length_cons, List.length_nil]
    rw [sum_zero (f := szChan) (fun x hx => by obtain ⟨v, -, rfl⟩ := List.mem_map.1 hx; rfl), sum_zero (f := szMutex) (fun x hx => by rw [List.eq_of_mem_replicate hx]; rfl)]
    simp only [List.map_cons, List.map_nil, List.sum_cons, List.sum_nil]
    have : szGor (newG 0 0) ≤ 6 := by decide
    omega
end Go.Proofs.YtgfkadhojlddpaaGreatDoor
