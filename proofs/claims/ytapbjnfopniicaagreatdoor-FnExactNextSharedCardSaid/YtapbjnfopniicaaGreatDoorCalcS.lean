
/- Calc: the model's and the program's, at values. -/

import Derived.Test.YtapbjnfopniicaaGreatDoorLocM

namespace Go.Proofs.YtapbjnfopniicaaGreatDoor
set_option linter.unusedSimpArgs false
set_option linter.unusedVariables false
open Go.RowKit

theorem calc3 {x y : Int} (hx : 0 ≤ x ∧ x ≤ 999) (hy : 0 ≤ y ∧ y ≤ 999) : calcZ 3 x y = (x + y) % 1000 := by
  unfold calcZ; rw [okV_iff.2 hx, okV_iff.2 hy]; rfl
theorem calc4 {x y : Int} (hx : 0 ≤ x ∧ x ≤ 999) (hy : 0 ≤ y ∧ y ≤ 999) : calcZ 4 x y = (x - y) % 1000 := by
  unfold calcZ; rw [okV_iff.2 hx, okV_iff.2 hy]; rfl
theorem calc5 {x y : Int} (hx : 0 ≤ x ∧ x ≤ 999) (hy : 0 ≤ y ∧ y ≤ 999) : calcZ 5 x y = if x < y then 1 else 0 := by
  unfold calcZ; rw [okV_iff.2 hx, okV_iff.2 hy]; rfl

set_option maxRecDepth 100000 in
set_option maxHeartbeats 4000000 in
theorem specCalc_any {op x y : Int} (hop : op = 3 ∨ op = 4 ∨ op = 5) (hx : 0 ≤ x ∧ x ≤ 999) (hy : 0 ≤ y ∧ y ≤ 999) (w : World) :
    Calls Tryz.prog 56 #[.int .i64 op, .int .i64 x, .int .i64 y] w fun e w' => e = .returned (.int .i64 (calcZ op x y)) ∧ w = w' := by
  rcases hop with rfl | rfl | rfl
  · rw [calc3 hx hy]
    obtain ⟨x0, x1⟩ := hx
    obtain ⟨y0, y1⟩ := hy
    have hm : (x + y).tmod 1000 = (x + y) % 1000 := Int.tmod_eq_emod_of_nonneg (by omega)
    go_enter Tryz.func56, Tryz.ntmps56
    go_wp2
    go_ret
    exact ⟨by first | rfl | (rw [← hm]), rfl⟩
  · rw [calc4 hx hy]
    obtain ⟨x0, x1⟩ := hx
    obtain ⟨y0, y1⟩ := hy
    by_cases h : 0 ≤ x - y
    · have hm : (x - y) % 1000 = x - y := by omega
      have ht : (x - y).tmod 1000 = x - y := (Int.tmod_eq_emod_of_nonneg h).trans hm
      rw [hm]
      go_enter Tryz.func56, Tryz.ntmps56
      go_wp2
      go_ret
      exact ⟨rfl, rfl⟩
    · have hm : (x - y) % 1000 = x - y + 1000 := by omega
      have ht : (x - y).tmod 1000 = x - y := by
        have h1 : (x - y).tmod 1000 = -((y - x).tmod 1000) := by rw [← Int.neg_tmod]; congr 1; omega
        rw [h1, Int.tmod_eq_emod_of_nonneg (by omega)]
        omega
      rw [hm]
      go_enter Tryz.func56, Tryz.ntmps56
      go_wp2
      go_ret
      exact ⟨rfl, rfl⟩
  · rw [calc5 hx hy]
    obtain ⟨x0, x1⟩ := hx
    obtain ⟨y0, y1⟩ := hy
    by_cases h : x < y
    · rw [if_pos h]
      go_enter Tryz.func56, Tryz.ntmps56
      go_wp2
      go_ret
      exact ⟨rfl, rfl⟩
    · rw [if_neg h]
      have h2 : decide (x < y) = false := decide_eq_false h
      clear h
      go_enter Tryz.func56, Tryz.ntmps56
      go_wp2
      go_ret
      exact ⟨rfl, rfl⟩

set_option maxRecDepth 100000 in
set_option maxHeartbeats 4000000 in
theorem implCalc_any {op x y : Int} (hop : op = 3 ∨ op = 4 ∨ op = 5) (hx : 0 ≤ x ∧ x ≤ 999) (hy : 0 ≤ y ∧ y ≤ 999) (w : World) :
    Calls Tryz.prog 113 #[.int .i64 op, .int .i64 x, .int .i64 y] w fun e w' => e = .returned (.int .i64 (calcZ op x y)) ∧ w = w' := by
  rcases hop with rfl | rfl | rfl
  · rw [calc3 hx hy]
    obtain ⟨x0, x1⟩ := hx
    obtain ⟨y0, y1⟩ := hy
    have hm : (x + y).tmod 1000 = (x + y) % 1000 := Int.tmod_eq_emod_of_nonneg (by omega)
    go_enter Tryz.func113, Tryz.ntmps113
    go_wp2
    go_ret
    exact ⟨by first | rfl | (rw [← hm]), rfl⟩
  · rw [calc4 hx hy]
    obtain ⟨x0, x1⟩ := hx
    obtain ⟨y0, y1⟩ := hy
    by_cases h : 0 ≤ x - y
    · have hm : (x - y) % 1000 = x - y := by omega
      have ht : (x - y).tmod 1000 = x - y := (Int.tmod_eq_emod_of_nonneg h).trans hm
      rw [hm]
      go_enter Tryz.func113, Tryz.ntmps113
      go_wp2
      go_ret
      exact ⟨rfl, rfl⟩
    · have hm : (x - y) % 1000 = x - y + 1000 := by omega
      have ht : (x - y).tmod 1000 = x - y := by
        have h1 : (x - y).tmod 1000 = -((y - x).tmod 1000) := by rw [← Int.neg_tmod]; congr 1; omega
        rw [h1, Int.tmod_eq_emod_of_nonneg (by omega)]
        omega
      rw [hm]
      go_enter Tryz.func113, Tryz.ntmps113
      go_wp2
      go_ret
      exact ⟨rfl, rfl⟩
  · rw [calc5 hx hy]
    obtain ⟨x0, x1⟩ := hx
    obtain ⟨y0, y1⟩ := hy
    by_cases h : x < y
    · rw [if_pos h]
      go_enter Tryz.func113, Tryz.ntmps113
      go_wp2
      go_ret
      exact ⟨rfl, rfl⟩
    · rw [if_neg h]
      have h2 : decide (x < y) = false := decide_eq_false h
      clear h
      go_enter Tryz.func113, Tryz.ntmps113
      go_wp2
      go_ret
      exact ⟨rfl, rfl⟩
end Go.Proofs.YtapbjnfopniicaaGreatDoor
