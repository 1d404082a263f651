
/- ObjOf: the object of a shared instruction, in the model and in the program. -/

import Derived.Test.YtegbnmlipajclaaGDProg

import Derived.Deep.Cut

namespace Go.Proofs.Ytegbnmlipajclaa
set_option linter.unusedSimpArgs false
set_option linter.unusedVariables false
open Go.RowKit

/-- What ObjOf answers. -/
def objZ (op a : Int) : Int := if 8 ≤ op ∧ op < 15 then a else 0

set_option maxRecDepth 100000 in
set_option maxHeartbeats 4000000 in
theorem specShd_any (op : Int) (w : World) : Calls Try.prog 13 #[.int .i64 op] w fun e w' => e = .returned (.bool (decide (8 ≤ op ∧ op ≤ 15))) ∧ w = w' := by
  by_cases h0 : 8 ≤ op
  · by_cases h1 : op ≤ 15
    · rw [show decide (8 ≤ op ∧ op ≤ 15) = true from decide_eq_true ⟨h0, h1⟩]
      go_enter Try.func13, Try.ntmps13
      go_wp2
      go_ret
      exact ⟨rfl, rfl⟩
    · rw [show decide (8 ≤ op ∧ op ≤ 15) = false from decide_eq_false (fun h => h1 h.2)]
      have h2 : decide (op ≤ 15) = false := decide_eq_false h1
      clear h1
      go_enter Try.func13, Try.ntmps13
      go_wp2
      go_ret
      exact ⟨rfl, rfl⟩
  · rw [show decide (8 ≤ op ∧ op ≤ 15) = false from decide_eq_false (fun h => h0 h.1)]
    have h2 : decide (8 ≤ op) = false := decide_eq_false h0
    clear h0
    go_enter Try.func13, Try.ntmps13
    go_wp2
    go_ret
    exact ⟨rfl, rfl⟩

set_option maxRecDepth 100000 in
set_option maxHeartbeats 4000000 in
theorem implShd_any (op : Int) (w : World) : Calls Try.prog 14 #[.int .i64 op] w fun e w' => e = .returned (.bool (decide (8 ≤ op ∧ op ≤ 15))) ∧ w = w' := by
  by_cases h0 : 8 ≤ op
  · by_cases h1 : op ≤ 15
    · rw [show decide (8 ≤ op ∧ op ≤ 15) = true from decide_eq_true ⟨h0, h1⟩]
      go_enter Try.func14, Try.ntmps14
      go_wp2
      go_ret
      exact ⟨rfl, rfl⟩
    · rw [show decide (8 ≤ op ∧ op ≤ 15) = false from decide_eq_false (fun h => h1 h.2)]
      have h2 : decide (op ≤ 15) = false := decide_eq_false h1
      clear h1
      go_enter Try.func14, Try.ntmps14
      go_wp2
      go_ret
      exact ⟨rfl, rfl⟩
  · rw [show decide (8 ≤ op ∧ op ≤ 15) = false from decide_eq_false (fun h => h0 h.1)]
    have h2 : decide (8 ≤ op) = false := decide_eq_false h0
    clear h0
    go_enter Try.func14, Try.ntmps14
    go_wp2
    go_ret
    exact ⟨rfl, rfl⟩

set_option maxRecDepth 100000 in
set_option maxHeartbeats 4000000 in
theorem specObj_any (op a b c : Int) (w : World) : Calls Try.prog 5 #[.agg #[.int .i64 op, .int .i64 a, .int .i64 b, .int .i64 c]] w fun e w' => e = .returned (.int .i64 (objZ op a)) ∧ Below w.heap.size w w' := by
  have hbx := box_new w #[.int .i64 op, .int .i64 a, .int .i64 b, .int .i64 c] 25
  have hB : Below w.heap.size w (w.alloc (.cells #[.int .i64 op, .int .i64 a, .int .i64 b, .int .i64 c] 25)) := (Below.refl _ _).alloc (Nat.le_refl _) _
  have c0 := box_cell (j := 0) hbx rfl
  have c1 := box_cell (j := 1) hbx rfl
  have c2 := box_cell (j := 2) hbx rfl
  have c3 := box_cell (j := 3) hbx rfl
  clear hbx
  by_cases hs : 8 ≤ op ∧ op ≤ 15
  · by_cases hp : op = 15
    · subst hp
      rw [show objZ 15 a = 0 from rfl]
      go_enter Try.func5, Try.ntmps5
      go_wp2_with fail
      refine (specShd_any _ _).mono ?_
      rintro e w1 ⟨rfl, rfl⟩
      rw [decide_eq_true hs]
      go_wp2_with fail
      go_ret
      exact ⟨rfl, hB⟩
    · rw [show objZ op a = a from if_pos ⟨hs.1, by omega⟩]
      go_enter Try.func5, Try.ntmps5
      go_wp2_with fail
      refine (specShd_any _ _).mono ?_
      rintro e w1 ⟨rfl, rfl⟩
      rw [decide_eq_true hs]
      go_wp2_with fail
      go_ret
      exact ⟨rfl, hB⟩
  · rw [show objZ op a = 0 from if_neg (fun h => hs ⟨h.1, by omega⟩)]
    go_enter Try.func5, Try.ntmps5
    go_wp2_with fail
    refine (specShd_any _ _).mono ?_
    rintro e w1 ⟨rfl, rfl⟩
    rw [decide_eq_false hs]
    go_wp2_with fail
    go_ret
    exact ⟨rfl, hB⟩


set_option maxRecDepth 100000 in
set_option maxHeartbeats 4000000 in
theorem implObj_any (op a b c : Int) (w : World) : Calls Try.prog 7 #[.agg #[.int .i64 op, .int .i64 a, .int .i64 b, .int .i64 c]] w fun e w' => e = .returned (.int .i64 (objZ op a)) ∧ Below w.heap.size w w' := by
  have hbx := box_new w #[.int .i64 op, .int .i64 a, .int .i64 b, .int .i64 c] 25
  have hB : Below w.heap.size w (w.alloc (.cells #[.int .i64 op, .int .i64 a, .int .i64 b, .int .i64 c] 25)) := (Below.refl _ _).alloc (Nat.le_refl _) _
  have c0 := box_cell (j := 0) hbx rfl
  have c1 := box_cell (j := 1) hbx rfl
  have c2 := box_cell (j := 2) hbx rfl
  have c3 := box_cell (j := 3) hbx rfl
  clear hbx
  by_cases hs : 8 ≤ op ∧ op ≤ 15
  · by_cases hp : op = 15
    · subst hp
      rw [show objZ 15 a = 0 from rfl]
      go_enter Try.func7, Try.ntmps7
      go_wp2_with fail
      refine (implShd_any _ _).mono ?_
      rintro e w1 ⟨rfl, rfl⟩
      rw [decide_eq_true hs]
      go_wp2_with fail
      go_ret
      exact ⟨rfl, hB⟩
    · rw [show objZ op a = a from if_pos ⟨hs.1, by omega⟩]
      go_enter Try.func7, Try.ntmps7
      go_wp2_with fail
      refine (implShd_any _ _).mono ?_
      rintro e w1 ⟨rfl, rfl⟩
      rw [decide_eq_true hs]
      go_wp2_with fail
      go_ret
      exact ⟨rfl, hB⟩
  · rw [show objZ op a = 0 from if_neg (fun h => hs ⟨h.1, by omega⟩)]
    go_enter Try.func7, Try.ntmps7
    go_wp2_with fail
    refine (implShd_any _ _).mono ?_
    rintro e w1 ⟨rfl, rfl⟩
    rw [decide_eq_false hs]
    go_wp2_with fail
    go_ret
    exact ⟨rfl, hB⟩

end Go.Proofs.Ytegbnmlipajclaa
