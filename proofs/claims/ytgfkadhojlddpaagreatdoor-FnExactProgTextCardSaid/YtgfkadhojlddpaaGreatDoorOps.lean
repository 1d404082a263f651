
/- Contracts of OpWord and Fields, the program's and the model's. -/

import Derived.Test.YtgfkadhojlddpaaGreatDoorOpTab

import Derived.Handy

namespace Go.Proofs.YtgfkadhojlddpaaGreatDoor

open Go.RowKit

set_option maxHeartbeats 1000000 in
theorem implOpWord_any (z : Int) (w : World) (hC : OpCells w) :
    Calls Tryz.prog 153 #[.int .i64 z] w fun e w' => e = .returned (Tx (opWord z)) ∧ w = w' := by
  by_cases h : 1 ≤ z ∧ z ≤ 15
  · have hx := fun k hk => (hC k hk).1
    clear hC
    have c0 := hx 0 (by decide)
    have c1 := hx 1 (by decide)
    have c2 := hx 2 (by decide)
    have c3 := hx 3 (by decide)
    have c4 := hx 4 (by decide)
    have c5 := hx 5 (by decide)
    have c6 := hx 6 (by decide)
    have c7 := hx 7 (by decide)
    have c8 := hx 8 (by decide)
    have c9 := hx 9 (by decide)
    have c10 := hx 10 (by decide)
    have c11 := hx 11 (by decide)
    have c12 := hx 12 (by decide)
    have c13 := hx 13 (by decide)
    have c14 := hx 14 (by decide)
    clear hx
    simp only [opWords, List.getD_cons_zero, List.getD_cons_succ] at *
    rcases op_cases h with rfl | rfl | rfl | rfl | rfl | rfl | rfl | rfl | rfl | rfl | rfl | rfl | rfl | rfl | rfl
    all_goals
      clear h
      go_enter Tryz.func153, Tryz.ntmps153
      go_wp2
      go_ret
      exact ⟨rfl, rfl⟩
  · clear hC
    have ho : opWord z = [] := by rw [opWord, if_neg h]
    rw [ho]
    clear ho
    have h1 : z < 1 ∨ 15 < z := by omega
    clear h
    rcases h1 with h1 | h1
    · go_enter Tryz.func153, Tryz.ntmps153
      go_wp2
      go_ret
      exact ⟨rfl, rfl⟩
    · have hle : decide (z ≤ 15) = false := by simp; omega
      go_enter Tryz.func153, Tryz.ntmps153
      go_wp2
      go_ret
      exact ⟨rfl, rfl⟩

set_option maxRecDepth 100000 in
set_option maxHeartbeats 1000000 in
theorem implFields_1 (w : World) (c1 : w.cell? ⟨0, 5, none⟩ = some (.int .i64 0)) (c2 : w.cell? ⟨0, 6, none⟩ = some (.int .i64 0)) (c3 : w.cell? ⟨0, 7, none⟩ = some (.int .i64 0)) :
    Calls Tryz.prog 93 #[.int .i64 1] w fun e w' => e = .returned (.int .i64 (opField 1)) ∧ Below w.heap.size w w' := by
  have e0 : ∀ W, (binOp .eql 202 (.agg #[.int .i64 0, .int .i64 0, .int .i64 0]) (.agg #[.int .i64 0, .int .i64 0, .int .i64 0])).run Tryz.prog W = .ok (.bool true) W := fun _ => by kernel_rfl
  have i0 : ∀ W, (Instr.index 202 (.agg #[.int .i64 0, .int .i64 0, .int .i64 0]) (.int .i64 0)).run Tryz.prog W = .ok (.int .i64 0) W := fun _ => by kernel_rfl
  go_enter Tryz.func93, Tryz.ntmps93
  go_wp2
  go_rounds 4
  go_ret
  exact ⟨rfl, by go_grown⟩

set_option maxRecDepth 100000 in
set_option maxHeartbeats 1000000 in
theorem implFields_2 (w : World) (c1 : w.cell? ⟨0, 9, none⟩ = some (.int .i64 1)) (c2 : w.cell? ⟨0, 10, none⟩ = some (.int .i64 2)) (c3 : w.cell? ⟨0, 11, none⟩ = some (.int .i64 0)) :
    Calls Tryz.prog 93 #[.int .i64 2] w fun e w' => e = .returned (.int .i64 (opField 2)) ∧ Below w.heap.size w w' := by
  have e0 : ∀ W, (binOp .eql 202 (.agg #[.int .i64 0, .int .i64 0, .int .i64 0]) (.agg #[.int .i64 1, .int .i64 2, .int .i64 0])).run Tryz.prog W = .ok (.bool false) W := fun _ => by kernel_rfl
  have i0 : ∀ W, (Instr.index 202 (.agg #[.int .i64 1, .int .i64 2, .int .i64 0]) (.int .i64 0)).run Tryz.prog W = .ok (.int .i64 1) W := fun _ => by kernel_rfl
  have e1 : ∀ W, (binOp .eql 202 (.agg #[.int .i64 1, .int .i64 0, .int .i64 0]) (.agg #[.int .i64 1, .int .i64 2, .int .i64 0])).run Tryz.prog W = .ok (.bool false) W := fun _ => by kernel_rfl
  have i1 : ∀ W, (Instr.index 202 (.agg #[.int .i64 1, .int .i64 2, .int .i64 0]) (.int .i64 1)).run Tryz.prog W = .ok (.int .i64 2) W := fun _ => by kernel_rfl
  have e2 : ∀ W, (binOp .eql 202 (.agg #[.int .i64 1, .int .i64 2, .int .i64 0]) (.agg #[.int .i64 1, .int .i64 2, .int .i64 0])).run Tryz.prog W = .ok (.bool true) W := fun _ => by kernel_rfl
  have i2 : ∀ W, (Instr.index 202 (.agg #[.int .i64 1, .int .i64 2, .int .i64 0]) (.int .i64 2)).run Tryz.prog W = .ok (.int .i64 0) W := fun _ => by kernel_rfl
  go_enter Tryz.func93, Tryz.ntmps93
  go_wp2
  go_rounds 4
  go_ret
  exact ⟨rfl, by go_grown⟩

set_option maxRecDepth 100000 in
set_option maxHeartbeats 1000000 in
theorem implFields_3 (w : World) (c1 : w.cell? ⟨0, 13, none⟩ = some (.int .i64 1)) (c2 : w.cell? ⟨0, 14, none⟩ = some (.int .i64 1)) (c3 : w.cell? ⟨0, 15, none⟩ = some (.int .i64 1)) :
    Calls Tryz.prog 93 #[.int .i64 3] w fun e w' => e = .returned (.int .i64 (opField 3)) ∧ Below w.heap.size w w' := by
  have e0 : ∀ W, (binOp .eql 202 (.agg #[.int .i64 0, .int .i64 0, .int .i64 0]) (.agg #[.int .i64 1, .int .i64 1, .int .i64 1])).run Tryz.prog W = .ok (.bool false) W := fun _ => by kernel_rfl
  have i0 : ∀ W, (Instr.index 202 (.agg #[.int .i64 1, .int .i64 1, .int .i64 1]) (.int .i64 0)).run Tryz.prog W = .ok (.int .i64 1) W := fun _ => by kernel_rfl
  have e1 : ∀ W, (binOp .eql 202 (.agg #[.int .i64 1, .int .i64 0, .int .i64 0]) (.agg #[.int .i64 1, .int .i64 1, .int .i64 1])).run Tryz.prog W = .ok (.bool false) W := fun _ => by kernel_rfl
  have i1 : ∀ W, (Instr.index 202 (.agg #[.int .i64 1, .int .i64 1, .int .i64 1]) (.int .i64 1)).run Tryz.prog W = .ok (.int .i64 1) W := fun _ => by kernel_rfl
  have e2 : ∀ W, (binOp .eql 202 (.agg #[.int .i64 1, .int .i64 1, .int .i64 0]) (.agg #[.int .i64 1, .int .i64 1, .int .i64 1])).run Tryz.prog W = .ok (.bool false) W := fun _ => by kernel_rfl
  have i2 : ∀ W, (Instr.index 202 (.agg #[.int .i64 1, .int .i64 1, .int .i64 1]) (.int .i64 2)).run Tryz.prog W = .ok (.int .i64 1) W := fun _ => by kernel_rfl
  go_enter Tryz.func93, Tryz.ntmps93
  go_wp2
  go_rounds 4
  go_ret
  exact ⟨rfl, by go_grown⟩

set_option maxRecDepth 100000 in
set_option maxHeartbeats 1000000 in
theorem implFields_4 (w : World) (c1 : w.cell? ⟨0, 17, none⟩ = some (.int .i64 1)) (c2 : w.cell? ⟨0, 18, none⟩ = some (.int .i64 1)) (c3 : w.cell? ⟨0, 19, none⟩ = some (.int .i64 1)) :
    Calls Tryz.prog 93 #[.int .i64 4] w fun e w' => e = .returned (.int .i64 (opField 4)) ∧ Below w.heap.size w w' := by
  have e0 : ∀ W, (binOp .eql 202 (.agg #[.int .i64 0, .int .i64 0, .int .i64 0]) (.agg #[.int .i64 1, .int .i64 1, .int .i64 1])).run Tryz.prog W = .ok (.bool false) W := fun _ => by kernel_rfl
  have i0 : ∀ W, (Instr.index 202 (.agg #[.int .i64 1, .int .i64 1, .int .i64 1]) (.int .i64 0)).run Tryz.prog W = .ok (.int .i64 1) W := fun _ => by kernel_rfl
  have e1 : ∀ W, (binOp .eql 202 (.agg #[.int .i64 1, .int .i64 0, .int .i64 0]) (.agg #[.int .i64 1, .int .i64 1, .int .i64 1])).run Tryz.prog W = .ok (.bool false) W := fun _ => by kernel_rfl
  have i1 : ∀ W, (Instr.index 202 (.agg #[.int .i64 1, .int .i64 1, .int .i64 1]) (.int .i64 1)).run Tryz.prog W = .ok (.int .i64 1) W := fun _ => by kernel_rfl
  have e2 : ∀ W, (binOp .eql 202 (.agg #[.int .i64 1, .int .i64 1, .int .i64 0]) (.agg #[.int .i64 1, .int .i64 1, .int .i64 1])).run Tryz.prog W = .ok (.bool false) W := fun _ => by kernel_rfl
  have i2 : ∀ W, (Instr.index 202 (.agg #[.int .i64 1, .int .i64 1, .int .i64 1]) (.int .i64 2)).run Tryz.prog W = .ok (.int .i64 1) W := fun _ => by kernel_rfl
  go_enter Tryz.func93, Tryz.ntmps93
  go_wp2
  go_rounds 4
  go_ret
  exact ⟨rfl, by go_grown⟩

set_option maxRecDepth 100000 in
set_option maxHeartbeats 1000000 in
theorem implFields_5 (w : World) (c1 : w.cell? ⟨0, 21, none⟩ = some (.int .i64 1)) (c2 : w.cell? ⟨0, 22, none⟩ = some (.int .i64 1)) (c3 : w.cell? ⟨0, 23, none⟩ = some (.int .i64 1)) :
    Calls Tryz.prog 93 #[.int .i64 5] w fun e w' => e = .returned (.int .i64 (opField 5)) ∧ Below w.heap.size w w' := by
  have e0 : ∀ W, (binOp .eql 202 (.agg #[.int .i64 0, .int .i64 0, .int .i64 0]) (.agg #[.int .i64 1, .int .i64 1, .int .i64 1])).run Tryz.prog W = .ok (.bool false) W := fun _ => by kernel_rfl
  have i0 : ∀ W, (Instr.index 202 (.agg #[.int .i64 1, .int .i64 1, .int .i64 1]) (.int .i64 0)).run Tryz.prog W = .ok (.int .i64 1) W := fun _ => by kernel_rfl
  have e1 : ∀ W, (binOp .eql 202 (.agg #[.int .i64 1, .int .i64 0, .int .i64 0]) (.agg #[.int .i64 1, .int .i64 1, .int .i64 1])).run Tryz.prog W = .ok (.bool false) W := fun _ => by kernel_rfl
  have i1 : ∀ W, (Instr.index 202 (.agg #[.int .i64 1, .int .i64 1, .int .i64 1]) (.int .i64 1)).run Tryz.prog W = .ok (.int .i64 1) W := fun _ => by kernel_rfl
  have e2 : ∀ W, (binOp .eql 202 (.agg #[.int .i64 1, .int .i64 1, .int .i64 0]) (.agg #[.int .i64 1, .int .i64 1, .int .i64 1])).run Tryz.prog W = .ok (.bool false) W := fun _ => by kernel_rfl
  have i2 : ∀ W, (Instr.index 202 (.agg #[.int .i64 1, .int .i64 1, .int .i64 1]) (.int .i64 2)).run Tryz.prog W = .ok (.int .i64 1) W := fun _ => by kernel_rfl
  go_enter Tryz.func93, Tryz.ntmps93
  go_wp2
  go_rounds 4
  go_ret
  exact ⟨rfl, by go_grown⟩

set_option maxRecDepth 100000 in
set_option maxHeartbeats 1000000 in
theorem implFields_6 (w : World) (c1 : w.cell? ⟨0, 25, none⟩ = some (.int .i64 3)) (c2 : w.cell? ⟨0, 26, none⟩ = some (.int .i64 0)) (c3 : w.cell? ⟨0, 27, none⟩ = some (.int .i64 0)) :
    Calls Tryz.prog 93 #[.int .i64 6] w fun e w' => e = .returned (.int .i64 (opField 6)) ∧ Below w.heap.size w w' := by
  have e0 : ∀ W, (binOp .eql 202 (.agg #[.int .i64 0, .int .i64 0, .int .i64 0]) (.agg #[.int .i64 3, .int .i64 0, .int .i64 0])).run Tryz.prog W = .ok (.bool false) W := fun _ => by kernel_rfl
  have i0 : ∀ W, (Instr.index 202 (.agg #[.int .i64 3, .int .i64 0, .int .i64 0]) (.int .i64 0)).run Tryz.prog W = .ok (.int .i64 3) W := fun _ => by kernel_rfl
  have e1 : ∀ W, (binOp .eql 202 (.agg #[.int .i64 3, .int .i64 0, .int .i64 0]) (.agg #[.int .i64 3, .int .i64 0, .int .i64 0])).run Tryz.prog W = .ok (.bool true) W := fun _ => by kernel_rfl
  have i1 : ∀ W, (Instr.index 202 (.agg #[.int .i64 3, .int .i64 0, .int .i64 0]) (.int .i64 1)).run Tryz.prog W = .ok (.int .i64 0) W := fun _ => by kernel_rfl
  go_enter Tryz.func93, Tryz.ntmps93
  go_wp2
  go_rounds 4
  go_ret
  exact ⟨rfl, by go_grown⟩

set_option maxRecDepth 100000 in
set_option maxHeartbeats 1000000 in
theorem implFields_7 (w : World) (c1 : w.cell? ⟨0, 29, none⟩ = some (.int .i64 1)) (c2 : w.cell? ⟨0, 30, none⟩ = some (.int .i64 3)) (c3 : w.cell? ⟨0, 31, none⟩ = some (.int .i64 0)) :
    Calls Tryz.prog 93 #[.int .i64 7] w fun e w' => e = .returned (.int .i64 (opField 7)) ∧ Below w.heap.size w w' := by
  have e0 : ∀ W, (binOp .eql 202 (.agg #[.int .i64 0, .int .i64 0, .int .i64 0]) (.agg #[.int .i64 1, .int .i64 3, .int .i64 0])).run Tryz.prog W = .ok (.bool false) W := fun _ => by kernel_rfl
  have i0 : ∀ W, (Instr.index 202 (.agg #[.int .i64 1, .int .i64 3, .int .i64 0]) (.int .i64 0)).run Tryz.prog W = .ok (.int .i64 1) W := fun _ => by kernel_rfl
  have e1 : ∀ W, (binOp .eql 202 (.agg #[.int .i64 1, .int .i64 0, .int .i64 0]) (.agg #[.int .i64 1, .int .i64 3, .int .i64 0])).run Tryz.prog W = .ok (.bool false) W := fun _ => by kernel_rfl
  have i1 : ∀ W, (Instr.index 202 (.agg #[.int .i64 1, .int .i64 3, .int .i64 0]) (.int .i64 1)).run Tryz.prog W = .ok (.int .i64 3) W := fun _ => by kernel_rfl
  have e2 : ∀ W, (binOp .eql 202 (.agg #[.int .i64 1, .int .i64 3, .int .i64 0]) (.agg #[.int .i64 1, .int .i64 3, .int .i64 0])).run Tryz.prog W = .ok (.bool true) W := fun _ => by kernel_rfl
  have i2 : ∀ W, (Instr.index 202 (.agg #[.int .i64 1, .int .i64 3, .int .i64 0]) (.int .i64 2)).run Tryz.prog W = .ok (.int .i64 0) W := fun _ => by kernel_rfl
  go_enter Tryz.func93, Tryz.ntmps93
  go_wp2
  go_rounds 4
  go_ret
  exact ⟨rfl, by go_grown⟩

set_option maxRecDepth 100000 in
set_option maxHeartbeats 1000000 in
theorem implFields_8 (w : World) (c1 : w.cell? ⟨0, 33, none⟩ = some (.int .i64 4)) (c2 : w.cell? ⟨0, 34, none⟩ = some (.int .i64 1)) (c3 : w.cell? ⟨0, 35, none⟩ = some (.int .i64 0)) :
    Calls Tryz.prog 93 #[.int .i64 8] w fun e w' => e = .returned (.int .i64 (opField 8)) ∧ Below w.heap.size w w' := by
  have e0 : ∀ W, (binOp .eql 202 (.agg #[.int .i64 0, .int .i64 0, .int .i64 0]) (.agg #[.int .i64 4, .int .i64 1, .int .i64 0])).run Tryz.prog W = .ok (.bool false) W := fun _ => by kernel_rfl
  have i0 : ∀ W, (Instr.index 202 (.agg #[.int .i64 4, .int .i64 1, .int .i64 0]) (.int .i64 0)).run Tryz.prog W = .ok (.int .i64 4) W := fun _ => by kernel_rfl
  have e1 : ∀ W, (binOp .eql 202 (.agg #[.int .i64 4, .int .i64 0, .int .i64 0]) (.agg #[.int .i64 4, .int .i64 1, .int .i64 0])).run Tryz.prog W = .ok (.bool false) W := fun _ => by kernel_rfl
  have i1 : ∀ W, (Instr.index 202 (.agg #[.int .i64 4, .int .i64 1, .int .i64 0]) (.int .i64 1)).run Tryz.prog W = .ok (.int .i64 1) W := fun _ => by kernel_rfl
  have e2 : ∀ W, (binOp .eql 202 (.agg #[.int .i64 4, .int .i64 1, .int .i64 0]) (.agg #[.int .i64 4, .int .i64 1, .int .i64 0])).run Tryz.prog W = .ok (.bool true) W := fun _ => by kernel_rfl
  have i2 : ∀ W, (Instr.index 202 (.agg #[.int .i64 4, .int .i64 1, .int .i64 0]) (.int .i64 2)).run Tryz.prog W = .ok (.int .i64 0) W := fun _ => by kernel_rfl
  go_enter Tryz.func93, Tryz.ntmps93
  go_wp2
  go_rounds 4
  go_ret
  exact ⟨rfl, by go_grown⟩

set_option maxRecDepth 100000 in
set_option maxHeartbeats 1000000 in
theorem implFields_9 (w : World) (c1 : w.cell? ⟨0, 37, none⟩ = some (.int .i64 4)) (c2 : w.cell? ⟨0, 38, none⟩ = some (.int .i64 1)) (c3 : w.cell? ⟨0, 39, none⟩ = some (.int .i64 1)) :
    Calls Tryz.prog 93 #[.int .i64 9] w fun e w' => e = .returned (.int .i64 (opField 9)) ∧ Below w.heap.size w w' := by
  have e0 : ∀ W, (binOp .eql 202 (.agg #[.int .i64 0, .int .i64 0, .int .i64 0]) (.agg #[.int .i64 4, .int .i64 1, .int .i64 1])).run Tryz.prog W = .ok (.bool false) W := fun _ => by kernel_rfl
  have i0 : ∀ W, (Instr.index 202 (.agg #[.int .i64 4, .int .i64 1, .int .i64 1]) (.int .i64 0)).run Tryz.prog W = .ok (.int .i64 4) W := fun _ => by kernel_rfl
  have e1 : ∀ W, (binOp .eql 202 (.agg #[.int .i64 4, .int .i64 0, .int .i64 0]) (.agg #[.int .i64 4, .int .i64 1, .int .i64 1])).run Tryz.prog W = .ok (.bool false) W := fun _ => by kernel_rfl
  have i1 : ∀ W, (Instr.index 202 (.agg #[.int .i64 4, .int .i64 1, .int .i64 1]) (.int .i64 1)).run Tryz.prog W = .ok (.int .i64 1) W := fun _ => by kernel_rfl
  have e2 : ∀ W, (binOp .eql 202 (.agg #[.int .i64 4, .int .i64 1, .int .i64 0]) (.agg #[.int .i64 4, .int .i64 1, .int .i64 1])).run Tryz.prog W = .ok (.bool false) W := fun _ => by kernel_rfl
  have i2 : ∀ W, (Instr.index 202 (.agg #[.int .i64 4, .int .i64 1, .int .i64 1]) (.int .i64 2)).run Tryz.prog W = .ok (.int .i64 1) W := fun _ => by kernel_rfl
  go_enter Tryz.func93, Tryz.ntmps93
  go_wp2
  go_rounds 4
  go_ret
  exact ⟨rfl, by go_grown⟩

set_option maxRecDepth 100000 in
set_option maxHeartbeats 1000000 in
theorem implFields_10 (w : World) (c1 : w.cell? ⟨0, 41, none⟩ = some (.int .i64 4)) (c2 : w.cell? ⟨0, 42, none⟩ = some (.int .i64 0)) (c3 : w.cell? ⟨0, 43, none⟩ = some (.int .i64 0)) :
    Calls Tryz.prog 93 #[.int .i64 10] w fun e w' => e = .returned (.int .i64 (opField 10)) ∧ Below w.heap.size w w' := by
  have e0 : ∀ W, (binOp .eql 202 (.agg #[.int .i64 0, .int .i64 0, .int .i64 0]) (.agg #[.int .i64 4, .int .i64 0, .int .i64 0])).run Tryz.prog W = .ok (.bool false) W := fun _ => by kernel_rfl
  have i0 : ∀ W, (Instr.index 202 (.agg #[.int .i64 4, .int .i64 0, .int .i64 0]) (.int .i64 0)).run Tryz.prog W = .ok (.int .i64 4) W := fun _ => by kernel_rfl
  have e1 : ∀ W, (binOp .eql 202 (.agg #[.int .i64 4, .int .i64 0, .int .i64 0]) (.agg #[.int .i64 4, .int .i64 0, .int .i64 0])).run Tryz.prog W = .ok (.bool true) W := fun _ => by kernel_rfl
  have i1 : ∀ W, (Instr.index 202 (.agg #[.int .i64 4, .int .i64 0, .int .i64 0]) (.int .i64 1)).run Tryz.prog W = .ok (.int .i64 0) W := fun _ => by kernel_rfl
  go_enter Tryz.func93, Tryz.ntmps93
  go_wp2
  go_rounds 4
  go_ret
  exact ⟨rfl, by go_grown⟩

set_option maxRecDepth 100000 in
set_option maxHeartbeats 1000000 in
theorem implFields_11 (w : World) (c1 : w.cell? ⟨0, 45, none⟩ = some (.int .i64 5)) (c2 : w.cell? ⟨0, 46, none⟩ = some (.int .i64 0)) (c3 : w.cell? ⟨0, 47, none⟩ = some (.int .i64 0)) :
    Calls Tryz.prog 93 #[.int .i64 11] w fun e w' => e = .returned (.int .i64 (opField 11)) ∧ Below w.heap.size w w' := by
  have e0 : ∀ W, (binOp .eql 202 (.agg #[.int .i64 0, .int .i64 0, .int .i64 0]) (.agg #[.int .i64 5, .int .i64 0, .int .i64 0])).run Tryz.prog W = .ok (.bool false) W := fun _ => by kernel_rfl
  have i0 : ∀ W, (Instr.index 202 (.agg #[.int .i64 5, .int .i64 0, .int .i64 0]) (.int .i64 0)).run Tryz.prog W = .ok (.int .i64 5) W := fun _ => by kernel_rfl
  have e1 : ∀ W, (binOp .eql 202 (.agg #[.int .i64 5, .int .i64 0, .int .i64 0]) (.agg #[.int .i64 5, .int .i64 0, .int .i64 0])).run Tryz.prog W = .ok (.bool true) W := fun _ => by kernel_rfl
  have i1 : ∀ W, (Instr.index 202 (.agg #[.int .i64 5, .int .i64 0, .int .i64 0]) (.int .i64 1)).run Tryz.prog W = .ok (.int .i64 0) W := fun _ => by kernel_rfl
  go_enter Tryz.func93, Tryz.ntmps93
  go_wp2
  go_rounds 4
  go_ret
  exact ⟨rfl, by go_grown⟩

set_option maxRecDepth 100000 in
set_option maxHeartbeats 1000000 in
theorem implFields_12 (w : World) (c1 : w.cell? ⟨0, 49, none⟩ = some (.int .i64 6)) (c2 : w.cell? ⟨0, 50, none⟩ = some (.int .i64 0)) (c3 : w.cell? ⟨0, 51, none⟩ = some (.int .i64 0)) :
    Calls Tryz.prog 93 #[.int .i64 12] w fun e w' => e = .returned (.int .i64 (opField 12)) ∧ Below w.heap.size w w' := by
  have e0 : ∀ W, (binOp .eql 202 (.agg #[.int .i64 0, .int .i64 0, .int .i64 0]) (.agg #[.int .i64 6, .int .i64 0, .int .i64 0])).run Tryz.prog W = .ok (.bool false) W := fun _ => by kernel_rfl
  have i0 : ∀ W, (Instr.index 202 (.agg #[.int .i64 6, .int .i64 0, .int .i64 0]) (.int .i64 0)).run Tryz.prog W = .ok (.int .i64 6) W := fun _ => by kernel_rfl
  have e1 : ∀ W, (binOp .eql 202 (.agg #[.int .i64 6, .int .i64 0, .int .i64 0]) (.agg #[.int .i64 6, .int .i64 0, .int .i64 0])).run Tryz.prog W = .ok (.bool true) W := fun _ => by kernel_rfl
  have i1 : ∀ W, (Instr.index 202 (.agg #[.int .i64 6, .int .i64 0, .int .i64 0]) (.int .i64 1)).run Tryz.prog W = .ok (.int .i64 0) W := fun _ => by kernel_rfl
  go_enter Tryz.func93, Tryz.ntmps93
  go_wp2
  go_rounds 4
  go_ret
  exact ⟨rfl, by go_grown⟩

set_option maxRecDepth 100000 in
set_option maxHeartbeats 1000000 in
theorem implFields_13 (w : World) (c1 : w.cell? ⟨0, 53, none⟩ = some (.int .i64 6)) (c2 : w.cell? ⟨0, 54, none⟩ = some (.int .i64 0)) (c3 : w.cell? ⟨0, 55, none⟩ = some (.int .i64 0)) :
    Calls Tryz.prog 93 #[.int .i64 13] w fun e w' => e = .returned (.int .i64 (opField 13)) ∧ Below w.heap.size w w' := by
  have e0 : ∀ W, (binOp .eql 202 (.agg #[.int .i64 0, .int .i64 0, .int .i64 0]) (.agg #[.int .i64 6, .int .i64 0, .int .i64 0])).run Tryz.prog W = .ok (.bool false) W := fun _ => by kernel_rfl
  have i0 : ∀ W, (Instr.index 202 (.agg #[.int .i64 6, .int .i64 0, .int .i64 0]) (.int .i64 0)).run Tryz.prog W = .ok (.int .i64 6) W := fun _ => by kernel_rfl
  have e1 : ∀ W, (binOp .eql 202 (.agg #[.int .i64 6, .int .i64 0, .int .i64 0]) (.agg #[.int .i64 6, .int .i64 0, .int .i64 0])).run Tryz.prog W = .ok (.bool true) W := fun _ => by kernel_rfl
  have i1 : ∀ W, (Instr.index 202 (.agg #[.int .i64 6, .int .i64 0, .int .i64 0]) (.int .i64 1)).run Tryz.prog W = .ok (.int .i64 0) W := fun _ => by kernel_rfl
  go_enter Tryz.func93, Tryz.ntmps93
  go_wp2
  go_rounds 4
  go_ret
  exact ⟨rfl, by go_grown⟩

set_option maxRecDepth 100000 in
set_option maxHeartbeats 1000000 in
theorem implFields_14 (w : World) (c1 : w.cell? ⟨0, 57, none⟩ = some (.int .i64 7)) (c2 : w.cell? ⟨0, 58, none⟩ = some (.int .i64 1)) (c3 : w.cell? ⟨0, 59, none⟩ = some (.int .i64 0)) :
    Calls Tryz.prog 93 #[.int .i64 14] w fun e w' => e = .returned (.int .i64 (opField 14)) ∧ Below w.heap.size w w' := by
  have e0 : ∀ W, (binOp .eql 202 (.agg #[.int .i64 0, .int .i64 0, .int .i64 0]) (.agg #[.int .i64 7, .int .i64 1, .int .i64 0])).run Tryz.prog W = .ok (.bool false) W := fun _ => by kernel_rfl
  have i0 : ∀ W, (Instr.index 202 (.agg #[.int .i64 7, .int .i64 1, .int .i64 0]) (.int .i64 0)).run Tryz.prog W = .ok (.int .i64 7) W := fun _ => by kernel_rfl
  have e1 : ∀ W, (binOp .eql 202 (.agg #[.int .i64 7, .int .i64 0, .int .i64 0]) (.agg #[.int .i64 7, .int .i64 1, .int .i64 0])).run Tryz.prog W = .ok (.bool false) W := fun _ => by kernel_rfl
  have i1 : ∀ W, (Instr.index 202 (.agg #[.int .i64 7, .int .i64 1, .int .i64 0]) (.int .i64 1)).run Tryz.prog W = .ok (.int .i64 1) W := fun _ => by kernel_rfl
  have e2 : ∀ W, (binOp .eql 202 (.agg #[.int .i64 7, .int .i64 1, .int .i64 0]) (.agg #[.int .i64 7, .int .i64 1, .int .i64 0])).run Tryz.prog W = .ok (.bool true) W := fun _ => by kernel_rfl
  have i2 : ∀ W, (Instr.index 202 (.agg #[.int .i64 7, .int .i64 1, .int .i64 0]) (.int .i64 2)).run Tryz.prog W = .ok (.int .i64 0) W := fun _ => by kernel_rfl
  go_enter Tryz.func93, Tryz.ntmps93
  go_wp2
  go_rounds 4
  go_ret
  exact ⟨rfl, by go_grown⟩

set_option maxRecDepth 100000 in
set_option maxHeartbeats 1000000 in
theorem implFields_15 (w : World) (c1 : w.cell? ⟨0, 61, none⟩ = some (.int .i64 1)) (c2 : w.cell? ⟨0, 62, none⟩ = some (.int .i64 0)) (c3 : w.cell? ⟨0, 63, none⟩ = some (.int .i64 0)) :
    Calls Tryz.prog 93 #[.int .i64 15] w fun e w' => e = .returned (.int .i64 (opField 15)) ∧ Below w.heap.size w w' := by
  have e0 : ∀ W, (binOp .eql 202 (.agg #[.int .i64 0, .int .i64 0, .int .i64 0]) (.agg #[.int .i64 1, .int .i64 0, .int .i64 0])).run Tryz.prog W = .ok (.bool false) W := fun _ => by kernel_rfl
  have i0 : ∀ W, (Instr.index 202 (.agg #[.int .i64 1, .int .i64 0, .int .i64 0]) (.int .i64 0)).run Tryz.prog W = .ok (.int .i64 1) W := fun _ => by kernel_rfl
  have e1 : ∀ W, (binOp .eql 202 (.agg #[.int .i64 1, .int .i64 0, .int .i64 0]) (.agg #[.int .i64 1, .int .i64 0, .int .i64 0])).run Tryz.prog W = .ok (.bool true) W := fun _ => by kernel_rfl
  have i1 : ∀ W, (Instr.index 202 (.agg #[.int .i64 1, .int .i64 0, .int .i64 0]) (.int .i64 1)).run Tryz.prog W = .ok (.int .i64 0) W := fun _ => by kernel_rfl
  go_enter Tryz.func93, Tryz.ntmps93
  go_wp2
  go_rounds 4
  go_ret
  exact ⟨rfl, by go_grown⟩

set_option maxHeartbeats 1000000 in
theorem implFields_any (z : Int) (w : World) (hC : OpCells w) :
    Calls Tryz.prog 93 #[.int .i64 z] w fun e w' => e = .returned (.int .i64 (opField z)) ∧ Below w.heap.size w w' := by
  by_cases h : 1 ≤ z ∧ z ≤ 15
  · rcases op_cases h with rfl | rfl | rfl | rfl | rfl | rfl | rfl | rfl | rfl | rfl | rfl | rfl | rfl | rfl | rfl
    · exact implFields_1 w (hC 0 (by decide)).2.1 (hC 0 (by decide)).2.2.1 (hC 0 (by decide)).2.2.2
    · exact implFields_2 w (hC 1 (by decide)).2.1 (hC 1 (by decide)).2.2.1 (hC 1 (by decide)).2.2.2
    · exact implFields_3 w (hC 2 (by decide)).2.1 (hC 2 (by decide)).2.2.1 (hC 2 (by decide)).2.2.2
    · exact implFields_4 w (hC 3 (by decide)).2.1 (hC 3 (by decide)).2.2.1 (hC 3 (by decide)).2.2.2
    · exact implFields_5 w (hC 4 (by decide)).2.1 (hC 4 (by decide)).2.2.1 (hC 4 (by decide)).2.2.2
    · exact implFields_6 w (hC 5 (by decide)).2.1 (hC 5 (by decide)).2.2.1 (hC 5 (by decide)).2.2.2
    · exact implFields_7 w (hC 6 (by decide)).2.1 (hC 6 (by decide)).2.2.1 (hC 6 (by decide)).2.2.2
    · exact implFields_8 w (hC 7 (by decide)).2.1 (hC 7 (by decide)).2.2.1 (hC 7 (by decide)).2.2.2
    · exact implFields_9 w (hC 8 (by decide)).2.1 (hC 8 (by decide)).2.2.1 (hC 8 (by decide)).2.2.2
    · exact implFields_10 w (hC 9 (by decide)).2.1 (hC 9 (by decide)).2.2.1 (hC 9 (by decide)).2.2.2
    · exact implFields_11 w (hC 10 (by decide)).2.1 (hC 10 (by decide)).2.2.1 (hC 10 (by decide)).2.2.2
    · exact implFields_12 w (hC 11 (by decide)).2.1 (hC 11 (by decide)).2.2.1 (hC 11 (by decide)).2.2.2
    · exact implFields_13 w (hC 12 (by decide)).2.1 (hC 12 (by decide)).2.2.1 (hC 12 (by decide)).2.2.2
    · exact implFields_14 w (hC 13 (by decide)).2.1 (hC 13 (by decide)).2.2.1 (hC 13 (by decide)).2.2.2
    · exact implFields_15 w (hC 14 (by decide)).2.1 (hC 14 (by decide)).2.2.1 (hC 14 (by decide)).2.2.2
  · clear hC
    have ho : opField z = -1 := by rw [opField, if_neg h]
    rw [ho]
    clear ho
    have h1 : z < 1 ∨ 15 < z := by omega
    clear h
    rcases h1 with h1 | h1
    · go_enter Tryz.func93, Tryz.ntmps93
      go_wp2
      go_ret
      exact ⟨rfl, Below.refl _ _⟩
    · have hle : decide (z ≤ 15) = false := by simp; omega
      go_enter Tryz.func93, Tryz.ntmps93
      go_wp2
      go_ret
      exact ⟨rfl, Below.refl _ _⟩
end Go.Proofs.YtgfkadhojlddpaaGreatDoor
