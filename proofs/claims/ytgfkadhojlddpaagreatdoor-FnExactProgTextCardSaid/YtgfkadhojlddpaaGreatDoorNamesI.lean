
/- The contract of the program's namesOf: what an instruction names, as a row of its own. -/

import Derived.Test.YtgfkadhojlddpaaGreatDoorWordsMath

import Derived.Test.YtgfkadhojlddpaaGreatDoorOps

namespace Go.Proofs.YtgfkadhojlddpaaGreatDoor
set_option linter.unusedSimpArgs false
set_option linter.unusedVariables false
open Go.RowKit

theorem opCells_at {w : World} (hC : OpCells w) {op : Int} (h : 1 ≤ op ∧ op ≤ 15) : ∃ z : Nat, op = (z : Int) ∧ 1 ≤ z ∧ z ≤ 15 ∧
    w.cell? ⟨0, z * 4 + 1, none⟩ = some (.int .i64 (namesA op).1) ∧ w.cell? ⟨0, z * 4 + 1 + 1, none⟩ = some (.int .i64 (namesA op).2.1) ∧ w.cell? ⟨0, z * 4 + 1 + 2, none⟩ = some (.int .i64 (namesA op).2.2) := by
  refine ⟨op.toNat, by omega, by omega, by omega, ?_⟩
  have hk := hC (op.toNat - 1) (by omega)
  have e : 4 * (op.toNat - 1 + 1) = op.toNat * 4 := by omega
  rw [e] at hk
  exact ⟨hk.2.1, hk.2.2.1, hk.2.2.2⟩

theorem slice_names (g m : Nat) (hm : m ≤ 3) (W : World) :
    (Instr.sliceAt 202 (.pointer (some ⟨g, 0, none⟩)) none (some (.int .i64 (m : Int))) none).run Tryz.prog W = .ok (.slice (some ⟨g, 0, none⟩) m 3) W := by
  have h3 : Tryz.prog.arrayLen 202 = 3 := by kernel_rfl
  have hz : (Go.sizeOf (Tryz.prog.elem 202)).run Tryz.prog W = .ok 1 W := by kernel_rfl
  rw [run_sliceAt_array_h (P := Tryz.prog) W 202 ⟨g, 0, none⟩ (by kernel_rfl) .i64 (m : Int) (by omega) (by rw [h3]; omega), hz, h3]
  simp [Result.andThen, slicedAt, add_plain]

set_option maxRecDepth 100000 in
set_option maxHeartbeats 1000000 in
theorem namesOf_any (op : Int) (h : 1 ≤ op ∧ op ≤ 15) (w : World) (hC : OpCells w) :
    Calls Tryz.prog 95 #[.int .i64 op] w fun e w' => e = .returned (.slice (some ⟨w.heap.size, 0, none⟩) (opField op).toNat 3) ∧
      w'.heap[w.heap.size]? = some (.cells #[.int .i64 (namesA op).1, .int .i64 (namesA op).2.1, .int .i64 (namesA op).2.2] 202 (0, 0)) ∧ Below w.heap.size w w' := by
  obtain ⟨_, _, _, _, hk0, hk3⟩ := opWord_words h
  obtain ⟨m, hm⟩ : ∃ m : Nat, opField op = m := ⟨(opField op).toNat, by omega⟩
  have hm3 : m ≤ 3 := by omega
  have hB0 : ∀ x y z : Value, Below w.heap.size w (w.alloc (.cells #[x, y, z] 202)) := fun x y z => (Below.refl _ _).alloc (Nat.le_refl _) _
  have HF := Lib.hid (fun W (hW : OpCells W) => show Calls Tryz.prog 93 #[.int .i64 op] W fun e w' => e = .returned (.int .i64 (m : Int)) ∧ Below W.heap.size W w' by rw [← hm]; exact implFields_any op W hW)
  obtain ⟨z, hz, hz1, hz2, c1, c2, c3⟩ := opCells_at hC h
  rw [hm, Int.toNat_natCast]
  generalize (namesA op).1 = n1 at *
  generalize (namesA op).2.1 = n2 at *
  generalize (namesA op).2.2 = n3 at *
  have HC := Lib.hid (opCells_below hC (hB0 (.int .i64 n1) (.int .i64 n2) (.int .i64 n3)))
  have hbox := box_new w #[.int .i64 n1, .int .i64 n2, .int .i64 n3] 202
  have HS := slice_names w.heap.size m hm3
  have zal : (w.alloc (.cells #[.int .i64 n1, .int .i64 n2, .int .i64 n3] 202)).heap.size = w.heap.size + 1 := by simp
  have HX := Lib.hid hbox
  have HZ := Lib.hid zal
  clear hk0 hk3 hm hC h hbox zal
  subst hz
  go_enter Tryz.func95, Tryz.ntmps95
  go_wp2_with fail
  refine (HF.out _ HC.out).mono ?_
  rintro e w1 ⟨rfl, hb1⟩
  have hx1 := Lib.hid (box_keep HX.out hb1 (by rw [HZ.out]; omega))
  have hW1 : Below w.heap.size w w1 := (hB0 _ _ _).trans (hb1.mono (by rw [HZ.out]; omega))
  clear hb1 HF
  go_wp2_with fail
  go_ret
  exact ⟨rfl, hx1.out, hW1⟩
end Go.Proofs.YtgfkadhojlddpaaGreatDoor
