
/- Reg, GorNew: the program's and the model's. Laid by wip/gen8/gornew.py. -/

import Derived.Test.YtghkdkagnibkgaaGreatDoorGGorX

namespace Go.Proofs.YtghkdkagnibkgaaGreatDoor
set_option linter.unusedSimpArgs false
set_option linter.unusedVariables false
open Go.RowKit

set_option maxRecDepth 100000 in
set_option maxHeartbeats 4000000 in
theorem specReg_any {w : World} {hi : Nat} {x : DGor} {vs : List Value} {r : Int} (h : layGor.see w hi x vs) (hhi : hi ≤ w.heap.size) (hn : szGor x ≤ 1048576) (hv : (Lit.int .i64 r).wf = true) :
    Calls Tryz.prog 119 #[.agg vs.toArray, .int .i64 r] w fun e w' => e = .returned (.int .i64 (regR x r)) ∧ Below w.heap.size w w' := by
  obtain ⟨A2, n2, c2, A4, n4, c4, rfl, hw0, hw1, ⟨hc2, hm2, s2⟩, hw3, ⟨hc4, hm4, s4⟩⟩ := seeGor h
  obtain ⟨pr, pc, regs, st, tr⟩ := x
  have l2 := s2.1
  have l4 := s4.1
  simp only at l2 l4 s2 s4 hw0 hw1 hw3
  subst l2 l4
  have hn2 : regs.length ≤ 1048576 := by unfold szGor at hn; simp at hn; omega
  have hX := box_new w #[.int .i64 pr, .int .i64 pc, .slice A2 regs.length c2, .int .i64 st, .slice A4 tr.length c4] 65
  have HB := Lib.hid ((Below.refl w.heap.size w).alloc (Nat.le_refl _) (.cells #[.int .i64 pr, .int .i64 pc, .slice A2 regs.length c2, .int .i64 st, .slice A4 tr.length c4] 65))
  have x2 := box_cell (j := 2) hX rfl
  clear hw0 hw1 hw3 hv h hn hX
  have hcase : (∃ k : Nat, k < regs.length ∧ r = k) ∨ r < 0 ∨ (0 ≤ r ∧ (regs.length : Int) ≤ r) := by
    by_cases h0 : r < 0
    · exact .inr (.inl h0)
    · by_cases h1 : r < regs.length
      · exact .inl ⟨r.toNat, by omega, by omega⟩
      · exact .inr (.inr ⟨by omega, by omega⟩)
  rcases hcase with ⟨k, hk, rfl⟩ | hr | ⟨hr, hr2⟩
  · skip
    obtain ⟨hx, g, o, us, rfl, hg, ⟨hu, _⟩, hc⟩ := s2.at_ hk
    have HQ := Lib.hid (show regR ⟨pr, pc, regs, st, tr⟩ (k : Int) = regs[k] by unfold regR; rw [if_pos (by simp; omega)]; simp [hk])
    have cc := hc 0 (.int .i64 regs[k]) (by rw [hu]; rfl)
    simp only [show Lay.int.size = 1 from rfl, ← Nat.add_assoc, Nat.add_zero, Nat.mul_one] at cc
    have hgw : g < w.heap.size := by omega
    have hlk : (k : Int) < (regs.length : Int) := by omega
    have hk0 : (0 : Int) ≤ (k : Int) := by omega
    clear hc s2 s4 hu
    rw [HQ.out]
    generalize regs[k] = z at *
    have hp := Lib.hid (show decide (0 ≤ (k : Int) ∧ (k : Int) < (regs.length : Int)) = true from decide_eq_true (by omega))
    go_enter Tryz.func119, Tryz.ntmps119
    go_wp2_with fail
    go_ret
    exact ⟨rfl, HB.out⟩
  · skip
    rw [show regR ⟨pr, pc, regs, st, tr⟩ r = 0 from if_neg (by simp only; omega)]
    have hp := Lib.hid (show decide (0 ≤ r ∧ r < (regs.length : Int)) = false from decide_eq_false (by omega))
    go_enter Tryz.func119, Tryz.ntmps119
    go_wp2_with fail
    go_ret
    exact ⟨rfl, HB.out⟩
  · skip
    rw [show regR ⟨pr, pc, regs, st, tr⟩ r = 0 from if_neg (by simp only; omega)]
    have hp := Lib.hid (show decide (0 ≤ r ∧ r < (regs.length : Int)) = false from decide_eq_false (by omega))
    have hr3 : decide (r < 0) = false := decide_eq_false (by omega)
    go_enter Tryz.func119, Tryz.ntmps119
    go_wp2_with fail
    go_ret
    exact ⟨rfl, HB.out⟩
end Go.Proofs.YtghkdkagnibkgaaGreatDoor
