
/- The model's local steps: which they are, IsLocal. Laid by wip/gen10/locs.py. -/

import Derived.Test.YtapbjnfopniicaaGreatDoorLocM

import Derived.Test.YtapbjnfopniicaaGreatDoorGorOkS

import Derived.Test.YtapbjnfopniicaaGreatDoorGorOver

import Derived.Test.YtapbjnfopniicaaGreatDoorGorSet

import Derived.Test.YtapbjnfopniicaaGreatDoorGorReg

import Derived.Test.YtapbjnfopniicaaGreatDoorMayW

import Derived.Deep.Cut

namespace Go.Proofs.YtapbjnfopniicaaGreatDoor
set_option linter.unusedSimpArgs false
set_option linter.unusedVariables false
open Go.RowKit


set_option maxRecDepth 100000 in
set_option maxHeartbeats 4000000 in
theorem specShared_any (op : Int) (w : World) : Calls Tryz.prog 46 #[.int .i64 op] w fun e w' => e = .returned (.bool (sharedZ op)) ∧ w = w' := by
  by_cases h0 : 8 ≤ op
  · by_cases h1 : op ≤ 15
    · rw [show sharedZ op = true from decide_eq_true ⟨h0, h1⟩]
      go_enter Tryz.func46, Tryz.ntmps46
      go_wp2
      go_ret
      exact ⟨rfl, rfl⟩
    · rw [show sharedZ op = false from decide_eq_false (fun h => h1 h.2)]
      have h2 : decide (op ≤ 15) = false := decide_eq_false h1
      clear h1
      go_enter Tryz.func46, Tryz.ntmps46
      go_wp2
      go_ret
      exact ⟨rfl, rfl⟩
  · rw [show sharedZ op = false from decide_eq_false (fun h => h0 h.1)]
    have h2 : decide (8 ≤ op) = false := decide_eq_false h0
    clear h0
    go_enter Tryz.func46, Tryz.ntmps46
    go_wp2
    go_ret
    exact ⟨rfl, rfl⟩

set_option maxRecDepth 100000 in
set_option maxHeartbeats 4000000 in
theorem implShared_any (op : Int) (w : World) : Calls Tryz.prog 71 #[.int .i64 op] w fun e w' => e = .returned (.bool (sharedZ op)) ∧ w = w' := by
  by_cases h0 : 8 ≤ op
  · by_cases h1 : op ≤ 15
    · rw [show sharedZ op = true from decide_eq_true ⟨h0, h1⟩]
      go_enter Tryz.func71, Tryz.ntmps71
      go_wp2
      go_ret
      exact ⟨rfl, rfl⟩
    · rw [show sharedZ op = false from decide_eq_false (fun h => h1 h.2)]
      have h2 : decide (op ≤ 15) = false := decide_eq_false h1
      clear h1
      go_enter Tryz.func71, Tryz.ntmps71
      go_wp2
      go_ret
      exact ⟨rfl, rfl⟩
  · rw [show sharedZ op = false from decide_eq_false (fun h => h0 h.1)]
    have h2 : decide (8 ≤ op) = false := decide_eq_false h0
    clear h0
    go_enter Tryz.func71, Tryz.ntmps71
    go_wp2
    go_ret
    exact ⟨rfl, rfl⟩
theorem fieldOp (a b c d : Int) (w : World) : (Instr.field 52 (.agg #[.int .i64 a, .int .i64 b, .int .i64 c, .int .i64 d]) 0).run Tryz.prog w = .ok (.int .i64 a) w := by kernel_rfl

set_option maxRecDepth 100000 in
set_option maxHeartbeats 4000000 in
theorem specLoc_any {w : World} {hi : Nat} {p : DProg} {g : DGor} {vs us : List Value} (hp : layProg.see w hi p vs) (hg : layGor.see w hi g us) (hhi : hi ≤ w.heap.size) (hnp : szProg p ≤ 1048576) (hat : g.fState = 1 → 0 ≤ g.fPc ∧ g.fPc < instrsZ p g.fProc) :
    Calls Tryz.prog 52 #[.agg vs.toArray, .agg us.toArray] w fun e w' => e = .returned (.bool (locB p g)) ∧ Below w.heap.size w w' := by
  have HI := Lib.hid (fun (hst : g.fState = 1) (W : World) (hW : Below w.heap.size w W) => specAt_any (layProg.keep hp fun k hk => hW.block k (by omega)) (layGor.keep hg fun k hk => hW.block k (by omega)) (Nat.le_trans hhi hW.size) hnp (hat hst))
  obtain ⟨A0, n0, c0, B2, m2, d2, A3, n3, c3, rfl, -⟩ := seeProg hp
  obtain ⟨A2, n2, c2, A4, n4, c4, rfl, -⟩ := seeGor hg
  unfold locB
  clear hp hg hat hnp
  generalize atI p g = ins at *
  obtain ⟨pr, pc, regs, st, tr⟩ := g
  obtain ⟨op, a, b, c⟩ := ins
  simp only at HI ⊢
  have hP0 := box_new w #[.slice A0 n0 c0, .int .i64 p.fMus, .slice B2 m2 d2, .slice A3 n3 c3] 40
  have hP0 := box_keep hP0 ((Below.refl _ _).alloc (Nat.le_refl _) (.cells #[.int .i64 pr, .int .i64 pc, .slice A2 n2 c2, .int .i64 st, .slice A4 n4 c4] 34)) (by simp only [World.size_alloc]; omega)
  have hG0 := box_new (w.alloc (.cells #[.slice A0 n0 c0, .int .i64 p.fMus, .slice B2 m2 d2, .slice A3 n3 c3] 40)) #[.int .i64 pr, .int .i64 pc, .slice A2 n2 c2, .int .i64 st, .slice A4 n4 c4] 34
  simp only [World.size_alloc, Nat.add_assoc, Nat.reduceAdd] at hG0
  have hB0 : Below w.heap.size w ((w.alloc (.cells #[.slice A0 n0 c0, .int .i64 p.fMus, .slice B2 m2 d2, .slice A3 n3 c3] 40)).alloc (.cells #[.int .i64 pr, .int .i64 pc, .slice A2 n2 c2, .int .i64 st, .slice A4 n4 c4] 34)) := ((Below.refl _ _).alloc (Nat.le_refl _) _).alloc (by simp only [World.size_alloc]; omega) _
  have hz0 : w.heap.size + 2 ≤ ((w.alloc (.cells #[.slice A0 n0 c0, .int .i64 p.fMus, .slice B2 m2 d2, .slice A3 n3 c3] 40)).alloc (.cells #[.int .i64 pr, .int .i64 pc, .slice A2 n2 c2, .int .i64 st, .slice A4 n4 c4] 34)).heap.size := by simp only [World.size_alloc]; omega
  by_cases hst : st = 1
  · subst hst
    rw [show (decide ((1 : Int) = 1) && !sharedZ op) = !sharedZ op from rfl]
    replace HI := Lib.hid (HI.out rfl)
    have hfo := fieldOp op a b c
    go_enter Tryz.func52, Tryz.ntmps52
    go_wp2_with fail
    refine (HI.out _ hB0).mono ?_
    rintro e w1 ⟨rfl, hb1⟩
    have HB1 := Lib.hid (hB0.trans (hb1.mono (by omega)))
    go_wp2_with fail
    refine (specShared_any op _).mono ?_
    rintro e w2 ⟨rfl, rfl⟩
    go_wp2_with fail
    go_ret
    exact ⟨rfl, HB1.out⟩
  · rw [show (decide (st = 1) && !sharedZ op) = false from by rw [decide_eq_false hst]; rfl]
    clear HI
    go_enter Tryz.func52, Tryz.ntmps52
    go_wp2_with fail
    go_ret
    exact ⟨rfl, hB0⟩

set_option maxRecDepth 100000 in
set_option maxHeartbeats 4000000 in
theorem implLoc_any {w : World} {hi : Nat} {p : DProg} {g : DGor} {vs us : List Value} (hp : layProg.see w hi p vs) (hg : layGor.see w hi g us) (hhi : hi ≤ w.heap.size) (hnp : szProg p ≤ 1048576) (hat : g.fState = 1 → 0 ≤ g.fPc ∧ g.fPc < instrsZ p g.fProc) :
    Calls Tryz.prog 48 #[.agg vs.toArray, .agg us.toArray] w fun e w' => e = .returned (.bool (locB p g)) ∧ Below w.heap.size w w' := by
  have HI := Lib.hid (fun (hst : g.fState = 1) (W : World) (hW : Below w.heap.size w W) => implAt_any (layProg.keep hp fun k hk => hW.block k (by omega)) (layGor.keep hg fun k hk => hW.block k (by omega)) (Nat.le_trans hhi hW.size) hnp (hat hst))
  obtain ⟨A0, n0, c0, B2, m2, d2, A3, n3, c3, rfl, -⟩ := seeProg hp
  obtain ⟨A2, n2, c2, A4, n4, c4, rfl, -⟩ := seeGor hg
  unfold locB
  clear hp hg hat hnp
  generalize atI p g = ins at *
  obtain ⟨pr, pc, regs, st, tr⟩ := g
  obtain ⟨op, a, b, c⟩ := ins
  simp only at HI ⊢
  have hP0 := box_new w #[.slice A0 n0 c0, .int .i64 p.fMus, .slice B2 m2 d2, .slice A3 n3 c3] 40
  have hP0 := box_keep hP0 ((Below.refl _ _).alloc (Nat.le_refl _) (.cells #[.int .i64 pr, .int .i64 pc, .slice A2 n2 c2, .int .i64 st, .slice A4 n4 c4] 34)) (by simp only [World.size_alloc]; omega)
  have hG0 := box_new (w.alloc (.cells #[.slice A0 n0 c0, .int .i64 p.fMus, .slice B2 m2 d2, .slice A3 n3 c3] 40)) #[.int .i64 pr, .int .i64 pc, .slice A2 n2 c2, .int .i64 st, .slice A4 n4 c4] 34
  simp only [World.size_alloc, Nat.add_assoc, Nat.reduceAdd] at hG0
  have hB0 : Below w.heap.size w ((w.alloc (.cells #[.slice A0 n0 c0, .int .i64 p.fMus, .slice B2 m2 d2, .slice A3 n3 c3] 40)).alloc (.cells #[.int .i64 pr, .int .i64 pc, .slice A2 n2 c2, .int .i64 st, .slice A4 n4 c4] 34)) := ((Below.refl _ _).alloc (Nat.le_refl _) _).alloc (by simp only [World.size_alloc]; omega) _
  have hz0 : w.heap.size + 2 ≤ ((w.alloc (.cells #[.slice A0 n0 c0, .int .i64 p.fMus, .slice B2 m2 d2, .slice A3 n3 c3] 40)).alloc (.cells #[.int .i64 pr, .int .i64 pc, .slice A2 n2 c2, .int .i64 st, .slice A4 n4 c4] 34)).heap.size := by simp only [World.size_alloc]; omega
  by_cases hst : st = 1
  · subst hst
    rw [show (decide ((1 : Int) = 1) && !sharedZ op) = !sharedZ op from rfl]
    replace HI := Lib.hid (HI.out rfl)
    have hfo := fieldOp op a b c
    go_enter Tryz.func48, Tryz.ntmps48
    go_wp2_with fail
    refine (HI.out _ hB0).mono ?_
    rintro e w1 ⟨rfl, hb1⟩
    have HB1 := Lib.hid (hB0.trans (hb1.mono (by omega)))
    go_wp2_with fail
    refine (implShared_any op _).mono ?_
    rintro e w2 ⟨rfl, rfl⟩
    go_wp2_with fail
    go_ret
    exact ⟨rfl, HB1.out⟩
  · rw [show (decide (st = 1) && !sharedZ op) = false from by rw [decide_eq_false hst]; rfl]
    clear HI
    go_enter Tryz.func48, Tryz.ntmps48
    go_wp2_with fail
    go_ret
    exact ⟨rfl, hB0⟩

set_option maxRecDepth 100000 in
set_option maxHeartbeats 4000000 in
theorem specIsLocal_any {w : World} {hi : Nat} {p : DProg} {g : DGor} {vs us : List Value} (hp : layProg.see w hi p vs) (hg : layGor.see w hi g us) (hhi : hi ≤ w.heap.size) (hnp : szProg p ≤ 1048576) (hng : szGor g ≤ 1048576) :
    Calls Tryz.prog 26 #[.agg vs.toArray, .agg us.toArray] w fun e w' => e = .returned (.bool (gorOkB p g && locB p g)) ∧ Below w.heap.size w w' := by
  have HG := Lib.hid (fun (W : World) (hW : Below w.heap.size w W) => specGorOk_any (layProg.keep hp fun k hk => hW.block k (by omega)) (layGor.keep hg fun k hk => hW.block k (by omega)) (Nat.le_trans hhi hW.size) hnp hng)
  have HM := Lib.hid (fun (hok : gorOkB p g = true) (W : World) (hW : Below w.heap.size w W) => specLoc_any (layProg.keep hp fun k hk => hW.block k (by omega)) (layGor.keep hg fun k hk => hW.block k (by omega)) (Nat.le_trans hhi hW.size) hnp (fun _ => (good_of hok).2.1))
  obtain ⟨A0, n0, c0, B2, m2, d2, A3, n3, c3, rfl, -⟩ := seeProg hp
  obtain ⟨A2, n2, c2, A4, n4, c4, rfl, -⟩ := seeGor hg
  clear hp hg hnp hng
  rw [show (progOkB p && gorB (instrsZ p g.fProc) g) = gorOkB p g from rfl] at HG
  generalize gorOkB p g = b1 at *
  generalize locB p g = b2 at *
  have hP0 := box_new w #[.slice A0 n0 c0, .int .i64 p.fMus, .slice B2 m2 d2, .slice A3 n3 c3] 40
  have hP0 := box_keep hP0 ((Below.refl _ _).alloc (Nat.le_refl _) (.cells #[.int .i64 g.fProc, .int .i64 g.fPc, .slice A2 n2 c2, .int .i64 g.fState, .slice A4 n4 c4] 34)) (by simp only [World.size_alloc]; omega)
  have hG0 := box_new (w.alloc (.cells #[.slice A0 n0 c0, .int .i64 p.fMus, .slice B2 m2 d2, .slice A3 n3 c3] 40)) #[.int .i64 g.fProc, .int .i64 g.fPc, .slice A2 n2 c2, .int .i64 g.fState, .slice A4 n4 c4] 34
  simp only [World.size_alloc, Nat.add_assoc, Nat.reduceAdd] at hG0
  have hB0 : Below w.heap.size w ((w.alloc (.cells #[.slice A0 n0 c0, .int .i64 p.fMus, .slice B2 m2 d2, .slice A3 n3 c3] 40)).alloc (.cells #[.int .i64 g.fProc, .int .i64 g.fPc, .slice A2 n2 c2, .int .i64 g.fState, .slice A4 n4 c4] 34)) := ((Below.refl _ _).alloc (Nat.le_refl _) _).alloc (by simp only [World.size_alloc]; omega) _
  have hz0 : w.heap.size + 2 ≤ ((w.alloc (.cells #[.slice A0 n0 c0, .int .i64 p.fMus, .slice B2 m2 d2, .slice A3 n3 c3] 40)).alloc (.cells #[.int .i64 g.fProc, .int .i64 g.fPc, .slice A2 n2 c2, .int .i64 g.fState, .slice A4 n4 c4] 34)).heap.size := by simp only [World.size_alloc]; omega
  go_enter Tryz.func26, Tryz.ntmps26
  go_wp2_with fail
  refine (HG.out _ hB0).mono ?_
  rintro e w1 ⟨rfl, hb1⟩
  have hz1 := hb1.size
  have HB1 := Lib.hid (hB0.trans (hb1.mono (by omega)))
  have hP1 := box_keep hP0 hb1 (by omega)
  have hG1 := box_keep hG0 hb1 (by omega)
  have p0 := box_cell (j := 0) hP1 rfl
  have p1 := box_cell (j := 1) hP1 rfl
  have p2 := box_cell (j := 2) hP1 rfl
  have p3 := box_cell (j := 3) hP1 rfl
  have g0 := box_cell (j := 0) hG1 rfl
  have g1 := box_cell (j := 1) hG1 rfl
  have g2 := box_cell (j := 2) hG1 rfl
  have g3 := box_cell (j := 3) hG1 rfl
  have g4 := box_cell (j := 4) hG1 rfl
  clear hb1 hP1 hG1 hP0 hG0 hB0
  cases b1
  · go_wp2_with fail
    go_ret
    exact ⟨rfl, HB1.out⟩
  · go_wp2_with fail
    refine (HM.out (by simp) _ HB1.out).mono ?_
    rintro e w2 ⟨rfl, hb2⟩
    go_wp2_with fail
    go_ret
    exact ⟨by simp, HB1.out.trans (hb2.mono HB1.out.size)⟩
end Go.Proofs.YtapbjnfopniicaaGreatDoor
