
/- The model's l10Step: one local step of a right goroutine. Laid by wip/gen10/steps.py. -/

import Derived.Test.YtapbjnfopniicaaGreatDoorGorH

import Derived.Test.YtapbjnfopniicaaGreatDoorLocS

import Derived.Test.YtapbjnfopniicaaGreatDoorCalcS

import Derived.Test.YtapbjnfopniicaaGreatDoorGInv

import Derived.Deep.Cut

namespace Go.Proofs.YtapbjnfopniicaaGreatDoor
set_option linter.unusedSimpArgs false
set_option linter.unusedVariables false
open Go.RowKit

theorem setR_in {x : DGor} {r v : Int} (hr : 0 ≤ r ∧ r ≤ 5) (hl : x.fRegs.length = 6) (hv : 0 ≤ v ∧ v ≤ 999) : setR x r v = { x with fRegs := x.fRegs.set r.toNat v } := by
  unfold setR
  rw [if_pos]
  rw [Bool.and_eq_true]
  exact ⟨decide_eq_true ⟨hr.1, by omega⟩, okV_iff.2 hv⟩
theorem regR_in {x : DGor} {r : Int} (hr : 0 ≤ r ∧ r ≤ 5) (hl : x.fRegs.length = 6) : regR x r = regZ x r := by
  unfold regR regZ
  rw [if_pos ⟨hr.1, by omega⟩]
theorem seeGor_wf3 {w : World} {hi : Nat} {x : DGor} {vs : List Value} (h : layGor.see w hi x vs) : (Lit.int .i64 x.fProc).wf = true ∧ (Lit.int .i64 x.fPc).wf = true ∧ (Lit.int .i64 x.fState).wf = true := by
  obtain ⟨A2, n2, c2, A4, n4, c4, -, hw0, hw1, -, hw3, -⟩ := seeGor h
  exact ⟨hw0, hw1, hw3⟩
theorem setHold {x : DGor} {r v : Int} {w w' : World} {e : Ending} (h : CopiedG (setR x r v) w e w') (hr : 0 ≤ r ∧ r ≤ 5) (hl : x.fRegs.length = 6) (hv : 0 ≤ v ∧ v ≤ 999) (hw : (Lit.int .i64 x.fProc).wf = true ∧ (Lit.int .i64 x.fPc).wf = true ∧ (Lit.int .i64 x.fState).wf = true) :
    ∃ A2 n2 c2 A4 n4 c4, e = .returned (.agg #[.int .i64 x.fProc, .int .i64 x.fPc, .slice A2 n2 c2, .int .i64 x.fState, .slice A4 n4 c4]) ∧ HoldG (fun g => w.heap.size ≤ g ∧ g < w'.heap.size) { x with fRegs := x.fRegs.set r.toNat v } w' A2 n2 c2 A4 n4 c4 ∧ Below w.heap.size w w' := by
  rw [setR_in hr hl hv] at h
  exact hold_of h hw.1 hw.2.1 hw.2.2

set_option maxRecDepth 100000 in
set_option maxHeartbeats 20000000 in
theorem specStep_any {w : World} {hi : Nat} {p : DProg} {g : DGor} {vs us : List Value} (hp : layProg.see w hi p vs) (hg : layGor.see w hi g us) (hhi : hi ≤ w.heap.size) (hnp : szProg p ≤ 1048576) (hng : szGor g ≤ 1048576) (hok : progOkB p = true) (hgd : GoodG p g) (hl : locB p g = true) :
    Calls Tryz.prog 27 #[.agg vs.toArray, .agg us.toArray] w (CopiedG (stepR (atI p g) g) w) := by
  have L := at_local hok hgd.1 (by unfold locB at hl; simp only [Bool.and_eq_true, Bool.not_eq_true'] at hl; exact hl.2)
  have HI := Lib.hid (fun (W : World) (hW : Below w.heap.size w W) => specAt_any (layProg.keep hp fun k hk => hW.block k (by omega)) (layGor.keep hg fun k hk => hW.block k (by omega)) (Nat.le_trans hhi hW.size) hnp hgd.1)
  have HC := Lib.hid (fun (W : World) (hW : Below w.heap.size w W) => l08Copy_any (layGor.keep hg fun k hk => hW.block k (by omega)) (Nat.le_trans hhi hW.size) hng)
  have HO := Lib.hid (fun (W : World) (hW : Below w.heap.size w W) => specOver_any (y := 0) (layGor.keep hg fun k hk => hW.block k (by omega)) (Nat.le_trans hhi hW.size) hng (by decide))
  have HWG := Lib.hid (seeGor_wf3 hg)
  have HS := Lib.hid (fun (W : World) (hW : Below w.heap.size w W) (r v : Int) (hr : 0 ≤ r ∧ r ≤ 5) (hv : 0 ≤ v ∧ v ≤ 999) => (specSetReg_any (r := r) (layGor.keep hg fun k hk => hW.block k (by omega)) (Nat.le_trans hhi hW.size) hng (wf_val (v := v) (by omega))).mono fun _ _ h => setHold h hr hgd.2.1 hv HWG.out)
  have HRg := Lib.hid (fun (W : World) (hW : Below w.heap.size w W) (r : Int) (hr : 0 ≤ r ∧ r ≤ 5) => (regR_in (x := g) hr hgd.2.1) ▸ specReg_any (r := r) (layGor.keep hg fun k hk => hW.block k (by omega)) (Nat.le_trans hhi hW.size) hng (wf_val (by omega)))
  have HRv := Lib.hid (fun (r : Int) (hr : 0 ≤ r ∧ r ≤ 5) => regZ_ok hr hgd.2.1 hgd.2.2)
  have hpc := hgd.1.1
  have hpc2 := Int.lt_of_lt_of_le hgd.1.2 (instrsZ_small hok g.fProc)
  have hsm := Lib.hid (instrsZ_small hok g.fProc)
  obtain ⟨A0, n0, c0, B2, m2, d2, A3, n3, c3, rfl, -⟩ := seeProg hp
  obtain ⟨A2, n2, c2, A4, n4, c4, rfl, hw0, hw1, -, hw3, -⟩ := seeGor hg
  have HWF := Lib.hid (And.intro hw0 (And.intro hw1 hw3))
  clear hp hg hnp hng hok hl hgd hw0 hw1 hw3
  generalize atI p g = ins at *
  obtain ⟨pr, pc, regs, st, tr⟩ := g
  obtain ⟨iop, ia, ib, ic⟩ := ins
  have LX := Lib.hid L
  obtain ⟨hop, -⟩ := L
  simp only at HI HC HO HS HRg HRv hpc hpc2 hsm HWF hop
  have hP0 := box_new w #[.slice A0 n0 c0, .int .i64 p.fMus, .slice B2 m2 d2, .slice A3 n3 c3] 40
  have hP0 := box_keep hP0 ((Below.refl _ _).alloc (Nat.le_refl _) (.cells #[.int .i64 pr, .int .i64 pc, .slice A2 n2 c2, .int .i64 st, .slice A4 n4 c4] 34)) (by simp only [World.size_alloc]; omega)
  have hP0 := box_keep hP0 ((Below.refl _ _).alloc (Nat.le_refl _) (.cells #[.int .i64 0, .int .i64 0, .slice none 0 0, .int .i64 0, .slice none 0 0] 34)) (by simp only [World.size_alloc]; omega)
  have hG0 := box_new (w.alloc (.cells #[.slice A0 n0 c0, .int .i64 p.fMus, .slice B2 m2 d2, .slice A3 n3 c3] 40)) #[.int .i64 pr, .int .i64 pc, .slice A2 n2 c2, .int .i64 st, .slice A4 n4 c4] 34
  have hG0 := box_keep hG0 ((Below.refl _ _).alloc (Nat.le_refl _) (.cells #[.int .i64 0, .int .i64 0, .slice none 0 0, .int .i64 0, .slice none 0 0] 34)) (by simp only [World.size_alloc]; omega)
  simp only [World.size_alloc, Nat.add_assoc, Nat.reduceAdd] at hG0
  have hR0 := box_new ((w.alloc (.cells #[.slice A0 n0 c0, .int .i64 p.fMus, .slice B2 m2 d2, .slice A3 n3 c3] 40)).alloc (.cells #[.int .i64 pr, .int .i64 pc, .slice A2 n2 c2, .int .i64 st, .slice A4 n4 c4] 34)) #[.int .i64 0, .int .i64 0, .slice none 0 0, .int .i64 0, .slice none 0 0] 34
  simp only [World.size_alloc, Nat.add_assoc, Nat.reduceAdd] at hR0
  have hB0 : Below w.heap.size w (((w.alloc (.cells #[.slice A0 n0 c0, .int .i64 p.fMus, .slice B2 m2 d2, .slice A3 n3 c3] 40)).alloc (.cells #[.int .i64 pr, .int .i64 pc, .slice A2 n2 c2, .int .i64 st, .slice A4 n4 c4] 34)).alloc (.cells #[.int .i64 0, .int .i64 0, .slice none 0 0, .int .i64 0, .slice none 0 0] 34)) := (((Below.refl _ _).alloc (Nat.le_refl _) _).alloc (by simp only [World.size_alloc]; omega) _).alloc (by simp only [World.size_alloc]; omega) _
  have hz0 : w.heap.size + 3 ≤ (((w.alloc (.cells #[.slice A0 n0 c0, .int .i64 p.fMus, .slice B2 m2 d2, .slice A3 n3 c3] 40)).alloc (.cells #[.int .i64 pr, .int .i64 pc, .slice A2 n2 c2, .int .i64 st, .slice A4 n4 c4] 34)).alloc (.cells #[.int .i64 0, .int .i64 0, .slice none 0 0, .int .i64 0, .slice none 0 0] 34)).heap.size := by simp only [World.size_alloc]; omega
  go_enter Tryz.func27, Tryz.ntmps27
  go_upto_region 1 with (fail)
  generalize (((w.alloc (.cells #[.slice A0 n0 c0, .int .i64 p.fMus, .slice B2 m2 d2, .slice A3 n3 c3] 40)).alloc (.cells #[.int .i64 pr, .int .i64 pc, .slice A2 n2 c2, .int .i64 st, .slice A4 n4 c4] 34)).alloc (.cells #[.int .i64 0, .int .i64 0, .slice none 0 0, .int .i64 0, .slice none 0 0] 34)) = W0 at *
  have p0 := box_cell (j := 0) hP0 rfl
  have p1 := box_cell (j := 1) hP0 rfl
  have p2 := box_cell (j := 2) hP0 rfl
  have p3 := box_cell (j := 3) hP0 rfl
  have g0 := box_cell (j := 0) hG0 rfl
  have g1 := box_cell (j := 1) hG0 rfl
  have g2 := box_cell (j := 2) hG0 rfl
  have g3 := box_cell (j := 3) hG0 rfl
  have g4 := box_cell (j := 4) hG0 rfl
  have HP0 := Lib.hid hP0
  have HG0 := Lib.hid hG0
  have HR0 := Lib.hid hR0
  have HB0 := Lib.hid hB0
  clear hP0 hG0 hR0 hB0
  go_wp2_with fail
  refine (HI.out _ HB0.out).mono ?_
  rintro e w1 ⟨rfl, hb1⟩
  have hz1 := hb1.size
  clear p0 p1 p2 p3
  clear g0 g1 g2 g3 g4
  go_upto_region 2 with (fail)
  have hbi : Below w1.heap.size w1 (w1.alloc (.cells #[.int .i64 iop, .int .i64 ia, .int .i64 ib, .int .i64 ic] 52)) := (Below.refl _ _).alloc (Nat.le_refl _) _
  have hI1 := box_new w1 #[.int .i64 iop, .int .i64 ia, .int .i64 ib, .int .i64 ic] 52
  have hz2 : w1.heap.size < (w1.alloc (.cells #[.int .i64 iop, .int .i64 ia, .int .i64 ib, .int .i64 ic] 52)).heap.size := by simp
  have HG1 := Lib.hid (box_keep (box_keep HG0.out hb1 (by omega)) hbi (by omega))
  have HR1 := Lib.hid (box_keep (box_keep HR0.out hb1 (by omega)) hbi (by omega))
  have HB1 := Lib.hid (HB0.out.trans ((hb1.mono (by omega)).trans (hbi.mono (by omega))))
  have HI1 := Lib.hid hI1
  clear hb1 hbi hI1
  generalize (w1.alloc (.cells #[.int .i64 iop, .int .i64 ia, .int .i64 ib, .int .i64 ic] 52)) = W1 at *
  generalize w1.heap.size = bi at *
  have g0 := box_cell (j := 0) HG1.out rfl
  have g1 := box_cell (j := 1) HG1.out rfl
  have g2 := box_cell (j := 2) HG1.out rfl
  have g3 := box_cell (j := 3) HG1.out rfl
  have g4 := box_cell (j := 4) HG1.out rfl
  go_wp2_with fail
  refine (HC.out _ HB1.out).mono ?_
  rintro e w2 hC
  obtain ⟨C2, k2, e2, C4, k4, e4, rfl, H2, hb2⟩ := hold_of hC HWF.out.1 HWF.out.2.1 HWF.out.2.2
  clear hC
  simp only at H2 ⊢
  have hz3 := hb2.size
  clear g0 g1 g2 g3 g4
  have HH2 := Lib.hid H2
  clear H2
  go_upto_region 3 with (fail)
  have hbo : Below w2.heap.size w2 (w2.alloc (.cells #[.int .i64 pr, .int .i64 pc, .slice C2 k2 e2, .int .i64 st, .slice C4 k4 e4] 34)) := (Below.refl _ _).alloc (Nat.le_refl _) _
  have hz4 : w2.heap.size < (w2.alloc (.cells #[.int .i64 pr, .int .i64 pc, .slice C2 k2 e2, .int .i64 st, .slice C4 k4 e4] 34)).heap.size := by simp
  have HO2 := Lib.hid (box_new w2 #[.int .i64 pr, .int .i64 pc, .slice C2 k2 e2, .int .i64 st, .slice C4 k4 e4] 34)
  have HG2 := Lib.hid (box_keep (box_keep HG1.out hb2 (by omega)) hbo (by omega))
  have HR2 := Lib.hid (box_keep (box_keep HR1.out hb2 (by omega)) hbo (by omega))
  have HI2 := Lib.hid (box_keep (box_keep HI1.out hb2 (by omega)) hbo (by omega))
  have HB2 := Lib.hid (HB1.out.trans ((hb2.mono (by omega)).trans (hbo.mono (by omega))))
  have HH3 := Lib.hid (HH2.out.below hbo (Nat.le_refl _))
  clear HG1 HR1 HI1 HB1 HH2 hb2 hbo HG0 HR0 HP0 HB0
  generalize (w2.alloc (.cells #[.int .i64 pr, .int .i64 pc, .slice C2 k2 e2, .int .i64 st, .slice C4 k4 e4] 34)) = W2 at *
  generalize hbo : w2.heap.size = bo at *
  have hb1o : W1.heap.size ≤ bo := by omega
  have hi1 : w.heap.size + 3 ≤ bi := by omega
  have hi2 : bi < W1.heap.size := by omega
  have hbo2 : bo < W2.heap.size := by omega
  clear hbo hz0 hz1 hz2 hz3 hz4
  have i0 := box_cell (j := 0) HI2.out rfl
  have i1 := box_cell (j := 1) HI2.out rfl
  have i2 := box_cell (j := 2) HI2.out rfl
  have i3 := box_cell (j := 3) HI2.out rfl
  have hsplit : iop = 1 ∨ iop = 2 ∨ (iop = 3 ∨ iop = 4 ∨ iop = 5) ∨ iop = 6 ∨ iop = 7 := by omega
  clear hop
  rcases hsplit with rfl | rfl | h3 | rfl | rfl
  · skip
    have g0 := box_cell (j := 0) HG2.out rfl
    have g1 := box_cell (j := 1) HG2.out rfl
    have g2 := box_cell (j := 2) HG2.out rfl
    have g3 := box_cell (j := 3) HG2.out rfl
    have g4 := box_cell (j := 4) HG2.out rfl
    have HST := Lib.hid (show stepR ⟨1, ia, ib, ic⟩ ⟨pr, pc, regs, st, tr⟩ = overR ⟨pr, pc, regs, st, tr⟩ 0 from rfl)
    go_wp2_with fail
    refine (HO.out _ HB2.out).mono ?_
    rintro e w5 hC
    obtain ⟨D2, q2, f2, D4, q4, f4, rfl, H5, hb5⟩ := hold_of hC HWF.out.1 HWF.out.2.1 (show (Lit.int .i64 3).wf = true by decide)
    clear hC
    have hz5 := hb5.size
    have HRx := Lib.hid (box_keep HR2.out hb5 (by omega))
    have HBx := Lib.hid (HB2.out.trans (hb5.mono (by have := HB2.out.size; omega)))
    clear g0 g1 g2 g3 g4
    clear i0 i1 i2 i3
    have HH5 := Lib.hid H5
    clear H5 hb5
    have r0 := box_cell (j := 0) HRx.out rfl
    have r1 := box_cell (j := 1) HRx.out rfl
    have r2 := box_cell (j := 2) HRx.out rfl
    have r3 := box_cell (j := 3) HRx.out rfl
    have r4 := box_cell (j := 4) HRx.out rfl
    have rf0 := box_free HRx.out 0
    have rf1 := box_free HRx.out 1
    have rf2 := box_free HRx.out 2
    have rf3 := box_free HRx.out 3
    have rf4 := box_free HRx.out 4
    simp only [overR, tellR, if_true] at HH5 ⊢
    go_wp2_with fail
    have hfin := put5 (u0 := (.int .i64 pr)) (u1 := (.int .i64 pc)) (u2 := (.slice D2 q2 f2)) (u3 := (.int .i64 3)) (u4 := (.slice D4 q4 f4)) HRx.out
    have y0 := box_cell (j := 0) hfin.1 rfl
    have y1 := box_cell (j := 1) hfin.1 rfl
    have y2 := box_cell (j := 2) hfin.1 rfl
    have y3 := box_cell (j := 3) hfin.1 rfl
    have y4 := box_cell (j := 4) hfin.1 rfl
    refine bodyPost_ret (v := .agg #[.int .i64 pr, .int .i64 pc, .slice D2 q2 f2, .int .i64 3, .slice D4 q4 f4]) (by simp [results, Tryz.results27, go_sem, y0, y1, y2, y3, y4]) rfl ?_
    rw [HST.out]
    exact HoldG.copied ((HH5.out).stay (fun k hk _ => hfin.2.1 k (by omega)) (Nat.le_of_eq hfin.2.2.symm)) (fun k hk => by omega) (below_put5 HBx.out (by omega))
  · skip
    have g0 := box_cell (j := 0) HG2.out rfl
    have g1 := box_cell (j := 1) HG2.out rfl
    have g2 := box_cell (j := 2) HG2.out rfl
    have g3 := box_cell (j := 3) HG2.out rfl
    have g4 := box_cell (j := 4) HG2.out rfl
    have hL2 := LX.out.set rfl
    simp only at hL2
    have HST := Lib.hid (show stepR ⟨2, ia, ib, ic⟩ ⟨pr, pc, regs, st, tr⟩ = ⟨pr, pc + 1, regs.set ia.toNat ib, st, tr⟩ from rfl)
    go_wp2_with fail
    refine (HS.out _ HB2.out ia ib hL2.1 hL2.2).mono ?_
    rintro e w5 ⟨D2, q2, f2, D4, q4, f4, rfl, H5, hb5⟩
    clear g0 g1 g2 g3 g4
    clear i0 i1 i2 i3
    have hz5 := hb5.size
    have HO5 := box_keep HO2.out hb5 (by omega)
    have HR5 := Lib.hid (box_keep HR2.out hb5 (by omega))
    have HB5 := Lib.hid (HB2.out.trans (hb5.mono (by have := HB2.out.size; omega)))
    have HH5 := Lib.hid H5
    clear H5 hb5
    have o0 := box_cell (j := 0) HO5 rfl
    have o1 := box_cell (j := 1) HO5 rfl
    have o2 := box_cell (j := 2) HO5 rfl
    have o3 := box_cell (j := 3) HO5 rfl
    have o4 := box_cell (j := 4) HO5 rfl
    have of0 := box_free HO5 0
    have of1 := box_free HO5 1
    have of2 := box_free HO5 2
    have of3 := box_free HO5 3
    have of4 := box_free HO5 4
    have hbw : bo < w5.heap.size := by omega
    go_upto_region 19 with (fail)
    have hput := put5 (u0 := .int .i64 pr) (u1 := .int .i64 pc) (u2 := .slice D2 q2 f2) (u3 := .int .i64 st) (u4 := .slice D4 q4 f4) HO5
    have HB6 := Lib.hid (below_put5 (b := bo) (u0 := .int .i64 pr) (u1 := .int .i64 pc) (u2 := .slice D2 q2 f2) (u3 := .int .i64 st) (u4 := .slice D4 q4 f4) HB5.out (by omega))
    generalize (((((w5.setCell ⟨bo, 0, none⟩ (.int .i64 pr)).setCell ⟨bo, 1, none⟩ (.int .i64 pc)).setCell ⟨bo, 2, none⟩ (.slice D2 q2 f2)).setCell ⟨bo, 3, none⟩ (.int .i64 st)).setCell ⟨bo, 4, none⟩ (.slice D4 q4 f4)) = W6 at *
    obtain ⟨hO6, hk6, hs6⟩ := hput
    have HR6 := Lib.hid ((hk6 _ (by omega)).trans HR5.out)
    have HH6 := Lib.hid (HH5.out.stay (fun k hk _ => hk6 k (by omega)) (Nat.le_of_eq hs6.symm))
    clear o0 o1 o2 o3 o4
    clear of0 of1 of2 of3 of4
    clear hk6 HO5 HR5 HB5 HH5
    have hbw6 : bo < W6.heap.size := by omega
    have o0 := box_cell (j := 0) hO6 rfl
    have o1 := box_cell (j := 1) hO6 rfl
    have o2 := box_cell (j := 2) hO6 rfl
    have o3 := box_cell (j := 3) hO6 rfl
    have o4 := box_cell (j := 4) hO6 rfl
    have of1 := box_free hO6 1
    go_upto_region 20 with (fail)
    have hput7 := put1 (j := 1) (u := .int .i64 (pc + 1)) hO6
    have HBx := Lib.hid (below_set (p := ⟨bo, 1, none⟩) HB6.out (by simp only; omega) (.int .i64 (pc + 1)))
    generalize (W6.setCell ⟨bo, 1, none⟩ (.int .i64 (pc + 1))) = W7 at *
    obtain ⟨hO7, hk7, hs7⟩ := hput7
    have HRx := Lib.hid ((hk7 _ (by omega)).trans HR6.out)
    have HH7 := Lib.hid ((HH6.out.stay (fun k hk _ => hk7 k (by omega)) (Nat.le_of_eq hs7.symm)).pc (v := pc + 1) (wf_val (by omega)))
    clear o0 o1 o2 o3 o4
    clear of1 hk7
    have o0 := box_cell (j := 0) hO7 rfl
    have o1 := box_cell (j := 1) hO7 rfl
    have o2 := box_cell (j := 2) hO7 rfl
    have o3 := box_cell (j := 3) hO7 rfl
    have o4 := box_cell (j := 4) hO7 rfl
    have r0 := box_cell (j := 0) HRx.out rfl
    have r1 := box_cell (j := 1) HRx.out rfl
    have r2 := box_cell (j := 2) HRx.out rfl
    have r3 := box_cell (j := 3) HRx.out rfl
    have r4 := box_cell (j := 4) HRx.out rfl
    have rf0 := box_free HRx.out 0
    have rf1 := box_free HRx.out 1
    have rf2 := box_free HRx.out 2
    have rf3 := box_free HRx.out 3
    have rf4 := box_free HRx.out 4
    go_wp2_with fail
    have hfin := put5 (u0 := (.int .i64 pr)) (u1 := (.int .i64 (pc + 1))) (u2 := (.slice D2 q2 f2)) (u3 := (.int .i64 st)) (u4 := (.slice D4 q4 f4)) HRx.out
    have y0 := box_cell (j := 0) hfin.1 rfl
    have y1 := box_cell (j := 1) hfin.1 rfl
    have y2 := box_cell (j := 2) hfin.1 rfl
    have y3 := box_cell (j := 3) hfin.1 rfl
    have y4 := box_cell (j := 4) hfin.1 rfl
    refine bodyPost_ret (v := .agg #[.int .i64 pr, .int .i64 (pc + 1), .slice D2 q2 f2, .int .i64 st, .slice D4 q4 f4]) (by simp [results, Tryz.results27, go_sem, y0, y1, y2, y3, y4]) rfl ?_
    rw [HST.out]
    exact HoldG.copied ((HH7.out).stay (fun k hk _ => hfin.2.1 k (by omega)) (Nat.le_of_eq hfin.2.2.symm)) (fun k hk => by omega) (below_put5 HBx.out (by omega))
  · skip
    have hL3 := LX.out.calc3 h3
    simp only at hL3
    have hst : stepR ⟨iop, ia, ib, ic⟩ ⟨pr, pc, regs, st, tr⟩ = ⟨pr, pc + 1, regs.set ia.toNat (calcZ iop (regZ ⟨pr, pc, regs, st, tr⟩ ib) (regZ ⟨pr, pc, regs, st, tr⟩ ic)), st, tr⟩ := by
      unfold stepR
      rw [if_neg (by simp only; omega), if_neg (by simp only; omega), if_pos (by simpa using h3)]
    have HST := Lib.hid hst
    clear hst
    have HRb := Lib.hid (HRv.out ib hL3.2.1)
    have HRc := Lib.hid (HRv.out ic hL3.2.2)
    have HXb := Lib.hid (fun (W : World) (hW : Below w.heap.size w W) => HRg.out W hW ib hL3.2.1)
    have HXc := Lib.hid (fun (W : World) (hW : Below w.heap.size w W) => HRg.out W hW ic hL3.2.2)
    have HXa := Lib.hid hL3.1
    clear hL3
    generalize regZ ⟨pr, pc, regs, st, tr⟩ ib = xb at *
    generalize regZ ⟨pr, pc, regs, st, tr⟩ ic = xc at *
    have h1 : ¬ iop = 1 := by omega
    have h2 : ¬ iop = 2 := by omega
    have H3 := Lib.hid h3
    have HV3 := Lib.hid (calcZ_ok iop xb xc)
    obtain ⟨xv, hxv⟩ : ∃ xv, xv = calcZ iop xb xc := ⟨_, rfl⟩
    rw [← hxv] at HV3 HST
    have HCl := Lib.hid (fun (W : World) => show Calls Tryz.prog 56 #[.int .i64 iop, .int .i64 xb, .int .i64 xc] W fun e w' => e = .returned (.int .i64 xv) ∧ W = w' from by rw [hxv]; exact specCalc_any H3.out HRb.out HRc.out W)
    clear hxv
    rcases h3 with hop | hop | hop
    · skip
      subst hop
      go_upto_region 11 with (fail)
      clear h1 h2
      clear i0 i1 i2 i3
      refine wp_region_inv (fun AC0 L a W => ∃ sl30 sl31 sl32 sl33 sl34 sl35 sl36 sl37 sl38 sl39 sl40 sl41 sl42 sl43 sl44 : Value, a = (((((((((((((((AC0.put (some 30) sl30).put (some 31) sl31).put (some 32) sl32).put (some 33) sl33).put (some 34) sl34).put (some 35) sl35).put (some 36) sl36).put (some 37) sl37).put (some 38) sl38).put (some 39) sl39).put (some 40) sl40).put (some 41) sl41).put (some 42) sl42).put (some 43) sl43).put (some 44) sl44) ∧ (((∀ j, 14 ≤ j → ¬ L j) ∧ Below W2.heap.size W2 W ∧ (L 0 → sl30 = (.agg #[.int .i64 pr, .int .i64 pc, .slice A2 n2 c2, .int .i64 st, .slice A4 n4 c4])) ∧ (L 1 → sl31 = .pointer (some ⟨bi, 1, none⟩)) ∧ (L 2 → sl32 = (.int .i64 ia)) ∧ (L 3 → sl33 = .pointer (some ⟨bi, 0, none⟩)) ∧ (L 4 → sl34 = (.int .i64 3)) ∧ (L 5 → sl35 = (.agg #[.int .i64 pr, .int .i64 pc, .slice A2 n2 c2, .int .i64 st, .slice A4 n4 c4])) ∧ (L 6 → sl36 = .pointer (some ⟨bi, 2, none⟩)) ∧ (L 7 → sl37 = (.int .i64 ib)) ∧ (L 8 → sl38 = (.int .i64 xb)) ∧ (L 9 → sl39 = (.agg #[.int .i64 pr, .int .i64 pc, .slice A2 n2 c2, .int .i64 st, .slice A4 n4 c4])) ∧ (L 10 → sl40 = .pointer (some ⟨bi, 3, none⟩)) ∧ (L 11 → sl41 = (.int .i64 ic)) ∧ (L 12 → sl42 = (.int .i64 xc)) ∧ (L 13 → sl43 = (.int .i64 xv)) ∧ (L 2 → L 1) ∧ (L 4 → L 3) ∧ (L 13 → L 3) ∧ (L 13 → L 4) ∧ (L 8 → L 5) ∧ (L 12 → L 5) ∧ (L 13 → L 5) ∧ (L 7 → L 6) ∧ (L 8 → L 6) ∧ (L 12 → L 6) ∧ (L 13 → L 6) ∧ (L 8 → L 7) ∧ (L 12 → L 7) ∧ (L 13 → L 7) ∧ (L 13 → L 8) ∧ (L 12 → L 9) ∧ (L 13 → L 9) ∧ (L 11 → L 10) ∧ (L 12 → L 10) ∧ (L 13 → L 10) ∧ (L 12 → L 11) ∧ (L 13 → L 11) ∧ (L 13 → L 12)) ∨ ((∀ j, j < 15 → L j) ∧ (∀ j, 15 ≤ j → ¬ L j) ∧ ∃ (D2 : Option Addr) (q2 f2 : Nat) (D4 : Option Addr) (q4 f4 : Nat), sl44 = .agg #[.int .i64 pr, .int .i64 pc, .slice D2 q2 f2, .int .i64 st, .slice D4 q4 f4] ∧ HoldG (fun g => W2.heap.size ≤ g ∧ g < W.heap.size) ⟨pr, pc, regs.set ia.toNat xv, st, tr⟩ W D2 q2 f2 D4 q4 f4 ∧ Below W2.heap.size W2 W) ∨ ((∀ j, j < 16 → L j) ∧ (∀ j, 16 ≤ j → ¬ L j) ∧ ∃ (w5 : World) (D2 : Option Addr) (q2 f2 : Nat) (D4 : Option Addr) (q4 f4 : Nat), W = (((((w5.setCell ⟨bo, 0, none⟩ (.int .i64 pr)).setCell ⟨bo, 1, none⟩ (.int .i64 pc)).setCell ⟨bo, 2, none⟩ (.slice D2 q2 f2)).setCell ⟨bo, 3, none⟩ (.int .i64 st)).setCell ⟨bo, 4, none⟩ (.slice D4 q4 f4)) ∧ HoldG (fun g => W2.heap.size ≤ g ∧ g < w5.heap.size) ⟨pr, pc, regs.set ia.toNat xv, st, tr⟩ w5 D2 q2 f2 D4 q4 f4 ∧ Below W2.heap.size W2 w5))) (by kernel_rfl) (by kernel_rfl) ?_ ?_ ?_
      · exact ⟨undef, undef, undef, undef, undef, undef, undef, undef, undef, undef, undef, undef, undef, undef, undef, by simp only [Act.put, List.setIfInBounds_toArray, List.set_cons_zero, List.set_cons_succ], .inl ⟨fun _ _ h => h, Below.drew (Below.refl _ _), fun h => absurd h id, fun h => absurd h id, fun h => absurd h id, fun h => absurd h id, fun h => absurd h id, fun h => absurd h id, fun h => absurd h id, fun h => absurd h id, fun h => absurd h id, fun h => absurd h id, fun h => absurd h id, fun h => absurd h id, fun h => absurd h id, fun h => absurd h id, fun h => absurd h id, fun h => absurd h id, fun h => absurd h id, fun h => absurd h id, fun h => absurd h id, fun h => absurd h id, fun h => absurd h id, fun h => absurd h id, fun h => absurd h id, fun h => absurd h id, fun h => absurd h id, fun h => absurd h id, fun h => absurd h id, fun h => absurd h id, fun h => absurd h id, fun h => absurd h id, fun h => absurd h id, fun h => absurd h id, fun h => absurd h id, fun h => absurd h id, fun h => absurd h id, fun h => absurd h id, fun h => absurd h id⟩⟩
      · intro Q9; refine InvFrom.cons (fun L a W hI hN hD K hK => ?_) ?_
        · obtain ⟨sl30, sl31, sl32, sl33, sl34, sl35, sl36, sl37, sl38, sl39, sl40, sl41, sl42, sl43, sl44, ha, hI⟩ := hI
          subst ha
          rcases hI with hI | h9 | h9
          rotate_left
          · exact absurd (h9.1 0 (by decide)) hN
          · exact absurd (h9.1 0 (by decide)) hN
          obtain ⟨hn, hB, f0, f1, f2, f3, f4, f5, f6, f7, f8, f9, f10, f11, f12, f13, g2_1, g4_3, g13_3, g13_4, g8_5, g12_5, g13_5, g7_6, g8_6, g12_6, g13_6, g8_7, g12_7, g13_7, g13_8, g12_9, g13_9, g11_10, g12_10, g13_10, g12_11, g13_11, g13_12⟩ := hI
          have hz := hB.size
          have pg0 := box_cell (j := 0) (box_keep HG2.out hB (by omega)) rfl
          have pg1 := box_cell (j := 1) (box_keep HG2.out hB (by omega)) rfl
          have pg2 := box_cell (j := 2) (box_keep HG2.out hB (by omega)) rfl
          have pg3 := box_cell (j := 3) (box_keep HG2.out hB (by omega)) rfl
          have pg4 := box_cell (j := 4) (box_keep HG2.out hB (by omega)) rfl
          refine Kept.mk ?_
          simp only [Act.put, List.setIfInBounds_toArray, List.set_cons_zero, List.set_cons_succ]
          go_simp
          refine hK.out _ _ ?_
          exact ⟨(.agg #[.int .i64 pr, .int .i64 pc, .slice A2 n2 c2, .int .i64 st, .slice A4 n4 c4]), sl31, sl32, sl33, sl34, sl35, sl36, sl37, sl38, sl39, sl40, sl41, sl42, sl43, sl44, by simp only [Act.put, List.setIfInBounds_toArray, List.set_cons_zero, List.set_cons_succ], .inl ⟨fun j hj h => h.elim (hn j hj) (by omega), hB, fun _ => rfl, fun h => f1 (h.resolve_right (by decide)), fun h => f2 (h.resolve_right (by decide)), fun h => f3 (h.resolve_right (by decide)), fun h => f4 (h.resolve_right (by decide)), fun h => f5 (h.resolve_right (by decide)), fun h => f6 (h.resolve_right (by decide)), fun h => f7 (h.resolve_right (by decide)), fun h => f8 (h.resolve_right (by decide)), fun h => f9 (h.resolve_right (by decide)), fun h => f10 (h.resolve_right (by decide)), fun h => f11 (h.resolve_right (by decide)), fun h => f12 (h.resolve_right (by decide)), fun h => f13 (h.resolve_right (by decide)), fun h => .inl (g2_1 (h.resolve_right (by decide))), fun h => .inl (g4_3 (h.resolve_right (by decide))), fun h => .inl (g13_3 (h.resolve_right (by decide))), fun h => .inl (g13_4 (h.resolve_right (by decide))), fun h => .inl (g8_5 (h.resolve_right (by decide))), fun h => .inl (g12_5 (h.resolve_right (by decide))), fun h => .inl (g13_5 (h.resolve_right (by decide))), fun h => .inl (g7_6 (h.resolve_right (by decide))), fun h => .inl (g8_6 (h.resolve_right (by decide))), fun h => .inl (g12_6 (h.resolve_right (by decide))), fun h => .inl (g13_6 (h.resolve_right (by decide))), fun h => .inl (g8_7 (h.resolve_right (by decide))), fun h => .inl (g12_7 (h.resolve_right (by decide))), fun h => .inl (g13_7 (h.resolve_right (by decide))), fun h => .inl (g13_8 (h.resolve_right (by decide))), fun h => .inl (g12_9 (h.resolve_right (by decide))), fun h => .inl (g13_9 (h.resolve_right (by decide))), fun h => .inl (g11_10 (h.resolve_right (by decide))), fun h => .inl (g12_10 (h.resolve_right (by decide))), fun h => .inl (g13_10 (h.resolve_right (by decide))), fun h => .inl (g12_11 (h.resolve_right (by decide))), fun h => .inl (g13_11 (h.resolve_right (by decide))), fun h => .inl (g13_12 (h.resolve_right (by decide)))⟩⟩
        refine InvFrom.cons (fun L a W hI hN hD K hK => ?_) ?_
        · obtain ⟨sl30, sl31, sl32, sl33, sl34, sl35, sl36, sl37, sl38, sl39, sl40, sl41, sl42, sl43, sl44, ha, hI⟩ := hI
          subst ha
          rcases hI with hI | h9 | h9
          rotate_left
          · exact absurd (h9.1 1 (by decide)) hN
          · exact absurd (h9.1 1 (by decide)) hN
          obtain ⟨hn, hB, f0, f1, f2, f3, f4, f5, f6, f7, f8, f9, f10, f11, f12, f13, g2_1, g4_3, g13_3, g13_4, g8_5, g12_5, g13_5, g7_6, g8_6, g12_6, g13_6, g8_7, g12_7, g13_7, g13_8, g12_9, g13_9, g11_10, g12_10, g13_10, g12_11, g13_11, g13_12⟩ := hI
          have hz := hB.size
          refine Kept.mk ?_
          simp only [Act.put, List.setIfInBounds_toArray, List.set_cons_zero, List.set_cons_succ]
          go_simp
          refine hK.out _ _ ?_
          exact ⟨sl30, .pointer (some ⟨bi, 1, none⟩), sl32, sl33, sl34, sl35, sl36, sl37, sl38, sl39, sl40, sl41, sl42, sl43, sl44, by simp only [Act.put, List.setIfInBounds_toArray, List.set_cons_zero, List.set_cons_succ], .inl ⟨fun j hj h => h.elim (hn j hj) (by omega), hB, fun h => f0 (h.resolve_right (by decide)), fun _ => rfl, fun h => f2 (h.resolve_right (by decide)), fun h => f3 (h.resolve_right (by decide)), fun h => f4 (h.resolve_right (by decide)), fun h => f5 (h.resolve_right (by decide)), fun h => f6 (h.resolve_right (by decide)), fun h => f7 (h.resolve_right (by decide)), fun h => f8 (h.resolve_right (by decide)), fun h => f9 (h.resolve_right (by decide)), fun h => f10 (h.resolve_right (by decide)), fun h => f11 (h.resolve_right (by decide)), fun h => f12 (h.resolve_right (by decide)), fun h => f13 (h.resolve_right (by decide)), fun h => .inl (g2_1 (h.resolve_right (by decide))), fun h => .inl (g4_3 (h.resolve_right (by decide))), fun h => .inl (g13_3 (h.resolve_right (by decide))), fun h => .inl (g13_4 (h.resolve_right (by decide))), fun h => .inl (g8_5 (h.resolve_right (by decide))), fun h => .inl (g12_5 (h.resolve_right (by decide))), fun h => .inl (g13_5 (h.resolve_right (by decide))), fun h => .inl (g7_6 (h.resolve_right (by decide))), fun h => .inl (g8_6 (h.resolve_right (by decide))), fun h => .inl (g12_6 (h.resolve_right (by decide))), fun h => .inl (g13_6 (h.resolve_right (by decide))), fun h => .inl (g8_7 (h.resolve_right (by decide))), fun h => .inl (g12_7 (h.resolve_right (by decide))), fun h => .inl (g13_7 (h.resolve_right (by decide))), fun h => .inl (g13_8 (h.resolve_right (by decide))), fun h => .inl (g12_9 (h.resolve_right (by decide))), fun h => .inl (g13_9 (h.resolve_right (by decide))), fun h => .inl (g11_10 (h.resolve_right (by decide))), fun h => .inl (g12_10 (h.resolve_right (by decide))), fun h => .inl (g13_10 (h.resolve_right (by decide))), fun h => .inl (g12_11 (h.resolve_right (by decide))), fun h => .inl (g13_11 (h.resolve_right (by decide))), fun h => .inl (g13_12 (h.resolve_right (by decide)))⟩⟩
        refine InvFrom.cons (fun L a W hI hN hD K hK => ?_) ?_
        · obtain ⟨sl30, sl31, sl32, sl33, sl34, sl35, sl36, sl37, sl38, sl39, sl40, sl41, sl42, sl43, sl44, ha, hI⟩ := hI
          subst ha
          rcases hI with hI | h9 | h9
          rotate_left
          · exact absurd (h9.1 2 (by decide)) hN
          · exact absurd (h9.1 2 (by decide)) hN
          obtain ⟨hn, hB, f0, f1, f2, f3, f4, f5, f6, f7, f8, f9, f10, f11, f12, f13, g2_1, g4_3, g13_3, g13_4, g8_5, g12_5, g13_5, g7_6, g8_6, g12_6, g13_6, g8_7, g12_7, g13_7, g13_8, g12_9, g13_9, g11_10, g12_10, g13_10, g12_11, g13_11, g13_12⟩ := hI
          have hz := hB.size
          have d1 := f1 (hD 1 (by kernel_rfl))
          subst d1
          have pi0 := box_cell (j := 0) (box_keep HI2.out hB (by omega)) rfl
          have pi1 := box_cell (j := 1) (box_keep HI2.out hB (by omega)) rfl
          have pi2 := box_cell (j := 2) (box_keep HI2.out hB (by omega)) rfl
          have pi3 := box_cell (j := 3) (box_keep HI2.out hB (by omega)) rfl
          refine Kept.mk ?_
          simp only [Act.put, List.setIfInBounds_toArray, List.set_cons_zero, List.set_cons_succ]
          go_simp
          refine hK.out _ _ ?_
          exact ⟨sl30, .pointer (some ⟨bi, 1, none⟩), (.int .i64 ia), sl33, sl34, sl35, sl36, sl37, sl38, sl39, sl40, sl41, sl42, sl43, sl44, by simp only [Act.put, List.setIfInBounds_toArray, List.set_cons_zero, List.set_cons_succ], .inl ⟨fun j hj h => h.elim (hn j hj) (by omega), hB, fun h => f0 (h.resolve_right (by decide)), fun h => f1 (h.resolve_right (by decide)), fun _ => rfl, fun h => f3 (h.resolve_right (by decide)), fun h => f4 (h.resolve_right (by decide)), fun h => f5 (h.resolve_right (by decide)), fun h => f6 (h.resolve_right (by decide)), fun h => f7 (h.resolve_right (by decide)), fun h => f8 (h.resolve_right (by decide)), fun h => f9 (h.resolve_right (by decide)), fun h => f10 (h.resolve_right (by decide)), fun h => f11 (h.resolve_right (by decide)), fun h => f12 (h.resolve_right (by decide)), fun h => f13 (h.resolve_right (by decide)), fun _ => .inl (hD 1 (by kernel_rfl)), fun h => .inl (g4_3 (h.resolve_right (by decide))), fun h => .inl (g13_3 (h.resolve_right (by decide))), fun h => .inl (g13_4 (h.resolve_right (by decide))), fun h => .inl (g8_5 (h.resolve_right (by decide))), fun h => .inl (g12_5 (h.resolve_right (by decide))), fun h => .inl (g13_5 (h.resolve_right (by decide))), fun h => .inl (g7_6 (h.resolve_right (by decide))), fun h => .inl (g8_6 (h.resolve_right (by decide))), fun h => .inl (g12_6 (h.resolve_right (by decide))), fun h => .inl (g13_6 (h.resolve_right (by decide))), fun h => .inl (g8_7 (h.resolve_right (by decide))), fun h => .inl (g12_7 (h.resolve_right (by decide))), fun h => .inl (g13_7 (h.resolve_right (by decide))), fun h => .inl (g13_8 (h.resolve_right (by decide))), fun h => .inl (g12_9 (h.resolve_right (by decide))), fun h => .inl (g13_9 (h.resolve_right (by decide))), fun h => .inl (g11_10 (h.resolve_right (by decide))), fun h => .inl (g12_10 (h.resolve_right (by decide))), fun h => .inl (g13_10 (h.resolve_right (by decide))), fun h => .inl (g12_11 (h.resolve_right (by decide))), fun h => .inl (g13_11 (h.resolve_right (by decide))), fun h => .inl (g13_12 (h.resolve_right (by decide)))⟩⟩
        refine InvFrom.cons (fun L a W hI hN hD K hK => ?_) ?_
        · obtain ⟨sl30, sl31, sl32, sl33, sl34, sl35, sl36, sl37, sl38, sl39, sl40, sl41, sl42, sl43, sl44, ha, hI⟩ := hI
          subst ha
          rcases hI with hI | h9 | h9
          rotate_left
          · exact absurd (h9.1 3 (by decide)) hN
          · exact absurd (h9.1 3 (by decide)) hN
          obtain ⟨hn, hB, f0, f1, f2, f3, f4, f5, f6, f7, f8, f9, f10, f11, f12, f13, g2_1, g4_3, g13_3, g13_4, g8_5, g12_5, g13_5, g7_6, g8_6, g12_6, g13_6, g8_7, g12_7, g13_7, g13_8, g12_9, g13_9, g11_10, g12_10, g13_10, g12_11, g13_11, g13_12⟩ := hI
          have hz := hB.size
          refine Kept.mk ?_
          simp only [Act.put, List.setIfInBounds_toArray, List.set_cons_zero, List.set_cons_succ]
          go_simp
          refine hK.out _ _ ?_
          exact ⟨sl30, sl31, sl32, .pointer (some ⟨bi, 0, none⟩), sl34, sl35, sl36, sl37, sl38, sl39, sl40, sl41, sl42, sl43, sl44, by simp only [Act.put, List.setIfInBounds_toArray, List.set_cons_zero, List.set_cons_succ], .inl ⟨fun j hj h => h.elim (hn j hj) (by omega), hB, fun h => f0 (h.resolve_right (by decide)), fun h => f1 (h.resolve_right (by decide)), fun h => f2 (h.resolve_right (by decide)), fun _ => rfl, fun h => f4 (h.resolve_right (by decide)), fun h => f5 (h.resolve_right (by decide)), fun h => f6 (h.resolve_right (by decide)), fun h => f7 (h.resolve_right (by decide)), fun h => f8 (h.resolve_right (by decide)), fun h => f9 (h.resolve_right (by decide)), fun h => f10 (h.resolve_right (by decide)), fun h => f11 (h.resolve_right (by decide)), fun h => f12 (h.resolve_right (by decide)), fun h => f13 (h.resolve_right (by decide)), fun h => .inl (g2_1 (h.resolve_right (by decide))), fun h => .inl (g4_3 (h.resolve_right (by decide))), fun h => .inl (g13_3 (h.resolve_right (by decide))), fun h => .inl (g13_4 (h.resolve_right (by decide))), fun h => .inl (g8_5 (h.resolve_right (by decide))), fun h => .inl (g12_5 (h.resolve_right (by decide))), fun h => .inl (g13_5 (h.resolve_right (by decide))), fun h => .inl (g7_6 (h.resolve_right (by decide))), fun h => .inl (g8_6 (h.resolve_right (by decide))), fun h => .inl (g12_6 (h.resolve_right (by decide))), fun h => .inl (g13_6 (h.resolve_right (by decide))), fun h => .inl (g8_7 (h.resolve_right (by decide))), fun h => .inl (g12_7 (h.resolve_right (by decide))), fun h => .inl (g13_7 (h.resolve_right (by decide))), fun h => .inl (g13_8 (h.resolve_right (by decide))), fun h => .inl (g12_9 (h.resolve_right (by decide))), fun h => .inl (g13_9 (h.resolve_right (by decide))), fun h => .inl (g11_10 (h.resolve_right (by decide))), fun h => .inl (g12_10 (h.resolve_right (by decide))), fun h => .inl (g13_10 (h.resolve_right (by decide))), fun h => .inl (g12_11 (h.resolve_right (by decide))), fun h => .inl (g13_11 (h.resolve_right (by decide))), fun h => .inl (g13_12 (h.resolve_right (by decide)))⟩⟩
        refine InvFrom.cons (fun L a W hI hN hD K hK => ?_) ?_
        · obtain ⟨sl30, sl31, sl32, sl33, sl34, sl35, sl36, sl37, sl38, sl39, sl40, sl41, sl42, sl43, sl44, ha, hI⟩ := hI
          subst ha
          rcases hI with hI | h9 | h9
          rotate_left
          · exact absurd (h9.1 4 (by decide)) hN
          · exact absurd (h9.1 4 (by decide)) hN
          obtain ⟨hn, hB, f0, f1, f2, f3, f4, f5, f6, f7, f8, f9, f10, f11, f12, f13, g2_1, g4_3, g13_3, g13_4, g8_5, g12_5, g13_5, g7_6, g8_6, g12_6, g13_6, g8_7, g12_7, g13_7, g13_8, g12_9, g13_9, g11_10, g12_10, g13_10, g12_11, g13_11, g13_12⟩ := hI
          have hz := hB.size
          have d3 := f3 (hD 3 (by kernel_rfl))
          subst d3
          have pi0 := box_cell (j := 0) (box_keep HI2.out hB (by omega)) rfl
          have pi1 := box_cell (j := 1) (box_keep HI2.out hB (by omega)) rfl
          have pi2 := box_cell (j := 2) (box_keep HI2.out hB (by omega)) rfl
          have pi3 := box_cell (j := 3) (box_keep HI2.out hB (by omega)) rfl
          refine Kept.mk ?_
          simp only [Act.put, List.setIfInBounds_toArray, List.set_cons_zero, List.set_cons_succ]
          go_simp
          refine hK.out _ _ ?_
          exact ⟨sl30, sl31, sl32, .pointer (some ⟨bi, 0, none⟩), (.int .i64 3), sl35, sl36, sl37, sl38, sl39, sl40, sl41, sl42, sl43, sl44, by simp only [Act.put, List.setIfInBounds_toArray, List.set_cons_zero, List.set_cons_succ], .inl ⟨fun j hj h => h.elim (hn j hj) (by omega), hB, fun h => f0 (h.resolve_right (by decide)), fun h => f1 (h.resolve_right (by decide)), fun h => f2 (h.resolve_right (by decide)), fun h => f3 (h.resolve_right (by decide)), fun _ => rfl, fun h => f5 (h.resolve_right (by decide)), fun h => f6 (h.resolve_right (by decide)), fun h => f7 (h.resolve_right (by decide)), fun h => f8 (h.resolve_right (by decide)), fun h => f9 (h.resolve_right (by decide)), fun h => f10 (h.resolve_right (by decide)), fun h => f11 (h.resolve_right (by decide)), fun h => f12 (h.resolve_right (by decide)), fun h => f13 (h.resolve_right (by decide)), fun h => .inl (g2_1 (h.resolve_right (by decide))), fun _ => .inl (hD 3 (by kernel_rfl)), fun h => .inl (g13_3 (h.resolve_right (by decide))), fun h => .inl (g13_4 (h.resolve_right (by decide))), fun h => .inl (g8_5 (h.resolve_right (by decide))), fun h => .inl (g12_5 (h.resolve_right (by decide))), fun h => .inl (g13_5 (h.resolve_right (by decide))), fun h => .inl (g7_6 (h.resolve_right (by decide))), fun h => .inl (g8_6 (h.resolve_right (by decide))), fun h => .inl (g12_6 (h.resolve_right (by decide))), fun h => .inl (g13_6 (h.resolve_right (by decide))), fun h => .inl (g8_7 (h.resolve_right (by decide))), fun h => .inl (g12_7 (h.resolve_right (by decide))), fun h => .inl (g13_7 (h.resolve_right (by decide))), fun h => .inl (g13_8 (h.resolve_right (by decide))), fun h => .inl (g12_9 (h.resolve_right (by decide))), fun h => .inl (g13_9 (h.resolve_right (by decide))), fun h => .inl (g11_10 (h.resolve_right (by decide))), fun h => .inl (g12_10 (h.resolve_right (by decide))), fun h => .inl (g13_10 (h.resolve_right (by decide))), fun h => .inl (g12_11 (h.resolve_right (by decide))), fun h => .inl (g13_11 (h.resolve_right (by decide))), fun h => .inl (g13_12 (h.resolve_right (by decide)))⟩⟩
        refine InvFrom.cons (fun L a W hI hN hD K hK => ?_) ?_
        · obtain ⟨sl30, sl31, sl32, sl33, sl34, sl35, sl36, sl37, sl38, sl39, sl40, sl41, sl42, sl43, sl44, ha, hI⟩ := hI
          subst ha
          rcases hI with hI | h9 | h9
          rotate_left
          · exact absurd (h9.1 5 (by decide)) hN
          · exact absurd (h9.1 5 (by decide)) hN
          obtain ⟨hn, hB, f0, f1, f2, f3, f4, f5, f6, f7, f8, f9, f10, f11, f12, f13, g2_1, g4_3, g13_3, g13_4, g8_5, g12_5, g13_5, g7_6, g8_6, g12_6, g13_6, g8_7, g12_7, g13_7, g13_8, g12_9, g13_9, g11_10, g12_10, g13_10, g12_11, g13_11, g13_12⟩ := hI
          have hz := hB.size
          have pg0 := box_cell (j := 0) (box_keep HG2.out hB (by omega)) rfl
          have pg1 := box_cell (j := 1) (box_keep HG2.out hB (by omega)) rfl
          have pg2 := box_cell (j := 2) (box_keep HG2.out hB (by omega)) rfl
          have pg3 := box_cell (j := 3) (box_keep HG2.out hB (by omega)) rfl
          have pg4 := box_cell (j := 4) (box_keep HG2.out hB (by omega)) rfl
          refine Kept.mk ?_
          simp only [Act.put, List.setIfInBounds_toArray, List.set_cons_zero, List.set_cons_succ]
          go_simp
          refine hK.out _ _ ?_
          exact ⟨sl30, sl31, sl32, sl33, sl34, (.agg #[.int .i64 pr, .int .i64 pc, .slice A2 n2 c2, .int .i64 st, .slice A4 n4 c4]), sl36, sl37, sl38, sl39, sl40, sl41, sl42, sl43, sl44, by simp only [Act.put, List.setIfInBounds_toArray, List.set_cons_zero, List.set_cons_succ], .inl ⟨fun j hj h => h.elim (hn j hj) (by omega), hB, fun h => f0 (h.resolve_right (by decide)), fun h => f1 (h.resolve_right (by decide)), fun h => f2 (h.resolve_right (by decide)), fun h => f3 (h.resolve_right (by decide)), fun h => f4 (h.resolve_right (by decide)), fun _ => rfl, fun h => f6 (h.resolve_right (by decide)), fun h => f7 (h.resolve_right (by decide)), fun h => f8 (h.resolve_right (by decide)), fun h => f9 (h.resolve_right (by decide)), fun h => f10 (h.resolve_right (by decide)), fun h => f11 (h.resolve_right (by decide)), fun h => f12 (h.resolve_right (by decide)), fun h => f13 (h.resolve_right (by decide)), fun h => .inl (g2_1 (h.resolve_right (by decide))), fun h => .inl (g4_3 (h.resolve_right (by decide))), fun h => .inl (g13_3 (h.resolve_right (by decide))), fun h => .inl (g13_4 (h.resolve_right (by decide))), fun h => .inl (g8_5 (h.resolve_right (by decide))), fun h => .inl (g12_5 (h.resolve_right (by decide))), fun h => .inl (g13_5 (h.resolve_right (by decide))), fun h => .inl (g7_6 (h.resolve_right (by decide))), fun h => .inl (g8_6 (h.resolve_right (by decide))), fun h => .inl (g12_6 (h.resolve_right (by decide))), fun h => .inl (g13_6 (h.resolve_right (by decide))), fun h => .inl (g8_7 (h.resolve_right (by decide))), fun h => .inl (g12_7 (h.resolve_right (by decide))), fun h => .inl (g13_7 (h.resolve_right (by decide))), fun h => .inl (g13_8 (h.resolve_right (by decide))), fun h => .inl (g12_9 (h.resolve_right (by decide))), fun h => .inl (g13_9 (h.resolve_right (by decide))), fun h => .inl (g11_10 (h.resolve_right (by decide))), fun h => .inl (g12_10 (h.resolve_right (by decide))), fun h => .inl (g13_10 (h.resolve_right (by decide))), fun h => .inl (g12_11 (h.resolve_right (by decide))), fun h => .inl (g13_11 (h.resolve_right (by decide))), fun h => .inl (g13_12 (h.resolve_right (by decide)))⟩⟩
        refine InvFrom.cons (fun L a W hI hN hD K hK => ?_) ?_
        · obtain ⟨sl30, sl31, sl32, sl33, sl34, sl35, sl36, sl37, sl38, sl39, sl40, sl41, sl42, sl43, sl44, ha, hI⟩ := hI
          subst ha
          rcases hI with hI | h9 | h9
          rotate_left
          · exact absurd (h9.1 6 (by decide)) hN
          · exact absurd (h9.1 6 (by decide)) hN
          obtain ⟨hn, hB, f0, f1, f2, f3, f4, f5, f6, f7, f8, f9, f10, f11, f12, f13, g2_1, g4_3, g13_3, g13_4, g8_5, g12_5, g13_5, g7_6, g8_6, g12_6, g13_6, g8_7, g12_7, g13_7, g13_8, g12_9, g13_9, g11_10, g12_10, g13_10, g12_11, g13_11, g13_12⟩ := hI
          have hz := hB.size
          refine Kept.mk ?_
          simp only [Act.put, List.setIfInBounds_toArray, List.set_cons_zero, List.set_cons_succ]
          go_simp
          refine hK.out _ _ ?_
          exact ⟨sl30, sl31, sl32, sl33, sl34, sl35, .pointer (some ⟨bi, 2, none⟩), sl37, sl38, sl39, sl40, sl41, sl42, sl43, sl44, by simp only [Act.put, List.setIfInBounds_toArray, List.set_cons_zero, List.set_cons_succ], .inl ⟨fun j hj h => h.elim (hn j hj) (by omega), hB, fun h => f0 (h.resolve_right (by decide)), fun h => f1 (h.resolve_right (by decide)), fun h => f2 (h.resolve_right (by decide)), fun h => f3 (h.resolve_right (by decide)), fun h => f4 (h.resolve_right (by decide)), fun h => f5 (h.resolve_right (by decide)), fun _ => rfl, fun h => f7 (h.resolve_right (by decide)), fun h => f8 (h.resolve_right (by decide)), fun h => f9 (h.resolve_right (by decide)), fun h => f10 (h.resolve_right (by decide)), fun h => f11 (h.resolve_right (by decide)), fun h => f12 (h.resolve_right (by decide)), fun h => f13 (h.resolve_right (by decide)), fun h => .inl (g2_1 (h.resolve_right (by decide))), fun h => .inl (g4_3 (h.resolve_right (by decide))), fun h => .inl (g13_3 (h.resolve_right (by decide))), fun h => .inl (g13_4 (h.resolve_right (by decide))), fun h => .inl (g8_5 (h.resolve_right (by decide))), fun h => .inl (g12_5 (h.resolve_right (by decide))), fun h => .inl (g13_5 (h.resolve_right (by decide))), fun h => .inl (g7_6 (h.resolve_right (by decide))), fun h => .inl (g8_6 (h.resolve_right (by decide))), fun h => .inl (g12_6 (h.resolve_right (by decide))), fun h => .inl (g13_6 (h.resolve_right (by decide))), fun h => .inl (g8_7 (h.resolve_right (by decide))), fun h => .inl (g12_7 (h.resolve_right (by decide))), fun h => .inl (g13_7 (h.resolve_right (by decide))), fun h => .inl (g13_8 (h.resolve_right (by decide))), fun h => .inl (g12_9 (h.resolve_right (by decide))), fun h => .inl (g13_9 (h.resolve_right (by decide))), fun h => .inl (g11_10 (h.resolve_right (by decide))), fun h => .inl (g12_10 (h.resolve_right (by decide))), fun h => .inl (g13_10 (h.resolve_right (by decide))), fun h => .inl (g12_11 (h.resolve_right (by decide))), fun h => .inl (g13_11 (h.resolve_right (by decide))), fun h => .inl (g13_12 (h.resolve_right (by decide)))⟩⟩
        refine InvFrom.cons (fun L a W hI hN hD K hK => ?_) ?_
        · obtain ⟨sl30, sl31, sl32, sl33, sl34, sl35, sl36, sl37, sl38, sl39, sl40, sl41, sl42, sl43, sl44, ha, hI⟩ := hI
          subst ha
          rcases hI with hI | h9 | h9
          rotate_left
          · exact absurd (h9.1 7 (by decide)) hN
          · exact absurd (h9.1 7 (by decide)) hN
          obtain ⟨hn, hB, f0, f1, f2, f3, f4, f5, f6, f7, f8, f9, f10, f11, f12, f13, g2_1, g4_3, g13_3, g13_4, g8_5, g12_5, g13_5, g7_6, g8_6, g12_6, g13_6, g8_7, g12_7, g13_7, g13_8, g12_9, g13_9, g11_10, g12_10, g13_10, g12_11, g13_11, g13_12⟩ := hI
          have hz := hB.size
          have d6 := f6 (hD 6 (by kernel_rfl))
          subst d6
          have pi0 := box_cell (j := 0) (box_keep HI2.out hB (by omega)) rfl
          have pi1 := box_cell (j := 1) (box_keep HI2.out hB (by omega)) rfl
          have pi2 := box_cell (j := 2) (box_keep HI2.out hB (by omega)) rfl
          have pi3 := box_cell (j := 3) (box_keep HI2.out hB (by omega)) rfl
          refine Kept.mk ?_
          simp only [Act.put, List.setIfInBounds_toArray, List.set_cons_zero, List.set_cons_succ]
          go_simp
          refine hK.out _ _ ?_
          exact ⟨sl30, sl31, sl32, sl33, sl34, sl35, .pointer (some ⟨bi, 2, none⟩), (.int .i64 ib), sl38, sl39, sl40, sl41, sl42, sl43, sl44, by simp only [Act.put, List.setIfInBounds_toArray, List.set_cons_zero, List.set_cons_succ], .inl ⟨fun j hj h => h.elim (hn j hj) (by omega), hB, fun h => f0 (h.resolve_right (by decide)), fun h => f1 (h.resolve_right (by decide)), fun h => f2 (h.resolve_right (by decide)), fun h => f3 (h.resolve_right (by decide)), fun h => f4 (h.resolve_right (by decide)), fun h => f5 (h.resolve_right (by decide)), fun h => f6 (h.resolve_right (by decide)), fun _ => rfl, fun h => f8 (h.resolve_right (by decide)), fun h => f9 (h.resolve_right (by decide)), fun h => f10 (h.resolve_right (by decide)), fun h => f11 (h.resolve_right (by decide)), fun h => f12 (h.resolve_right (by decide)), fun h => f13 (h.resolve_right (by decide)), fun h => .inl (g2_1 (h.resolve_right (by decide))), fun h => .inl (g4_3 (h.resolve_right (by decide))), fun h => .inl (g13_3 (h.resolve_right (by decide))), fun h => .inl (g13_4 (h.resolve_right (by decide))), fun h => .inl (g8_5 (h.resolve_right (by decide))), fun h => .inl (g12_5 (h.resolve_right (by decide))), fun h => .inl (g13_5 (h.resolve_right (by decide))), fun _ => .inl (hD 6 (by kernel_rfl)), fun h => .inl (g8_6 (h.resolve_right (by decide))), fun h => .inl (g12_6 (h.resolve_right (by decide))), fun h => .inl (g13_6 (h.resolve_right (by decide))), fun h => .inl (g8_7 (h.resolve_right (by decide))), fun h => .inl (g12_7 (h.resolve_right (by decide))), fun h => .inl (g13_7 (h.resolve_right (by decide))), fun h => .inl (g13_8 (h.resolve_right (by decide))), fun h => .inl (g12_9 (h.resolve_right (by decide))), fun h => .inl (g13_9 (h.resolve_right (by decide))), fun h => .inl (g11_10 (h.resolve_right (by decide))), fun h => .inl (g12_10 (h.resolve_right (by decide))), fun h => .inl (g13_10 (h.resolve_right (by decide))), fun h => .inl (g12_11 (h.resolve_right (by decide))), fun h => .inl (g13_11 (h.resolve_right (by decide))), fun h => .inl (g13_12 (h.resolve_right (by decide)))⟩⟩
        refine InvFrom.cons (fun L a W hI hN hD K hK => ?_) ?_
        · obtain ⟨sl30, sl31, sl32, sl33, sl34, sl35, sl36, sl37, sl38, sl39, sl40, sl41, sl42, sl43, sl44, ha, hI⟩ := hI
          subst ha
          rcases hI with hI | h9 | h9
          rotate_left
          · exact absurd (h9.1 8 (by decide)) hN
          · exact absurd (h9.1 8 (by decide)) hN
          obtain ⟨hn, hB, f0, f1, f2, f3, f4, f5, f6, f7, f8, f9, f10, f11, f12, f13, g2_1, g4_3, g13_3, g13_4, g8_5, g12_5, g13_5, g7_6, g8_6, g12_6, g13_6, g8_7, g12_7, g13_7, g13_8, g12_9, g13_9, g11_10, g12_10, g13_10, g12_11, g13_11, g13_12⟩ := hI
          have hz := hB.size
          have d5 := f5 (hD 5 (by kernel_rfl))
          subst d5
          have d7 := f7 (hD 7 (by kernel_rfl))
          subst d7
          refine kept_c2 rfl 57 _ _ _ rfl (fenters_of' Tryz.func57 (by kernel_rfl) (by kernel_rfl)) (.agg #[.int .i64 pr, .int .i64 pc, .slice A2 n2 c2, .int .i64 st, .slice A4 n4 c4]) (.int .i64 ib) (by kernel_rfl) (by kernel_rfl) (HXb.out W (HB2.out.trans (hB.mono (by have := HB2.out.size; omega)))) ?_
          rintro e W1 ⟨rfl, hb9⟩
          refine ⟨_, rfl, hK.out _ _ ?_⟩
          exact ⟨sl30, sl31, sl32, sl33, sl34, (.agg #[.int .i64 pr, .int .i64 pc, .slice A2 n2 c2, .int .i64 st, .slice A4 n4 c4]), sl36, (.int .i64 ib), (.int .i64 xb), sl39, sl40, sl41, sl42, sl43, sl44, by simp only [Act.put, List.setIfInBounds_toArray, List.set_cons_zero, List.set_cons_succ], .inl ⟨fun j hj h => h.elim (hn j hj) (by omega), hB.trans (hb9.mono hz), fun h => f0 (h.resolve_right (by decide)), fun h => f1 (h.resolve_right (by decide)), fun h => f2 (h.resolve_right (by decide)), fun h => f3 (h.resolve_right (by decide)), fun h => f4 (h.resolve_right (by decide)), fun h => f5 (h.resolve_right (by decide)), fun h => f6 (h.resolve_right (by decide)), fun h => f7 (h.resolve_right (by decide)), fun _ => rfl, fun h => f9 (h.resolve_right (by decide)), fun h => f10 (h.resolve_right (by decide)), fun h => f11 (h.resolve_right (by decide)), fun h => f12 (h.resolve_right (by decide)), fun h => f13 (h.resolve_right (by decide)), fun h => .inl (g2_1 (h.resolve_right (by decide))), fun h => .inl (g4_3 (h.resolve_right (by decide))), fun h => .inl (g13_3 (h.resolve_right (by decide))), fun h => .inl (g13_4 (h.resolve_right (by decide))), fun _ => .inl (hD 5 (by kernel_rfl)), fun h => .inl (g12_5 (h.resolve_right (by decide))), fun h => .inl (g13_5 (h.resolve_right (by decide))), fun h => .inl (g7_6 (h.resolve_right (by decide))), fun _ => .inl (g7_6 (hD 7 (by kernel_rfl))), fun h => .inl (g12_6 (h.resolve_right (by decide))), fun h => .inl (g13_6 (h.resolve_right (by decide))), fun _ => .inl (hD 7 (by kernel_rfl)), fun h => .inl (g12_7 (h.resolve_right (by decide))), fun h => .inl (g13_7 (h.resolve_right (by decide))), fun h => .inl (g13_8 (h.resolve_right (by decide))), fun h => .inl (g12_9 (h.resolve_right (by decide))), fun h => .inl (g13_9 (h.resolve_right (by decide))), fun h => .inl (g11_10 (h.resolve_right (by decide))), fun h => .inl (g12_10 (h.resolve_right (by decide))), fun h => .inl (g13_10 (h.resolve_right (by decide))), fun h => .inl (g12_11 (h.resolve_right (by decide))), fun h => .inl (g13_11 (h.resolve_right (by decide))), fun h => .inl (g13_12 (h.resolve_right (by decide)))⟩⟩
        refine InvFrom.cons (fun L a W hI hN hD K hK => ?_) ?_
        · obtain ⟨sl30, sl31, sl32, sl33, sl34, sl35, sl36, sl37, sl38, sl39, sl40, sl41, sl42, sl43, sl44, ha, hI⟩ := hI
          subst ha
          rcases hI with hI | h9 | h9
          rotate_left
          · exact absurd (h9.1 9 (by decide)) hN
          · exact absurd (h9.1 9 (by decide)) hN
          obtain ⟨hn, hB, f0, f1, f2, f3, f4, f5, f6, f7, f8, f9, f10, f11, f12, f13, g2_1, g4_3, g13_3, g13_4, g8_5, g12_5, g13_5, g7_6, g8_6, g12_6, g13_6, g8_7, g12_7, g13_7, g13_8, g12_9, g13_9, g11_10, g12_10, g13_10, g12_11, g13_11, g13_12⟩ := hI
          have hz := hB.size
          have pg0 := box_cell (j := 0) (box_keep HG2.out hB (by omega)) rfl
          have pg1 := box_cell (j := 1) (box_keep HG2.out hB (by omega)) rfl
          have pg2 := box_cell (j := 2) (box_keep HG2.out hB (by omega)) rfl
          have pg3 := box_cell (j := 3) (box_keep HG2.out hB (by omega)) rfl
          have pg4 := box_cell (j := 4) (box_keep HG2.out hB (by omega)) rfl
          refine Kept.mk ?_
          simp only [Act.put, List.setIfInBounds_toArray, List.set_cons_zero, List.set_cons_succ]
          go_simp
          refine hK.out _ _ ?_
          exact ⟨sl30, sl31, sl32, sl33, sl34, sl35, sl36, sl37, sl38, (.agg #[.int .i64 pr, .int .i64 pc, .slice A2 n2 c2, .int .i64 st, .slice A4 n4 c4]), sl40, sl41, sl42, sl43, sl44, by simp only [Act.put, List.setIfInBounds_toArray, List.set_cons_zero, List.set_cons_succ], .inl ⟨fun j hj h => h.elim (hn j hj) (by omega), hB, fun h => f0 (h.resolve_right (by decide)), fun h => f1 (h.resolve_right (by decide)), fun h => f2 (h.resolve_right (by decide)), fun h => f3 (h.resolve_right (by decide)), fun h => f4 (h.resolve_right (by decide)), fun h => f5 (h.resolve_right (by decide)), fun h => f6 (h.resolve_right (by decide)), fun h => f7 (h.resolve_right (by decide)), fun h => f8 (h.resolve_right (by decide)), fun _ => rfl, fun h => f10 (h.resolve_right (by decide)), fun h => f11 (h.resolve_right (by decide)), fun h => f12 (h.resolve_right (by decide)), fun h => f13 (h.resolve_right (by decide)), fun h => .inl (g2_1 (h.resolve_right (by decide))), fun h => .inl (g4_3 (h.resolve_right (by decide))), fun h => .inl (g13_3 (h.resolve_right (by decide))), fun h => .inl (g13_4 (h.resolve_right (by decide))), fun h => .inl (g8_5 (h.resolve_right (by decide))), fun h => .inl (g12_5 (h.resolve_right (by decide))), fun h => .inl (g13_5 (h.resolve_right (by decide))), fun h => .inl (g7_6 (h.resolve_right (by decide))), fun h => .inl (g8_6 (h.resolve_right (by decide))), fun h => .inl (g12_6 (h.resolve_right (by decide))), fun h => .inl (g13_6 (h.resolve_right (by decide))), fun h => .inl (g8_7 (h.resolve_right (by decide))), fun h => .inl (g12_7 (h.resolve_right (by decide))), fun h => .inl (g13_7 (h.resolve_right (by decide))), fun h => .inl (g13_8 (h.resolve_right (by decide))), fun h => .inl (g12_9 (h.resolve_right (by decide))), fun h => .inl (g13_9 (h.resolve_right (by decide))), fun h => .inl (g11_10 (h.resolve_right (by decide))), fun h => .inl (g12_10 (h.resolve_right (by decide))), fun h => .inl (g13_10 (h.resolve_right (by decide))), fun h => .inl (g12_11 (h.resolve_right (by decide))), fun h => .inl (g13_11 (h.resolve_right (by decide))), fun h => .inl (g13_12 (h.resolve_right (by decide)))⟩⟩
        refine InvFrom.cons (fun L a W hI hN hD K hK => ?_) ?_
        · obtain ⟨sl30, sl31, sl32, sl33, sl34, sl35, sl36, sl37, sl38, sl39, sl40, sl41, sl42, sl43, sl44, ha, hI⟩ := hI
          subst ha
          rcases hI with hI | h9 | h9
          rotate_left
          · exact absurd (h9.1 10 (by decide)) hN
          · exact absurd (h9.1 10 (by decide)) hN
          obtain ⟨hn, hB, f0, f1, f2, f3, f4, f5, f6, f7, f8, f9, f10, f11, f12, f13, g2_1, g4_3, g13_3, g13_4, g8_5, g12_5, g13_5, g7_6, g8_6, g12_6, g13_6, g8_7, g12_7, g13_7, g13_8, g12_9, g13_9, g11_10, g12_10, g13_10, g12_11, g13_11, g13_12⟩ := hI
          have hz := hB.size
          refine Kept.mk ?_
          simp only [Act.put, List.setIfInBounds_toArray, List.set_cons_zero, List.set_cons_succ]
          go_simp
          refine hK.out _ _ ?_
          exact ⟨sl30, sl31, sl32, sl33, sl34, sl35, sl36, sl37, sl38, sl39, .pointer (some ⟨bi, 3, none⟩), sl41, sl42, sl43, sl44, by simp only [Act.put, List.setIfInBounds_toArray, List.set_cons_zero, List.set_cons_succ], .inl ⟨fun j hj h => h.elim (hn j hj) (by omega), hB, fun h => f0 (h.resolve_right (by decide)), fun h => f1 (h.resolve_right (by decide)), fun h => f2 (h.resolve_right (by decide)), fun h => f3 (h.resolve_right (by decide)), fun h => f4 (h.resolve_right (by decide)), fun h => f5 (h.resolve_right (by decide)), fun h => f6 (h.resolve_right (by decide)), fun h => f7 (h.resolve_right (by decide)), fun h => f8 (h.resolve_right (by decide)), fun h => f9 (h.resolve_right (by decide)), fun _ => rfl, fun h => f11 (h.resolve_right (by decide)), fun h => f12 (h.resolve_right (by decide)), fun h => f13 (h.resolve_right (by decide)), fun h => .inl (g2_1 (h.resolve_right (by decide))), fun h => .inl (g4_3 (h.resolve_right (by decide))), fun h => .inl (g13_3 (h.resolve_right (by decide))), fun h => .inl (g13_4 (h.resolve_right (by decide))), fun h => .inl (g8_5 (h.resolve_right (by decide))), fun h => .inl (g12_5 (h.resolve_right (by decide))), fun h => .inl (g13_5 (h.resolve_right (by decide))), fun h => .inl (g7_6 (h.resolve_right (by decide))), fun h => .inl (g8_6 (h.resolve_right (by decide))), fun h => .inl (g12_6 (h.resolve_right (by decide))), fun h => .inl (g13_6 (h.resolve_right (by decide))), fun h => .inl (g8_7 (h.resolve_right (by decide))), fun h => .inl (g12_7 (h.resolve_right (by decide))), fun h => .inl (g13_7 (h.resolve_right (by decide))), fun h => .inl (g13_8 (h.resolve_right (by decide))), fun h => .inl (g12_9 (h.resolve_right (by decide))), fun h => .inl (g13_9 (h.resolve_right (by decide))), fun h => .inl (g11_10 (h.resolve_right (by decide))), fun h => .inl (g12_10 (h.resolve_right (by decide))), fun h => .inl (g13_10 (h.resolve_right (by decide))), fun h => .inl (g12_11 (h.resolve_right (by decide))), fun h => .inl (g13_11 (h.resolve_right (by decide))), fun h => .inl (g13_12 (h.resolve_right (by decide)))⟩⟩
        refine InvFrom.cons (fun L a W hI hN hD K hK => ?_) ?_
        · obtain ⟨sl30, sl31, sl32, sl33, sl34, sl35, sl36, sl37, sl38, sl39, sl40, sl41, sl42, sl43, sl44, ha, hI⟩ := hI
          subst ha
          rcases hI with hI | h9 | h9
          rotate_left
          · exact absurd (h9.1 11 (by decide)) hN
          · exact absurd (h9.1 11 (by decide)) hN
          obtain ⟨hn, hB, f0, f1, f2, f3, f4, f5, f6, f7, f8, f9, f10, f11, f12, f13, g2_1, g4_3, g13_3, g13_4, g8_5, g12_5, g13_5, g7_6, g8_6, g12_6, g13_6, g8_7, g12_7, g13_7, g13_8, g12_9, g13_9, g11_10, g12_10, g13_10, g12_11, g13_11, g13_12⟩ := hI
          have hz := hB.size
          have d10 := f10 (hD 10 (by kernel_rfl))
          subst d10
          have pi0 := box_cell (j := 0) (box_keep HI2.out hB (by omega)) rfl
          have pi1 := box_cell (j := 1) (box_keep HI2.out hB (by omega)) rfl
          have pi2 := box_cell (j := 2) (box_keep HI2.out hB (by omega)) rfl
          have pi3 := box_cell (j := 3) (box_keep HI2.out hB (by omega)) rfl
          refine Kept.mk ?_
          simp only [Act.put, List.setIfInBounds_toArray, List.set_cons_zero, List.set_cons_succ]
          go_simp
          refine hK.out _ _ ?_
          exact ⟨sl30, sl31, sl32, sl33, sl34, sl35, sl36, sl37, sl38, sl39, .pointer (some ⟨bi, 3, none⟩), (.int .i64 ic), sl42, sl43, sl44, by simp only [Act.put, List.setIfInBounds_toArray, List.set_cons_zero, List.set_cons_succ], .inl ⟨fun j hj h => h.elim (hn j hj) (by omega), hB, fun h => f0 (h.resolve_right (by decide)), fun h => f1 (h.resolve_right (by decide)), fun h => f2 (h.resolve_right (by decide)), fun h => f3 (h.resolve_right (by decide)), fun h => f4 (h.resolve_right (by decide)), fun h => f5 (h.resolve_right (by decide)), fun h => f6 (h.resolve_right (by decide)), fun h => f7 (h.resolve_right (by decide)), fun h => f8 (h.resolve_right (by decide)), fun h => f9 (h.resolve_right (by decide)), fun h => f10 (h.resolve_right (by decide)), fun _ => rfl, fun h => f12 (h.resolve_right (by decide)), fun h => f13 (h.resolve_right (by decide)), fun h => .inl (g2_1 (h.resolve_right (by decide))), fun h => .inl (g4_3 (h.resolve_right (by decide))), fun h => .inl (g13_3 (h.resolve_right (by decide))), fun h => .inl (g13_4 (h.resolve_right (by decide))), fun h => .inl (g8_5 (h.resolve_right (by decide))), fun h => .inl (g12_5 (h.resolve_right (by decide))), fun h => .inl (g13_5 (h.resolve_right (by decide))), fun h => .inl (g7_6 (h.resolve_right (by decide))), fun h => .inl (g8_6 (h.resolve_right (by decide))), fun h => .inl (g12_6 (h.resolve_right (by decide))), fun h => .inl (g13_6 (h.resolve_right (by decide))), fun h => .inl (g8_7 (h.resolve_right (by decide))), fun h => .inl (g12_7 (h.resolve_right (by decide))), fun h => .inl (g13_7 (h.resolve_right (by decide))), fun h => .inl (g13_8 (h.resolve_right (by decide))), fun h => .inl (g12_9 (h.resolve_right (by decide))), fun h => .inl (g13_9 (h.resolve_right (by decide))), fun _ => .inl (hD 10 (by kernel_rfl)), fun h => .inl (g12_10 (h.resolve_right (by decide))), fun h => .inl (g13_10 (h.resolve_right (by decide))), fun h => .inl (g12_11 (h.resolve_right (by decide))), fun h => .inl (g13_11 (h.resolve_right (by decide))), fun h => .inl (g13_12 (h.resolve_right (by decide)))⟩⟩
        refine InvFrom.cons (fun L a W hI hN hD K hK => ?_) ?_
        · obtain ⟨sl30, sl31, sl32, sl33, sl34, sl35, sl36, sl37, sl38, sl39, sl40, sl41, sl42, sl43, sl44, ha, hI⟩ := hI
          subst ha
          rcases hI with hI | h9 | h9
          rotate_left
          · exact absurd (h9.1 12 (by decide)) hN
          · exact absurd (h9.1 12 (by decide)) hN
          obtain ⟨hn, hB, f0, f1, f2, f3, f4, f5, f6, f7, f8, f9, f10, f11, f12, f13, g2_1, g4_3, g13_3, g13_4, g8_5, g12_5, g13_5, g7_6, g8_6, g12_6, g13_6, g8_7, g12_7, g13_7, g13_8, g12_9, g13_9, g11_10, g12_10, g13_10, g12_11, g13_11, g13_12⟩ := hI
          have hz := hB.size
          have d8 := f8 (hD 8 (by kernel_rfl))
          subst d8
          have d9 := f9 (hD 9 (by kernel_rfl))
          subst d9
          have d11 := f11 (hD 11 (by kernel_rfl))
          subst d11
          refine kept_c2 rfl 57 _ _ _ rfl (fenters_of' Tryz.func57 (by kernel_rfl) (by kernel_rfl)) (.agg #[.int .i64 pr, .int .i64 pc, .slice A2 n2 c2, .int .i64 st, .slice A4 n4 c4]) (.int .i64 ic) (by kernel_rfl) (by kernel_rfl) (HXc.out W (HB2.out.trans (hB.mono (by have := HB2.out.size; omega)))) ?_
          rintro e W1 ⟨rfl, hb9⟩
          refine ⟨_, rfl, hK.out _ _ ?_⟩
          exact ⟨sl30, sl31, sl32, sl33, sl34, sl35, sl36, sl37, (.int .i64 xb), (.agg #[.int .i64 pr, .int .i64 pc, .slice A2 n2 c2, .int .i64 st, .slice A4 n4 c4]), sl40, (.int .i64 ic), (.int .i64 xc), sl43, sl44, by simp only [Act.put, List.setIfInBounds_toArray, List.set_cons_zero, List.set_cons_succ], .inl ⟨fun j hj h => h.elim (hn j hj) (by omega), hB.trans (hb9.mono hz), fun h => f0 (h.resolve_right (by decide)), fun h => f1 (h.resolve_right (by decide)), fun h => f2 (h.resolve_right (by decide)), fun h => f3 (h.resolve_right (by decide)), fun h => f4 (h.resolve_right (by decide)), fun h => f5 (h.resolve_right (by decide)), fun h => f6 (h.resolve_right (by decide)), fun h => f7 (h.resolve_right (by decide)), fun h => f8 (h.resolve_right (by decide)), fun h => f9 (h.resolve_right (by decide)), fun h => f10 (h.resolve_right (by decide)), fun h => f11 (h.resolve_right (by decide)), fun _ => rfl, fun h => f13 (h.resolve_right (by decide)), fun h => .inl (g2_1 (h.resolve_right (by decide))), fun h => .inl (g4_3 (h.resolve_right (by decide))), fun h => .inl (g13_3 (h.resolve_right (by decide))), fun h => .inl (g13_4 (h.resolve_right (by decide))), fun h => .inl (g8_5 (h.resolve_right (by decide))), fun _ => .inl (g8_5 (hD 8 (by kernel_rfl))), fun h => .inl (g13_5 (h.resolve_right (by decide))), fun h => .inl (g7_6 (h.resolve_right (by decide))), fun h => .inl (g8_6 (h.resolve_right (by decide))), fun _ => .inl (g8_6 (hD 8 (by kernel_rfl))), fun h => .inl (g13_6 (h.resolve_right (by decide))), fun h => .inl (g8_7 (h.resolve_right (by decide))), fun _ => .inl (g8_7 (hD 8 (by kernel_rfl))), fun h => .inl (g13_7 (h.resolve_right (by decide))), fun h => .inl (g13_8 (h.resolve_right (by decide))), fun _ => .inl (hD 9 (by kernel_rfl)), fun h => .inl (g13_9 (h.resolve_right (by decide))), fun h => .inl (g11_10 (h.resolve_right (by decide))), fun _ => .inl (g11_10 (hD 11 (by kernel_rfl))), fun h => .inl (g13_10 (h.resolve_right (by decide))), fun _ => .inl (hD 11 (by kernel_rfl)), fun h => .inl (g13_11 (h.resolve_right (by decide))), fun h => .inl (g13_12 (h.resolve_right (by decide)))⟩⟩
        refine InvFrom.cons (fun L a W hI hN hD K hK => ?_) ?_
        · obtain ⟨sl30, sl31, sl32, sl33, sl34, sl35, sl36, sl37, sl38, sl39, sl40, sl41, sl42, sl43, sl44, ha, hI⟩ := hI
          subst ha
          rcases hI with hI | h9 | h9
          rotate_left
          · exact absurd (h9.1 13 (by decide)) hN
          · exact absurd (h9.1 13 (by decide)) hN
          obtain ⟨hn, hB, f0, f1, f2, f3, f4, f5, f6, f7, f8, f9, f10, f11, f12, f13, g2_1, g4_3, g13_3, g13_4, g8_5, g12_5, g13_5, g7_6, g8_6, g12_6, g13_6, g8_7, g12_7, g13_7, g13_8, g12_9, g13_9, g11_10, g12_10, g13_10, g12_11, g13_11, g13_12⟩ := hI
          have hz := hB.size
          have d4 := f4 (hD 4 (by kernel_rfl))
          subst d4
          have d8 := f8 (hD 8 (by kernel_rfl))
          subst d8
          have d12 := f12 (hD 12 (by kernel_rfl))
          subst d12
          refine kept_c3 rfl 56 _ _ _ _ rfl (fenters_of' Tryz.func56 (by kernel_rfl) (by kernel_rfl)) (.int .i64 3) (.int .i64 xb) (.int .i64 xc) (by kernel_rfl) (by kernel_rfl) (by kernel_rfl) (HCl.out W) ?_
          rintro e W1 ⟨rfl, rfl⟩
          refine ⟨_, rfl, hK.out _ _ ?_⟩
          exact ⟨sl30, sl31, sl32, sl33, (.int .i64 3), sl35, sl36, sl37, (.int .i64 xb), sl39, sl40, sl41, (.int .i64 xc), (.int .i64 xv), sl44, by simp only [Act.put, List.setIfInBounds_toArray, List.set_cons_zero, List.set_cons_succ], .inl ⟨fun j hj h => h.elim (hn j hj) (by omega), hB, fun h => f0 (h.resolve_right (by decide)), fun h => f1 (h.resolve_right (by decide)), fun h => f2 (h.resolve_right (by decide)), fun h => f3 (h.resolve_right (by decide)), fun h => f4 (h.resolve_right (by decide)), fun h => f5 (h.resolve_right (by decide)), fun h => f6 (h.resolve_right (by decide)), fun h => f7 (h.resolve_right (by decide)), fun h => f8 (h.resolve_right (by decide)), fun h => f9 (h.resolve_right (by decide)), fun h => f10 (h.resolve_right (by decide)), fun h => f11 (h.resolve_right (by decide)), fun h => f12 (h.resolve_right (by decide)), fun _ => rfl, fun h => .inl (g2_1 (h.resolve_right (by decide))), fun h => .inl (g4_3 (h.resolve_right (by decide))), fun _ => .inl (g4_3 (hD 4 (by kernel_rfl))), fun _ => .inl (hD 4 (by kernel_rfl)), fun h => .inl (g8_5 (h.resolve_right (by decide))), fun h => .inl (g12_5 (h.resolve_right (by decide))), fun _ => .inl (g12_5 (hD 12 (by kernel_rfl))), fun h => .inl (g7_6 (h.resolve_right (by decide))), fun h => .inl (g8_6 (h.resolve_right (by decide))), fun h => .inl (g12_6 (h.resolve_right (by decide))), fun _ => .inl (g12_6 (hD 12 (by kernel_rfl))), fun h => .inl (g8_7 (h.resolve_right (by decide))), fun h => .inl (g12_7 (h.resolve_right (by decide))), fun _ => .inl (g12_7 (hD 12 (by kernel_rfl))), fun _ => .inl (hD 8 (by kernel_rfl)), fun h => .inl (g12_9 (h.resolve_right (by decide))), fun _ => .inl (g12_9 (hD 12 (by kernel_rfl))), fun h => .inl (g11_10 (h.resolve_right (by decide))), fun h => .inl (g12_10 (h.resolve_right (by decide))), fun _ => .inl (g12_10 (hD 12 (by kernel_rfl))), fun h => .inl (g12_11 (h.resolve_right (by decide))), fun _ => .inl (g12_11 (hD 12 (by kernel_rfl))), fun _ => .inl (hD 12 (by kernel_rfl))⟩⟩
        refine InvFrom.cons (fun L a W hI hN hD K hK => ?_) ?_
        · obtain ⟨sl30, sl31, sl32, sl33, sl34, sl35, sl36, sl37, sl38, sl39, sl40, sl41, sl42, sl43, sl44, ha, hI⟩ := hI
          subst ha
          rcases hI with hI | h9 | h9
          rotate_left
          · exact absurd (h9.1 14 (by decide)) hN
          · exact absurd (h9.1 14 (by decide)) hN
          obtain ⟨hn, hB, f0, f1, f2, f3, f4, f5, f6, f7, f8, f9, f10, f11, f12, f13, g2_1, g4_3, g13_3, g13_4, g8_5, g12_5, g13_5, g7_6, g8_6, g12_6, g13_6, g8_7, g12_7, g13_7, g13_8, g12_9, g13_9, g11_10, g12_10, g13_10, g12_11, g13_11, g13_12⟩ := hI
          have hz := hB.size
          have d0 := f0 (hD 0 (by kernel_rfl))
          subst d0
          have d2 := f2 (hD 2 (by kernel_rfl))
          subst d2
          have d13 := f13 (hD 13 (by kernel_rfl))
          subst d13
          refine kept_c3 rfl 55 _ _ _ _ rfl (fenters_of' Tryz.func55 (by kernel_rfl) (by kernel_rfl)) (.agg #[.int .i64 pr, .int .i64 pc, .slice A2 n2 c2, .int .i64 st, .slice A4 n4 c4]) (.int .i64 ia) (.int .i64 xv) (by kernel_rfl) (by kernel_rfl) (by kernel_rfl) (HS.out W (HB2.out.trans (hB.mono (by have := HB2.out.size; omega))) ia xv HXa.out HV3.out) ?_
          rintro e W1 ⟨D2, q2, f2, D4, q4, f4, rfl, H5, hb5⟩
          refine ⟨_, rfl, hK.out _ _ ?_⟩
          have hall : ∀ j, j < 15 → (L j ∨ j = 14) := by
            intro j hj
            have hj2 : j = 0 ∨ j = 1 ∨ j = 2 ∨ j = 3 ∨ j = 4 ∨ j = 5 ∨ j = 6 ∨ j = 7 ∨ j = 8 ∨ j = 9 ∨ j = 10 ∨ j = 11 ∨ j = 12 ∨ j = 13 ∨ j = 14 := by omega
            rcases hj2 with rfl | rfl | rfl | rfl | rfl | rfl | rfl | rfl | rfl | rfl | rfl | rfl | rfl | rfl | rfl
            · exact .inl (hD 0 (by kernel_rfl))
            · exact .inl (g2_1 (hD 2 (by kernel_rfl)))
            · exact .inl (hD 2 (by kernel_rfl))
            · exact .inl (g13_3 (hD 13 (by kernel_rfl)))
            · exact .inl (g13_4 (hD 13 (by kernel_rfl)))
            · exact .inl (g13_5 (hD 13 (by kernel_rfl)))
            · exact .inl (g13_6 (hD 13 (by kernel_rfl)))
            · exact .inl (g13_7 (hD 13 (by kernel_rfl)))
            · exact .inl (g13_8 (hD 13 (by kernel_rfl)))
            · exact .inl (g13_9 (hD 13 (by kernel_rfl)))
            · exact .inl (g13_10 (hD 13 (by kernel_rfl)))
            · exact .inl (g13_11 (hD 13 (by kernel_rfl)))
            · exact .inl (g13_12 (hD 13 (by kernel_rfl)))
            · exact .inl (hD 13 (by kernel_rfl))
            · exact .inr rfl
          exact ⟨(.agg #[.int .i64 pr, .int .i64 pc, .slice A2 n2 c2, .int .i64 st, .slice A4 n4 c4]), sl31, (.int .i64 ia), sl33, sl34, sl35, sl36, sl37, sl38, sl39, sl40, sl41, sl42, (.int .i64 xv), (.agg #[.int .i64 pr, .int .i64 pc, .slice D2 q2 f2, .int .i64 st, .slice D4 q4 f4]), by simp only [Act.put, List.setIfInBounds_toArray, List.set_cons_zero, List.set_cons_succ], .inr (.inl ⟨hall, fun j hj h => h.elim (hn j (by omega)) (by omega), ⟨D2, q2, f2, D4, q4, f4, rfl, H5.wide (fun k hk _ => ⟨by omega, hk.2⟩), hB.trans (hb5.mono hz)⟩⟩)⟩
        refine InvFrom.cons (fun L a W hI hN hD K hK => ?_) ?_
        · obtain ⟨sl30, sl31, sl32, sl33, sl34, sl35, sl36, sl37, sl38, sl39, sl40, sl41, sl42, sl43, sl44, ha, hI⟩ := hI
          subst ha
          rcases hI with h9 | hI | h9
          · exact absurd (hD 14 (by kernel_rfl)) (h9.1 14 (by decide))
          rotate_left
          · exact absurd (h9.1 15 (by decide)) hN
          obtain ⟨hu, hn, hI⟩ := hI
          obtain ⟨D2, q2, f2, D4, q4, f4, rfl, H5, hB5⟩ := hI
          have HO5 := box_keep HO2.out hB5 (by omega)
          have o0 := box_cell (j := 0) HO5 rfl
          have o1 := box_cell (j := 1) HO5 rfl
          have o2 := box_cell (j := 2) HO5 rfl
          have o3 := box_cell (j := 3) HO5 rfl
          have o4 := box_cell (j := 4) HO5 rfl
          have of0 := box_free HO5 0
          have of1 := box_free HO5 1
          have of2 := box_free HO5 2
          have of3 := box_free HO5 3
          have of4 := box_free HO5 4
          refine Kept.mk ?_
          simp only [Act.put, List.setIfInBounds_toArray, List.set_cons_zero, List.set_cons_succ]
          go_simp
          refine hK.out _ _ ?_
          have hall : ∀ j, j < 16 → (L j ∨ j = 15) := by
            intro j hj
            have hj2 : j = 0 ∨ j = 1 ∨ j = 2 ∨ j = 3 ∨ j = 4 ∨ j = 5 ∨ j = 6 ∨ j = 7 ∨ j = 8 ∨ j = 9 ∨ j = 10 ∨ j = 11 ∨ j = 12 ∨ j = 13 ∨ j = 14 ∨ j = 15 := by omega
            rcases hj2 with rfl | rfl | rfl | rfl | rfl | rfl | rfl | rfl | rfl | rfl | rfl | rfl | rfl | rfl | rfl | rfl
            · exact .inl (hD 0 (by kernel_rfl))
            · exact .inl (hD 1 (by kernel_rfl))
            · exact .inl (hD 2 (by kernel_rfl))
            · exact .inl (hD 3 (by kernel_rfl))
            · exact .inl (hD 4 (by kernel_rfl))
            · exact .inl (hD 5 (by kernel_rfl))
            · exact .inl (hD 6 (by kernel_rfl))
            · exact .inl (hD 7 (by kernel_rfl))
            · exact .inl (hD 8 (by kernel_rfl))
            · exact .inl (hD 9 (by kernel_rfl))
            · exact .inl (hD 10 (by kernel_rfl))
            · exact .inl (hD 11 (by kernel_rfl))
            · exact .inl (hD 12 (by kernel_rfl))
            · exact .inl (hD 13 (by kernel_rfl))
            · exact .inl (hD 14 (by kernel_rfl))
            · exact .inr rfl
          exact ⟨sl30, sl31, sl32, sl33, sl34, sl35, sl36, sl37, sl38, sl39, sl40, sl41, sl42, sl43, (.agg #[.int .i64 pr, .int .i64 pc, .slice D2 q2 f2, .int .i64 st, .slice D4 q4 f4]), by simp only [Act.put, List.setIfInBounds_toArray, List.set_cons_zero, List.set_cons_succ], .inr (.inr (⟨hall, fun j hj h => h.elim (hn j (by omega)) (by omega), ⟨W, D2, q2, f2, D4, q4, f4, rfl, H5, hB5⟩⟩))⟩
        exact InvFrom.nil
      intro L a w8 hL hI
      obtain ⟨sl30, sl31, sl32, sl33, sl34, sl35, sl36, sl37, sl38, sl39, sl40, sl41, sl42, sl43, sl44, ha, hI⟩ := hI
      subst ha
      rcases hI with h9 | h9 | hI
      · exact absurd (hL 14 (by decide)) (h9.1 14 (by decide))
      · exact absurd (hL 15 (by decide)) (h9.2.1 15 (by decide))
      have hfin := hI.2.2
      obtain ⟨w5, D2, q2, f2, D4, q4, f4, rfl, H5, hb5⟩ := hfin
      clear hL hI
      refine Kept.mk ?_
      simp only [Act.put, List.setIfInBounds_toArray, List.set_cons_zero, List.set_cons_succ]
      have hz5 := hb5.size
      have HO5 := box_keep HO2.out hb5 (by omega)
      have HR5 := Lib.hid (box_keep HR2.out hb5 (by omega))
      have HB5 := Lib.hid (HB2.out.trans (hb5.mono (by have := HB2.out.size; omega)))
      have HH5 := Lib.hid H5
      clear H5 hb5
      have o0 := box_cell (j := 0) HO5 rfl
      have o1 := box_cell (j := 1) HO5 rfl
      have o2 := box_cell (j := 2) HO5 rfl
      have o3 := box_cell (j := 3) HO5 rfl
      have o4 := box_cell (j := 4) HO5 rfl
      have of0 := box_free HO5 0
      have of1 := box_free HO5 1
      have of2 := box_free HO5 2
      have of3 := box_free HO5 3
      have of4 := box_free HO5 4
      have hbw : bo < w5.heap.size := by omega
      go_upto_region 19 with (fail)
      have hput := put5 (u0 := .int .i64 pr) (u1 := .int .i64 pc) (u2 := .slice D2 q2 f2) (u3 := .int .i64 st) (u4 := .slice D4 q4 f4) HO5
      have HB6 := Lib.hid (below_put5 (b := bo) (u0 := .int .i64 pr) (u1 := .int .i64 pc) (u2 := .slice D2 q2 f2) (u3 := .int .i64 st) (u4 := .slice D4 q4 f4) HB5.out (by omega))
      generalize (((((w5.setCell ⟨bo, 0, none⟩ (.int .i64 pr)).setCell ⟨bo, 1, none⟩ (.int .i64 pc)).setCell ⟨bo, 2, none⟩ (.slice D2 q2 f2)).setCell ⟨bo, 3, none⟩ (.int .i64 st)).setCell ⟨bo, 4, none⟩ (.slice D4 q4 f4)) = W6 at *
      obtain ⟨hO6, hk6, hs6⟩ := hput
      have HR6 := Lib.hid ((hk6 _ (by omega)).trans HR5.out)
      have HH6 := Lib.hid (HH5.out.stay (fun k hk _ => hk6 k (by omega)) (Nat.le_of_eq hs6.symm))
      clear o0 o1 o2 o3 o4
      clear of0 of1 of2 of3 of4
      clear hk6 HO5 HR5 HB5 HH5
      have hbw6 : bo < W6.heap.size := by omega
      have o0 := box_cell (j := 0) hO6 rfl
      have o1 := box_cell (j := 1) hO6 rfl
      have o2 := box_cell (j := 2) hO6 rfl
      have o3 := box_cell (j := 3) hO6 rfl
      have o4 := box_cell (j := 4) hO6 rfl
      have of1 := box_free hO6 1
      go_upto_region 20 with (fail)
      have hput7 := put1 (j := 1) (u := .int .i64 (pc + 1)) hO6
      have HBx := Lib.hid (below_set (p := ⟨bo, 1, none⟩) HB6.out (by simp only; omega) (.int .i64 (pc + 1)))
      generalize (W6.setCell ⟨bo, 1, none⟩ (.int .i64 (pc + 1))) = W7 at *
      obtain ⟨hO7, hk7, hs7⟩ := hput7
      have HRx := Lib.hid ((hk7 _ (by omega)).trans HR6.out)
      have HH7 := Lib.hid ((HH6.out.stay (fun k hk _ => hk7 k (by omega)) (Nat.le_of_eq hs7.symm)).pc (v := pc + 1) (wf_val (by omega)))
      clear o0 o1 o2 o3 o4
      clear of1 hk7
      have o0 := box_cell (j := 0) hO7 rfl
      have o1 := box_cell (j := 1) hO7 rfl
      have o2 := box_cell (j := 2) hO7 rfl
      have o3 := box_cell (j := 3) hO7 rfl
      have o4 := box_cell (j := 4) hO7 rfl
      have r0 := box_cell (j := 0) HRx.out rfl
      have r1 := box_cell (j := 1) HRx.out rfl
      have r2 := box_cell (j := 2) HRx.out rfl
      have r3 := box_cell (j := 3) HRx.out rfl
      have r4 := box_cell (j := 4) HRx.out rfl
      have rf0 := box_free HRx.out 0
      have rf1 := box_free HRx.out 1
      have rf2 := box_free HRx.out 2
      have rf3 := box_free HRx.out 3
      have rf4 := box_free HRx.out 4
      go_wp2_with fail
      have hfin := put5 (u0 := (.int .i64 pr)) (u1 := (.int .i64 (pc + 1))) (u2 := (.slice D2 q2 f2)) (u3 := (.int .i64 st)) (u4 := (.slice D4 q4 f4)) HRx.out
      have y0 := box_cell (j := 0) hfin.1 rfl
      have y1 := box_cell (j := 1) hfin.1 rfl
      have y2 := box_cell (j := 2) hfin.1 rfl
      have y3 := box_cell (j := 3) hfin.1 rfl
      have y4 := box_cell (j := 4) hfin.1 rfl
      refine bodyPost_ret (v := .agg #[.int .i64 pr, .int .i64 (pc + 1), .slice D2 q2 f2, .int .i64 st, .slice D4 q4 f4]) (by simp [results, Tryz.results27, go_sem, y0, y1, y2, y3, y4]) rfl ?_
      rw [HST.out]
      exact HoldG.copied ((HH7.out).stay (fun k hk _ => hfin.2.1 k (by omega)) (Nat.le_of_eq hfin.2.2.symm)) (fun k hk => by omega) (below_put5 HBx.out (by omega))
    · skip
      subst hop
      go_upto_region 11 with (fail)
      clear h1 h2
      clear i0 i1 i2 i3
      refine wp_region_inv (fun AC0 L a W => ∃ sl30 sl31 sl32 sl33 sl34 sl35 sl36 sl37 sl38 sl39 sl40 sl41 sl42 sl43 sl44 : Value, a = (((((((((((((((AC0.put (some 30) sl30).put (some 31) sl31).put (some 32) sl32).put (some 33) sl33).put (some 34) sl34).put (some 35) sl35).put (some 36) sl36).put (some 37) sl37).put (some 38) sl38).put (some 39) sl39).put (some 40) sl40).put (some 41) sl41).put (some 42) sl42).put (some 43) sl43).put (some 44) sl44) ∧ (((∀ j, 14 ≤ j → ¬ L j) ∧ Below W2.heap.size W2 W ∧ (L 0 → sl30 = (.agg #[.int .i64 pr, .int .i64 pc, .slice A2 n2 c2, .int .i64 st, .slice A4 n4 c4])) ∧ (L 1 → sl31 = .pointer (some ⟨bi, 1, none⟩)) ∧ (L 2 → sl32 = (.int .i64 ia)) ∧ (L 3 → sl33 = .pointer (some ⟨bi, 0, none⟩)) ∧ (L 4 → sl34 = (.int .i64 4)) ∧ (L 5 → sl35 = (.agg #[.int .i64 pr, .int .i64 pc, .slice A2 n2 c2, .int .i64 st, .slice A4 n4 c4])) ∧ (L 6 → sl36 = .pointer (some ⟨bi, 2, none⟩)) ∧ (L 7 → sl37 = (.int .i64 ib)) ∧ (L 8 → sl38 = (.int .i64 xb)) ∧ (L 9 → sl39 = (.agg #[.int .i64 pr, .int .i64 pc, .slice A2 n2 c2, .int .i64 st, .slice A4 n4 c4])) ∧ (L 10 → sl40 = .pointer (some ⟨bi, 3, none⟩)) ∧ (L 11 → sl41 = (.int .i64 ic)) ∧ (L 12 → sl42 = (.int .i64 xc)) ∧ (L 13 → sl43 = (.int .i64 xv)) ∧ (L 2 → L 1) ∧ (L 4 → L 3) ∧ (L 13 → L 3) ∧ (L 13 → L 4) ∧ (L 8 → L 5) ∧ (L 12 → L 5) ∧ (L 13 → L 5) ∧ (L 7 → L 6) ∧ (L 8 → L 6) ∧ (L 12 → L 6) ∧ (L 13 → L 6) ∧ (L 8 → L 7) ∧ (L 12 → L 7) ∧ (L 13 → L 7) ∧ (L 13 → L 8) ∧ (L 12 → L 9) ∧ (L 13 → L 9) ∧ (L 11 → L 10) ∧ (L 12 → L 10) ∧ (L 13 → L 10) ∧ (L 12 → L 11) ∧ (L 13 → L 11) ∧ (L 13 → L 12)) ∨ ((∀ j, j < 15 → L j) ∧ (∀ j, 15 ≤ j → ¬ L j) ∧ ∃ (D2 : Option Addr) (q2 f2 : Nat) (D4 : Option Addr) (q4 f4 : Nat), sl44 = .agg #[.int .i64 pr, .int .i64 pc, .slice D2 q2 f2, .int .i64 st, .slice D4 q4 f4] ∧ HoldG (fun g => W2.heap.size ≤ g ∧ g < W.heap.size) ⟨pr, pc, regs.set ia.toNat xv, st, tr⟩ W D2 q2 f2 D4 q4 f4 ∧ Below W2.heap.size W2 W) ∨ ((∀ j, j < 16 → L j) ∧ (∀ j, 16 ≤ j → ¬ L j) ∧ ∃ (w5 : World) (D2 : Option Addr) (q2 f2 : Nat) (D4 : Option Addr) (q4 f4 : Nat), W = (((((w5.setCell ⟨bo, 0, none⟩ (.int .i64 pr)).setCell ⟨bo, 1, none⟩ (.int .i64 pc)).setCell ⟨bo, 2, none⟩ (.slice D2 q2 f2)).setCell ⟨bo, 3, none⟩ (.int .i64 st)).setCell ⟨bo, 4, none⟩ (.slice D4 q4 f4)) ∧ HoldG (fun g => W2.heap.size ≤ g ∧ g < w5.heap.size) ⟨pr, pc, regs.set ia.toNat xv, st, tr⟩ w5 D2 q2 f2 D4 q4 f4 ∧ Below W2.heap.size W2 w5))) (by kernel_rfl) (by kernel_rfl) ?_ ?_ ?_
      · exact ⟨undef, undef, undef, undef, undef, undef, undef, undef, undef, undef, undef, undef, undef, undef, undef, by simp only [Act.put, List.setIfInBounds_toArray, List.set_cons_zero, List.set_cons_succ], .inl ⟨fun _ _ h => h, Below.drew (Below.refl _ _), fun h => absurd h id, fun h => absurd h id, fun h => absurd h id, fun h => absurd h id, fun h => absurd h id, fun h => absurd h id, fun h => absurd h id, fun h => absurd h id, fun h => absurd h id, fun h => absurd h id, fun h => absurd h id, fun h => absurd h id, fun h => absurd h id, fun h => absurd h id, fun h => absurd h id, fun h => absurd h id, fun h => absurd h id, fun h => absurd h id, fun h => absurd h id, fun h => absurd h id, fun h => absurd h id, fun h => absurd h id, fun h => absurd h id, fun h => absurd h id, fun h => absurd h id, fun h => absurd h id, fun h => absurd h id, fun h => absurd h id, fun h => absurd h id, fun h => absurd h id, fun h => absurd h id, fun h => absurd h id, fun h => absurd h id, fun h => absurd h id, fun h => absurd h id, fun h => absurd h id, fun h => absurd h id⟩⟩
      · intro Q9; refine InvFrom.cons (fun L a W hI hN hD K hK => ?_) ?_
        · obtain ⟨sl30, sl31, sl32, sl33, sl34, sl35, sl36, sl37, sl38, sl39, sl40, sl41, sl42, sl43, sl44, ha, hI⟩ := hI
          subst ha
          rcases hI with hI | h9 | h9
          rotate_left
          · exact absurd (h9.1 0 (by decide)) hN
          · exact absurd (h9.1 0 (by decide)) hN
          obtain ⟨hn, hB, f0, f1, f2, f3, f4, f5, f6, f7, f8, f9, f10, f11, f12, f13, g2_1, g4_3, g13_3, g13_4, g8_5, g12_5, g13_5, g7_6, g8_6, g12_6, g13_6, g8_7, g12_7, g13_7, g13_8, g12_9, g13_9, g11_10, g12_10, g13_10, g12_11, g13_11, g13_12⟩ := hI
          have hz := hB.size
          have pg0 := box_cell (j := 0) (box_keep HG2.out hB (by omega)) rfl
          have pg1 := box_cell (j := 1) (box_keep HG2.out hB (by omega)) rfl
          have pg2 := box_cell (j := 2) (box_keep HG2.out hB (by omega)) rfl
          have pg3 := box_cell (j := 3) (box_keep HG2.out hB (by omega)) rfl
          have pg4 := box_cell (j := 4) (box_keep HG2.out hB (by omega)) rfl
          refine Kept.mk ?_
          simp only [Act.put, List.setIfInBounds_toArray, List.set_cons_zero, List.set_cons_succ]
          go_simp
          refine hK.out _ _ ?_
          exact ⟨(.agg #[.int .i64 pr, .int .i64 pc, .slice A2 n2 c2, .int .i64 st, .slice A4 n4 c4]), sl31, sl32, sl33, sl34, sl35, sl36, sl37, sl38, sl39, sl40, sl41, sl42, sl43, sl44, by simp only [Act.put, List.setIfInBounds_toArray, List.set_cons_zero, List.set_cons_succ], .inl ⟨fun j hj h => h.elim (hn j hj) (by omega), hB, fun _ => rfl, fun h => f1 (h.resolve_right (by decide)), fun h => f2 (h.resolve_right (by decide)), fun h => f3 (h.resolve_right (by decide)), fun h => f4 (h.resolve_right (by decide)), fun h => f5 (h.resolve_right (by decide)), fun h => f6 (h.resolve_right (by decide)), fun h => f7 (h.resolve_right (by decide)), fun h => f8 (h.resolve_right (by decide)), fun h => f9 (h.resolve_right (by decide)), fun h => f10 (h.resolve_right (by decide)), fun h => f11 (h.resolve_right (by decide)), fun h => f12 (h.resolve_right (by decide)), fun h => f13 (h.resolve_right (by decide)), fun h => .inl (g2_1 (h.resolve_right (by decide))), fun h => .inl (g4_3 (h.resolve_right (by decide))), fun h => .inl (g13_3 (h.resolve_right (by decide))), fun h => .inl (g13_4 (h.resolve_right (by decide))), fun h => .inl (g8_5 (h.resolve_right (by decide))), fun h => .inl (g12_5 (h.resolve_right (by decide))), fun h => .inl (g13_5 (h.resolve_right (by decide))), fun h => .inl (g7_6 (h.resolve_right (by decide))), fun h => .inl (g8_6 (h.resolve_right (by decide))), fun h => .inl (g12_6 (h.resolve_right (by decide))), fun h => .inl (g13_6 (h.resolve_right (by decide))), fun h => .inl (g8_7 (h.resolve_right (by decide))), fun h => .inl (g12_7 (h.resolve_right (by decide))), fun h => .inl (g13_7 (h.resolve_right (by decide))), fun h => .inl (g13_8 (h.resolve_right (by decide))), fun h => .inl (g12_9 (h.resolve_right (by decide))), fun h => .inl (g13_9 (h.resolve_right (by decide))), fun h => .inl (g11_10 (h.resolve_right (by decide))), fun h => .inl (g12_10 (h.resolve_right (by decide))), fun h => .inl (g13_10 (h.resolve_right (by decide))), fun h => .inl (g12_11 (h.resolve_right (by decide))), fun h => .inl (g13_11 (h.resolve_right (by decide))), fun h => .inl (g13_12 (h.resolve_right (by decide)))⟩⟩
        refine InvFrom.cons (fun L a W hI hN hD K hK => ?_) ?_
        · obtain ⟨sl30, sl31, sl32, sl33, sl34, sl35, sl36, sl37, sl38, sl39, sl40, sl41, sl42, sl43, sl44, ha, hI⟩ := hI
          subst ha
          rcases hI with hI | h9 | h9
          rotate_left
          · exact absurd (h9.1 1 (by decide)) hN
          · exact absurd (h9.1 1 (by decide)) hN
          obtain ⟨hn, hB, f0, f1, f2, f3, f4, f5, f6, f7, f8, f9, f10, f11, f12, f13, g2_1, g4_3, g13_3, g13_4, g8_5, g12_5, g13_5, g7_6, g8_6, g12_6, g13_6, g8_7, g12_7, g13_7, g13_8, g12_9, g13_9, g11_10, g12_10, g13_10, g12_11, g13_11, g13_12⟩ := hI
          have hz := hB.size
          refine Kept.mk ?_
          simp only [Act.put, List.setIfInBounds_toArray, List.set_cons_zero, List.set_cons_succ]
          go_simp
          refine hK.out _ _ ?_
          exact ⟨sl30, .pointer (some ⟨bi, 1, none⟩), sl32, sl33, sl34, sl35, sl36, sl37, sl38, sl39, sl40, sl41, sl42, sl43, sl44, by simp only [Act.put, List.setIfInBounds_toArray, List.set_cons_zero, List.set_cons_succ], .inl ⟨fun j hj h => h.elim (hn j hj) (by omega), hB, fun h => f0 (h.resolve_right (by decide)), fun _ => rfl, fun h => f2 (h.resolve_right (by decide)), fun h => f3 (h.resolve_right (by decide)), fun h => f4 (h.resolve_right (by decide)), fun h => f5 (h.resolve_right (by decide)), fun h => f6 (h.resolve_right (by decide)), fun h => f7 (h.resolve_right (by decide)), fun h => f8 (h.resolve_right (by decide)), fun h => f9 (h.resolve_right (by decide)), fun h => f10 (h.resolve_right (by decide)), fun h => f11 (h.resolve_right (by decide)), fun h => f12 (h.resolve_right (by decide)), fun h => f13 (h.resolve_right (by decide)), fun h => .inl (g2_1 (h.resolve_right (by decide))), fun h => .inl (g4_3 (h.resolve_right (by decide))), fun h => .inl (g13_3 (h.resolve_right (by decide))), fun h => .inl (g13_4 (h.resolve_right (by decide))), fun h => .inl (g8_5 (h.resolve_right (by decide))), fun h => .inl (g12_5 (h.resolve_right (by decide))), fun h => .inl (g13_5 (h.resolve_right (by decide))), fun h => .inl (g7_6 (h.resolve_right (by decide))), fun h => .inl (g8_6 (h.resolve_right (by decide))), fun h => .inl (g12_6 (h.resolve_right (by decide))), fun h => .inl (g13_6 (h.resolve_right (by decide))), fun h => .inl (g8_7 (h.resolve_right (by decide))), fun h => .inl (g12_7 (h.resolve_right (by decide))), fun h => .inl (g13_7 (h.resolve_right (by decide))), fun h => .inl (g13_8 (h.resolve_right (by decide))), fun h => .inl (g12_9 (h.resolve_right (by decide))), fun h => .inl (g13_9 (h.resolve_right (by decide))), fun h => .inl (g11_10 (h.resolve_right (by decide))), fun h => .inl (g12_10 (h.resolve_right (by decide))), fun h => .inl (g13_10 (h.resolve_right (by decide))), fun h => .inl (g12_11 (h.resolve_right (by decide))), fun h => .inl (g13_11 (h.resolve_right (by decide))), fun h => .inl (g13_12 (h.resolve_right (by decide)))⟩⟩
        refine InvFrom.cons (fun L a W hI hN hD K hK => ?_) ?_
        · obtain ⟨sl30, sl31, sl32, sl33, sl34, sl35, sl36, sl37, sl38, sl39, sl40, sl41, sl42, sl43, sl44, ha, hI⟩ := hI
          subst ha
          rcases hI with hI | h9 | h9
          rotate_left
          · exact absurd (h9.1 2 (by decide)) hN
          · exact absurd (h9.1 2 (by decide)) hN
          obtain ⟨hn, hB, f0, f1, f2, f3, f4, f5, f6, f7, f8, f9, f10, f11, f12, f13, g2_1, g4_3, g13_3, g13_4, g8_5, g12_5, g13_5, g7_6, g8_6, g12_6, g13_6, g8_7, g12_7, g13_7, g13_8, g12_9, g13_9, g11_10, g12_10, g13_10, g12_11, g13_11, g13_12⟩ := hI
          have hz := hB.size
          have d1 := f1 (hD 1 (by kernel_rfl))
          subst d1
          have pi0 := box_cell (j := 0) (box_keep HI2.out hB (by omega)) rfl
          have pi1 := box_cell (j := 1) (box_keep HI2.out hB (by omega)) rfl
          have pi2 := box_cell (j := 2) (box_keep HI2.out hB (by omega)) rfl
          have pi3 := box_cell (j := 3) (box_keep HI2.out hB (by omega)) rfl
          refine Kept.mk ?_
          simp only [Act.put, List.setIfInBounds_toArray, List.set_cons_zero, List.set_cons_succ]
          go_simp
          refine hK.out _ _ ?_
          exact ⟨sl30, .pointer (some ⟨bi, 1, none⟩), (.int .i64 ia), sl33, sl34, sl35, sl36, sl37, sl38, sl39, sl40, sl41, sl42, sl43, sl44, by simp only [Act.put, List.setIfInBounds_toArray, List.set_cons_zero, List.set_cons_succ], .inl ⟨fun j hj h => h.elim (hn j hj) (by omega), hB, fun h => f0 (h.resolve_right (by decide)), fun h => f1 (h.resolve_right (by decide)), fun _ => rfl, fun h => f3 (h.resolve_right (by decide)), fun h => f4 (h.resolve_right (by decide)), fun h => f5 (h.resolve_right (by decide)), fun h => f6 (h.resolve_right (by decide)), fun h => f7 (h.resolve_right (by decide)), fun h => f8 (h.resolve_right (by decide)), fun h => f9 (h.resolve_right (by decide)), fun h => f10 (h.resolve_right (by decide)), fun h => f11 (h.resolve_right (by decide)), fun h => f12 (h.resolve_right (by decide)), fun h => f13 (h.resolve_right (by decide)), fun _ => .inl (hD 1 (by kernel_rfl)), fun h => .inl (g4_3 (h.resolve_right (by decide))), fun h => .inl (g13_3 (h.resolve_right (by decide))), fun h => .inl (g13_4 (h.resolve_right (by decide))), fun h => .inl (g8_5 (h.resolve_right (by decide))), fun h => .inl (g12_5 (h.resolve_right (by decide))), fun h => .inl (g13_5 (h.resolve_right (by decide))), fun h => .inl (g7_6 (h.resolve_right (by decide))), fun h => .inl (g8_6 (h.resolve_right (by decide))), fun h => .inl (g12_6 (h.resolve_right (by decide))), fun h => .inl (g13_6 (h.resolve_right (by decide))), fun h => .inl (g8_7 (h.resolve_right (by decide))), fun h => .inl (g12_7 (h.resolve_right (by decide))), fun h => .inl (g13_7 (h.resolve_right (by decide))), fun h => .inl (g13_8 (h.resolve_right (by decide))), fun h => .inl (g12_9 (h.resolve_right (by decide))), fun h => .inl (g13_9 (h.resolve_right (by decide))), fun h => .inl (g11_10 (h.resolve_right (by decide))), fun h => .inl (g12_10 (h.resolve_right (by decide))), fun h => .inl (g13_10 (h.resolve_right (by decide))), fun h => .inl (g12_11 (h.resolve_right (by decide))), fun h => .inl (g13_11 (h.resolve_right (by decide))), fun h => .inl (g13_12 (h.resolve_right (by decide)))⟩⟩
        refine InvFrom.cons (fun L a W hI hN hD K hK => ?_) ?_
        · obtain ⟨sl30, sl31, sl32, sl33, sl34, sl35, sl36, sl37, sl38, sl39, sl40, sl41, sl42, sl43, sl44, ha, hI⟩ := hI
          subst ha
          rcases hI with hI | h9 | h9
          rotate_left
          · exact absurd (h9.1 3 (by decide)) hN
          · exact absurd (h9.1 3 (by decide)) hN
          obtain ⟨hn, hB, f0, f1, f2, f3, f4, f5, f6, f7, f8, f9, f10, f11, f12, f13, g2_1, g4_3, g13_3, g13_4, g8_5, g12_5, g13_5, g7_6, g8_6, g12_6, g13_6, g8_7, g12_7, g13_7, g13_8, g12_9, g13_9, g11_10, g12_10, g13_10, g12_11, g13_11, g13_12⟩ := hI
          have hz := hB.size
          refine Kept.mk ?_
          simp only [Act.put, List.setIfInBounds_toArray, List.set_cons_zero, List.set_cons_succ]
          go_simp
          refine hK.out _ _ ?_
          exact ⟨sl30, sl31, sl32, .pointer (some ⟨bi, 0, none⟩), sl34, sl35, sl36, sl37, sl38, sl39, sl40, sl41, sl42, sl43, sl44, by simp only [Act.put, List.setIfInBounds_toArray, List.set_cons_zero, List.set_cons_succ], .inl ⟨fun j hj h => h.elim (hn j hj) (by omega), hB, fun h => f0 (h.resolve_right (by decide)), fun h => f1 (h.resolve_right (by decide)), fun h => f2 (h.resolve_right (by decide)), fun _ => rfl, fun h => f4 (h.resolve_right (by decide)), fun h => f5 (h.resolve_right (by decide)), fun h => f6 (h.resolve_right (by decide)), fun h => f7 (h.resolve_right (by decide)), fun h => f8 (h.resolve_right (by decide)), fun h => f9 (h.resolve_right (by decide)), fun h => f10 (h.resolve_right (by decide)), fun h => f11 (h.resolve_right (by decide)), fun h => f12 (h.resolve_right (by decide)), fun h => f13 (h.resolve_right (by decide)), fun h => .inl (g2_1 (h.resolve_right (by decide))), fun h => .inl (g4_3 (h.resolve_right (by decide))), fun h => .inl (g13_3 (h.resolve_right (by decide))), fun h => .inl (g13_4 (h.resolve_right (by decide))), fun h => .inl (g8_5 (h.resolve_right (by decide))), fun h => .inl (g12_5 (h.resolve_right (by decide))), fun h => .inl (g13_5 (h.resolve_right (by decide))), fun h => .inl (g7_6 (h.resolve_right (by decide))), fun h => .inl (g8_6 (h.resolve_right (by decide))), fun h => .inl (g12_6 (h.resolve_right (by decide))), fun h => .inl (g13_6 (h.resolve_right (by decide))), fun h => .inl (g8_7 (h.resolve_right (by decide))), fun h => .inl (g12_7 (h.resolve_right (by decide))), fun h => .inl (g13_7 (h.resolve_right (by decide))), fun h => .inl (g13_8 (h.resolve_right (by decide))), fun h => .inl (g12_9 (h.resolve_right (by decide))), fun h => .inl (g13_9 (h.resolve_right (by decide))), fun h => .inl (g11_10 (h.resolve_right (by decide))), fun h => .inl (g12_10 (h.resolve_right (by decide))), fun h => .inl (g13_10 (h.resolve_right (by decide))), fun h => .inl (g12_11 (h.resolve_right (by decide))), fun h => .inl (g13_11 (h.resolve_right (by decide))), fun h => .inl (g13_12 (h.resolve_right (by decide)))⟩⟩
        refine InvFrom.cons (fun L a W hI hN hD K hK => ?_) ?_
        · obtain ⟨sl30, sl31, sl32, sl33, sl34, sl35, sl36, sl37, sl38, sl39, sl40, sl41, sl42, sl43, sl44, ha, hI⟩ := hI
          subst ha
          rcases hI with hI | h9 | h9
          rotate_left
          · exact absurd (h9.1 4 (by decide)) hN
          · exact absurd (h9.1 4 (by decide)) hN
          obtain ⟨hn, hB, f0, f1, f2, f3, f4, f5, f6, f7, f8, f9, f10, f11, f12, f13, g2_1, g4_3, g13_3, g13_4, g8_5, g12_5, g13_5, g7_6, g8_6, g12_6, g13_6, g8_7, g12_7, g13_7, g13_8, g12_9, g13_9, g11_10, g12_10, g13_10, g12_11, g13_11, g13_12⟩ := hI
          have hz := hB.size
          have d3 := f3 (hD 3 (by kernel_rfl))
          subst d3
          have pi0 := box_cell (j := 0) (box_keep HI2.out hB (by omega)) rfl
          have pi1 := box_cell (j := 1) (box_keep HI2.out hB (by omega)) rfl
          have pi2 := box_cell (j := 2) (box_keep HI2.out hB (by omega)) rfl
          have pi3 := box_cell (j := 3) (box_keep HI2.out hB (by omega)) rfl
          refine Kept.mk ?_
          simp only [Act.put, List.setIfInBounds_toArray, List.set_cons_zero, List.set_cons_succ]
          go_simp
          refine hK.out _ _ ?_
          exact ⟨sl30, sl31, sl32, .pointer (some ⟨bi, 0, none⟩), (.int .i64 4), sl35, sl36, sl37, sl38, sl39, sl40, sl41, sl42, sl43, sl44, by simp only [Act.put, List.setIfInBounds_toArray, List.set_cons_zero, List.set_cons_succ], .inl ⟨fun j hj h => h.elim (hn j hj) (by omega), hB, fun h => f0 (h.resolve_right (by decide)), fun h => f1 (h.resolve_right (by decide)), fun h => f2 (h.resolve_right (by decide)), fun h => f3 (h.resolve_right (by decide)), fun _ => rfl, fun h => f5 (h.resolve_right (by decide)), fun h => f6 (h.resolve_right (by decide)), fun h => f7 (h.resolve_right (by decide)), fun h => f8 (h.resolve_right (by decide)), fun h => f9 (h.resolve_right (by decide)), fun h => f10 (h.resolve_right (by decide)), fun h => f11 (h.resolve_right (by decide)), fun h => f12 (h.resolve_right (by decide)), fun h => f13 (h.resolve_right (by decide)), fun h => .inl (g2_1 (h.resolve_right (by decide))), fun _ => .inl (hD 3 (by kernel_rfl)), fun h => .inl (g13_3 (h.resolve_right (by decide))), fun h => .inl (g13_4 (h.resolve_right (by decide))), fun h => .inl (g8_5 (h.resolve_right (by decide))), fun h => .inl (g12_5 (h.resolve_right (by decide))), fun h => .inl (g13_5 (h.resolve_right (by decide))), fun h => .inl (g7_6 (h.resolve_right (by decide))), fun h => .inl (g8_6 (h.resolve_right (by decide))), fun h => .inl (g12_6 (h.resolve_right (by decide))), fun h => .inl (g13_6 (h.resolve_right (by decide))), fun h => .inl (g8_7 (h.resolve_right (by decide))), fun h => .inl (g12_7 (h.resolve_right (by decide))), fun h => .inl (g13_7 (h.resolve_right (by decide))), fun h => .inl (g13_8 (h.resolve_right (by decide))), fun h => .inl (g12_9 (h.resolve_right (by decide))), fun h => .inl (g13_9 (h.resolve_right (by decide))), fun h => .inl (g11_10 (h.resolve_right (by decide))), fun h => .inl (g12_10 (h.resolve_right (by decide))), fun h => .inl (g13_10 (h.resolve_right (by decide))), fun h => .inl (g12_11 (h.resolve_right (by decide))), fun h => .inl (g13_11 (h.resolve_right (by decide))), fun h => .inl (g13_12 (h.resolve_right (by decide)))⟩⟩
        refine InvFrom.cons (fun L a W hI hN hD K hK => ?_) ?_
        · obtain ⟨sl30, sl31, sl32, sl33, sl34, sl35, sl36, sl37, sl38, sl39, sl40, sl41, sl42, sl43, sl44, ha, hI⟩ := hI
          subst ha
          rcases hI with hI | h9 | h9
          rotate_left
          · exact absurd (h9.1 5 (by decide)) hN
          · exact absurd (h9.1 5 (by decide)) hN
          obtain ⟨hn, hB, f0, f1, f2, f3, f4, f5, f6, f7, f8, f9, f10, f11, f12, f13, g2_1, g4_3, g13_3, g13_4, g8_5, g12_5, g13_5, g7_6, g8_6, g12_6, g13_6, g8_7, g12_7, g13_7, g13_8, g12_9, g13_9, g11_10, g12_10, g13_10, g12_11, g13_11, g13_12⟩ := hI
          have hz := hB.size
          have pg0 := box_cell (j := 0) (box_keep HG2.out hB (by omega)) rfl
          have pg1 := box_cell (j := 1) (box_keep HG2.out hB (by omega)) rfl
          have pg2 := box_cell (j := 2) (box_keep HG2.out hB (by omega)) rfl
          have pg3 := box_cell (j := 3) (box_keep HG2.out hB (by omega)) rfl
          have pg4 := box_cell (j := 4) (box_keep HG2.out hB (by omega)) rfl
          refine Kept.mk ?_
          simp only [Act.put, List.setIfInBounds_toArray, List.set_cons_zero, List.set_cons_succ]
          go_simp
          refine hK.out _ _ ?_
          exact ⟨sl30, sl31, sl32, sl33, sl34, (.agg #[.int .i64 pr, .int .i64 pc, .slice A2 n2 c2, .int .i64 st, .slice A4 n4 c4]), sl36, sl37, sl38, sl39, sl40, sl41, sl42, sl43, sl44, by simp only [Act.put, List.setIfInBounds_toArray, List.set_cons_zero, List.set_cons_succ], .inl ⟨fun j hj h => h.elim (hn j hj) (by omega), hB, fun h => f0 (h.resolve_right (by decide)), fun h => f1 (h.resolve_right (by decide)), fun h => f2 (h.resolve_right (by decide)), fun h => f3 (h.resolve_right (by decide)), fun h => f4 (h.resolve_right (by decide)), fun _ => rfl, fun h => f6 (h.resolve_right (by decide)), fun h => f7 (h.resolve_right (by decide)), fun h => f8 (h.resolve_right (by decide)), fun h => f9 (h.resolve_right (by decide)), fun h => f10 (h.resolve_right (by decide)), fun h => f11 (h.resolve_right (by decide)), fun h => f12 (h.resolve_right (by decide)), fun h => f13 (h.resolve_right (by decide)), fun h => .inl (g2_1 (h.resolve_right (by decide))), fun h => .inl (g4_3 (h.resolve_right (by decide))), fun h => .inl (g13_3 (h.resolve_right (by decide))), fun h => .inl (g13_4 (h.resolve_right (by decide))), fun h => .inl (g8_5 (h.resolve_right (by decide))), fun h => .inl (g12_5 (h.resolve_right (by decide))), fun h => .inl (g13_5 (h.resolve_right (by decide))), fun h => .inl (g7_6 (h.resolve_right (by decide))), fun h => .inl (g8_6 (h.resolve_right (by decide))), fun h => .inl (g12_6 (h.resolve_right (by decide))), fun h => .inl (g13_6 (h.resolve_right (by decide))), fun h => .inl (g8_7 (h.resolve_right (by decide))), fun h => .inl (g12_7 (h.resolve_right (by decide))), fun h => .inl (g13_7 (h.resolve_right (by decide))), fun h => .inl (g13_8 (h.resolve_right (by decide))), fun h => .inl (g12_9 (h.resolve_right (by decide))), fun h => .inl (g13_9 (h.resolve_right (by decide))), fun h => .inl (g11_10 (h.resolve_right (by decide))), fun h => .inl (g12_10 (h.resolve_right (by decide))), fun h => .inl (g13_10 (h.resolve_right (by decide))), fun h => .inl (g12_11 (h.resolve_right (by decide))), fun h => .inl (g13_11 (h.resolve_right (by decide))), fun h => .inl (g13_12 (h.resolve_right (by decide)))⟩⟩
        refine InvFrom.cons (fun L a W hI hN hD K hK => ?_) ?_
        · obtain ⟨sl30, sl31, sl32, sl33, sl34, sl35, sl36, sl37, sl38, sl39, sl40, sl41, sl42, sl43, sl44, ha, hI⟩ := hI
          subst ha
          rcases hI with hI | h9 | h9
          rotate_left
          · exact absurd (h9.1 6 (by decide)) hN
          · exact absurd (h9.1 6 (by decide)) hN
          obtain ⟨hn, hB, f0, f1, f2, f3, f4, f5, f6, f7, f8, f9, f10, f11, f12, f13, g2_1, g4_3, g13_3, g13_4, g8_5, g12_5, g13_5, g7_6, g8_6, g12_6, g13_6, g8_7, g12_7, g13_7, g13_8, g12_9, g13_9, g11_10, g12_10, g13_10, g12_11, g13_11, g13_12⟩ := hI
          have hz := hB.size
          refine Kept.mk ?_
          simp only [Act.put, List.setIfInBounds_toArray, List.set_cons_zero, List.set_cons_succ]
          go_simp
          refine hK.out _ _ ?_
          exact ⟨sl30, sl31, sl32, sl33, sl34, sl35, .pointer (some ⟨bi, 2, none⟩), sl37, sl38, sl39, sl40, sl41, sl42, sl43, sl44, by simp only [Act.put, List.setIfInBounds_toArray, List.set_cons_zero, List.set_cons_succ], .inl ⟨fun j hj h => h.elim (hn j hj) (by omega), hB, fun h => f0 (h.resolve_right (by decide)), fun h => f1 (h.resolve_right (by decide)), fun h => f2 (h.resolve_right (by decide)), fun h => f3 (h.resolve_right (by decide)), fun h => f4 (h.resolve_right (by decide)), fun h => f5 (h.resolve_right (by decide)), fun _ => rfl, fun h => f7 (h.resolve_right (by decide)), fun h => f8 (h.resolve_right (by decide)), fun h => f9 (h.resolve_right (by decide)), fun h => f10 (h.resolve_right (by decide)), fun h => f11 (h.resolve_right (by decide)), fun h => f12 (h.resolve_right (by decide)), fun h => f13 (h.resolve_right (by decide)), fun h => .inl (g2_1 (h.resolve_right (by decide))), fun h => .inl (g4_3 (h.resolve_right (by decide))), fun h => .inl (g13_3 (h.resolve_right (by decide))), fun h => .inl (g13_4 (h.resolve_right (by decide))), fun h => .inl (g8_5 (h.resolve_right (by decide))), fun h => .inl (g12_5 (h.resolve_right (by decide))), fun h => .inl (g13_5 (h.resolve_right (by decide))), fun h => .inl (g7_6 (h.resolve_right (by decide))), fun h => .inl (g8_6 (h.resolve_right (by decide))), fun h => .inl (g12_6 (h.resolve_right (by decide))), fun h => .inl (g13_6 (h.resolve_right (by decide))), fun h => .inl (g8_7 (h.resolve_right (by decide))), fun h => .inl (g12_7 (h.resolve_right (by decide))), fun h => .inl (g13_7 (h.resolve_right (by decide))), fun h => .inl (g13_8 (h.resolve_right (by decide))), fun h => .inl (g12_9 (h.resolve_right (by decide))), fun h => .inl (g13_9 (h.resolve_right (by decide))), fun h => .inl (g11_10 (h.resolve_right (by decide))), fun h => .inl (g12_10 (h.resolve_right (by decide))), fun h => .inl (g13_10 (h.resolve_right (by decide))), fun h => .inl (g12_11 (h.resolve_right (by decide))), fun h => .inl (g13_11 (h.resolve_right (by decide))), fun h => .inl (g13_12 (h.resolve_right (by decide)))⟩⟩
        refine InvFrom.cons (fun L a W hI hN hD K hK => ?_) ?_
        · obtain ⟨sl30, sl31, sl32, sl33, sl34, sl35, sl36, sl37, sl38, sl39, sl40, sl41, sl42, sl43, sl44, ha, hI⟩ := hI
          subst ha
          rcases hI with hI | h9 | h9
          rotate_left
          · exact absurd (h9.1 7 (by decide)) hN
          · exact absurd (h9.1 7 (by decide)) hN
          obtain ⟨hn, hB, f0, f1, f2, f3, f4, f5, f6, f7, f8, f9, f10, f11, f12, f13, g2_1, g4_3, g13_3, g13_4, g8_5, g12_5, g13_5, g7_6, g8_6, g12_6, g13_6, g8_7, g12_7, g13_7, g13_8, g12_9, g13_9, g11_10, g12_10, g13_10, g12_11, g13_11, g13_12⟩ := hI
          have hz := hB.size
          have d6 := f6 (hD 6 (by kernel_rfl))
          subst d6
          have pi0 := box_cell (j := 0) (box_keep HI2.out hB (by omega)) rfl
          have pi1 := box_cell (j := 1) (box_keep HI2.out hB (by omega)) rfl
          have pi2 := box_cell (j := 2) (box_keep HI2.out hB (by omega)) rfl
          have pi3 := box_cell (j := 3) (box_keep HI2.out hB (by omega)) rfl
          refine Kept.mk ?_
          simp only [Act.put, List.setIfInBounds_toArray, List.set_cons_zero, List.set_cons_succ]
          go_simp
          refine hK.out _ _ ?_
          exact ⟨sl30, sl31, sl32, sl33, sl34, sl35, .pointer (some ⟨bi, 2, none⟩), (.int .i64 ib), sl38, sl39, sl40, sl41, sl42, sl43, sl44, by simp only [Act.put, List.setIfInBounds_toArray, List.set_cons_zero, List.set_cons_succ], .inl ⟨fun j hj h => h.elim (hn j hj) (by omega), hB, fun h => f0 (h.resolve_right (by decide)), fun h => f1 (h.resolve_right (by decide)), fun h => f2 (h.resolve_right (by decide)), fun h => f3 (h.resolve_right (by decide)), fun h => f4 (h.resolve_right (by decide)), fun h => f5 (h.resolve_right (by decide)), fun h => f6 (h.resolve_right (by decide)), fun _ => rfl, fun h => f8 (h.resolve_right (by decide)), fun h => f9 (h.resolve_right (by decide)), fun h => f10 (h.resolve_right (by decide)), fun h => f11 (h.resolve_right (by decide)), fun h => f12 (h.resolve_right (by decide)), fun h => f13 (h.resolve_right (by decide)), fun h => .inl (g2_1 (h.resolve_right (by decide))), fun h => .inl (g4_3 (h.resolve_right (by decide))), fun h => .inl (g13_3 (h.resolve_right (by decide))), fun h => .inl (g13_4 (h.resolve_right (by decide))), fun h => .inl (g8_5 (h.resolve_right (by decide))), fun h => .inl (g12_5 (h.resolve_right (by decide))), fun h => .inl (g13_5 (h.resolve_right (by decide))), fun _ => .inl (hD 6 (by kernel_rfl)), fun h => .inl (g8_6 (h.resolve_right (by decide))), fun h => .inl (g12_6 (h.resolve_right (by decide))), fun h => .inl (g13_6 (h.resolve_right (by decide))), fun h => .inl (g8_7 (h.resolve_right (by decide))), fun h => .inl (g12_7 (h.resolve_right (by decide))), fun h => .inl (g13_7 (h.resolve_right (by decide))), fun h => .inl (g13_8 (h.resolve_right (by decide))), fun h => .inl (g12_9 (h.resolve_right (by decide))), fun h => .inl (g13_9 (h.resolve_right (by decide))), fun h => .inl (g11_10 (h.resolve_right (by decide))), fun h => .inl (g12_10 (h.resolve_right (by decide))), fun h => .inl (g13_10 (h.resolve_right (by decide))), fun h => .inl (g12_11 (h.resolve_right (by decide))), fun h => .inl (g13_11 (h.resolve_right (by decide))), fun h => .inl (g13_12 (h.resolve_right (by decide)))⟩⟩
        refine InvFrom.cons (fun L a W hI hN hD K hK => ?_) ?_
        · obtain ⟨sl30, sl31, sl32, sl33, sl34, sl35, sl36, sl37, sl38, sl39, sl40, sl41, sl42, sl43, sl44, ha, hI⟩ := hI
          subst ha
          rcases hI with hI | h9 | h9
          rotate_left
          · exact absurd (h9.1 8 (by decide)) hN
          · exact absurd (h9.1 8 (by decide)) hN
          obtain ⟨hn, hB, f0, f1, f2, f3, f4, f5, f6, f7, f8, f9, f10, f11, f12, f13, g2_1, g4_3, g13_3, g13_4, g8_5, g12_5, g13_5, g7_6, g8_6, g12_6, g13_6, g8_7, g12_7, g13_7, g13_8, g12_9, g13_9, g11_10, g12_10, g13_10, g12_11, g13_11, g13_12⟩ := hI
          have hz := hB.size
          have d5 := f5 (hD 5 (by kernel_rfl))
          subst d5
          have d7 := f7 (hD 7 (by kernel_rfl))
          subst d7
          refine kept_c2 rfl 57 _ _ _ rfl (fenters_of' Tryz.func57 (by kernel_rfl) (by kernel_rfl)) (.agg #[.int .i64 pr, .int .i64 pc, .slice A2 n2 c2, .int .i64 st, .slice A4 n4 c4]) (.int .i64 ib) (by kernel_rfl) (by kernel_rfl) (HXb.out W (HB2.out.trans (hB.mono (by have := HB2.out.size; omega)))) ?_
          rintro e W1 ⟨rfl, hb9⟩
          refine ⟨_, rfl, hK.out _ _ ?_⟩
          exact ⟨sl30, sl31, sl32, sl33, sl34, (.agg #[.int .i64 pr, .int .i64 pc, .slice A2 n2 c2, .int .i64 st, .slice A4 n4 c4]), sl36, (.int .i64 ib), (.int .i64 xb), sl39, sl40, sl41, sl42, sl43, sl44, by simp only [Act.put, List.setIfInBounds_toArray, List.set_cons_zero, List.set_cons_succ], .inl ⟨fun j hj h => h.elim (hn j hj) (by omega), hB.trans (hb9.mono hz), fun h => f0 (h.resolve_right (by decide)), fun h => f1 (h.resolve_right (by decide)), fun h => f2 (h.resolve_right (by decide)), fun h => f3 (h.resolve_right (by decide)), fun h => f4 (h.resolve_right (by decide)), fun h => f5 (h.resolve_right (by decide)), fun h => f6 (h.resolve_right (by decide)), fun h => f7 (h.resolve_right (by decide)), fun _ => rfl, fun h => f9 (h.resolve_right (by decide)), fun h => f10 (h.resolve_right (by decide)), fun h => f11 (h.resolve_right (by decide)), fun h => f12 (h.resolve_right (by decide)), fun h => f13 (h.resolve_right (by decide)), fun h => .inl (g2_1 (h.resolve_right (by decide))), fun h => .inl (g4_3 (h.resolve_right (by decide))), fun h => .inl (g13_3 (h.resolve_right (by decide))), fun h => .inl (g13_4 (h.resolve_right (by decide))), fun _ => .inl (hD 5 (by kernel_rfl)), fun h => .inl (g12_5 (h.resolve_right (by decide))), fun h => .inl (g13_5 (h.resolve_right (by decide))), fun h => .inl (g7_6 (h.resolve_right (by decide))), fun _ => .inl (g7_6 (hD 7 (by kernel_rfl))), fun h => .inl (g12_6 (h.resolve_right (by decide))), fun h => .inl (g13_6 (h.resolve_right (by decide))), fun _ => .inl (hD 7 (by kernel_rfl)), fun h => .inl (g12_7 (h.resolve_right (by decide))), fun h => .inl (g13_7 (h.resolve_right (by decide))), fun h => .inl (g13_8 (h.resolve_right (by decide))), fun h => .inl (g12_9 (h.resolve_right (by decide))), fun h => .inl (g13_9 (h.resolve_right (by decide))), fun h => .inl (g11_10 (h.resolve_right (by decide))), fun h => .inl (g12_10 (h.resolve_right (by decide))), fun h => .inl (g13_10 (h.resolve_right (by decide))), fun h => .inl (g12_11 (h.resolve_right (by decide))), fun h => .inl (g13_11 (h.resolve_right (by decide))), fun h => .inl (g13_12 (h.resolve_right (by decide)))⟩⟩
        refine InvFrom.cons (fun L a W hI hN hD K hK => ?_) ?_
        · obtain ⟨sl30, sl31, sl32, sl33, sl34, sl35, sl36, sl37, sl38, sl39, sl40, sl41, sl42, sl43, sl44, ha, hI⟩ := hI
          subst ha
          rcases hI with hI | h9 | h9
          rotate_left
          · exact absurd (h9.1 9 (by decide)) hN
          · exact absurd (h9.1 9 (by decide)) hN
          obtain ⟨hn, hB, f0, f1, f2, f3, f4, f5, f6, f7, f8, f9, f10, f11, f12, f13, g2_1, g4_3, g13_3, g13_4, g8_5, g12_5, g13_5, g7_6, g8_6, g12_6, g13_6, g8_7, g12_7, g13_7, g13_8, g12_9, g13_9, g11_10, g12_10, g13_10, g12_11, g13_11, g13_12⟩ := hI
          have hz := hB.size
          have pg0 := box_cell (j := 0) (box_keep HG2.out hB (by omega)) rfl
          have pg1 := box_cell (j := 1) (box_keep HG2.out hB (by omega)) rfl
          have pg2 := box_cell (j := 2) (box_keep HG2.out hB (by omega)) rfl
          have pg3 := box_cell (j := 3) (box_keep HG2.out hB (by omega)) rfl
          have pg4 := box_cell (j := 4) (box_keep HG2.out hB (by omega)) rfl
          refine Kept.mk ?_
          simp only [Act.put, List.setIfInBounds_toArray, List.set_cons_zero, List.set_cons_succ]
          go_simp
          refine hK.out _ _ ?_
          exact ⟨sl30, sl31, sl32, sl33, sl34, sl35, sl36, sl37, sl38, (.agg #[.int .i64 pr, .int .i64 pc, .slice A2 n2 c2, .int .i64 st, .slice A4 n4 c4]), sl40, sl41, sl42, sl43, sl44, by simp only [Act.put, List.setIfInBounds_toArray, List.set_cons_zero, List.set_cons_succ], .inl ⟨fun j hj h => h.elim (hn j hj) (by omega), hB, fun h => f0 (h.resolve_right (by decide)), fun h => f1 (h.resolve_right (by decide)), fun h => f2 (h.resolve_right (by decide)), fun h => f3 (h.resolve_right (by decide)), fun h => f4 (h.resolve_right (by decide)), fun h => f5 (h.resolve_right (by decide)), fun h => f6 (h.resolve_right (by decide)), fun h => f7 (h.resolve_right (by decide)), fun h => f8 (h.resolve_right (by decide)), fun _ => rfl, fun h => f10 (h.resolve_right (by decide)), fun h => f11 (h.resolve_right (by decide)), fun h => f12 (h.resolve_right (by decide)), fun h => f13 (h.resolve_right (by decide)), fun h => .inl (g2_1 (h.resolve_right (by decide))), fun h => .inl (g4_3 (h.resolve_right (by decide))), fun h => .inl (g13_3 (h.resolve_right (by decide))), fun h => .inl (g13_4 (h.resolve_right (by decide))), fun h => .inl (g8_5 (h.resolve_right (by decide))), fun h => .inl (g12_5 (h.resolve_right (by decide))), fun h => .inl (g13_5 (h.resolve_right (by decide))), fun h => .inl (g7_6 (h.resolve_right (by decide))), fun h => .inl (g8_6 (h.resolve_right (by decide))), fun h => .inl (g12_6 (h.resolve_right (by decide))), fun h => .inl (g13_6 (h.resolve_right (by decide))), fun h => .inl (g8_7 (h.resolve_right (by decide))), fun h => .inl (g12_7 (h.resolve_right (by decide))), fun h => .inl (g13_7 (h.resolve_right (by decide))), fun h => .inl (g13_8 (h.resolve_right (by decide))), fun h => .inl (g12_9 (h.resolve_right (by decide))), fun h => .inl (g13_9 (h.resolve_right (by decide))), fun h => .inl (g11_10 (h.resolve_right (by decide))), fun h => .inl (g12_10 (h.resolve_right (by decide))), fun h => .inl (g13_10 (h.resolve_right (by decide))), fun h => .inl (g12_11 (h.resolve_right (by decide))), fun h => .inl (g13_11 (h.resolve_right (by decide))), fun h => .inl (g13_12 (h.resolve_right (by decide)))⟩⟩
        refine InvFrom.cons (fun L a W hI hN hD K hK => ?_) ?_
        · obtain ⟨sl30, sl31, sl32, sl33, sl34, sl35, sl36, sl37, sl38, sl39, sl40, sl41, sl42, sl43, sl44, ha, hI⟩ := hI
          subst ha
          rcases hI with hI | h9 | h9
          rotate_left
          · exact absurd (h9.1 10 (by decide)) hN
          · exact absurd (h9.1 10 (by decide)) hN
          obtain ⟨hn, hB, f0, f1, f2, f3, f4, f5, f6, f7, f8, f9, f10, f11, f12, f13, g2_1, g4_3, g13_3, g13_4, g8_5, g12_5, g13_5, g7_6, g8_6, g12_6, g13_6, g8_7, g12_7, g13_7, g13_8, g12_9, g13_9, g11_10, g12_10, g13_10, g12_11, g13_11, g13_12⟩ := hI
          have hz := hB.size
          refine Kept.mk ?_
          simp only [Act.put, List.setIfInBounds_toArray, List.set_cons_zero, List.set_cons_succ]
          go_simp
          refine hK.out _ _ ?_
          exact ⟨sl30, sl31, sl32, sl33, sl34, sl35, sl36, sl37, sl38, sl39, .pointer (some ⟨bi, 3, none⟩), sl41, sl42, sl43, sl44, by simp only [Act.put, List.setIfInBounds_toArray, List.set_cons_zero, List.set_cons_succ], .inl ⟨fun j hj h => h.elim (hn j hj) (by omega), hB, fun h => f0 (h.resolve_right (by decide)), fun h => f1 (h.resolve_right (by decide)), fun h => f2 (h.resolve_right (by decide)), fun h => f3 (h.resolve_right (by decide)), fun h => f4 (h.resolve_right (by decide)), fun h => f5 (h.resolve_right (by decide)), fun h => f6 (h.resolve_right (by decide)), fun h => f7 (h.resolve_right (by decide)), fun h => f8 (h.resolve_right (by decide)), fun h => f9 (h.resolve_right (by decide)), fun _ => rfl, fun h => f11 (h.resolve_right (by decide)), fun h => f12 (h.resolve_right (by decide)), fun h => f13 (h.resolve_right (by decide)), fun h => .inl (g2_1 (h.resolve_right (by decide))), fun h => .inl (g4_3 (h.resolve_right (by decide))), fun h => .inl (g13_3 (h.resolve_right (by decide))), fun h => .inl (g13_4 (h.resolve_right (by decide))), fun h => .inl (g8_5 (h.resolve_right (by decide))), fun h => .inl (g12_5 (h.resolve_right (by decide))), fun h => .inl (g13_5 (h.resolve_right (by decide))), fun h => .inl (g7_6 (h.resolve_right (by decide))), fun h => .inl (g8_6 (h.resolve_right (by decide))), fun h => .inl (g12_6 (h.resolve_right (by decide))), fun h => .inl (g13_6 (h.resolve_right (by decide))), fun h => .inl (g8_7 (h.resolve_right (by decide))), fun h => .inl (g12_7 (h.resolve_right (by decide))), fun h => .inl (g13_7 (h.resolve_right (by decide))), fun h => .inl (g13_8 (h.resolve_right (by decide))), fun h => .inl (g12_9 (h.resolve_right (by decide))), fun h => .inl (g13_9 (h.resolve_right (by decide))), fun h => .inl (g11_10 (h.resolve_right (by decide))), fun h => .inl (g12_10 (h.resolve_right (by decide))), fun h => .inl (g13_10 (h.resolve_right (by decide))), fun h => .inl (g12_11 (h.resolve_right (by decide))), fun h => .inl (g13_11 (h.resolve_right (by decide))), fun h => .inl (g13_12 (h.resolve_right (by decide)))⟩⟩
        refine InvFrom.cons (fun L a W hI hN hD K hK => ?_) ?_
        · obtain ⟨sl30, sl31, sl32, sl33, sl34, sl35, sl36, sl37, sl38, sl39, sl40, sl41, sl42, sl43, sl44, ha, hI⟩ := hI
          subst ha
          rcases hI with hI | h9 | h9
          rotate_left
          · exact absurd (h9.1 11 (by decide)) hN
          · exact absurd (h9.1 11 (by decide)) hN
          obtain ⟨hn, hB, f0, f1, f2, f3, f4, f5, f6, f7, f8, f9, f10, f11, f12, f13, g2_1, g4_3, g13_3, g13_4, g8_5, g12_5, g13_5, g7_6, g8_6, g12_6, g13_6, g8_7, g12_7, g13_7, g13_8, g12_9, g13_9, g11_10, g12_10, g13_10, g12_11, g13_11, g13_12⟩ := hI
          have hz := hB.size
          have d10 := f10 (hD 10 (by kernel_rfl))
          subst d10
          have pi0 := box_cell (j := 0) (box_keep HI2.out hB (by omega)) rfl
          have pi1 := box_cell (j := 1) (box_keep HI2.out hB (by omega)) rfl
          have pi2 := box_cell (j := 2) (box_keep HI2.out hB (by omega)) rfl
          have pi3 := box_cell (j := 3) (box_keep HI2.out hB (by omega)) rfl
          refine Kept.mk ?_
          simp only [Act.put, List.setIfInBounds_toArray, List.set_cons_zero, List.set_cons_succ]
          go_simp
          refine hK.out _ _ ?_
          exact ⟨sl30, sl31, sl32, sl33, sl34, sl35, sl36, sl37, sl38, sl39, .pointer (some ⟨bi, 3, none⟩), (.int .i64 ic), sl42, sl43, sl44, by simp only [Act.put, List.setIfInBounds_toArray, List.set_cons_zero, List.set_cons_succ], .inl ⟨fun j hj h => h.elim (hn j hj) (by omega), hB, fun h => f0 (h.resolve_right (by decide)), fun h => f1 (h.resolve_right (by decide)), fun h => f2 (h.resolve_right (by decide)), fun h => f3 (h.resolve_right (by decide)), fun h => f4 (h.resolve_right (by decide)), fun h => f5 (h.resolve_right (by decide)), fun h => f6 (h.resolve_right (by decide)), fun h => f7 (h.resolve_right (by decide)), fun h => f8 (h.resolve_right (by decide)), fun h => f9 (h.resolve_right (by decide)), fun h => f10 (h.resolve_right (by decide)), fun _ => rfl, fun h => f12 (h.resolve_right (by decide)), fun h => f13 (h.resolve_right (by decide)), fun h => .inl (g2_1 (h.resolve_right (by decide))), fun h => .inl (g4_3 (h.resolve_right (by decide))), fun h => .inl (g13_3 (h.resolve_right (by decide))), fun h => .inl (g13_4 (h.resolve_right (by decide))), fun h => .inl (g8_5 (h.resolve_right (by decide))), fun h => .inl (g12_5 (h.resolve_right (by decide))), fun h => .inl (g13_5 (h.resolve_right (by decide))), fun h => .inl (g7_6 (h.resolve_right (by decide))), fun h => .inl (g8_6 (h.resolve_right (by decide))), fun h => .inl (g12_6 (h.resolve_right (by decide))), fun h => .inl (g13_6 (h.resolve_right (by decide))), fun h => .inl (g8_7 (h.resolve_right (by decide))), fun h => .inl (g12_7 (h.resolve_right (by decide))), fun h => .inl (g13_7 (h.resolve_right (by decide))), fun h => .inl (g13_8 (h.resolve_right (by decide))), fun h => .inl (g12_9 (h.resolve_right (by decide))), fun h => .inl (g13_9 (h.resolve_right (by decide))), fun _ => .inl (hD 10 (by kernel_rfl)), fun h => .inl (g12_10 (h.resolve_right (by decide))), fun h => .inl (g13_10 (h.resolve_right (by decide))), fun h => .inl (g12_11 (h.resolve_right (by decide))), fun h => .inl (g13_11 (h.resolve_right (by decide))), fun h => .inl (g13_12 (h.resolve_right (by decide)))⟩⟩
        refine InvFrom.cons (fun L a W hI hN hD K hK => ?_) ?_
        · obtain ⟨sl30, sl31, sl32, sl33, sl34, sl35, sl36, sl37, sl38, sl39, sl40, sl41, sl42, sl43, sl44, ha, hI⟩ := hI
          subst ha
          rcases hI with hI | h9 | h9
          rotate_left
          · exact absurd (h9.1 12 (by decide)) hN
          · exact absurd (h9.1 12 (by decide)) hN
          obtain ⟨hn, hB, f0, f1, f2, f3, f4, f5, f6, f7, f8, f9, f10, f11, f12, f13, g2_1, g4_3, g13_3, g13_4, g8_5, g12_5, g13_5, g7_6, g8_6, g12_6, g13_6, g8_7, g12_7, g13_7, g13_8, g12_9, g13_9, g11_10, g12_10, g13_10, g12_11, g13_11, g13_12⟩ := hI
          have hz := hB.size
          have d8 := f8 (hD 8 (by kernel_rfl))
          subst d8
          have d9 := f9 (hD 9 (by kernel_rfl))
          subst d9
          have d11 := f11 (hD 11 (by kernel_rfl))
          subst d11
          refine kept_c2 rfl 57 _ _ _ rfl (fenters_of' Tryz.func57 (by kernel_rfl) (by kernel_rfl)) (.agg #[.int .i64 pr, .int .i64 pc, .slice A2 n2 c2, .int .i64 st, .slice A4 n4 c4]) (.int .i64 ic) (by kernel_rfl) (by kernel_rfl) (HXc.out W (HB2.out.trans (hB.mono (by have := HB2.out.size; omega)))) ?_
          rintro e W1 ⟨rfl, hb9⟩
          refine ⟨_, rfl, hK.out _ _ ?_⟩
          exact ⟨sl30, sl31, sl32, sl33, sl34, sl35, sl36, sl37, (.int .i64 xb), (.agg #[.int .i64 pr, .int .i64 pc, .slice A2 n2 c2, .int .i64 st, .slice A4 n4 c4]), sl40, (.int .i64 ic), (.int .i64 xc), sl43, sl44, by simp only [Act.put, List.setIfInBounds_toArray, List.set_cons_zero, List.set_cons_succ], .inl ⟨fun j hj h => h.elim (hn j hj) (by omega), hB.trans (hb9.mono hz), fun h => f0 (h.resolve_right (by decide)), fun h => f1 (h.resolve_right (by decide)), fun h => f2 (h.resolve_right (by decide)), fun h => f3 (h.resolve_right (by decide)), fun h => f4 (h.resolve_right (by decide)), fun h => f5 (h.resolve_right (by decide)), fun h => f6 (h.resolve_right (by decide)), fun h => f7 (h.resolve_right (by decide)), fun h => f8 (h.resolve_right (by decide)), fun h => f9 (h.resolve_right (by decide)), fun h => f10 (h.resolve_right (by decide)), fun h => f11 (h.resolve_right (by decide)), fun _ => rfl, fun h => f13 (h.resolve_right (by decide)), fun h => .inl (g2_1 (h.resolve_right (by decide))), fun h => .inl (g4_3 (h.resolve_right (by decide))), fun h => .inl (g13_3 (h.resolve_right (by decide))), fun h => .inl (g13_4 (h.resolve_right (by decide))), fun h => .inl (g8_5 (h.resolve_right (by decide))), fun _ => .inl (g8_5 (hD 8 (by kernel_rfl))), fun h => .inl (g13_5 (h.resolve_right (by decide))), fun h => .inl (g7_6 (h.resolve_right (by decide))), fun h => .inl (g8_6 (h.resolve_right (by decide))), fun _ => .inl (g8_6 (hD 8 (by kernel_rfl))), fun h => .inl (g13_6 (h.resolve_right (by decide))), fun h => .inl (g8_7 (h.resolve_right (by decide))), fun _ => .inl (g8_7 (hD 8 (by kernel_rfl))), fun h => .inl (g13_7 (h.resolve_right (by decide))), fun h => .inl (g13_8 (h.resolve_right (by decide))), fun _ => .inl (hD 9 (by kernel_rfl)), fun h => .inl (g13_9 (h.resolve_right (by decide))), fun h => .inl (g11_10 (h.resolve_right (by decide))), fun _ => .inl (g11_10 (hD 11 (by kernel_rfl))), fun h => .inl (g13_10 (h.resolve_right (by decide))), fun _ => .inl (hD 11 (by kernel_rfl)), fun h => .inl (g13_11 (h.resolve_right (by decide))), fun h => .inl (g13_12 (h.resolve_right (by decide)))⟩⟩
        refine InvFrom.cons (fun L a W hI hN hD K hK => ?_) ?_
        · obtain ⟨sl30, sl31, sl32, sl33, sl34, sl35, sl36, sl37, sl38, sl39, sl40, sl41, sl42, sl43, sl44, ha, hI⟩ := hI
          subst ha
          rcases hI with hI | h9 | h9
          rotate_left
          · exact absurd (h9.1 13 (by decide)) hN
          · exact absurd (h9.1 13 (by decide)) hN
          obtain ⟨hn, hB, f0, f1, f2, f3, f4, f5, f6, f7, f8, f9, f10, f11, f12, f13, g2_1, g4_3, g13_3, g13_4, g8_5, g12_5, g13_5, g7_6, g8_6, g12_6, g13_6, g8_7, g12_7, g13_7, g13_8, g12_9, g13_9, g11_10, g12_10, g13_10, g12_11, g13_11, g13_12⟩ := hI
          have hz := hB.size
          have d4 := f4 (hD 4 (by kernel_rfl))
          subst d4
          have d8 := f8 (hD 8 (by kernel_rfl))
          subst d8
          have d12 := f12 (hD 12 (by kernel_rfl))
          subst d12
          refine kept_c3 rfl 56 _ _ _ _ rfl (fenters_of' Tryz.func56 (by kernel_rfl) (by kernel_rfl)) (.int .i64 4) (.int .i64 xb) (.int .i64 xc) (by kernel_rfl) (by kernel_rfl) (by kernel_rfl) (HCl.out W) ?_
          rintro e W1 ⟨rfl, rfl⟩
          refine ⟨_, rfl, hK.out _ _ ?_⟩
          exact ⟨sl30, sl31, sl32, sl33, (.int .i64 4), sl35, sl36, sl37, (.int .i64 xb), sl39, sl40, sl41, (.int .i64 xc), (.int .i64 xv), sl44, by simp only [Act.put, List.setIfInBounds_toArray, List.set_cons_zero, List.set_cons_succ], .inl ⟨fun j hj h => h.elim (hn j hj) (by omega), hB, fun h => f0 (h.resolve_right (by decide)), fun h => f1 (h.resolve_right (by decide)), fun h => f2 (h.resolve_right (by decide)), fun h => f3 (h.resolve_right (by decide)), fun h => f4 (h.resolve_right (by decide)), fun h => f5 (h.resolve_right (by decide)), fun h => f6 (h.resolve_right (by decide)), fun h => f7 (h.resolve_right (by decide)), fun h => f8 (h.resolve_right (by decide)), fun h => f9 (h.resolve_right (by decide)), fun h => f10 (h.resolve_right (by decide)), fun h => f11 (h.resolve_right (by decide)), fun h => f12 (h.resolve_right (by decide)), fun _ => rfl, fun h => .inl (g2_1 (h.resolve_right (by decide))), fun h => .inl (g4_3 (h.resolve_right (by decide))), fun _ => .inl (g4_3 (hD 4 (by kernel_rfl))), fun _ => .inl (hD 4 (by kernel_rfl)), fun h => .inl (g8_5 (h.resolve_right (by decide))), fun h => .inl (g12_5 (h.resolve_right (by decide))), fun _ => .inl (g12_5 (hD 12 (by kernel_rfl))), fun h => .inl (g7_6 (h.resolve_right (by decide))), fun h => .inl (g8_6 (h.resolve_right (by decide))), fun h => .inl (g12_6 (h.resolve_right (by decide))), fun _ => .inl (g12_6 (hD 12 (by kernel_rfl))), fun h => .inl (g8_7 (h.resolve_right (by decide))), fun h => .inl (g12_7 (h.resolve_right (by decide))), fun _ => .inl (g12_7 (hD 12 (by kernel_rfl))), fun _ => .inl (hD 8 (by kernel_rfl)), fun h => .inl (g12_9 (h.resolve_right (by decide))), fun _ => .inl (g12_9 (hD 12 (by kernel_rfl))), fun h => .inl (g11_10 (h.resolve_right (by decide))), fun h => .inl (g12_10 (h.resolve_right (by decide))), fun _ => .inl (g12_10 (hD 12 (by kernel_rfl))), fun h => .inl (g12_11 (h.resolve_right (by decide))), fun _ => .inl (g12_11 (hD 12 (by kernel_rfl))), fun _ => .inl (hD 12 (by kernel_rfl))⟩⟩
        refine InvFrom.cons (fun L a W hI hN hD K hK => ?_) ?_
        · obtain ⟨sl30, sl31, sl32, sl33, sl34, sl35, sl36, sl37, sl38, sl39, sl40, sl41, sl42, sl43, sl44, ha, hI⟩ := hI
          subst ha
          rcases hI with hI | h9 | h9
          rotate_left
          · exact absurd (h9.1 14 (by decide)) hN
          · exact absurd (h9.1 14 (by decide)) hN
          obtain ⟨hn, hB, f0, f1, f2, f3, f4, f5, f6, f7, f8, f9, f10, f11, f12, f13, g2_1, g4_3, g13_3, g13_4, g8_5, g12_5, g13_5, g7_6, g8_6, g12_6, g13_6, g8_7, g12_7, g13_7, g13_8, g12_9, g13_9, g11_10, g12_10, g13_10, g12_11, g13_11, g13_12⟩ := hI
          have hz := hB.size
          have d0 := f0 (hD 0 (by kernel_rfl))
          subst d0
          have d2 := f2 (hD 2 (by kernel_rfl))
          subst d2
          have d13 := f13 (hD 13 (by kernel_rfl))
          subst d13
          refine kept_c3 rfl 55 _ _ _ _ rfl (fenters_of' Tryz.func55 (by kernel_rfl) (by kernel_rfl)) (.agg #[.int .i64 pr, .int .i64 pc, .slice A2 n2 c2, .int .i64 st, .slice A4 n4 c4]) (.int .i64 ia) (.int .i64 xv) (by kernel_rfl) (by kernel_rfl) (by kernel_rfl) (HS.out W (HB2.out.trans (hB.mono (by have := HB2.out.size; omega))) ia xv HXa.out HV3.out) ?_
          rintro e W1 ⟨D2, q2, f2, D4, q4, f4, rfl, H5, hb5⟩
          refine ⟨_, rfl, hK.out _ _ ?_⟩
          have hall : ∀ j, j < 15 → (L j ∨ j = 14) := by
            intro j hj
            have hj2 : j = 0 ∨ j = 1 ∨ j = 2 ∨ j = 3 ∨ j = 4 ∨ j = 5 ∨ j = 6 ∨ j = 7 ∨ j = 8 ∨ j = 9 ∨ j = 10 ∨ j = 11 ∨ j = 12 ∨ j = 13 ∨ j = 14 := by omega
            rcases hj2 with rfl | rfl | rfl | rfl | rfl | rfl | rfl | rfl | rfl | rfl | rfl | rfl | rfl | rfl | rfl
            · exact .inl (hD 0 (by kernel_rfl))
            · exact .inl (g2_1 (hD 2 (by kernel_rfl)))
            · exact .inl (hD 2 (by kernel_rfl))
            · exact .inl (g13_3 (hD 13 (by kernel_rfl)))
            · exact .inl (g13_4 (hD 13 (by kernel_rfl)))
            · exact .inl (g13_5 (hD 13 (by kernel_rfl)))
            · exact .inl (g13_6 (hD 13 (by kernel_rfl)))
            · exact .inl (g13_7 (hD 13 (by kernel_rfl)))
            · exact .inl (g13_8 (hD 13 (by kernel_rfl)))
            · exact .inl (g13_9 (hD 13 (by kernel_rfl)))
            · exact .inl (g13_10 (hD 13 (by kernel_rfl)))
            · exact .inl (g13_11 (hD 13 (by kernel_rfl)))
            · exact .inl (g13_12 (hD 13 (by kernel_rfl)))
            · exact .inl (hD 13 (by kernel_rfl))
            · exact .inr rfl
          exact ⟨(.agg #[.int .i64 pr, .int .i64 pc, .slice A2 n2 c2, .int .i64 st, .slice A4 n4 c4]), sl31, (.int .i64 ia), sl33, sl34, sl35, sl36, sl37, sl38, sl39, sl40, sl41, sl42, (.int .i64 xv), (.agg #[.int .i64 pr, .int .i64 pc, .slice D2 q2 f2, .int .i64 st, .slice D4 q4 f4]), by simp only [Act.put, List.setIfInBounds_toArray, List.set_cons_zero, List.set_cons_succ], .inr (.inl ⟨hall, fun j hj h => h.elim (hn j (by omega)) (by omega), ⟨D2, q2, f2, D4, q4, f4, rfl, H5.wide (fun k hk _ => ⟨by omega, hk.2⟩), hB.trans (hb5.mono hz)⟩⟩)⟩
        refine InvFrom.cons (fun L a W hI hN hD K hK => ?_) ?_
        · obtain ⟨sl30, sl31, sl32, sl33, sl34, sl35, sl36, sl37, sl38, sl39, sl40, sl41, sl42, sl43, sl44, ha, hI⟩ := hI
          subst ha
          rcases hI with h9 | hI | h9
          · exact absurd (hD 14 (by kernel_rfl)) (h9.1 14 (by decide))
          rotate_left
          · exact absurd (h9.1 15 (by decide)) hN
          obtain ⟨hu, hn, hI⟩ := hI
          obtain ⟨D2, q2, f2, D4, q4, f4, rfl, H5, hB5⟩ := hI
          have HO5 := box_keep HO2.out hB5 (by omega)
          have o0 := box_cell (j := 0) HO5 rfl
          have o1 := box_cell (j := 1) HO5 rfl
          have o2 := box_cell (j := 2) HO5 rfl
          have o3 := box_cell (j := 3) HO5 rfl
          have o4 := box_cell (j := 4) HO5 rfl
          have of0 := box_free HO5 0
          have of1 := box_free HO5 1
          have of2 := box_free HO5 2
          have of3 := box_free HO5 3
          have of4 := box_free HO5 4
          refine Kept.mk ?_
          simp only [Act.put, List.setIfInBounds_toArray, List.set_cons_zero, List.set_cons_succ]
          go_simp
          refine hK.out _ _ ?_
          have hall : ∀ j, j < 16 → (L j ∨ j = 15) := by
            intro j hj
            have hj2 : j = 0 ∨ j = 1 ∨ j = 2 ∨ j = 3 ∨ j = 4 ∨ j = 5 ∨ j = 6 ∨ j = 7 ∨ j = 8 ∨ j = 9 ∨ j = 10 ∨ j = 11 ∨ j = 12 ∨ j = 13 ∨ j = 14 ∨ j = 15 := by omega
            rcases hj2 with rfl | rfl | rfl | rfl | rfl | rfl | rfl | rfl | rfl | rfl | rfl | rfl | rfl | rfl | rfl | rfl
            · exact .inl (hD 0 (by kernel_rfl))
            · exact .inl (hD 1 (by kernel_rfl))
            · exact .inl (hD 2 (by kernel_rfl))
            · exact .inl (hD 3 (by kernel_rfl))
            · exact .inl (hD 4 (by kernel_rfl))
            · exact .inl (hD 5 (by kernel_rfl))
            · exact .inl (hD 6 (by kernel_rfl))
            · exact .inl (hD 7 (by kernel_rfl))
            · exact .inl (hD 8 (by kernel_rfl))
            · exact .inl (hD 9 (by kernel_rfl))
            · exact .inl (hD 10 (by kernel_rfl))
            · exact .inl (hD 11 (by kernel_rfl))
            · exact .inl (hD 12 (by kernel_rfl))
            · exact .inl (hD 13 (by kernel_rfl))
            · exact .inl (hD 14 (by kernel_rfl))
            · exact .inr rfl
          exact ⟨sl30, sl31, sl32, sl33, sl34, sl35, sl36, sl37, sl38, sl39, sl40, sl41, sl42, sl43, (.agg #[.int .i64 pr, .int .i64 pc, .slice D2 q2 f2, .int .i64 st, .slice D4 q4 f4]), by simp only [Act.put, List.setIfInBounds_toArray, List.set_cons_zero, List.set_cons_succ], .inr (.inr (⟨hall, fun j hj h => h.elim (hn j (by omega)) (by omega), ⟨W, D2, q2, f2, D4, q4, f4, rfl, H5, hB5⟩⟩))⟩
        exact InvFrom.nil
      intro L a w8 hL hI
      obtain ⟨sl30, sl31, sl32, sl33, sl34, sl35, sl36, sl37, sl38, sl39, sl40, sl41, sl42, sl43, sl44, ha, hI⟩ := hI
      subst ha
      rcases hI with h9 | h9 | hI
      · exact absurd (hL 14 (by decide)) (h9.1 14 (by decide))
      · exact absurd (hL 15 (by decide)) (h9.2.1 15 (by decide))
      have hfin := hI.2.2
      obtain ⟨w5, D2, q2, f2, D4, q4, f4, rfl, H5, hb5⟩ := hfin
      clear hL hI
      refine Kept.mk ?_
      simp only [Act.put, List.setIfInBounds_toArray, List.set_cons_zero, List.set_cons_succ]
      have hz5 := hb5.size
      have HO5 := box_keep HO2.out hb5 (by omega)
      have HR5 := Lib.hid (box_keep HR2.out hb5 (by omega))
      have HB5 := Lib.hid (HB2.out.trans (hb5.mono (by have := HB2.out.size; omega)))
      have HH5 := Lib.hid H5
      clear H5 hb5
      have o0 := box_cell (j := 0) HO5 rfl
      have o1 := box_cell (j := 1) HO5 rfl
      have o2 := box_cell (j := 2) HO5 rfl
      have o3 := box_cell (j := 3) HO5 rfl
      have o4 := box_cell (j := 4) HO5 rfl
      have of0 := box_free HO5 0
      have of1 := box_free HO5 1
      have of2 := box_free HO5 2
      have of3 := box_free HO5 3
      have of4 := box_free HO5 4
      have hbw : bo < w5.heap.size := by omega
      go_upto_region 19 with (fail)
      have hput := put5 (u0 := .int .i64 pr) (u1 := .int .i64 pc) (u2 := .slice D2 q2 f2) (u3 := .int .i64 st) (u4 := .slice D4 q4 f4) HO5
      have HB6 := Lib.hid (below_put5 (b := bo) (u0 := .int .i64 pr) (u1 := .int .i64 pc) (u2 := .slice D2 q2 f2) (u3 := .int .i64 st) (u4 := .slice D4 q4 f4) HB5.out (by omega))
      generalize (((((w5.setCell ⟨bo, 0, none⟩ (.int .i64 pr)).setCell ⟨bo, 1, none⟩ (.int .i64 pc)).setCell ⟨bo, 2, none⟩ (.slice D2 q2 f2)).setCell ⟨bo, 3, none⟩ (.int .i64 st)).setCell ⟨bo, 4, none⟩ (.slice D4 q4 f4)) = W6 at *
      obtain ⟨hO6, hk6, hs6⟩ := hput
      have HR6 := Lib.hid ((hk6 _ (by omega)).trans HR5.out)
      have HH6 := Lib.hid (HH5.out.stay (fun k hk _ => hk6 k (by omega)) (Nat.le_of_eq hs6.symm))
      clear o0 o1 o2 o3 o4
      clear of0 of1 of2 of3 of4
      clear hk6 HO5 HR5 HB5 HH5
      have hbw6 : bo < W6.heap.size := by omega
      have o0 := box_cell (j := 0) hO6 rfl
      have o1 := box_cell (j := 1) hO6 rfl
      have o2 := box_cell (j := 2) hO6 rfl
      have o3 := box_cell (j := 3) hO6 rfl
      have o4 := box_cell (j := 4) hO6 rfl
      have of1 := box_free hO6 1
      go_upto_region 20 with (fail)
      have hput7 := put1 (j := 1) (u := .int .i64 (pc + 1)) hO6
      have HBx := Lib.hid (below_set (p := ⟨bo, 1, none⟩) HB6.out (by simp only; omega) (.int .i64 (pc + 1)))
      generalize (W6.setCell ⟨bo, 1, none⟩ (.int .i64 (pc + 1))) = W7 at *
      obtain ⟨hO7, hk7, hs7⟩ := hput7
      have HRx := Lib.hid ((hk7 _ (by omega)).trans HR6.out)
      have HH7 := Lib.hid ((HH6.out.stay (fun k hk _ => hk7 k (by omega)) (Nat.le_of_eq hs7.symm)).pc (v := pc + 1) (wf_val (by omega)))
      clear o0 o1 o2 o3 o4
      clear of1 hk7
      have o0 := box_cell (j := 0) hO7 rfl
      have o1 := box_cell (j := 1) hO7 rfl
      have o2 := box_cell (j := 2) hO7 rfl
      have o3 := box_cell (j := 3) hO7 rfl
      have o4 := box_cell (j := 4) hO7 rfl
      have r0 := box_cell (j := 0) HRx.out rfl
      have r1 := box_cell (j := 1) HRx.out rfl
      have r2 := box_cell (j := 2) HRx.out rfl
      have r3 := box_cell (j := 3) HRx.out rfl
      have r4 := box_cell (j := 4) HRx.out rfl
      have rf0 := box_free HRx.out 0
      have rf1 := box_free HRx.out 1
      have rf2 := box_free HRx.out 2
      have rf3 := box_free HRx.out 3
      have rf4 := box_free HRx.out 4
      go_wp2_with fail
      have hfin := put5 (u0 := (.int .i64 pr)) (u1 := (.int .i64 (pc + 1))) (u2 := (.slice D2 q2 f2)) (u3 := (.int .i64 st)) (u4 := (.slice D4 q4 f4)) HRx.out
      have y0 := box_cell (j := 0) hfin.1 rfl
      have y1 := box_cell (j := 1) hfin.1 rfl
      have y2 := box_cell (j := 2) hfin.1 rfl
      have y3 := box_cell (j := 3) hfin.1 rfl
      have y4 := box_cell (j := 4) hfin.1 rfl
      refine bodyPost_ret (v := .agg #[.int .i64 pr, .int .i64 (pc + 1), .slice D2 q2 f2, .int .i64 st, .slice D4 q4 f4]) (by simp [results, Tryz.results27, go_sem, y0, y1, y2, y3, y4]) rfl ?_
      rw [HST.out]
      exact HoldG.copied ((HH7.out).stay (fun k hk _ => hfin.2.1 k (by omega)) (Nat.le_of_eq hfin.2.2.symm)) (fun k hk => by omega) (below_put5 HBx.out (by omega))
    · skip
      subst hop
      go_upto_region 11 with (fail)
      clear h1 h2
      clear i0 i1 i2 i3
      refine wp_region_inv (fun AC0 L a W => ∃ sl30 sl31 sl32 sl33 sl34 sl35 sl36 sl37 sl38 sl39 sl40 sl41 sl42 sl43 sl44 : Value, a = (((((((((((((((AC0.put (some 30) sl30).put (some 31) sl31).put (some 32) sl32).put (some 33) sl33).put (some 34) sl34).put (some 35) sl35).put (some 36) sl36).put (some 37) sl37).put (some 38) sl38).put (some 39) sl39).put (some 40) sl40).put (some 41) sl41).put (some 42) sl42).put (some 43) sl43).put (some 44) sl44) ∧ (((∀ j, 14 ≤ j → ¬ L j) ∧ Below W2.heap.size W2 W ∧ (L 0 → sl30 = (.agg #[.int .i64 pr, .int .i64 pc, .slice A2 n2 c2, .int .i64 st, .slice A4 n4 c4])) ∧ (L 1 → sl31 = .pointer (some ⟨bi, 1, none⟩)) ∧ (L 2 → sl32 = (.int .i64 ia)) ∧ (L 3 → sl33 = .pointer (some ⟨bi, 0, none⟩)) ∧ (L 4 → sl34 = (.int .i64 5)) ∧ (L 5 → sl35 = (.agg #[.int .i64 pr, .int .i64 pc, .slice A2 n2 c2, .int .i64 st, .slice A4 n4 c4])) ∧ (L 6 → sl36 = .pointer (some ⟨bi, 2, none⟩)) ∧ (L 7 → sl37 = (.int .i64 ib)) ∧ (L 8 → sl38 = (.int .i64 xb)) ∧ (L 9 → sl39 = (.agg #[.int .i64 pr, .int .i64 pc, .slice A2 n2 c2, .int .i64 st, .slice A4 n4 c4])) ∧ (L 10 → sl40 = .pointer (some ⟨bi, 3, none⟩)) ∧ (L 11 → sl41 = (.int .i64 ic)) ∧ (L 12 → sl42 = (.int .i64 xc)) ∧ (L 13 → sl43 = (.int .i64 xv)) ∧ (L 2 → L 1) ∧ (L 4 → L 3) ∧ (L 13 → L 3) ∧ (L 13 → L 4) ∧ (L 8 → L 5) ∧ (L 12 → L 5) ∧ (L 13 → L 5) ∧ (L 7 → L 6) ∧ (L 8 → L 6) ∧ (L 12 → L 6) ∧ (L 13 → L 6) ∧ (L 8 → L 7) ∧ (L 12 → L 7) ∧ (L 13 → L 7) ∧ (L 13 → L 8) ∧ (L 12 → L 9) ∧ (L 13 → L 9) ∧ (L 11 → L 10) ∧ (L 12 → L 10) ∧ (L 13 → L 10) ∧ (L 12 → L 11) ∧ (L 13 → L 11) ∧ (L 13 → L 12)) ∨ ((∀ j, j < 15 → L j) ∧ (∀ j, 15 ≤ j → ¬ L j) ∧ ∃ (D2 : Option Addr) (q2 f2 : Nat) (D4 : Option Addr) (q4 f4 : Nat), sl44 = .agg #[.int .i64 pr, .int .i64 pc, .slice D2 q2 f2, .int .i64 st, .slice D4 q4 f4] ∧ HoldG (fun g => W2.heap.size ≤ g ∧ g < W.heap.size) ⟨pr, pc, regs.set ia.toNat xv, st, tr⟩ W D2 q2 f2 D4 q4 f4 ∧ Below W2.heap.size W2 W) ∨ ((∀ j, j < 16 → L j) ∧ (∀ j, 16 ≤ j → ¬ L j) ∧ ∃ (w5 : World) (D2 : Option Addr) (q2 f2 : Nat) (D4 : Option Addr) (q4 f4 : Nat), W = (((((w5.setCell ⟨bo, 0, none⟩ (.int .i64 pr)).setCell ⟨bo, 1, none⟩ (.int .i64 pc)).setCell ⟨bo, 2, none⟩ (.slice D2 q2 f2)).setCell ⟨bo, 3, none⟩ (.int .i64 st)).setCell ⟨bo, 4, none⟩ (.slice D4 q4 f4)) ∧ HoldG (fun g => W2.heap.size ≤ g ∧ g < w5.heap.size) ⟨pr, pc, regs.set ia.toNat xv, st, tr⟩ w5 D2 q2 f2 D4 q4 f4 ∧ Below W2.heap.size W2 w5))) (by kernel_rfl) (by kernel_rfl) ?_ ?_ ?_
      · exact ⟨undef, undef, undef, undef, undef, undef, undef, undef, undef, undef, undef, undef, undef, undef, undef, by simp only [Act.put, List.setIfInBounds_toArray, List.set_cons_zero, List.set_cons_succ], .inl ⟨fun _ _ h => h, Below.drew (Below.refl _ _), fun h => absurd h id, fun h => absurd h id, fun h => absurd h id, fun h => absurd h id, fun h => absurd h id, fun h => absurd h id, fun h => absurd h id, fun h => absurd h id, fun h => absurd h id, fun h => absurd h id, fun h => absurd h id, fun h => absurd h id, fun h => absurd h id, fun h => absurd h id, fun h => absurd h id, fun h => absurd h id, fun h => absurd h id, fun h => absurd h id, fun h => absurd h id, fun h => absurd h id, fun h => absurd h id, fun h => absurd h id, fun h => absurd h id, fun h => absurd h id, fun h => absurd h id, fun h => absurd h id, fun h => absurd h id, fun h => absurd h id, fun h => absurd h id, fun h => absurd h id, fun h => absurd h id, fun h => absurd h id, fun h => absurd h id, fun h => absurd h id, fun h => absurd h id, fun h => absurd h id, fun h => absurd h id⟩⟩
      · intro Q9; refine InvFrom.cons (fun L a W hI hN hD K hK => ?_) ?_
        · obtain ⟨sl30, sl31, sl32, sl33, sl34, sl35, sl36, sl37, sl38, sl39, sl40, sl41, sl42, sl43, sl44, ha, hI⟩ := hI
          subst ha
          rcases hI with hI | h9 | h9
          rotate_left
          · exact absurd (h9.1 0 (by decide)) hN
          · exact absurd (h9.1 0 (by decide)) hN
          obtain ⟨hn, hB, f0, f1, f2, f3, f4, f5, f6, f7, f8, f9, f10, f11, f12, f13, g2_1, g4_3, g13_3, g13_4, g8_5, g12_5, g13_5, g7_6, g8_6, g12_6, g13_6, g8_7, g12_7, g13_7, g13_8, g12_9, g13_9, g11_10, g12_10, g13_10, g12_11, g13_11, g13_12⟩ := hI
          have hz := hB.size
          have pg0 := box_cell (j := 0) (box_keep HG2.out hB (by omega)) rfl
          have pg1 := box_cell (j := 1) (box_keep HG2.out hB (by omega)) rfl
          have pg2 := box_cell (j := 2) (box_keep HG2.out hB (by omega)) rfl
          have pg3 := box_cell (j := 3) (box_keep HG2.out hB (by omega)) rfl
          have pg4 := box_cell (j := 4) (box_keep HG2.out hB (by omega)) rfl
          refine Kept.mk ?_
          simp only [Act.put, List.setIfInBounds_toArray, List.set_cons_zero, List.set_cons_succ]
          go_simp
          refine hK.out _ _ ?_
          exact ⟨(.agg #[.int .i64 pr, .int .i64 pc, .slice A2 n2 c2, .int .i64 st, .slice A4 n4 c4]), sl31, sl32, sl33, sl34, sl35, sl36, sl37, sl38, sl39, sl40, sl41, sl42, sl43, sl44, by simp only [Act.put, List.setIfInBounds_toArray, List.set_cons_zero, List.set_cons_succ], .inl ⟨fun j hj h => h.elim (hn j hj) (by omega), hB, fun _ => rfl, fun h => f1 (h.resolve_right (by decide)), fun h => f2 (h.resolve_right (by decide)), fun h => f3 (h.resolve_right (by decide)), fun h => f4 (h.resolve_right (by decide)), fun h => f5 (h.resolve_right (by decide)), fun h => f6 (h.resolve_right (by decide)), fun h => f7 (h.resolve_right (by decide)), fun h => f8 (h.resolve_right (by decide)), fun h => f9 (h.resolve_right (by decide)), fun h => f10 (h.resolve_right (by decide)), fun h => f11 (h.resolve_right (by decide)), fun h => f12 (h.resolve_right (by decide)), fun h => f13 (h.resolve_right (by decide)), fun h => .inl (g2_1 (h.resolve_right (by decide))), fun h => .inl (g4_3 (h.resolve_right (by decide))), fun h => .inl (g13_3 (h.resolve_right (by decide))), fun h => .inl (g13_4 (h.resolve_right (by decide))), fun h => .inl (g8_5 (h.resolve_right (by decide))), fun h => .inl (g12_5 (h.resolve_right (by decide))), fun h => .inl (g13_5 (h.resolve_right (by decide))), fun h => .inl (g7_6 (h.resolve_right (by decide))), fun h => .inl (g8_6 (h.resolve_right (by decide))), fun h => .inl (g12_6 (h.resolve_right (by decide))), fun h => .inl (g13_6 (h.resolve_right (by decide))), fun h => .inl (g8_7 (h.resolve_right (by decide))), fun h => .inl (g12_7 (h.resolve_right (by decide))), fun h => .inl (g13_7 (h.resolve_right (by decide))), fun h => .inl (g13_8 (h.resolve_right (by decide))), fun h => .inl (g12_9 (h.resolve_right (by decide))), fun h => .inl (g13_9 (h.resolve_right (by decide))), fun h => .inl (g11_10 (h.resolve_right (by decide))), fun h => .inl (g12_10 (h.resolve_right (by decide))), fun h => .inl (g13_10 (h.resolve_right (by decide))), fun h => .inl (g12_11 (h.resolve_right (by decide))), fun h => .inl (g13_11 (h.resolve_right (by decide))), fun h => .inl (g13_12 (h.resolve_right (by decide)))⟩⟩
        refine InvFrom.cons (fun L a W hI hN hD K hK => ?_) ?_
        · obtain ⟨sl30, sl31, sl32, sl33, sl34, sl35, sl36, sl37, sl38, sl39, sl40, sl41, sl42, sl43, sl44, ha, hI⟩ := hI
          subst ha
          rcases hI with hI | h9 | h9
          rotate_left
          · exact absurd (h9.1 1 (by decide)) hN
          · exact absurd (h9.1 1 (by decide)) hN
          obtain ⟨hn, hB, f0, f1, f2, f3, f4, f5, f6, f7, f8, f9, f10, f11, f12, f13, g2_1, g4_3, g13_3, g13_4, g8_5, g12_5, g13_5, g7_6, g8_6, g12_6, g13_6, g8_7, g12_7, g13_7, g13_8, g12_9, g13_9, g11_10, g12_10, g13_10, g12_11, g13_11, g13_12⟩ := hI
          have hz := hB.size
          refine Kept.mk ?_
          simp only [Act.put, List.setIfInBounds_toArray, List.set_cons_zero, List.set_cons_succ]
          go_simp
          refine hK.out _ _ ?_
          exact ⟨sl30, .pointer (some ⟨bi, 1, none⟩), sl32, sl33, sl34, sl35, sl36, sl37, sl38, sl39, sl40, sl41, sl42, sl43, sl44, by simp only [Act.put, List.setIfInBounds_toArray, List.set_cons_zero, List.set_cons_succ], .inl ⟨fun j hj h => h.elim (hn j hj) (by omega), hB, fun h => f0 (h.resolve_right (by decide)), fun _ => rfl, fun h => f2 (h.resolve_right (by decide)), fun h => f3 (h.resolve_right (by decide)), fun h => f4 (h.resolve_right (by decide)), fun h => f5 (h.resolve_right (by decide)), fun h => f6 (h.resolve_right (by decide)), fun h => f7 (h.resolve_right (by decide)), fun h => f8 (h.resolve_right (by decide)), fun h => f9 (h.resolve_right (by decide)), fun h => f10 (h.resolve_right (by decide)), fun h => f11 (h.resolve_right (by decide)), fun h => f12 (h.resolve_right (by decide)), fun h => f13 (h.resolve_right (by decide)), fun h => .inl (g2_1 (h.resolve_right (by decide))), fun h => .inl (g4_3 (h.resolve_right (by decide))), fun h => .inl (g13_3 (h.resolve_right (by decide))), fun h => .inl (g13_4 (h.resolve_right (by decide))), fun h => .inl (g8_5 (h.resolve_right (by decide))), fun h => .inl (g12_5 (h.resolve_right (by decide))), fun h => .inl (g13_5 (h.resolve_right (by decide))), fun h => .inl (g7_6 (h.resolve_right (by decide))), fun h => .inl (g8_6 (h.resolve_right (by decide))), fun h => .inl (g12_6 (h.resolve_right (by decide))), fun h => .inl (g13_6 (h.resolve_right (by decide))), fun h => .inl (g8_7 (h.resolve_right (by decide))), fun h => .inl (g12_7 (h.resolve_right (by decide))), fun h => .inl (g13_7 (h.resolve_right (by decide))), fun h => .inl (g13_8 (h.resolve_right (by decide))), fun h => .inl (g12_9 (h.resolve_right (by decide))), fun h => .inl (g13_9 (h.resolve_right (by decide))), fun h => .inl (g11_10 (h.resolve_right (by decide))), fun h => .inl (g12_10 (h.resolve_right (by decide))), fun h => .inl (g13_10 (h.resolve_right (by decide))), fun h => .inl (g12_11 (h.resolve_right (by decide))), fun h => .inl (g13_11 (h.resolve_right (by decide))), fun h => .inl (g13_12 (h.resolve_right (by decide)))⟩⟩
        refine InvFrom.cons (fun L a W hI hN hD K hK => ?_) ?_
        · obtain ⟨sl30, sl31, sl32, sl33, sl34, sl35, sl36, sl37, sl38, sl39, sl40, sl41, sl42, sl43, sl44, ha, hI⟩ := hI
          subst ha
          rcases hI with hI | h9 | h9
          rotate_left
          · exact absurd (h9.1 2 (by decide)) hN
          · exact absurd (h9.1 2 (by decide)) hN
          obtain ⟨hn, hB, f0, f1, f2, f3, f4, f5, f6, f7, f8, f9, f10, f11, f12, f13, g2_1, g4_3, g13_3, g13_4, g8_5, g12_5, g13_5, g7_6, g8_6, g12_6, g13_6, g8_7, g12_7, g13_7, g13_8, g12_9, g13_9, g11_10, g12_10, g13_10, g12_11, g13_11, g13_12⟩ := hI
          have hz := hB.size
          have d1 := f1 (hD 1 (by kernel_rfl))
          subst d1
          have pi0 := box_cell (j := 0) (box_keep HI2.out hB (by omega)) rfl
          have pi1 := box_cell (j := 1) (box_keep HI2.out hB (by omega)) rfl
          have pi2 := box_cell (j := 2) (box_keep HI2.out hB (by omega)) rfl
          have pi3 := box_cell (j := 3) (box_keep HI2.out hB (by omega)) rfl
          refine Kept.mk ?_
          simp only [Act.put, List.setIfInBounds_toArray, List.set_cons_zero, List.set_cons_succ]
          go_simp
          refine hK.out _ _ ?_
          exact ⟨sl30, .pointer (some ⟨bi, 1, none⟩), (.int .i64 ia), sl33, sl34, sl35, sl36, sl37, sl38, sl39, sl40, sl41, sl42, sl43, sl44, by simp only [Act.put, List.setIfInBounds_toArray, List.set_cons_zero, List.set_cons_succ], .inl ⟨fun j hj h => h.elim (hn j hj) (by omega), hB, fun h => f0 (h.resolve_right (by decide)), fun h => f1 (h.resolve_right (by decide)), fun _ => rfl, fun h => f3 (h.resolve_right (by decide)), fun h => f4 (h.resolve_right (by decide)), fun h => f5 (h.resolve_right (by decide)), fun h => f6 (h.resolve_right (by decide)), fun h => f7 (h.resolve_right (by decide)), fun h => f8 (h.resolve_right (by decide)), fun h => f9 (h.resolve_right (by decide)), fun h => f10 (h.resolve_right (by decide)), fun h => f11 (h.resolve_right (by decide)), fun h => f12 (h.resolve_right (by decide)), fun h => f13 (h.resolve_right (by decide)), fun _ => .inl (hD 1 (by kernel_rfl)), fun h => .inl (g4_3 (h.resolve_right (by decide))), fun h => .inl (g13_3 (h.resolve_right (by decide))), fun h => .inl (g13_4 (h.resolve_right (by decide))), fun h => .inl (g8_5 (h.resolve_right (by decide))), fun h => .inl (g12_5 (h.resolve_right (by decide))), fun h => .inl (g13_5 (h.resolve_right (by decide))), fun h => .inl (g7_6 (h.resolve_right (by decide))), fun h => .inl (g8_6 (h.resolve_right (by decide))), fun h => .inl (g12_6 (h.resolve_right (by decide))), fun h => .inl (g13_6 (h.resolve_right (by decide))), fun h => .inl (g8_7 (h.resolve_right (by decide))), fun h => .inl (g12_7 (h.resolve_right (by decide))), fun h => .inl (g13_7 (h.resolve_right (by decide))), fun h => .inl (g13_8 (h.resolve_right (by decide))), fun h => .inl (g12_9 (h.resolve_right (by decide))), fun h => .inl (g13_9 (h.resolve_right (by decide))), fun h => .inl (g11_10 (h.resolve_right (by decide))), fun h => .inl (g12_10 (h.resolve_right (by decide))), fun h => .inl (g13_10 (h.resolve_right (by decide))), fun h => .inl (g12_11 (h.resolve_right (by decide))), fun h => .inl (g13_11 (h.resolve_right (by decide))), fun h => .inl (g13_12 (h.resolve_right (by decide)))⟩⟩
        refine InvFrom.cons (fun L a W hI hN hD K hK => ?_) ?_
        · obtain ⟨sl30, sl31, sl32, sl33, sl34, sl35, sl36, sl37, sl38, sl39, sl40, sl41, sl42, sl43, sl44, ha, hI⟩ := hI
          subst ha
          rcases hI with hI | h9 | h9
          rotate_left
          · exact absurd (h9.1 3 (by decide)) hN
          · exact absurd (h9.1 3 (by decide)) hN
          obtain ⟨hn, hB, f0, f1, f2, f3, f4, f5, f6, f7, f8, f9, f10, f11, f12, f13, g2_1, g4_3, g13_3, g13_4, g8_5, g12_5, g13_5, g7_6, g8_6, g12_6, g13_6, g8_7, g12_7, g13_7, g13_8, g12_9, g13_9, g11_10, g12_10, g13_10, g12_11, g13_11, g13_12⟩ := hI
          have hz := hB.size
          refine Kept.mk ?_
          simp only [Act.put, List.setIfInBounds_toArray, List.set_cons_zero, List.set_cons_succ]
          go_simp
          refine hK.out _ _ ?_
          exact ⟨sl30, sl31, sl32, .pointer (some ⟨bi, 0, none⟩), sl34, sl35, sl36, sl37, sl38, sl39, sl40, sl41, sl42, sl43, sl44, by simp only [Act.put, List.setIfInBounds_toArray, List.set_cons_zero, List.set_cons_succ], .inl ⟨fun j hj h => h.elim (hn j hj) (by omega), hB, fun h => f0 (h.resolve_right (by decide)), fun h => f1 (h.resolve_right (by decide)), fun h => f2 (h.resolve_right (by decide)), fun _ => rfl, fun h => f4 (h.resolve_right (by decide)), fun h => f5 (h.resolve_right (by decide)), fun h => f6 (h.resolve_right (by decide)), fun h => f7 (h.resolve_right (by decide)), fun h => f8 (h.resolve_right (by decide)), fun h => f9 (h.resolve_right (by decide)), fun h => f10 (h.resolve_right (by decide)), fun h => f11 (h.resolve_right (by decide)), fun h => f12 (h.resolve_right (by decide)), fun h => f13 (h.resolve_right (by decide)), fun h => .inl (g2_1 (h.resolve_right (by decide))), fun h => .inl (g4_3 (h.resolve_right (by decide))), fun h => .inl (g13_3 (h.resolve_right (by decide))), fun h => .inl (g13_4 (h.resolve_right (by decide))), fun h => .inl (g8_5 (h.resolve_right (by decide))), fun h => .inl (g12_5 (h.resolve_right (by decide))), fun h => .inl (g13_5 (h.resolve_right (by decide))), fun h => .inl (g7_6 (h.resolve_right (by decide))), fun h => .inl (g8_6 (h.resolve_right (by decide))), fun h => .inl (g12_6 (h.resolve_right (by decide))), fun h => .inl (g13_6 (h.resolve_right (by decide))), fun h => .inl (g8_7 (h.resolve_right (by decide))), fun h => .inl (g12_7 (h.resolve_right (by decide))), fun h => .inl (g13_7 (h.resolve_right (by decide))), fun h => .inl (g13_8 (h.resolve_right (by decide))), fun h => .inl (g12_9 (h.resolve_right (by decide))), fun h => .inl (g13_9 (h.resolve_right (by decide))), fun h => .inl (g11_10 (h.resolve_right (by decide))), fun h => .inl (g12_10 (h.resolve_right (by decide))), fun h => .inl (g13_10 (h.resolve_right (by decide))), fun h => .inl (g12_11 (h.resolve_right (by decide))), fun h => .inl (g13_11 (h.resolve_right (by decide))), fun h => .inl (g13_12 (h.resolve_right (by decide)))⟩⟩
        refine InvFrom.cons (fun L a W hI hN hD K hK => ?_) ?_
        · obtain ⟨sl30, sl31, sl32, sl33, sl34, sl35, sl36, sl37, sl38, sl39, sl40, sl41, sl42, sl43, sl44, ha, hI⟩ := hI
          subst ha
          rcases hI with hI | h9 | h9
          rotate_left
          · exact absurd (h9.1 4 (by decide)) hN
          · exact absurd (h9.1 4 (by decide)) hN
          obtain ⟨hn, hB, f0, f1, f2, f3, f4, f5, f6, f7, f8, f9, f10, f11, f12, f13, g2_1, g4_3, g13_3, g13_4, g8_5, g12_5, g13_5, g7_6, g8_6, g12_6, g13_6, g8_7, g12_7, g13_7, g13_8, g12_9, g13_9, g11_10, g12_10, g13_10, g12_11, g13_11, g13_12⟩ := hI
          have hz := hB.size
          have d3 := f3 (hD 3 (by kernel_rfl))
          subst d3
          have pi0 := box_cell (j := 0) (box_keep HI2.out hB (by omega)) rfl
          have pi1 := box_cell (j := 1) (box_keep HI2.out hB (by omega)) rfl
          have pi2 := box_cell (j := 2) (box_keep HI2.out hB (by omega)) rfl
          have pi3 := box_cell (j := 3) (box_keep HI2.out hB (by omega)) rfl
          refine Kept.mk ?_
          simp only [Act.put, List.setIfInBounds_toArray, List.set_cons_zero, List.set_cons_succ]
          go_simp
          refine hK.out _ _ ?_
          exact ⟨sl30, sl31, sl32, .pointer (some ⟨bi, 0, none⟩), (.int .i64 5), sl35, sl36, sl37, sl38, sl39, sl40, sl41, sl42, sl43, sl44, by simp only [Act.put, List.setIfInBounds_toArray, List.set_cons_zero, List.set_cons_succ], .inl ⟨fun j hj h => h.elim (hn j hj) (by omega), hB, fun h => f0 (h.resolve_right (by decide)), fun h => f1 (h.resolve_right (by decide)), fun h => f2 (h.resolve_right (by decide)), fun h => f3 (h.resolve_right (by decide)), fun _ => rfl, fun h => f5 (h.resolve_right (by decide)), fun h => f6 (h.resolve_right (by decide)), fun h => f7 (h.resolve_right (by decide)), fun h => f8 (h.resolve_right (by decide)), fun h => f9 (h.resolve_right (by decide)), fun h => f10 (h.resolve_right (by decide)), fun h => f11 (h.resolve_right (by decide)), fun h => f12 (h.resolve_right (by decide)), fun h => f13 (h.resolve_right (by decide)), fun h => .inl (g2_1 (h.resolve_right (by decide))), fun _ => .inl (hD 3 (by kernel_rfl)), fun h => .inl (g13_3 (h.resolve_right (by decide))), fun h => .inl (g13_4 (h.resolve_right (by decide))), fun h => .inl (g8_5 (h.resolve_right (by decide))), fun h => .inl (g12_5 (h.resolve_right (by decide))), fun h => .inl (g13_5 (h.resolve_right (by decide))), fun h => .inl (g7_6 (h.resolve_right (by decide))), fun h => .inl (g8_6 (h.resolve_right (by decide))), fun h => .inl (g12_6 (h.resolve_right (by decide))), fun h => .inl (g13_6 (h.resolve_right (by decide))), fun h => .inl (g8_7 (h.resolve_right (by decide))), fun h => .inl (g12_7 (h.resolve_right (by decide))), fun h => .inl (g13_7 (h.resolve_right (by decide))), fun h => .inl (g13_8 (h.resolve_right (by decide))), fun h => .inl (g12_9 (h.resolve_right (by decide))), fun h => .inl (g13_9 (h.resolve_right (by decide))), fun h => .inl (g11_10 (h.resolve_right (by decide))), fun h => .inl (g12_10 (h.resolve_right (by decide))), fun h => .inl (g13_10 (h.resolve_right (by decide))), fun h => .inl (g12_11 (h.resolve_right (by decide))), fun h => .inl (g13_11 (h.resolve_right (by decide))), fun h => .inl (g13_12 (h.resolve_right (by decide)))⟩⟩
        refine InvFrom.cons (fun L a W hI hN hD K hK => ?_) ?_
        · obtain ⟨sl30, sl31, sl32, sl33, sl34, sl35, sl36, sl37, sl38, sl39, sl40, sl41, sl42, sl43, sl44, ha, hI⟩ := hI
          subst ha
          rcases hI with hI | h9 | h9
          rotate_left
          · exact absurd (h9.1 5 (by decide)) hN
          · exact absurd (h9.1 5 (by decide)) hN
          obtain ⟨hn, hB, f0, f1, f2, f3, f4, f5, f6, f7, f8, f9, f10, f11, f12, f13, g2_1, g4_3, g13_3, g13_4, g8_5, g12_5, g13_5, g7_6, g8_6, g12_6, g13_6, g8_7, g12_7, g13_7, g13_8, g12_9, g13_9, g11_10, g12_10, g13_10, g12_11, g13_11, g13_12⟩ := hI
          have hz := hB.size
          have pg0 := box_cell (j := 0) (box_keep HG2.out hB (by omega)) rfl
          have pg1 := box_cell (j := 1) (box_keep HG2.out hB (by omega)) rfl
          have pg2 := box_cell (j := 2) (box_keep HG2.out hB (by omega)) rfl
          have pg3 := box_cell (j := 3) (box_keep HG2.out hB (by omega)) rfl
          have pg4 := box_cell (j := 4) (box_keep HG2.out hB (by omega)) rfl
          refine Kept.mk ?_
          simp only [Act.put, List.setIfInBounds_toArray, List.set_cons_zero, List.set_cons_succ]
          go_simp
          refine hK.out _ _ ?_
          exact ⟨sl30, sl31, sl32, sl33, sl34, (.agg #[.int .i64 pr, .int .i64 pc, .slice A2 n2 c2, .int .i64 st, .slice A4 n4 c4]), sl36, sl37, sl38, sl39, sl40, sl41, sl42, sl43, sl44, by simp only [Act.put, List.setIfInBounds_toArray, List.set_cons_zero, List.set_cons_succ], .inl ⟨fun j hj h => h.elim (hn j hj) (by omega), hB, fun h => f0 (h.resolve_right (by decide)), fun h => f1 (h.resolve_right (by decide)), fun h => f2 (h.resolve_right (by decide)), fun h => f3 (h.resolve_right (by decide)), fun h => f4 (h.resolve_right (by decide)), fun _ => rfl, fun h => f6 (h.resolve_right (by decide)), fun h => f7 (h.resolve_right (by decide)), fun h => f8 (h.resolve_right (by decide)), fun h => f9 (h.resolve_right (by decide)), fun h => f10 (h.resolve_right (by decide)), fun h => f11 (h.resolve_right (by decide)), fun h => f12 (h.resolve_right (by decide)), fun h => f13 (h.resolve_right (by decide)), fun h => .inl (g2_1 (h.resolve_right (by decide))), fun h => .inl (g4_3 (h.resolve_right (by decide))), fun h => .inl (g13_3 (h.resolve_right (by decide))), fun h => .inl (g13_4 (h.resolve_right (by decide))), fun h => .inl (g8_5 (h.resolve_right (by decide))), fun h => .inl (g12_5 (h.resolve_right (by decide))), fun h => .inl (g13_5 (h.resolve_right (by decide))), fun h => .inl (g7_6 (h.resolve_right (by decide))), fun h => .inl (g8_6 (h.resolve_right (by decide))), fun h => .inl (g12_6 (h.resolve_right (by decide))), fun h => .inl (g13_6 (h.resolve_right (by decide))), fun h => .inl (g8_7 (h.resolve_right (by decide))), fun h => .inl (g12_7 (h.resolve_right (by decide))), fun h => .inl (g13_7 (h.resolve_right (by decide))), fun h => .inl (g13_8 (h.resolve_right (by decide))), fun h => .inl (g12_9 (h.resolve_right (by decide))), fun h => .inl (g13_9 (h.resolve_right (by decide))), fun h => .inl (g11_10 (h.resolve_right (by decide))), fun h => .inl (g12_10 (h.resolve_right (by decide))), fun h => .inl (g13_10 (h.resolve_right (by decide))), fun h => .inl (g12_11 (h.resolve_right (by decide))), fun h => .inl (g13_11 (h.resolve_right (by decide))), fun h => .inl (g13_12 (h.resolve_right (by decide)))⟩⟩
        refine InvFrom.cons (fun L a W hI hN hD K hK => ?_) ?_
        · obtain ⟨sl30, sl31, sl32, sl33, sl34, sl35, sl36, sl37, sl38, sl39, sl40, sl41, sl42, sl43, sl44, ha, hI⟩ := hI
          subst ha
          rcases hI with hI | h9 | h9
          rotate_left
          · exact absurd (h9.1 6 (by decide)) hN
          · exact absurd (h9.1 6 (by decide)) hN
          obtain ⟨hn, hB, f0, f1, f2, f3, f4, f5, f6, f7, f8, f9, f10, f11, f12, f13, g2_1, g4_3, g13_3, g13_4, g8_5, g12_5, g13_5, g7_6, g8_6, g12_6, g13_6, g8_7, g12_7, g13_7, g13_8, g12_9, g13_9, g11_10, g12_10, g13_10, g12_11, g13_11, g13_12⟩ := hI
          have hz := hB.size
          refine Kept.mk ?_
          simp only [Act.put, List.setIfInBounds_toArray, List.set_cons_zero, List.set_cons_succ]
          go_simp
          refine hK.out _ _ ?_
          exact ⟨sl30, sl31, sl32, sl33, sl34, sl35, .pointer (some ⟨bi, 2, none⟩), sl37, sl38, sl39, sl40, sl41, sl42, sl43, sl44, by simp only [Act.put, List.setIfInBounds_toArray, List.set_cons_zero, List.set_cons_succ], .inl ⟨fun j hj h => h.elim (hn j hj) (by omega), hB, fun h => f0 (h.resolve_right (by decide)), fun h => f1 (h.resolve_right (by decide)), fun h => f2 (h.resolve_right (by decide)), fun h => f3 (h.resolve_right (by decide)), fun h => f4 (h.resolve_right (by decide)), fun h => f5 (h.resolve_right (by decide)), fun _ => rfl, fun h => f7 (h.resolve_right (by decide)), fun h => f8 (h.resolve_right (by decide)), fun h => f9 (h.resolve_right (by decide)), fun h => f10 (h.resolve_right (by decide)), fun h => f11 (h.resolve_right (by decide)), fun h => f12 (h.resolve_right (by decide)), fun h => f13 (h.resolve_right (by decide)), fun h => .inl (g2_1 (h.resolve_right (by decide))), fun h => .inl (g4_3 (h.resolve_right (by decide))), fun h => .inl (g13_3 (h.resolve_right (by decide))), fun h => .inl (g13_4 (h.resolve_right (by decide))), fun h => .inl (g8_5 (h.resolve_right (by decide))), fun h => .inl (g12_5 (h.resolve_right (by decide))), fun h => .inl (g13_5 (h.resolve_right (by decide))), fun h => .inl (g7_6 (h.resolve_right (by decide))), fun h => .inl (g8_6 (h.resolve_right (by decide))), fun h => .inl (g12_6 (h.resolve_right (by decide))), fun h => .inl (g13_6 (h.resolve_right (by decide))), fun h => .inl (g8_7 (h.resolve_right (by decide))), fun h => .inl (g12_7 (h.resolve_right (by decide))), fun h => .inl (g13_7 (h.resolve_right (by decide))), fun h => .inl (g13_8 (h.resolve_right (by decide))), fun h => .inl (g12_9 (h.resolve_right (by decide))), fun h => .inl (g13_9 (h.resolve_right (by decide))), fun h => .inl (g11_10 (h.resolve_right (by decide))), fun h => .inl (g12_10 (h.resolve_right (by decide))), fun h => .inl (g13_10 (h.resolve_right (by decide))), fun h => .inl (g12_11 (h.resolve_right (by decide))), fun h => .inl (g13_11 (h.resolve_right (by decide))), fun h => .inl (g13_12 (h.resolve_right (by decide)))⟩⟩
        refine InvFrom.cons (fun L a W hI hN hD K hK => ?_) ?_
        · obtain ⟨sl30, sl31, sl32, sl33, sl34, sl35, sl36, sl37, sl38, sl39, sl40, sl41, sl42, sl43, sl44, ha, hI⟩ := hI
          subst ha
          rcases hI with hI | h9 | h9
          rotate_left
          · exact absurd (h9.1 7 (by decide)) hN
          · exact absurd (h9.1 7 (by decide)) hN
          obtain ⟨hn, hB, f0, f1, f2, f3, f4, f5, f6, f7, f8, f9, f10, f11, f12, f13, g2_1, g4_3, g13_3, g13_4, g8_5, g12_5, g13_5, g7_6, g8_6, g12_6, g13_6, g8_7, g12_7, g13_7, g13_8, g12_9, g13_9, g11_10, g12_10, g13_10, g12_11, g13_11, g13_12⟩ := hI
          have hz := hB.size
          have d6 := f6 (hD 6 (by kernel_rfl))
          subst d6
          have pi0 := box_cell (j := 0) (box_keep HI2.out hB (by omega)) rfl
          have pi1 := box_cell (j := 1) (box_keep HI2.out hB (by omega)) rfl
          have pi2 := box_cell (j := 2) (box_keep HI2.out hB (by omega)) rfl
          have pi3 := box_cell (j := 3) (box_keep HI2.out hB (by omega)) rfl
          refine Kept.mk ?_
          simp only [Act.put, List.setIfInBounds_toArray, List.set_cons_zero, List.set_cons_succ]
          go_simp
          refine hK.out _ _ ?_
          exact ⟨sl30, sl31, sl32, sl33, sl34, sl35, .pointer (some ⟨bi, 2, none⟩), (.int .i64 ib), sl38, sl39, sl40, sl41, sl42, sl43, sl44, by simp only [Act.put, List.setIfInBounds_toArray, List.set_cons_zero, List.set_cons_succ], .inl ⟨fun j hj h => h.elim (hn j hj) (by omega), hB, fun h => f0 (h.resolve_right (by decide)), fun h => f1 (h.resolve_right (by decide)), fun h => f2 (h.resolve_right (by decide)), fun h => f3 (h.resolve_right (by decide)), fun h => f4 (h.resolve_right (by decide)), fun h => f5 (h.resolve_right (by decide)), fun h => f6 (h.resolve_right (by decide)), fun _ => rfl, fun h => f8 (h.resolve_right (by decide)), fun h => f9 (h.resolve_right (by decide)), fun h => f10 (h.resolve_right (by decide)), fun h => f11 (h.resolve_right (by decide)), fun h => f12 (h.resolve_right (by decide)), fun h => f13 (h.resolve_right (by decide)), fun h => .inl (g2_1 (h.resolve_right (by decide))), fun h => .inl (g4_3 (h.resolve_right (by decide))), fun h => .inl (g13_3 (h.resolve_right (by decide))), fun h => .inl (g13_4 (h.resolve_right (by decide))), fun h => .inl (g8_5 (h.resolve_right (by decide))), fun h => .inl (g12_5 (h.resolve_right (by decide))), fun h => .inl (g13_5 (h.resolve_right (by decide))), fun _ => .inl (hD 6 (by kernel_rfl)), fun h => .inl (g8_6 (h.resolve_right (by decide))), fun h => .inl (g12_6 (h.resolve_right (by decide))), fun h => .inl (g13_6 (h.resolve_right (by decide))), fun h => .inl (g8_7 (h.resolve_right (by decide))), fun h => .inl (g12_7 (h.resolve_right (by decide))), fun h => .inl (g13_7 (h.resolve_right (by decide))), fun h => .inl (g13_8 (h.resolve_right (by decide))), fun h => .inl (g12_9 (h.resolve_right (by decide))), fun h => .inl (g13_9 (h.resolve_right (by decide))), fun h => .inl (g11_10 (h.resolve_right (by decide))), fun h => .inl (g12_10 (h.resolve_right (by decide))), fun h => .inl (g13_10 (h.resolve_right (by decide))), fun h => .inl (g12_11 (h.resolve_right (by decide))), fun h => .inl (g13_11 (h.resolve_right (by decide))), fun h => .inl (g13_12 (h.resolve_right (by decide)))⟩⟩
        refine InvFrom.cons (fun L a W hI hN hD K hK => ?_) ?_
        · obtain ⟨sl30, sl31, sl32, sl33, sl34, sl35, sl36, sl37, sl38, sl39, sl40, sl41, sl42, sl43, sl44, ha, hI⟩ := hI
          subst ha
          rcases hI with hI | h9 | h9
          rotate_left
          · exact absurd (h9.1 8 (by decide)) hN
          · exact absurd (h9.1 8 (by decide)) hN
          obtain ⟨hn, hB, f0, f1, f2, f3, f4, f5, f6, f7, f8, f9, f10, f11, f12, f13, g2_1, g4_3, g13_3, g13_4, g8_5, g12_5, g13_5, g7_6, g8_6, g12_6, g13_6, g8_7, g12_7, g13_7, g13_8, g12_9, g13_9, g11_10, g12_10, g13_10, g12_11, g13_11, g13_12⟩ := hI
          have hz := hB.size
          have d5 := f5 (hD 5 (by kernel_rfl))
          subst d5
          have d7 := f7 (hD 7 (by kernel_rfl))
          subst d7
          refine kept_c2 rfl 57 _ _ _ rfl (fenters_of' Tryz.func57 (by kernel_rfl) (by kernel_rfl)) (.agg #[.int .i64 pr, .int .i64 pc, .slice A2 n2 c2, .int .i64 st, .slice A4 n4 c4]) (.int .i64 ib) (by kernel_rfl) (by kernel_rfl) (HXb.out W (HB2.out.trans (hB.mono (by have := HB2.out.size; omega)))) ?_
          rintro e W1 ⟨rfl, hb9⟩
          refine ⟨_, rfl, hK.out _ _ ?_⟩
          exact ⟨sl30, sl31, sl32, sl33, sl34, (.agg #[.int .i64 pr, .int .i64 pc, .slice A2 n2 c2, .int .i64 st, .slice A4 n4 c4]), sl36, (.int .i64 ib), (.int .i64 xb), sl39, sl40, sl41, sl42, sl43, sl44, by simp only [Act.put, List.setIfInBounds_toArray, List.set_cons_zero, List.set_cons_succ], .inl ⟨fun j hj h => h.elim (hn j hj) (by omega), hB.trans (hb9.mono hz), fun h => f0 (h.resolve_right (by decide)), fun h => f1 (h.resolve_right (by decide)), fun h => f2 (h.resolve_right (by decide)), fun h => f3 (h.resolve_right (by decide)), fun h => f4 (h.resolve_right (by decide)), fun h => f5 (h.resolve_right (by decide)), fun h => f6 (h.resolve_right (by decide)), fun h => f7 (h.resolve_right (by decide)), fun _ => rfl, fun h => f9 (h.resolve_right (by decide)), fun h => f10 (h.resolve_right (by decide)), fun h => f11 (h.resolve_right (by decide)), fun h => f12 (h.resolve_right (by decide)), fun h => f13 (h.resolve_right (by decide)), fun h => .inl (g2_1 (h.resolve_right (by decide))), fun h => .inl (g4_3 (h.resolve_right (by decide))), fun h => .inl (g13_3 (h.resolve_right (by decide))), fun h => .inl (g13_4 (h.resolve_right (by decide))), fun _ => .inl (hD 5 (by kernel_rfl)), fun h => .inl (g12_5 (h.resolve_right (by decide))), fun h => .inl (g13_5 (h.resolve_right (by decide))), fun h => .inl (g7_6 (h.resolve_right (by decide))), fun _ => .inl (g7_6 (hD 7 (by kernel_rfl))), fun h => .inl (g12_6 (h.resolve_right (by decide))), fun h => .inl (g13_6 (h.resolve_right (by decide))), fun _ => .inl (hD 7 (by kernel_rfl)), fun h => .inl (g12_7 (h.resolve_right (by decide))), fun h => .inl (g13_7 (h.resolve_right (by decide))), fun h => .inl (g13_8 (h.resolve_right (by decide))), fun h => .inl (g12_9 (h.resolve_right (by decide))), fun h => .inl (g13_9 (h.resolve_right (by decide))), fun h => .inl (g11_10 (h.resolve_right (by decide))), fun h => .inl (g12_10 (h.resolve_right (by decide))), fun h => .inl (g13_10 (h.resolve_right (by decide))), fun h => .inl (g12_11 (h.resolve_right (by decide))), fun h => .inl (g13_11 (h.resolve_right (by decide))), fun h => .inl (g13_12 (h.resolve_right (by decide)))⟩⟩
        refine InvFrom.cons (fun L a W hI hN hD K hK => ?_) ?_
        · obtain ⟨sl30, sl31, sl32, sl33, sl34, sl35, sl36, sl37, sl38, sl39, sl40, sl41, sl42, sl43, sl44, ha, hI⟩ := hI
          subst ha
          rcases hI with hI | h9 | h9
          rotate_left
          · exact absurd (h9.1 9 (by decide)) hN
          · exact absurd (h9.1 9 (by decide)) hN
          obtain ⟨hn, hB, f0, f1, f2, f3, f4, f5, f6, f7, f8, f9, f10, f11, f12, f13, g2_1, g4_3, g13_3, g13_4, g8_5, g12_5, g13_5, g7_6, g8_6, g12_6, g13_6, g8_7, g12_7, g13_7, g13_8, g12_9, g13_9, g11_10, g12_10, g13_10, g12_11, g13_11, g13_12⟩ := hI
          have hz := hB.size
          have pg0 := box_cell (j := 0) (box_keep HG2.out hB (by omega)) rfl
          have pg1 := box_cell (j := 1) (box_keep HG2.out hB (by omega)) rfl
          have pg2 := box_cell (j := 2) (box_keep HG2.out hB (by omega)) rfl
          have pg3 := box_cell (j := 3) (box_keep HG2.out hB (by omega)) rfl
          have pg4 := box_cell (j := 4) (box_keep HG2.out hB (by omega)) rfl
          refine Kept.mk ?_
          simp only [Act.put, List.setIfInBounds_toArray, List.set_cons_zero, List.set_cons_succ]
          go_simp
          refine hK.out _ _ ?_
          exact ⟨sl30, sl31, sl32, sl33, sl34, sl35, sl36, sl37, sl38, (.agg #[.int .i64 pr, .int .i64 pc, .slice A2 n2 c2, .int .i64 st, .slice A4 n4 c4]), sl40, sl41, sl42, sl43, sl44, by simp only [Act.put, List.setIfInBounds_toArray, List.set_cons_zero, List.set_cons_succ], .inl ⟨fun j hj h => h.elim (hn j hj) (by omega), hB, fun h => f0 (h.resolve_right (by decide)), fun h => f1 (h.resolve_right (by decide)), fun h => f2 (h.resolve_right (by decide)), fun h => f3 (h.resolve_right (by decide)), fun h => f4 (h.resolve_right (by decide)), fun h => f5 (h.resolve_right (by decide)), fun h => f6 (h.resolve_right (by decide)), fun h => f7 (h.resolve_right (by decide)), fun h => f8 (h.resolve_right (by decide)), fun _ => rfl, fun h => f10 (h.resolve_right (by decide)), fun h => f11 (h.resolve_right (by decide)), fun h => f12 (h.resolve_right (by decide)), fun h => f13 (h.resolve_right (by decide)), fun h => .inl (g2_1 (h.resolve_right (by decide))), fun h => .inl (g4_3 (h.resolve_right (by decide))), fun h => .inl (g13_3 (h.resolve_right (by decide))), fun h => .inl (g13_4 (h.resolve_right (by decide))), fun h => .inl (g8_5 (h.resolve_right (by decide))), fun h => .inl (g12_5 (h.resolve_right (by decide))), fun h => .inl (g13_5 (h.resolve_right (by decide))), fun h => .inl (g7_6 (h.resolve_right (by decide))), fun h => .inl (g8_6 (h.resolve_right (by decide))), fun h => .inl (g12_6 (h.resolve_right (by decide))), fun h => .inl (g13_6 (h.resolve_right (by decide))), fun h => .inl (g8_7 (h.resolve_right (by decide))), fun h => .inl (g12_7 (h.resolve_right (by decide))), fun h => .inl (g13_7 (h.resolve_right (by decide))), fun h => .inl (g13_8 (h.resolve_right (by decide))), fun h => .inl (g12_9 (h.resolve_right (by decide))), fun h => .inl (g13_9 (h.resolve_right (by decide))), fun h => .inl (g11_10 (h.resolve_right (by decide))), fun h => .inl (g12_10 (h.resolve_right (by decide))), fun h => .inl (g13_10 (h.resolve_right (by decide))), fun h => .inl (g12_11 (h.resolve_right (by decide))), fun h => .inl (g13_11 (h.resolve_right (by decide))), fun h => .inl (g13_12 (h.resolve_right (by decide)))⟩⟩
        refine InvFrom.cons (fun L a W hI hN hD K hK => ?_) ?_
        · obtain ⟨sl30, sl31, sl32, sl33, sl34, sl35, sl36, sl37, sl38, sl39, sl40, sl41, sl42, sl43, sl44, ha, hI⟩ := hI
          subst ha
          rcases hI with hI | h9 | h9
          rotate_left
          · exact absurd (h9.1 10 (by decide)) hN
          · exact absurd (h9.1 10 (by decide)) hN
          obtain ⟨hn, hB, f0, f1, f2, f3, f4, f5, f6, f7, f8, f9, f10, f11, f12, f13, g2_1, g4_3, g13_3, g13_4, g8_5, g12_5, g13_5, g7_6, g8_6, g12_6, g13_6, g8_7, g12_7, g13_7, g13_8, g12_9, g13_9, g11_10, g12_10, g13_10, g12_11, g13_11, g13_12⟩ := hI
          have hz := hB.size
          refine Kept.mk ?_
          simp only [Act.put, List.setIfInBounds_toArray, List.set_cons_zero, List.set_cons_succ]
          go_simp
          refine hK.out _ _ ?_
          exact ⟨sl30, sl31, sl32, sl33, sl34, sl35, sl36, sl37, sl38, sl39, .pointer (some ⟨bi, 3, none⟩), sl41, sl42, sl43, sl44, by simp only [Act.put, List.setIfInBounds_toArray, List.set_cons_zero, List.set_cons_succ], .inl ⟨fun j hj h => h.elim (hn j hj) (by omega), hB, fun h => f0 (h.resolve_right (by decide)), fun h => f1 (h.resolve_right (by decide)), fun h => f2 (h.resolve_right (by decide)), fun h => f3 (h.resolve_right (by decide)), fun h => f4 (h.resolve_right (by decide)), fun h => f5 (h.resolve_right (by decide)), fun h => f6 (h.resolve_right (by decide)), fun h => f7 (h.resolve_right (by decide)), fun h => f8 (h.resolve_right (by decide)), fun h => f9 (h.resolve_right (by decide)), fun _ => rfl, fun h => f11 (h.resolve_right (by decide)), fun h => f12 (h.resolve_right (by decide)), fun h => f13 (h.resolve_right (by decide)), fun h => .inl (g2_1 (h.resolve_right (by decide))), fun h => .inl (g4_3 (h.resolve_right (by decide))), fun h => .inl (g13_3 (h.resolve_right (by decide))), fun h => .inl (g13_4 (h.resolve_right (by decide))), fun h => .inl (g8_5 (h.resolve_right (by decide))), fun h => .inl (g12_5 (h.resolve_right (by decide))), fun h => .inl (g13_5 (h.resolve_right (by decide))), fun h => .inl (g7_6 (h.resolve_right (by decide))), fun h => .inl (g8_6 (h.resolve_right (by decide))), fun h => .inl (g12_6 (h.resolve_right (by decide))), fun h => .inl (g13_6 (h.resolve_right (by decide))), fun h => .inl (g8_7 (h.resolve_right (by decide))), fun h => .inl (g12_7 (h.resolve_right (by decide))), fun h => .inl (g13_7 (h.resolve_right (by decide))), fun h => .inl (g13_8 (h.resolve_right (by decide))), fun h => .inl (g12_9 (h.resolve_right (by decide))), fun h => .inl (g13_9 (h.resolve_right (by decide))), fun h => .inl (g11_10 (h.resolve_right (by decide))), fun h => .inl (g12_10 (h.resolve_right (by decide))), fun h => .inl (g13_10 (h.resolve_right (by decide))), fun h => .inl (g12_11 (h.resolve_right (by decide))), fun h => .inl (g13_11 (h.resolve_right (by decide))), fun h => .inl (g13_12 (h.resolve_right (by decide)))⟩⟩
        refine InvFrom.cons (fun L a W hI hN hD K hK => ?_) ?_
        · obtain ⟨sl30, sl31, sl32, sl33, sl34, sl35, sl36, sl37, sl38, sl39, sl40, sl41, sl42, sl43, sl44, ha, hI⟩ := hI
          subst ha
          rcases hI with hI | h9 | h9
          rotate_left
          · exact absurd (h9.1 11 (by decide)) hN
          · exact absurd (h9.1 11 (by decide)) hN
          obtain ⟨hn, hB, f0, f1, f2, f3, f4, f5, f6, f7, f8, f9, f10, f11, f12, f13, g2_1, g4_3, g13_3, g13_4, g8_5, g12_5, g13_5, g7_6, g8_6, g12_6, g13_6, g8_7, g12_7, g13_7, g13_8, g12_9, g13_9, g11_10, g12_10, g13_10, g12_11, g13_11, g13_12⟩ := hI
          have hz := hB.size
          have d10 := f10 (hD 10 (by kernel_rfl))
          subst d10
          have pi0 := box_cell (j := 0) (box_keep HI2.out hB (by omega)) rfl
          have pi1 := box_cell (j := 1) (box_keep HI2.out hB (by omega)) rfl
          have pi2 := box_cell (j := 2) (box_keep HI2.out hB (by omega)) rfl
          have pi3 := box_cell (j := 3) (box_keep HI2.out hB (by omega)) rfl
          refine Kept.mk ?_
          simp only [Act.put, List.setIfInBounds_toArray, List.set_cons_zero, List.set_cons_succ]
          go_simp
          refine hK.out _ _ ?_
          exact ⟨sl30, sl31, sl32, sl33, sl34, sl35, sl36, sl37, sl38, sl39, .pointer (some ⟨bi, 3, none⟩), (.int .i64 ic), sl42, sl43, sl44, by simp only [Act.put, List.setIfInBounds_toArray, List.set_cons_zero, List.set_cons_succ], .inl ⟨fun j hj h => h.elim (hn j hj) (by omega), hB, fun h => f0 (h.resolve_right (by decide)), fun h => f1 (h.resolve_right (by decide)), fun h => f2 (h.resolve_right (by decide)), fun h => f3 (h.resolve_right (by decide)), fun h => f4 (h.resolve_right (by decide)), fun h => f5 (h.resolve_right (by decide)), fun h => f6 (h.resolve_right (by decide)), fun h => f7 (h.resolve_right (by decide)), fun h => f8 (h.resolve_right (by decide)), fun h => f9 (h.resolve_right (by decide)), fun h => f10 (h.resolve_right (by decide)), fun _ => rfl, fun h => f12 (h.resolve_right (by decide)), fun h => f13 (h.resolve_right (by decide)), fun h => .inl (g2_1 (h.resolve_right (by decide))), fun h => .inl (g4_3 (h.resolve_right (by decide))), fun h => .inl (g13_3 (h.resolve_right (by decide))), fun h => .inl (g13_4 (h.resolve_right (by decide))), fun h => .inl (g8_5 (h.resolve_right (by decide))), fun h => .inl (g12_5 (h.resolve_right (by decide))), fun h => .inl (g13_5 (h.resolve_right (by decide))), fun h => .inl (g7_6 (h.resolve_right (by decide))), fun h => .inl (g8_6 (h.resolve_right (by decide))), fun h => .inl (g12_6 (h.resolve_right (by decide))), fun h => .inl (g13_6 (h.resolve_right (by decide))), fun h => .inl (g8_7 (h.resolve_right (by decide))), fun h => .inl (g12_7 (h.resolve_right (by decide))), fun h => .inl (g13_7 (h.resolve_right (by decide))), fun h => .inl (g13_8 (h.resolve_right (by decide))), fun h => .inl (g12_9 (h.resolve_right (by decide))), fun h => .inl (g13_9 (h.resolve_right (by decide))), fun _ => .inl (hD 10 (by kernel_rfl)), fun h => .inl (g12_10 (h.resolve_right (by decide))), fun h => .inl (g13_10 (h.resolve_right (by decide))), fun h => .inl (g12_11 (h.resolve_right (by decide))), fun h => .inl (g13_11 (h.resolve_right (by decide))), fun h => .inl (g13_12 (h.resolve_right (by decide)))⟩⟩
        refine InvFrom.cons (fun L a W hI hN hD K hK => ?_) ?_
        · obtain ⟨sl30, sl31, sl32, sl33, sl34, sl35, sl36, sl37, sl38, sl39, sl40, sl41, sl42, sl43, sl44, ha, hI⟩ := hI
          subst ha
          rcases hI with hI | h9 | h9
          rotate_left
          · exact absurd (h9.1 12 (by decide)) hN
          · exact absurd (h9.1 12 (by decide)) hN
          obtain ⟨hn, hB, f0, f1, f2, f3, f4, f5, f6, f7, f8, f9, f10, f11, f12, f13, g2_1, g4_3, g13_3, g13_4, g8_5, g12_5, g13_5, g7_6, g8_6, g12_6, g13_6, g8_7, g12_7, g13_7, g13_8, g12_9, g13_9, g11_10, g12_10, g13_10, g12_11, g13_11, g13_12⟩ := hI
          have hz := hB.size
          have d8 := f8 (hD 8 (by kernel_rfl))
          subst d8
          have d9 := f9 (hD 9 (by kernel_rfl))
          subst d9
          have d11 := f11 (hD 11 (by kernel_rfl))
          subst d11
          refine kept_c2 rfl 57 _ _ _ rfl (fenters_of' Tryz.func57 (by kernel_rfl) (by kernel_rfl)) (.agg #[.int .i64 pr, .int .i64 pc, .slice A2 n2 c2, .int .i64 st, .slice A4 n4 c4]) (.int .i64 ic) (by kernel_rfl) (by kernel_rfl) (HXc.out W (HB2.out.trans (hB.mono (by have := HB2.out.size; omega)))) ?_
          rintro e W1 ⟨rfl, hb9⟩
          refine ⟨_, rfl, hK.out _ _ ?_⟩
          exact ⟨sl30, sl31, sl32, sl33, sl34, sl35, sl36, sl37, (.int .i64 xb), (.agg #[.int .i64 pr, .int .i64 pc, .slice A2 n2 c2, .int .i64 st, .slice A4 n4 c4]), sl40, (.int .i64 ic), (.int .i64 xc), sl43, sl44, by simp only [Act.put, List.setIfInBounds_toArray, List.set_cons_zero, List.set_cons_succ], .inl ⟨fun j hj h => h.elim (hn j hj) (by omega), hB.trans (hb9.mono hz), fun h => f0 (h.resolve_right (by decide)), fun h => f1 (h.resolve_right (by decide)), fun h => f2 (h.resolve_right (by decide)), fun h => f3 (h.resolve_right (by decide)), fun h => f4 (h.resolve_right (by decide)), fun h => f5 (h.resolve_right (by decide)), fun h => f6 (h.resolve_right (by decide)), fun h => f7 (h.resolve_right (by decide)), fun h => f8 (h.resolve_right (by decide)), fun h => f9 (h.resolve_right (by decide)), fun h => f10 (h.resolve_right (by decide)), fun h => f11 (h.resolve_right (by decide)), fun _ => rfl, fun h => f13 (h.resolve_right (by decide)), fun h => .inl (g2_1 (h.resolve_right (by decide))), fun h => .inl (g4_3 (h.resolve_right (by decide))), fun h => .inl (g13_3 (h.resolve_right (by decide))), fun h => .inl (g13_4 (h.resolve_right (by decide))), fun h => .inl (g8_5 (h.resolve_right (by decide))), fun _ => .inl (g8_5 (hD 8 (by kernel_rfl))), fun h => .inl (g13_5 (h.resolve_right (by decide))), fun h => .inl (g7_6 (h.resolve_right (by decide))), fun h => .inl (g8_6 (h.resolve_right (by decide))), fun _ => .inl (g8_6 (hD 8 (by kernel_rfl))), fun h => .inl (g13_6 (h.resolve_right (by decide))), fun h => .inl (g8_7 (h.resolve_right (by decide))), fun _ => .inl (g8_7 (hD 8 (by kernel_rfl))), fun h => .inl (g13_7 (h.resolve_right (by decide))), fun h => .inl (g13_8 (h.resolve_right (by decide))), fun _ => .inl (hD 9 (by kernel_rfl)), fun h => .inl (g13_9 (h.resolve_right (by decide))), fun h => .inl (g11_10 (h.resolve_right (by decide))), fun _ => .inl (g11_10 (hD 11 (by kernel_rfl))), fun h => .inl (g13_10 (h.resolve_right (by decide))), fun _ => .inl (hD 11 (by kernel_rfl)), fun h => .inl (g13_11 (h.resolve_right (by decide))), fun h => .inl (g13_12 (h.resolve_right (by decide)))⟩⟩
        refine InvFrom.cons (fun L a W hI hN hD K hK => ?_) ?_
        · obtain ⟨sl30, sl31, sl32, sl33, sl34, sl35, sl36, sl37, sl38, sl39, sl40, sl41, sl42, sl43, sl44, ha, hI⟩ := hI
          subst ha
          rcases hI with hI | h9 | h9
          rotate_left
          · exact absurd (h9.1 13 (by decide)) hN
          · exact absurd (h9.1 13 (by decide)) hN
          obtain ⟨hn, hB, f0, f1, f2, f3, f4, f5, f6, f7, f8, f9, f10, f11, f12, f13, g2_1, g4_3, g13_3, g13_4, g8_5, g12_5, g13_5, g7_6, g8_6, g12_6, g13_6, g8_7, g12_7, g13_7, g13_8, g12_9, g13_9, g11_10, g12_10, g13_10, g12_11, g13_11, g13_12⟩ := hI
          have hz := hB.size
          have d4 := f4 (hD 4 (by kernel_rfl))
          subst d4
          have d8 := f8 (hD 8 (by kernel_rfl))
          subst d8
          have d12 := f12 (hD 12 (by kernel_rfl))
          subst d12
          refine kept_c3 rfl 56 _ _ _ _ rfl (fenters_of' Tryz.func56 (by kernel_rfl) (by kernel_rfl)) (.int .i64 5) (.int .i64 xb) (.int .i64 xc) (by kernel_rfl) (by kernel_rfl) (by kernel_rfl) (HCl.out W) ?_
          rintro e W1 ⟨rfl, rfl⟩
          refine ⟨_, rfl, hK.out _ _ ?_⟩
          exact ⟨sl30, sl31, sl32, sl33, (.int .i64 5), sl35, sl36, sl37, (.int .i64 xb), sl39, sl40, sl41, (.int .i64 xc), (.int .i64 xv), sl44, by simp only [Act.put, List.setIfInBounds_toArray, List.set_cons_zero, List.set_cons_succ], .inl ⟨fun j hj h => h.elim (hn j hj) (by omega), hB, fun h => f0 (h.resolve_right (by decide)), fun h => f1 (h.resolve_right (by decide)), fun h => f2 (h.resolve_right (by decide)), fun h => f3 (h.resolve_right (by decide)), fun h => f4 (h.resolve_right (by decide)), fun h => f5 (h.resolve_right (by decide)), fun h => f6 (h.resolve_right (by decide)), fun h => f7 (h.resolve_right (by decide)), fun h => f8 (h.resolve_right (by decide)), fun h => f9 (h.resolve_right (by decide)), fun h => f10 (h.resolve_right (by decide)), fun h => f11 (h.resolve_right (by decide)), fun h => f12 (h.resolve_right (by decide)), fun _ => rfl, fun h => .inl (g2_1 (h.resolve_right (by decide))), fun h => .inl (g4_3 (h.resolve_right (by decide))), fun _ => .inl (g4_3 (hD 4 (by kernel_rfl))), fun _ => .inl (hD 4 (by kernel_rfl)), fun h => .inl (g8_5 (h.resolve_right (by decide))), fun h => .inl (g12_5 (h.resolve_right (by decide))), fun _ => .inl (g12_5 (hD 12 (by kernel_rfl))), fun h => .inl (g7_6 (h.resolve_right (by decide))), fun h => .inl (g8_6 (h.resolve_right (by decide))), fun h => .inl (g12_6 (h.resolve_right (by decide))), fun _ => .inl (g12_6 (hD 12 (by kernel_rfl))), fun h => .inl (g8_7 (h.resolve_right (by decide))), fun h => .inl (g12_7 (h.resolve_right (by decide))), fun _ => .inl (g12_7 (hD 12 (by kernel_rfl))), fun _ => .inl (hD 8 (by kernel_rfl)), fun h => .inl (g12_9 (h.resolve_right (by decide))), fun _ => .inl (g12_9 (hD 12 (by kernel_rfl))), fun h => .inl (g11_10 (h.resolve_right (by decide))), fun h => .inl (g12_10 (h.resolve_right (by decide))), fun _ => .inl (g12_10 (hD 12 (by kernel_rfl))), fun h => .inl (g12_11 (h.resolve_right (by decide))), fun _ => .inl (g12_11 (hD 12 (by kernel_rfl))), fun _ => .inl (hD 12 (by kernel_rfl))⟩⟩
        refine InvFrom.cons (fun L a W hI hN hD K hK => ?_) ?_
        · obtain ⟨sl30, sl31, sl32, sl33, sl34, sl35, sl36, sl37, sl38, sl39, sl40, sl41, sl42, sl43, sl44, ha, hI⟩ := hI
          subst ha
          rcases hI with hI | h9 | h9
          rotate_left
          · exact absurd (h9.1 14 (by decide)) hN
          · exact absurd (h9.1 14 (by decide)) hN
          obtain ⟨hn, hB, f0, f1, f2, f3, f4, f5, f6, f7, f8, f9, f10, f11, f12, f13, g2_1, g4_3, g13_3, g13_4, g8_5, g12_5, g13_5, g7_6, g8_6, g12_6, g13_6, g8_7, g12_7, g13_7, g13_8, g12_9, g13_9, g11_10, g12_10, g13_10, g12_11, g13_11, g13_12⟩ := hI
          have hz := hB.size
          have d0 := f0 (hD 0 (by kernel_rfl))
          subst d0
          have d2 := f2 (hD 2 (by kernel_rfl))
          subst d2
          have d13 := f13 (hD 13 (by kernel_rfl))
          subst d13
          refine kept_c3 rfl 55 _ _ _ _ rfl (fenters_of' Tryz.func55 (by kernel_rfl) (by kernel_rfl)) (.agg #[.int .i64 pr, .int .i64 pc, .slice A2 n2 c2, .int .i64 st, .slice A4 n4 c4]) (.int .i64 ia) (.int .i64 xv) (by kernel_rfl) (by kernel_rfl) (by kernel_rfl) (HS.out W (HB2.out.trans (hB.mono (by have := HB2.out.size; omega))) ia xv HXa.out HV3.out) ?_
          rintro e W1 ⟨D2, q2, f2, D4, q4, f4, rfl, H5, hb5⟩
          refine ⟨_, rfl, hK.out _ _ ?_⟩
          have hall : ∀ j, j < 15 → (L j ∨ j = 14) := by
            intro j hj
            have hj2 : j = 0 ∨ j = 1 ∨ j = 2 ∨ j = 3 ∨ j = 4 ∨ j = 5 ∨ j = 6 ∨ j = 7 ∨ j = 8 ∨ j = 9 ∨ j = 10 ∨ j = 11 ∨ j = 12 ∨ j = 13 ∨ j = 14 := by omega
            rcases hj2 with rfl | rfl | rfl | rfl | rfl | rfl | rfl | rfl | rfl | rfl | rfl | rfl | rfl | rfl | rfl
            · exact .inl (hD 0 (by kernel_rfl))
            · exact .inl (g2_1 (hD 2 (by kernel_rfl)))
            · exact .inl (hD 2 (by kernel_rfl))
            · exact .inl (g13_3 (hD 13 (by kernel_rfl)))
            · exact .inl (g13_4 (hD 13 (by kernel_rfl)))
            · exact .inl (g13_5 (hD 13 (by kernel_rfl)))
            · exact .inl (g13_6 (hD 13 (by kernel_rfl)))
            · exact .inl (g13_7 (hD 13 (by kernel_rfl)))
            · exact .inl (g13_8 (hD 13 (by kernel_rfl)))
            · exact .inl (g13_9 (hD 13 (by kernel_rfl)))
            · exact .inl (g13_10 (hD 13 (by kernel_rfl)))
            · exact .inl (g13_11 (hD 13 (by kernel_rfl)))
            · exact .inl (g13_12 (hD 13 (by kernel_rfl)))
            · exact .inl (hD 13 (by kernel_rfl))
            · exact .inr rfl
          exact ⟨(.agg #[.int .i64 pr, .int .i64 pc, .slice A2 n2 c2, .int .i64 st, .slice A4 n4 c4]), sl31, (.int .i64 ia), sl33, sl34, sl35, sl36, sl37, sl38, sl39, sl40, sl41, sl42, (.int .i64 xv), (.agg #[.int .i64 pr, .int .i64 pc, .slice D2 q2 f2, .int .i64 st, .slice D4 q4 f4]), by simp only [Act.put, List.setIfInBounds_toArray, List.set_cons_zero, List.set_cons_succ], .inr (.inl ⟨hall, fun j hj h => h.elim (hn j (by omega)) (by omega), ⟨D2, q2, f2, D4, q4, f4, rfl, H5.wide (fun k hk _ => ⟨by omega, hk.2⟩), hB.trans (hb5.mono hz)⟩⟩)⟩
        refine InvFrom.cons (fun L a W hI hN hD K hK => ?_) ?_
        · obtain ⟨sl30, sl31, sl32, sl33, sl34, sl35, sl36, sl37, sl38, sl39, sl40, sl41, sl42, sl43, sl44, ha, hI⟩ := hI
          subst ha
          rcases hI with h9 | hI | h9
          · exact absurd (hD 14 (by kernel_rfl)) (h9.1 14 (by decide))
          rotate_left
          · exact absurd (h9.1 15 (by decide)) hN
          obtain ⟨hu, hn, hI⟩ := hI
          obtain ⟨D2, q2, f2, D4, q4, f4, rfl, H5, hB5⟩ := hI
          have HO5 := box_keep HO2.out hB5 (by omega)
          have o0 := box_cell (j := 0) HO5 rfl
          have o1 := box_cell (j := 1) HO5 rfl
          have o2 := box_cell (j := 2) HO5 rfl
          have o3 := box_cell (j := 3) HO5 rfl
          have o4 := box_cell (j := 4) HO5 rfl
          have of0 := box_free HO5 0
          have of1 := box_free HO5 1
          have of2 := box_free HO5 2
          have of3 := box_free HO5 3
          have of4 := box_free HO5 4
          refine Kept.mk ?_
          simp only [Act.put, List.setIfInBounds_toArray, List.set_cons_zero, List.set_cons_succ]
          go_simp
          refine hK.out _ _ ?_
          have hall : ∀ j, j < 16 → (L j ∨ j = 15) := by
            intro j hj
            have hj2 : j = 0 ∨ j = 1 ∨ j = 2 ∨ j = 3 ∨ j = 4 ∨ j = 5 ∨ j = 6 ∨ j = 7 ∨ j = 8 ∨ j = 9 ∨ j = 10 ∨ j = 11 ∨ j = 12 ∨ j = 13 ∨ j = 14 ∨ j = 15 := by omega
            rcases hj2 with rfl | rfl | rfl | rfl | rfl | rfl | rfl | rfl | rfl | rfl | rfl | rfl | rfl | rfl | rfl | rfl
            · exact .inl (hD 0 (by kernel_rfl))
            · exact .inl (hD 1 (by kernel_rfl))
            · exact .inl (hD 2 (by kernel_rfl))
            · exact .inl (hD 3 (by kernel_rfl))
            · exact .inl (hD 4 (by kernel_rfl))
            · exact .inl (hD 5 (by kernel_rfl))
            · exact .inl (hD 6 (by kernel_rfl))
            · exact .inl (hD 7 (by kernel_rfl))
            · exact .inl (hD 8 (by kernel_rfl))
            · exact .inl (hD 9 (by kernel_rfl))
            · exact .inl (hD 10 (by kernel_rfl))
            · exact .inl (hD 11 (by kernel_rfl))
            · exact .inl (hD 12 (by kernel_rfl))
            · exact .inl (hD 13 (by kernel_rfl))
            · exact .inl (hD 14 (by kernel_rfl))
            · exact .inr rfl
          exact ⟨sl30, sl31, sl32, sl33, sl34, sl35, sl36, sl37, sl38, sl39, sl40, sl41, sl42, sl43, (.agg #[.int .i64 pr, .int .i64 pc, .slice D2 q2 f2, .int .i64 st, .slice D4 q4 f4]), by simp only [Act.put, List.setIfInBounds_toArray, List.set_cons_zero, List.set_cons_succ], .inr (.inr (⟨hall, fun j hj h => h.elim (hn j (by omega)) (by omega), ⟨W, D2, q2, f2, D4, q4, f4, rfl, H5, hB5⟩⟩))⟩
        exact InvFrom.nil
      intro L a w8 hL hI
      obtain ⟨sl30, sl31, sl32, sl33, sl34, sl35, sl36, sl37, sl38, sl39, sl40, sl41, sl42, sl43, sl44, ha, hI⟩ := hI
      subst ha
      rcases hI with h9 | h9 | hI
      · exact absurd (hL 14 (by decide)) (h9.1 14 (by decide))
      · exact absurd (hL 15 (by decide)) (h9.2.1 15 (by decide))
      have hfin := hI.2.2
      obtain ⟨w5, D2, q2, f2, D4, q4, f4, rfl, H5, hb5⟩ := hfin
      clear hL hI
      refine Kept.mk ?_
      simp only [Act.put, List.setIfInBounds_toArray, List.set_cons_zero, List.set_cons_succ]
      have hz5 := hb5.size
      have HO5 := box_keep HO2.out hb5 (by omega)
      have HR5 := Lib.hid (box_keep HR2.out hb5 (by omega))
      have HB5 := Lib.hid (HB2.out.trans (hb5.mono (by have := HB2.out.size; omega)))
      have HH5 := Lib.hid H5
      clear H5 hb5
      have o0 := box_cell (j := 0) HO5 rfl
      have o1 := box_cell (j := 1) HO5 rfl
      have o2 := box_cell (j := 2) HO5 rfl
      have o3 := box_cell (j := 3) HO5 rfl
      have o4 := box_cell (j := 4) HO5 rfl
      have of0 := box_free HO5 0
      have of1 := box_free HO5 1
      have of2 := box_free HO5 2
      have of3 := box_free HO5 3
      have of4 := box_free HO5 4
      have hbw : bo < w5.heap.size := by omega
      go_upto_region 19 with (fail)
      have hput := put5 (u0 := .int .i64 pr) (u1 := .int .i64 pc) (u2 := .slice D2 q2 f2) (u3 := .int .i64 st) (u4 := .slice D4 q4 f4) HO5
      have HB6 := Lib.hid (below_put5 (b := bo) (u0 := .int .i64 pr) (u1 := .int .i64 pc) (u2 := .slice D2 q2 f2) (u3 := .int .i64 st) (u4 := .slice D4 q4 f4) HB5.out (by omega))
      generalize (((((w5.setCell ⟨bo, 0, none⟩ (.int .i64 pr)).setCell ⟨bo, 1, none⟩ (.int .i64 pc)).setCell ⟨bo, 2, none⟩ (.slice D2 q2 f2)).setCell ⟨bo, 3, none⟩ (.int .i64 st)).setCell ⟨bo, 4, none⟩ (.slice D4 q4 f4)) = W6 at *
      obtain ⟨hO6, hk6, hs6⟩ := hput
      have HR6 := Lib.hid ((hk6 _ (by omega)).trans HR5.out)
      have HH6 := Lib.hid (HH5.out.stay (fun k hk _ => hk6 k (by omega)) (Nat.le_of_eq hs6.symm))
      clear o0 o1 o2 o3 o4
      clear of0 of1 of2 of3 of4
      clear hk6 HO5 HR5 HB5 HH5
      have hbw6 : bo < W6.heap.size := by omega
      have o0 := box_cell (j := 0) hO6 rfl
      have o1 := box_cell (j := 1) hO6 rfl
      have o2 := box_cell (j := 2) hO6 rfl
      have o3 := box_cell (j := 3) hO6 rfl
      have o4 := box_cell (j := 4) hO6 rfl
      have of1 := box_free hO6 1
      go_upto_region 20 with (fail)
      have hput7 := put1 (j := 1) (u := .int .i64 (pc + 1)) hO6
      have HBx := Lib.hid (below_set (p := ⟨bo, 1, none⟩) HB6.out (by simp only; omega) (.int .i64 (pc + 1)))
      generalize (W6.setCell ⟨bo, 1, none⟩ (.int .i64 (pc + 1))) = W7 at *
      obtain ⟨hO7, hk7, hs7⟩ := hput7
      have HRx := Lib.hid ((hk7 _ (by omega)).trans HR6.out)
      have HH7 := Lib.hid ((HH6.out.stay (fun k hk _ => hk7 k (by omega)) (Nat.le_of_eq hs7.symm)).pc (v := pc + 1) (wf_val (by omega)))
      clear o0 o1 o2 o3 o4
      clear of1 hk7
      have o0 := box_cell (j := 0) hO7 rfl
      have o1 := box_cell (j := 1) hO7 rfl
      have o2 := box_cell (j := 2) hO7 rfl
      have o3 := box_cell (j := 3) hO7 rfl
      have o4 := box_cell (j := 4) hO7 rfl
      have r0 := box_cell (j := 0) HRx.out rfl
      have r1 := box_cell (j := 1) HRx.out rfl
      have r2 := box_cell (j := 2) HRx.out rfl
      have r3 := box_cell (j := 3) HRx.out rfl
      have r4 := box_cell (j := 4) HRx.out rfl
      have rf0 := box_free HRx.out 0
      have rf1 := box_free HRx.out 1
      have rf2 := box_free HRx.out 2
      have rf3 := box_free HRx.out 3
      have rf4 := box_free HRx.out 4
      go_wp2_with fail
      have hfin := put5 (u0 := (.int .i64 pr)) (u1 := (.int .i64 (pc + 1))) (u2 := (.slice D2 q2 f2)) (u3 := (.int .i64 st)) (u4 := (.slice D4 q4 f4)) HRx.out
      have y0 := box_cell (j := 0) hfin.1 rfl
      have y1 := box_cell (j := 1) hfin.1 rfl
      have y2 := box_cell (j := 2) hfin.1 rfl
      have y3 := box_cell (j := 3) hfin.1 rfl
      have y4 := box_cell (j := 4) hfin.1 rfl
      refine bodyPost_ret (v := .agg #[.int .i64 pr, .int .i64 (pc + 1), .slice D2 q2 f2, .int .i64 st, .slice D4 q4 f4]) (by simp [results, Tryz.results27, go_sem, y0, y1, y2, y3, y4]) rfl ?_
      rw [HST.out]
      exact HoldG.copied ((HH7.out).stay (fun k hk _ => hfin.2.1 k (by omega)) (Nat.le_of_eq hfin.2.2.symm)) (fun k hk => by omega) (below_put5 HBx.out (by omega))
  · skip
    have hL6 := LX.out.jump rfl
    simp only at hL6
    have HST := Lib.hid (show stepR ⟨6, ia, ib, ic⟩ ⟨pr, pc, regs, st, tr⟩ = ⟨pr, ia, regs, st, tr⟩ from rfl)
    have o0 := box_cell (j := 0) HO2.out rfl
    have o1 := box_cell (j := 1) HO2.out rfl
    have o2 := box_cell (j := 2) HO2.out rfl
    have o3 := box_cell (j := 3) HO2.out rfl
    have o4 := box_cell (j := 4) HO2.out rfl
    have of1 := box_free HO2.out 1
    go_upto_region 14 with (fail)
    have hput7 := put1 (j := 1) (u := .int .i64 ia) HO2.out
    have HBx := Lib.hid (below_set (p := ⟨bo, 1, none⟩) HB2.out (by simp only; omega) (.int .i64 ia))
    generalize (W2.setCell ⟨bo, 1, none⟩ (.int .i64 ia)) = W7 at *
    obtain ⟨hO7, hk7, hs7⟩ := hput7
    have HRx := Lib.hid ((hk7 _ (by omega)).trans HR2.out)
    have HH7 := Lib.hid ((HH3.out.stay (fun k hk _ => hk7 k (by omega)) (Nat.le_of_eq hs7.symm)).pc (v := ia) (wf_val (by have := hsm.out; omega)))
    clear o0 o1 o2 o3 o4 i0 i1 i2 i3
    clear of1 hk7
    have o0 := box_cell (j := 0) hO7 rfl
    have o1 := box_cell (j := 1) hO7 rfl
    have o2 := box_cell (j := 2) hO7 rfl
    have o3 := box_cell (j := 3) hO7 rfl
    have o4 := box_cell (j := 4) hO7 rfl
    have r0 := box_cell (j := 0) HRx.out rfl
    have r1 := box_cell (j := 1) HRx.out rfl
    have r2 := box_cell (j := 2) HRx.out rfl
    have r3 := box_cell (j := 3) HRx.out rfl
    have r4 := box_cell (j := 4) HRx.out rfl
    have rf0 := box_free HRx.out 0
    have rf1 := box_free HRx.out 1
    have rf2 := box_free HRx.out 2
    have rf3 := box_free HRx.out 3
    have rf4 := box_free HRx.out 4
    go_wp2_with fail
    have hfin := put5 (u0 := (.int .i64 pr)) (u1 := (.int .i64 ia)) (u2 := (.slice C2 k2 e2)) (u3 := (.int .i64 st)) (u4 := (.slice C4 k4 e4)) HRx.out
    have y0 := box_cell (j := 0) hfin.1 rfl
    have y1 := box_cell (j := 1) hfin.1 rfl
    have y2 := box_cell (j := 2) hfin.1 rfl
    have y3 := box_cell (j := 3) hfin.1 rfl
    have y4 := box_cell (j := 4) hfin.1 rfl
    refine bodyPost_ret (v := .agg #[.int .i64 pr, .int .i64 ia, .slice C2 k2 e2, .int .i64 st, .slice C4 k4 e4]) (by simp [results, Tryz.results27, go_sem, y0, y1, y2, y3, y4]) rfl ?_
    rw [HST.out]
    exact HoldG.copied ((HH7.out).stay (fun k hk _ => hfin.2.1 k (by omega)) (Nat.le_of_eq hfin.2.2.symm)) (fun k hk => by omega) (below_put5 HBx.out (by omega))
  · skip
    have hL7 := LX.out.cond rfl
    simp only at hL7
    have HRa := Lib.hid (HRg.out)
    obtain ⟨xa, hxa⟩ : ∃ xa, xa = regZ ⟨pr, pc, regs, st, tr⟩ ia := ⟨_, rfl⟩
    have HX := Lib.hid (fun (W : World) (hW : Below w.heap.size w W) => HRg.out W hW ia hL7.1)
    rw [← hxa] at HX
    clear HRa
    have g0 := box_cell (j := 0) HG2.out rfl
    have g1 := box_cell (j := 1) HG2.out rfl
    have g2 := box_cell (j := 2) HG2.out rfl
    have g3 := box_cell (j := 3) HG2.out rfl
    have g4 := box_cell (j := 4) HG2.out rfl
    by_cases hx0 : xa = 0
    · skip
      have HST := Lib.hid (show stepR ⟨7, ia, ib, ic⟩ ⟨pr, pc, regs, st, tr⟩ = ⟨pr, pc + 1, regs, st, tr⟩ from by unfold stepR; rw [if_neg (by simp), if_neg (by simp), if_neg (by simp), if_neg (by simp), if_neg (by simp only; rw [← hxa, hx0]; simp)])
      clear hxa
      subst hx0
      go_wp2_with fail
      refine (HX.out _ HB2.out).mono ?_
      rintro e w5 ⟨rfl, hb5⟩
      have hz5 := hb5.size
      clear g0 g1 g2 g3 g4 i0 i1 i2 i3
      replace HO2 := Lib.hid (box_keep HO2.out hb5 (by omega))
      replace HR2 := Lib.hid (box_keep HR2.out hb5 (by omega))
      replace HI2 := Lib.hid (box_keep HI2.out hb5 (by omega))
      replace HB2 := Lib.hid (HB2.out.trans (hb5.mono (by have := HB2.out.size; omega)))
      replace HH3 := Lib.hid (HH3.out.stay (fun k hk _ => hb5.block k (by omega)) hb5.size)
      have i0 := box_cell (j := 0) HI2.out rfl
      have i1 := box_cell (j := 1) HI2.out rfl
      have i2 := box_cell (j := 2) HI2.out rfl
      have i3 := box_cell (j := 3) HI2.out rfl
      have hbw5 : bo < w5.heap.size := by omega
      clear hb5
      have o0 := box_cell (j := 0) HO2.out rfl
      have o1 := box_cell (j := 1) HO2.out rfl
      have o2 := box_cell (j := 2) HO2.out rfl
      have o3 := box_cell (j := 3) HO2.out rfl
      have o4 := box_cell (j := 4) HO2.out rfl
      have of1 := box_free HO2.out 1
      go_upto_region 20 with (fail)
      have hput7 := put1 (j := 1) (u := .int .i64 (pc + 1)) HO2.out
      have HBx := Lib.hid (below_set (p := ⟨bo, 1, none⟩) HB2.out (by simp only; omega) (.int .i64 (pc + 1)))
      generalize (w5.setCell ⟨bo, 1, none⟩ (.int .i64 (pc + 1))) = W7 at *
      obtain ⟨hO7, hk7, hs7⟩ := hput7
      have HRx := Lib.hid ((hk7 _ (by omega)).trans HR2.out)
      have HH7 := Lib.hid ((HH3.out.stay (fun k hk _ => hk7 k (by omega)) (Nat.le_of_eq hs7.symm)).pc (v := pc + 1) (wf_val (by omega)))
      clear o0 o1 o2 o3 o4
      clear of1 hk7
      have o0 := box_cell (j := 0) hO7 rfl
      have o1 := box_cell (j := 1) hO7 rfl
      have o2 := box_cell (j := 2) hO7 rfl
      have o3 := box_cell (j := 3) hO7 rfl
      have o4 := box_cell (j := 4) hO7 rfl
      have r0 := box_cell (j := 0) HRx.out rfl
      have r1 := box_cell (j := 1) HRx.out rfl
      have r2 := box_cell (j := 2) HRx.out rfl
      have r3 := box_cell (j := 3) HRx.out rfl
      have r4 := box_cell (j := 4) HRx.out rfl
      have rf0 := box_free HRx.out 0
      have rf1 := box_free HRx.out 1
      have rf2 := box_free HRx.out 2
      have rf3 := box_free HRx.out 3
      have rf4 := box_free HRx.out 4
      go_wp2_with fail
      have hfin := put5 (u0 := (.int .i64 pr)) (u1 := (.int .i64 (pc + 1))) (u2 := (.slice C2 k2 e2)) (u3 := (.int .i64 st)) (u4 := (.slice C4 k4 e4)) HRx.out
      have y0 := box_cell (j := 0) hfin.1 rfl
      have y1 := box_cell (j := 1) hfin.1 rfl
      have y2 := box_cell (j := 2) hfin.1 rfl
      have y3 := box_cell (j := 3) hfin.1 rfl
      have y4 := box_cell (j := 4) hfin.1 rfl
      refine bodyPost_ret (v := .agg #[.int .i64 pr, .int .i64 (pc + 1), .slice C2 k2 e2, .int .i64 st, .slice C4 k4 e4]) (by simp [results, Tryz.results27, go_sem, y0, y1, y2, y3, y4]) rfl ?_
      rw [HST.out]
      exact HoldG.copied ((HH7.out).stay (fun k hk _ => hfin.2.1 k (by omega)) (Nat.le_of_eq hfin.2.2.symm)) (fun k hk => by omega) (below_put5 HBx.out (by omega))
    · skip
      have HST := Lib.hid (show stepR ⟨7, ia, ib, ic⟩ ⟨pr, pc, regs, st, tr⟩ = ⟨pr, ib, regs, st, tr⟩ from by unfold stepR; rw [if_neg (by simp), if_neg (by simp), if_neg (by simp), if_neg (by simp), if_pos ⟨rfl, by simp only; rw [← hxa]; exact hx0⟩])
      clear hxa
      go_wp2_with fail
      refine (HX.out _ HB2.out).mono ?_
      rintro e w5 ⟨rfl, hb5⟩
      have hz5 := hb5.size
      clear g0 g1 g2 g3 g4 i0 i1 i2 i3
      replace HO2 := Lib.hid (box_keep HO2.out hb5 (by omega))
      replace HR2 := Lib.hid (box_keep HR2.out hb5 (by omega))
      replace HI2 := Lib.hid (box_keep HI2.out hb5 (by omega))
      replace HB2 := Lib.hid (HB2.out.trans (hb5.mono (by have := HB2.out.size; omega)))
      replace HH3 := Lib.hid (HH3.out.stay (fun k hk _ => hb5.block k (by omega)) hb5.size)
      have i0 := box_cell (j := 0) HI2.out rfl
      have i1 := box_cell (j := 1) HI2.out rfl
      have i2 := box_cell (j := 2) HI2.out rfl
      have i3 := box_cell (j := 3) HI2.out rfl
      have hbw5 : bo < w5.heap.size := by omega
      clear hb5
      have o0 := box_cell (j := 0) HO2.out rfl
      have o1 := box_cell (j := 1) HO2.out rfl
      have o2 := box_cell (j := 2) HO2.out rfl
      have o3 := box_cell (j := 3) HO2.out rfl
      have o4 := box_cell (j := 4) HO2.out rfl
      have of1 := box_free HO2.out 1
      go_upto_region 18 with (fail)
      have hput7 := put1 (j := 1) (u := .int .i64 ib) HO2.out
      have HBx := Lib.hid (below_set (p := ⟨bo, 1, none⟩) HB2.out (by simp only; omega) (.int .i64 ib))
      generalize (w5.setCell ⟨bo, 1, none⟩ (.int .i64 ib)) = W7 at *
      obtain ⟨hO7, hk7, hs7⟩ := hput7
      have HRx := Lib.hid ((hk7 _ (by omega)).trans HR2.out)
      have HH7 := Lib.hid ((HH3.out.stay (fun k hk _ => hk7 k (by omega)) (Nat.le_of_eq hs7.symm)).pc (v := ib) (wf_val (by have := hsm.out; omega)))
      clear o0 o1 o2 o3 o4 i0 i1 i2 i3
      clear of1 hk7
      have o0 := box_cell (j := 0) hO7 rfl
      have o1 := box_cell (j := 1) hO7 rfl
      have o2 := box_cell (j := 2) hO7 rfl
      have o3 := box_cell (j := 3) hO7 rfl
      have o4 := box_cell (j := 4) hO7 rfl
      have r0 := box_cell (j := 0) HRx.out rfl
      have r1 := box_cell (j := 1) HRx.out rfl
      have r2 := box_cell (j := 2) HRx.out rfl
      have r3 := box_cell (j := 3) HRx.out rfl
      have r4 := box_cell (j := 4) HRx.out rfl
      have rf0 := box_free HRx.out 0
      have rf1 := box_free HRx.out 1
      have rf2 := box_free HRx.out 2
      have rf3 := box_free HRx.out 3
      have rf4 := box_free HRx.out 4
      go_wp2_with fail
      have hfin := put5 (u0 := (.int .i64 pr)) (u1 := (.int .i64 ib)) (u2 := (.slice C2 k2 e2)) (u3 := (.int .i64 st)) (u4 := (.slice C4 k4 e4)) HRx.out
      have y0 := box_cell (j := 0) hfin.1 rfl
      have y1 := box_cell (j := 1) hfin.1 rfl
      have y2 := box_cell (j := 2) hfin.1 rfl
      have y3 := box_cell (j := 3) hfin.1 rfl
      have y4 := box_cell (j := 4) hfin.1 rfl
      refine bodyPost_ret (v := .agg #[.int .i64 pr, .int .i64 ib, .slice C2 k2 e2, .int .i64 st, .slice C4 k4 e4]) (by simp [results, Tryz.results27, go_sem, y0, y1, y2, y3, y4]) rfl ?_
      rw [HST.out]
      exact HoldG.copied ((HH7.out).stay (fun k hk _ => hfin.2.1 k (by omega)) (Nat.le_of_eq hfin.2.2.symm)) (fun k hk => by omega) (below_put5 HBx.out (by omega))
end Go.Proofs.YtapbjnfopniicaaGreatDoor
