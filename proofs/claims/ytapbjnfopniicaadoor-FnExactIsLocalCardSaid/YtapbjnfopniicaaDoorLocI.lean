
/- The program's IsLocal. Laid by wip/gen10/locs.py. -/

import Derived.Test.YtapbjnfopniicaaDoorLocS

import Derived.Test.YtapbjnfopniicaaDoorGorFits

import Derived.Deep.Cut

namespace Go.Proofs.YtapbjnfopniicaaDoor
set_option linter.unusedSimpArgs false
set_option linter.unusedVariables false
open Go.RowKit


set_option maxRecDepth 100000 in
set_option maxHeartbeats 4000000 in
theorem implIsLocal_any {w : World} {hi : Nat} {p : DProg} {g : DGor} {vs us : List Value} (hp : layProg.see w hi p vs) (hg : layGor.see w hi g us) (hhi : hi ≤ w.heap.size) (hnp : szProg p ≤ 1048576) (hOC : OpCells w) (hIC : ItemCells w) (hng : szGor g ≤ 1048576) :
    Calls Tryd.prog 9 #[.agg vs.toArray, .agg us.toArray] w fun e w' => e = .returned (.bool (gorOkB p g && locB p g)) ∧ Below w.heap.size w w' := by
  have HG := Lib.hid (fun (W : World) (hW : Below w.heap.size w W) => implGorOk_any (layProg.keep hp fun k hk => hW.block k (by omega)) (layGor.keep hg fun k hk => hW.block k (by omega)) (Nat.le_trans hhi hW.size) (opCells_below hOC hW) (itemCells_below hIC hW (Nat.le_refl _)) hnp hng)
  have HM := Lib.hid (fun (hok : gorOkB p g = true) (W : World) (hW : Below w.heap.size w W) => implLoc_any (layProg.keep hp fun k hk => hW.block k (by omega)) (layGor.keep hg fun k hk => hW.block k (by omega)) (Nat.le_trans hhi hW.size) hnp (fun _ => (good_of hok).2.1))
  obtain ⟨A0, n0, c0, B2, m2, d2, A3, n3, c3, rfl, -⟩ := seeProg hp
  obtain ⟨A2, n2, c2, A4, n4, c4, rfl, -⟩ := seeGor hg
  clear hp hg hnp hng hOC hIC
  rw [show (progOkB p && gorB (instrsZ p g.fProc) g) = gorOkB p g from rfl] at HG
  generalize gorOkB p g = b1 at *
  generalize locB p g = b2 at *
  have hP0 := box_new w #[.slice A0 n0 c0, .int .i64 p.fMus, .slice B2 m2 d2, .slice A3 n3 c3] 36
  have hP0 := box_keep hP0 ((Below.refl _ _).alloc (Nat.le_refl _) (.cells #[.int .i64 g.fProc, .int .i64 g.fPc, .slice A2 n2 c2, .int .i64 g.fState, .slice A4 n4 c4] 40)) (by simp only [World.size_alloc]; omega)
  have hG0 := box_new (w.alloc (.cells #[.slice A0 n0 c0, .int .i64 p.fMus, .slice B2 m2 d2, .slice A3 n3 c3] 36)) #[.int .i64 g.fProc, .int .i64 g.fPc, .slice A2 n2 c2, .int .i64 g.fState, .slice A4 n4 c4] 40
  simp only [World.size_alloc, Nat.add_assoc, Nat.reduceAdd] at hG0
  have hB0 : Below w.heap.size w ((w.alloc (.cells #[.slice A0 n0 c0, .int .i64 p.fMus, .slice B2 m2 d2, .slice A3 n3 c3] 36)).alloc (.cells #[.int .i64 g.fProc, .int .i64 g.fPc, .slice A2 n2 c2, .int .i64 g.fState, .slice A4 n4 c4] 40)) := ((Below.refl _ _).alloc (Nat.le_refl _) _).alloc (by simp only [World.size_alloc]; omega) _
  have hz0 : w.heap.size + 2 ≤ ((w.alloc (.cells #[.slice A0 n0 c0, .int .i64 p.fMus, .slice B2 m2 d2, .slice A3 n3 c3] 36)).alloc (.cells #[.int .i64 g.fProc, .int .i64 g.fPc, .slice A2 n2 c2, .int .i64 g.fState, .slice A4 n4 c4] 40)).heap.size := by simp only [World.size_alloc]; omega
  go_enter Tryd.func9, Tryd.ntmps9
  go_wp2_with fail
  refine (HG.out _ hB0).mono ?_
  rintro e w1 ⟨rfl, hb1⟩
  have hz1 := hb1.size
  have HB1 := Lib.hid (hB0.trans (hb1.mono (by omega)))
  have hP1 := box_keep hP0 hb1 (by omega)
  have hG1 := box_keep hG0 hb1 (by omega)
  have p0 := box_cell (j := 0) hP1 rfl
  have p1 := box_cell (j := 1) hP1 rfl
  have p2 := box_cell (j := 2) hP1 rfl
  have p3 := box_cell (j := 3) hP1 rfl
  have g0 := box_cell (j := 0) hG1 rfl
  have g1 := box_cell (j := 1) hG1 rfl
  have g2 := box_cell (j := 2) hG1 rfl
  have g3 := box_cell (j := 3) hG1 rfl
  have g4 := box_cell (j := 4) hG1 rfl
  clear hb1 hP1 hG1 hP0 hG0 hB0
  cases b1
  · go_wp2_with fail
    go_ret
    exact ⟨rfl, HB1.out⟩
  · go_wp2_with fail
    refine (HM.out (by simp) _ HB1.out).mono ?_
    rintro e w2 ⟨rfl, hb2⟩
    go_wp2_with fail
    go_ret
    exact ⟨by simp, HB1.out.trans (hb2.mono HB1.out.size)⟩
end Go.Proofs.YtapbjnfopniicaaDoor
