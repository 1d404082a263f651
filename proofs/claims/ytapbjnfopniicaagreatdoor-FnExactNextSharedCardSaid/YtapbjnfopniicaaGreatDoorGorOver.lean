
/- Over: the program's and the model's. Laid by wip/gen8/gorover.py. -/

import Derived.Test.YtapbjnfopniicaaGreatDoorGorTell

namespace Go.Proofs.YtapbjnfopniicaaGreatDoor
set_option linter.unusedSimpArgs false
set_option linter.unusedVariables false
open Go.RowKit

set_option maxRecDepth 100000 in
set_option maxHeartbeats 4000000 in
theorem implOver_any {w : World} {hi : Nat} {x : DGor} {vs : List Value} {y : Int} (h : layGor.see w hi x vs) (hhi : hi ≤ w.heap.size) (hn : szGor x ≤ 1048576) (hv : (Lit.int .i64 y).wf = true) :
    Calls Tryz.prog 112 #[.agg vs.toArray, .int .i64 y] w (CopiedG (overR x y) w) := by
  have HSZ := Lib.hid hn
  obtain ⟨A2, n2, c2, A4, n4, c4, rfl, hw0, hw1, ⟨hc2, hm2, s2⟩, hw3, ⟨hc4, hm4, s4⟩⟩ := seeGor h
  have HC := Lib.hid (fun (W : World) (hW : Below w.heap.size w W) => copyGor_any (packGor hw0 hw1 ⟨hc2, hm2, s2.below hW hhi⟩ hw3 ⟨hc4, hm4, s4.below hW hhi⟩) (Nat.le_trans hhi hW.size) hn)
  obtain ⟨pr, pc, regs, st, tr⟩ := x
  have l2 := s2.1
  have l4 := s4.1
  simp only at l2 l4 s2 s4 hw0 hw1 hw3 HC
  subst l2 l4
  have hn2 : regs.length ≤ 1048576 := by unfold szGor at hn; simp at hn; omega
  have hn4 : tr.length ≤ 1048576 := by unfold szGor at hn; simp at hn; omega
  have hB0 : Below w.heap.size w ((w.alloc (.cells #[.int .i64 pr, .int .i64 pc, .slice A2 regs.length c2, .int .i64 st, .slice A4 tr.length c4] 34)).alloc (.cells #[.int .i64 0, .int .i64 0, .slice none 0 0, .int .i64 0, .slice none 0 0] 34)) := ((Below.refl _ _).alloc (Nat.le_refl _) _).alloc (by simp only [World.size_alloc]; omega) _
  have hX0 := box_new w #[.int .i64 pr, .int .i64 pc, .slice A2 regs.length c2, .int .i64 st, .slice A4 tr.length c4] 34
  have hX0 := box_keep hX0 ((Below.refl _ _).alloc (Nat.le_refl _) (.cells #[.int .i64 0, .int .i64 0, .slice none 0 0, .int .i64 0, .slice none 0 0] 34)) (by simp; try omega)
  have hR0 := box_new (w.alloc (.cells #[.int .i64 pr, .int .i64 pc, .slice A2 regs.length c2, .int .i64 st, .slice A4 tr.length c4] 34)) #[.int .i64 0, .int .i64 0, .slice none 0 0, .int .i64 0, .slice none 0 0] 34
  simp only [World.size_alloc] at hR0
  have hz0 : w.heap.size + 1 + 1 ≤ ((w.alloc (.cells #[.int .i64 pr, .int .i64 pc, .slice A2 regs.length c2, .int .i64 st, .slice A4 tr.length c4] 34)).alloc (.cells #[.int .i64 0, .int .i64 0, .slice none 0 0, .int .i64 0, .slice none 0 0] 34)).heap.size := by simp
  clear h hn
  have HV := Lib.hid hv
  clear hv
  have HN := Lib.hid (show regs.length + tr.length ≤ 1048576 from HSZ.out)
  have HW := Lib.hid (And.intro hw0 hw1)
  by_cases hy : y = 0
  · skip
    subst hy
    rw [show overR ⟨pr, pc, regs, st, tr⟩ 0 = ⟨pr, pc, regs, 3, tr ++ [⟨9, 0, 0, false⟩]⟩ from rfl]
    have HT := Lib.hid (fun (W : World) (hW : Below w.heap.size w W) => implTell_any (x := ⟨pr, pc, regs, 3, tr⟩) (i := ⟨9, 0, 0, false⟩) (packGor HW.out.1 HW.out.2 ⟨hc2, hm2, s2.below hW hhi⟩ (show (Lit.int .i64 3).wf = true by decide) ⟨hc4, hm4, s4.below hW hhi⟩) (Nat.le_trans hhi hW.size) HN.out ⟨show (Lit.int .i64 9).wf = true by decide, show (Lit.int .i64 0).wf = true by decide, show (Lit.int .i64 0).wf = true by decide⟩)
    simp only at HT
    clear s2 s4
    go_enter Tryz.func112, Tryz.ntmps112
    go_upto_region 1 with (fail)
    generalize ((w.alloc (.cells #[.int .i64 pr, .int .i64 pc, .slice A2 regs.length c2, .int .i64 st, .slice A4 tr.length c4] 34)).alloc (.cells #[.int .i64 0, .int .i64 0, .slice none 0 0, .int .i64 0, .slice none 0 0] 34)) = W0 at *
    have x3 := box_cell (j := 3) hX0 rfl
    have x3f := box_free hX0 3
    have HX0 := Lib.hid hX0
    have HR0 := Lib.hid hR0
    have HB0 := Lib.hid hB0
    clear hX0 hR0 hB0 HC
    go_upto_region 3 with (fail)
    have hX1 := box_set (j := 3) (u := (.int .i64 3)) HX0.out
    have hR1 := (Below.heap_setCell W0 ⟨w.heap.size, 3, none⟩ (.int .i64 3) (w.heap.size + 1) (by simp only; omega)).trans HR0.out
    have HB1 := Lib.hid (below_set (p := ⟨w.heap.size, 3, none⟩) HB0.out (Nat.le_refl _) (.int .i64 3))
    have hz1 : W0.heap.size ≤ (W0.setCell ⟨w.heap.size, 3, none⟩ (.int .i64 3)).heap.size := by simp [World.setCell]
    clear x3 x3f HX0 HR0 HB0
    generalize W0.setCell ⟨w.heap.size, 3, none⟩ (.int .i64 3) = W1 at *
    have q0 := box_cell (j := 0) hX1 rfl
    have q1 := box_cell (j := 1) hX1 rfl
    have q2 := box_cell (j := 2) hX1 rfl
    have q3 := box_cell (j := 3) hX1 rfl
    have q4 := box_cell (j := 4) hX1 rfl
    have HR1 := Lib.hid hR1
    clear hX1 hR1
    go_wp2_with fail
    refine (HT.out _ HB1.out).mono ?_
    rintro e w6 ⟨hb6, B2, e2, B4, e4, G2, G4, rfl, o2, o4, hF, hd⟩
    clear q0 q1 q2 q3 q4 HT
    have hz6 := hb6.size
    have hR6 := box_keep HR1.out hb6 (by omega)
    have HB6 := Lib.hid (HB1.out.trans (hb6.mono (by have := HB1.out.size; omega)))
    have HO6 := Lib.hid o2
    have HT6 := Lib.hid o4
    have HG6 := Lib.hid hF
    have HF6 := Lib.hid (fun g (hg : G2 g ∨ G4 g) => show w.heap.size ≤ g ∧ g < w6.heap.size by have := HG6.out g hg; omega)
    have HD6 := Lib.hid hd
    clear hb6 o2 o4 hF hd
    simp only [tellR] at *
    have HL := Lib.hid (show (tr ++ [(⟨9, 0, 0, false⟩ : DItem)]).length = tr.length + 1 by simp)
    have r0 := box_cell (j := 0) hR6 rfl
    have r1 := box_cell (j := 1) hR6 rfl
    have r2 := box_cell (j := 2) hR6 rfl
    have r3 := box_cell (j := 3) hR6 rfl
    have r4 := box_cell (j := 4) hR6 rfl
    have g0 := box_free hR6 0
    have g1 := box_free hR6 1
    have g2 := box_free hR6 2
    have g3 := box_free hR6 3
    have g4 := box_free hR6 4
    have HRz := Lib.hid hR6
    clear hR6
    go_wp2_with fail
    have hfin := (box_set (j := 4) (u := .slice B4 (tr.length + 1) e4) (box_set (j := 3) (u := .int .i64 3) (box_set (j := 2) (u := .slice B2 regs.length e2) (box_set (j := 1) (u := .int .i64 pc) (box_set (j := 0) (u := .int .i64 pr) HRz.out)))))
    have y0 := box_cell (j := 0) hfin rfl
    have y1 := box_cell (j := 1) hfin rfl
    have y2 := box_cell (j := 2) hfin rfl
    have y3 := box_cell (j := 3) hfin rfl
    have y4 := box_cell (j := 4) hfin rfl
    clear r0 r1 r2 r3 r4 g0 g1 g2 g3 g4
    refine bodyPost_ret (v := .agg #[.int .i64 pr, .int .i64 pc, .slice B2 regs.length e2, .int .i64 3, .slice B4 (tr.length + 1) e4]) (by simp [results, Tryz.results112, go_sem, y0, y1, y2, y3, y4]) rfl ?_
    have hnR2 : ¬ G2 (w.heap.size + 1) := fun hg => by have := HG6.out _ (.inl hg); omega
    have hnR4 : ¬ G4 (w.heap.size + 1) := fun hg => by have := HG6.out _ (.inr hg); omega
    refine ⟨(below_set (below_set (below_set (below_set (below_set HB6.out (by simp only; omega) _) (by simp only; omega) _) (by simp only; omega) _) (by simp only; omega) _) (by simp only; omega) _), _, _, _, _, _, _, by rw [HL.out], (OwnR.setCell (o := 4) (OwnR.setCell (o := 3) (OwnR.setCell (o := 2) (OwnR.setCell (o := 1) (OwnR.setCell (o := 0) HO6.out (g := w.heap.size + 1) hnR2 _) hnR2 _) hnR2 _) hnR2 _) hnR2 _), (OwnR.setCell (o := 4) (OwnR.setCell (o := 3) (OwnR.setCell (o := 2) (OwnR.setCell (o := 1) (OwnR.setCell (o := 0) HT6.out (g := w.heap.size + 1) hnR4 _) hnR4 _) hnR4 _) hnR4 _) hnR4 _), ?_, fun g hg hg' => by exact HD6.out g hg hg'⟩
    rintro g (hg | hg) <;> (have hq := HF6.out g; simp only [World.size_setCell]; first | (have := hq (.inl hg); omega) | (have := hq (.inr hg); omega))
  · skip
    rw [show overR ⟨pr, pc, regs, st, tr⟩ y = ⟨pr, pc, regs, 4, tr ++ [⟨10, 0, y, false⟩]⟩ from if_neg hy]
    have HT := Lib.hid (fun (W : World) (hW : Below w.heap.size w W) => implTell_any (x := ⟨pr, pc, regs, 4, tr⟩) (i := ⟨10, 0, y, false⟩) (packGor HW.out.1 HW.out.2 ⟨hc2, hm2, s2.below hW hhi⟩ (show (Lit.int .i64 4).wf = true by decide) ⟨hc4, hm4, s4.below hW hhi⟩) (Nat.le_trans hhi hW.size) HN.out ⟨show (Lit.int .i64 10).wf = true by decide, show (Lit.int .i64 0).wf = true by decide, HV.out⟩)
    simp only at HT
    clear s2 s4
    go_enter Tryz.func112, Tryz.ntmps112
    go_upto_region 1 with (fail)
    generalize ((w.alloc (.cells #[.int .i64 pr, .int .i64 pc, .slice A2 regs.length c2, .int .i64 st, .slice A4 tr.length c4] 34)).alloc (.cells #[.int .i64 0, .int .i64 0, .slice none 0 0, .int .i64 0, .slice none 0 0] 34)) = W0 at *
    have x3 := box_cell (j := 3) hX0 rfl
    have x3f := box_free hX0 3
    have HX0 := Lib.hid hX0
    have HR0 := Lib.hid hR0
    have HB0 := Lib.hid hB0
    clear hX0 hR0 hB0 HC
    go_upto_region 5 with (fail)
    have hX1 := box_set (j := 3) (u := (.int .i64 4)) HX0.out
    have hR1 := (Below.heap_setCell W0 ⟨w.heap.size, 3, none⟩ (.int .i64 4) (w.heap.size + 1) (by simp only; omega)).trans HR0.out
    have HB1 := Lib.hid (below_set (p := ⟨w.heap.size, 3, none⟩) HB0.out (Nat.le_refl _) (.int .i64 4))
    have hz1 : W0.heap.size ≤ (W0.setCell ⟨w.heap.size, 3, none⟩ (.int .i64 4)).heap.size := by simp [World.setCell]
    clear x3 x3f HX0 HR0 HB0
    generalize W0.setCell ⟨w.heap.size, 3, none⟩ (.int .i64 4) = W1 at *
    have q0 := box_cell (j := 0) hX1 rfl
    have q1 := box_cell (j := 1) hX1 rfl
    have q2 := box_cell (j := 2) hX1 rfl
    have q3 := box_cell (j := 3) hX1 rfl
    have q4 := box_cell (j := 4) hX1 rfl
    have HR1 := Lib.hid hR1
    clear hX1 hR1
    go_wp2_with fail
    refine (HT.out _ HB1.out).mono ?_
    rintro e w6 ⟨hb6, B2, e2, B4, e4, G2, G4, rfl, o2, o4, hF, hd⟩
    clear q0 q1 q2 q3 q4 HT
    have hz6 := hb6.size
    have hR6 := box_keep HR1.out hb6 (by omega)
    have HB6 := Lib.hid (HB1.out.trans (hb6.mono (by have := HB1.out.size; omega)))
    have HO6 := Lib.hid o2
    have HT6 := Lib.hid o4
    have HG6 := Lib.hid hF
    have HF6 := Lib.hid (fun g (hg : G2 g ∨ G4 g) => show w.heap.size ≤ g ∧ g < w6.heap.size by have := HG6.out g hg; omega)
    have HD6 := Lib.hid hd
    clear hb6 o2 o4 hF hd
    simp only [tellR] at *
    have HL := Lib.hid (show (tr ++ [(⟨10, 0, y, false⟩ : DItem)]).length = tr.length + 1 by simp)
    have r0 := box_cell (j := 0) hR6 rfl
    have r1 := box_cell (j := 1) hR6 rfl
    have r2 := box_cell (j := 2) hR6 rfl
    have r3 := box_cell (j := 3) hR6 rfl
    have r4 := box_cell (j := 4) hR6 rfl
    have g0 := box_free hR6 0
    have g1 := box_free hR6 1
    have g2 := box_free hR6 2
    have g3 := box_free hR6 3
    have g4 := box_free hR6 4
    have HRz := Lib.hid hR6
    clear hR6
    go_wp2_with fail
    have hfin := (box_set (j := 4) (u := .slice B4 (tr.length + 1) e4) (box_set (j := 3) (u := .int .i64 4) (box_set (j := 2) (u := .slice B2 regs.length e2) (box_set (j := 1) (u := .int .i64 pc) (box_set (j := 0) (u := .int .i64 pr) HRz.out)))))
    have y0 := box_cell (j := 0) hfin rfl
    have y1 := box_cell (j := 1) hfin rfl
    have y2 := box_cell (j := 2) hfin rfl
    have y3 := box_cell (j := 3) hfin rfl
    have y4 := box_cell (j := 4) hfin rfl
    clear r0 r1 r2 r3 r4 g0 g1 g2 g3 g4
    refine bodyPost_ret (v := .agg #[.int .i64 pr, .int .i64 pc, .slice B2 regs.length e2, .int .i64 4, .slice B4 (tr.length + 1) e4]) (by simp [results, Tryz.results112, go_sem, y0, y1, y2, y3, y4]) rfl ?_
    have hnR2 : ¬ G2 (w.heap.size + 1) := fun hg => by have := HG6.out _ (.inl hg); omega
    have hnR4 : ¬ G4 (w.heap.size + 1) := fun hg => by have := HG6.out _ (.inr hg); omega
    refine ⟨(below_set (below_set (below_set (below_set (below_set HB6.out (by simp only; omega) _) (by simp only; omega) _) (by simp only; omega) _) (by simp only; omega) _) (by simp only; omega) _), _, _, _, _, _, _, by rw [HL.out], (OwnR.setCell (o := 4) (OwnR.setCell (o := 3) (OwnR.setCell (o := 2) (OwnR.setCell (o := 1) (OwnR.setCell (o := 0) HO6.out (g := w.heap.size + 1) hnR2 _) hnR2 _) hnR2 _) hnR2 _) hnR2 _), (OwnR.setCell (o := 4) (OwnR.setCell (o := 3) (OwnR.setCell (o := 2) (OwnR.setCell (o := 1) (OwnR.setCell (o := 0) HT6.out (g := w.heap.size + 1) hnR4 _) hnR4 _) hnR4 _) hnR4 _) hnR4 _), ?_, fun g hg hg' => by exact HD6.out g hg hg'⟩
    rintro g (hg | hg) <;> (have hq := HF6.out g; simp only [World.size_setCell]; first | (have := hq (.inl hg); omega) | (have := hq (.inr hg); omega))

set_option maxRecDepth 100000 in
set_option maxHeartbeats 4000000 in
theorem specOver_any {w : World} {hi : Nat} {x : DGor} {vs : List Value} {y : Int} (h : layGor.see w hi x vs) (hhi : hi ≤ w.heap.size) (hn : szGor x ≤ 1048576) (hv : (Lit.int .i64 y).wf = true) :
    Calls Tryz.prog 54 #[.agg vs.toArray, .int .i64 y] w (CopiedG (overR x y) w) := by
  have HSZ := Lib.hid hn
  obtain ⟨A2, n2, c2, A4, n4, c4, rfl, hw0, hw1, ⟨hc2, hm2, s2⟩, hw3, ⟨hc4, hm4, s4⟩⟩ := seeGor h
  have HC := Lib.hid (fun (W : World) (hW : Below w.heap.size w W) => l08Copy_any (packGor hw0 hw1 ⟨hc2, hm2, s2.below hW hhi⟩ hw3 ⟨hc4, hm4, s4.below hW hhi⟩) (Nat.le_trans hhi hW.size) hn)
  obtain ⟨pr, pc, regs, st, tr⟩ := x
  have l2 := s2.1
  have l4 := s4.1
  simp only at l2 l4 s2 s4 hw0 hw1 hw3 HC
  subst l2 l4
  have hn2 : regs.length ≤ 1048576 := by unfold szGor at hn; simp at hn; omega
  have hn4 : tr.length ≤ 1048576 := by unfold szGor at hn; simp at hn; omega
  have hB0 : Below w.heap.size w ((w.alloc (.cells #[.int .i64 pr, .int .i64 pc, .slice A2 regs.length c2, .int .i64 st, .slice A4 tr.length c4] 34)).alloc (.cells #[.int .i64 0, .int .i64 0, .slice none 0 0, .int .i64 0, .slice none 0 0] 34)) := ((Below.refl _ _).alloc (Nat.le_refl _) _).alloc (by simp only [World.size_alloc]; omega) _
  have hX0 := box_new w #[.int .i64 pr, .int .i64 pc, .slice A2 regs.length c2, .int .i64 st, .slice A4 tr.length c4] 34
  have hX0 := box_keep hX0 ((Below.refl _ _).alloc (Nat.le_refl _) (.cells #[.int .i64 0, .int .i64 0, .slice none 0 0, .int .i64 0, .slice none 0 0] 34)) (by simp; try omega)
  have hR0 := box_new (w.alloc (.cells #[.int .i64 pr, .int .i64 pc, .slice A2 regs.length c2, .int .i64 st, .slice A4 tr.length c4] 34)) #[.int .i64 0, .int .i64 0, .slice none 0 0, .int .i64 0, .slice none 0 0] 34
  simp only [World.size_alloc] at hR0
  have hz0 : w.heap.size + 1 + 1 ≤ ((w.alloc (.cells #[.int .i64 pr, .int .i64 pc, .slice A2 regs.length c2, .int .i64 st, .slice A4 tr.length c4] 34)).alloc (.cells #[.int .i64 0, .int .i64 0, .slice none 0 0, .int .i64 0, .slice none 0 0] 34)).heap.size := by simp
  clear h hn
  have HV := Lib.hid hv
  clear hv
  have HN := Lib.hid (show regs.length + tr.length ≤ 1048576 from HSZ.out)
  have HW := Lib.hid (And.intro hw0 hw1)
  by_cases hy : y = 0
  · skip
    subst hy
    rw [show overR ⟨pr, pc, regs, st, tr⟩ 0 = ⟨pr, pc, regs, 3, tr ++ [⟨9, 0, 0, false⟩]⟩ from rfl]
    go_enter Tryz.func54, Tryz.ntmps54
    go_upto_region 1 with (fail)
    generalize ((w.alloc (.cells #[.int .i64 pr, .int .i64 pc, .slice A2 regs.length c2, .int .i64 st, .slice A4 tr.length c4] 34)).alloc (.cells #[.int .i64 0, .int .i64 0, .slice none 0 0, .int .i64 0, .slice none 0 0] 34)) = W0 at *
    have q0 := box_cell (j := 0) hX0 rfl
    have q1 := box_cell (j := 1) hX0 rfl
    have q2 := box_cell (j := 2) hX0 rfl
    have q3 := box_cell (j := 3) hX0 rfl
    have q4 := box_cell (j := 4) hX0 rfl
    have HR0 := Lib.hid hR0
    have HB0 := Lib.hid hB0
    clear hX0 hR0 hB0
    go_wp2_with fail
    refine (HC.out _ HB0.out).mono ?_
    rintro e w2 ⟨hb2, B2, e2, B4, e4, F2, F4, rfl, o2, o4, hF, hd⟩
    have hz2 := hb2.size
    clear q0 q1 q2 q3 q4
    have HR2 := Lib.hid (box_keep HR0.out hb2 (by omega))
    have HB2 := Lib.hid (HB0.out.trans (hb2.mono (by have := HB0.out.size; omega)))
    have HO2 := Lib.hid o2
    have HO4 := Lib.hid o4
    have HF2 := Lib.hid hF
    have HD := Lib.hid hd
    clear hb2 o2 o4 hF hd HR0 HB0 HC
    simp only at *
    go_upto_region 2 with (fail)
    have hal : Below w2.heap.size w2 (w2.alloc (.cells #[.int .i64 pr, .int .i64 pc, .slice B2 regs.length e2, .int .i64 st, .slice B4 tr.length e4] 34)) := (Below.refl _ _).alloc (Nat.le_refl _) _
    have hY := box_new w2 #[.int .i64 pr, .int .i64 pc, .slice B2 regs.length e2, .int .i64 st, .slice B4 tr.length e4] 34
    have hR := box_keep HR2.out hal (by omega)
    have HO2a := Lib.hid (HO2.out.stay (w' := (w2.alloc (.cells #[.int .i64 pr, .int .i64 pc, .slice B2 regs.length e2, .int .i64 st, .slice B4 tr.length e4] 34))) (fun g hg hlt => hal.block g hlt) hal.size)
    have HO4a := Lib.hid (HO4.out.stay (w' := (w2.alloc (.cells #[.int .i64 pr, .int .i64 pc, .slice B2 regs.length e2, .int .i64 st, .slice B4 tr.length e4] 34))) (fun g hg hlt => hal.block g hlt) hal.size)
    have HB := Lib.hid (HB2.out.alloc (by omega) (.cells #[.int .i64 pr, .int .i64 pc, .slice B2 regs.length e2, .int .i64 st, .slice B4 tr.length e4] 34))
    have hyW : w2.heap.size < (w2.alloc (.cells #[.int .i64 pr, .int .i64 pc, .slice B2 regs.length e2, .int .i64 st, .slice B4 tr.length e4] 34)).heap.size := by simp
    have HG := Lib.hid (fun g hg => show W0.heap.size ≤ g ∧ g < w2.heap.size from HF2.out g hg)
    clear hal HO2 HO4 HB2 HF2 HR2
    generalize (w2.alloc (.cells #[.int .i64 pr, .int .i64 pc, .slice B2 regs.length e2, .int .i64 st, .slice B4 tr.length e4] 34)) = W3 at *
    generalize w2.heap.size = yy at *
    have HF := Lib.hid (fun g (hg : F2 g ∨ F4 g) => show w.heap.size ≤ g ∧ g < W3.heap.size by have := HG.out g hg; omega)
    have x3 := box_cell (j := 3) hY rfl
    have x3f := box_free hY 3
    go_upto_region 4 with (fail)
    have hX1 := box_set (j := 3) (u := (.int .i64 3)) hY
    have hR1 := (Below.heap_setCell W3 ⟨yy, 3, none⟩ (.int .i64 3) (w.heap.size + 1) (by simp only; omega)).trans hR
    have HB1 := Lib.hid (below_set (p := ⟨yy, 3, none⟩) HB.out (by simp only; omega) (.int .i64 3))
    have hn2 : ¬ F2 yy := fun hg => by have := HG.out _ (.inl hg); omega
    have hn4 : ¬ F4 yy := fun hg => by have := HG.out _ (.inr hg); omega
    have ho2 := OwnR.setCell (o := 3) HO2a.out (g := yy) hn2 (.int .i64 3)
    have ho4 := OwnR.setCell (o := 3) HO4a.out (g := yy) hn4 (.int .i64 3)
    have hz1 : W3.heap.size ≤ (W3.setCell ⟨yy, 3, none⟩ (.int .i64 3)).heap.size := by simp [World.setCell]
    have HT := Lib.hid (fun (W : World) (hW : W = W3.setCell ⟨yy, 3, none⟩ (.int .i64 3)) => specTell_any (w := W) (hi := W3.heap.size) (x := ⟨pr, pc, regs, 3, tr⟩) (i := ⟨9, 0, 0, false⟩) (packGor HW.out.1 HW.out.2 ⟨HO2a.out.cap, HO2a.out.capMax, by subst hW; exact ho2.seen (hi := W3.heap.size) fun g hg => (HF.out g (.inl hg)).2⟩ (show (Lit.int .i64 3).wf = true by decide) ⟨HO4a.out.cap, HO4a.out.capMax, by subst hW; exact ho4.seen (hi := W3.heap.size) fun g hg => (HF.out g (.inr hg)).2⟩) (by subst hW; exact hz1) HN.out ⟨show (Lit.int .i64 9).wf = true by decide, show (Lit.int .i64 0).wf = true by decide, show (Lit.int .i64 0).wf = true by decide⟩)
    simp only at HT
    clear x3 x3f hY hR HO2a HO4a HB HF HG HD ho2 ho4 hn2 hn4
    generalize W3.setCell ⟨yy, 3, none⟩ (.int .i64 3) = W1 at *
    have q0 := box_cell (j := 0) hX1 rfl
    have q1 := box_cell (j := 1) hX1 rfl
    have q2 := box_cell (j := 2) hX1 rfl
    have q3 := box_cell (j := 3) hX1 rfl
    have q4 := box_cell (j := 4) hX1 rfl
    have HR1 := Lib.hid hR1
    clear hX1 hR1
    go_wp2_with fail
    refine (HT.out _ rfl).mono ?_
    rintro e w6 ⟨hb6, B2, e2, B4, e4, G2, G4, rfl, o2, o4, hF, hd⟩
    clear q0 q1 q2 q3 q4 HT
    have hz6 := hb6.size
    have hR6 := box_keep HR1.out hb6 (by omega)
    have HB6 := Lib.hid (HB1.out.trans (hb6.mono (by have := HB1.out.size; omega)))
    have HO6 := Lib.hid o2
    have HT6 := Lib.hid o4
    have HG6 := Lib.hid hF
    have HF6 := Lib.hid (fun g (hg : G2 g ∨ G4 g) => show w.heap.size ≤ g ∧ g < w6.heap.size by have := HG6.out g hg; omega)
    have HD6 := Lib.hid hd
    clear hb6 o2 o4 hF hd
    simp only [tellR] at *
    have HL := Lib.hid (show (tr ++ [(⟨9, 0, 0, false⟩ : DItem)]).length = tr.length + 1 by simp)
    have r0 := box_cell (j := 0) hR6 rfl
    have r1 := box_cell (j := 1) hR6 rfl
    have r2 := box_cell (j := 2) hR6 rfl
    have r3 := box_cell (j := 3) hR6 rfl
    have r4 := box_cell (j := 4) hR6 rfl
    have g0 := box_free hR6 0
    have g1 := box_free hR6 1
    have g2 := box_free hR6 2
    have g3 := box_free hR6 3
    have g4 := box_free hR6 4
    have HRz := Lib.hid hR6
    clear hR6
    go_wp2_with fail
    have hfin := (box_set (j := 4) (u := .slice B4 (tr.length + 1) e4) (box_set (j := 3) (u := .int .i64 3) (box_set (j := 2) (u := .slice B2 regs.length e2) (box_set (j := 1) (u := .int .i64 pc) (box_set (j := 0) (u := .int .i64 pr) HRz.out)))))
    have y0 := box_cell (j := 0) hfin rfl
    have y1 := box_cell (j := 1) hfin rfl
    have y2 := box_cell (j := 2) hfin rfl
    have y3 := box_cell (j := 3) hfin rfl
    have y4 := box_cell (j := 4) hfin rfl
    clear r0 r1 r2 r3 r4 g0 g1 g2 g3 g4
    refine bodyPost_ret (v := .agg #[.int .i64 pr, .int .i64 pc, .slice B2 regs.length e2, .int .i64 3, .slice B4 (tr.length + 1) e4]) (by simp [results, Tryz.results54, go_sem, y0, y1, y2, y3, y4]) rfl ?_
    have hnR2 : ¬ G2 (w.heap.size + 1) := fun hg => by have := HG6.out _ (.inl hg); omega
    have hnR4 : ¬ G4 (w.heap.size + 1) := fun hg => by have := HG6.out _ (.inr hg); omega
    refine ⟨(below_set (below_set (below_set (below_set (below_set HB6.out (by simp only; omega) _) (by simp only; omega) _) (by simp only; omega) _) (by simp only; omega) _) (by simp only; omega) _), _, _, _, _, _, _, by rw [HL.out], (OwnR.setCell (o := 4) (OwnR.setCell (o := 3) (OwnR.setCell (o := 2) (OwnR.setCell (o := 1) (OwnR.setCell (o := 0) HO6.out (g := w.heap.size + 1) hnR2 _) hnR2 _) hnR2 _) hnR2 _) hnR2 _), (OwnR.setCell (o := 4) (OwnR.setCell (o := 3) (OwnR.setCell (o := 2) (OwnR.setCell (o := 1) (OwnR.setCell (o := 0) HT6.out (g := w.heap.size + 1) hnR4 _) hnR4 _) hnR4 _) hnR4 _) hnR4 _), ?_, fun g hg hg' => by exact HD6.out g hg hg'⟩
    rintro g (hg | hg) <;> (have hq := HF6.out g; simp only [World.size_setCell]; first | (have := hq (.inl hg); omega) | (have := hq (.inr hg); omega))
  · skip
    rw [show overR ⟨pr, pc, regs, st, tr⟩ y = ⟨pr, pc, regs, 4, tr ++ [⟨10, 0, y, false⟩]⟩ from if_neg hy]
    go_enter Tryz.func54, Tryz.ntmps54
    go_upto_region 1 with (fail)
    generalize ((w.alloc (.cells #[.int .i64 pr, .int .i64 pc, .slice A2 regs.length c2, .int .i64 st, .slice A4 tr.length c4] 34)).alloc (.cells #[.int .i64 0, .int .i64 0, .slice none 0 0, .int .i64 0, .slice none 0 0] 34)) = W0 at *
    have q0 := box_cell (j := 0) hX0 rfl
    have q1 := box_cell (j := 1) hX0 rfl
    have q2 := box_cell (j := 2) hX0 rfl
    have q3 := box_cell (j := 3) hX0 rfl
    have q4 := box_cell (j := 4) hX0 rfl
    have HR0 := Lib.hid hR0
    have HB0 := Lib.hid hB0
    clear hX0 hR0 hB0
    go_wp2_with fail
    refine (HC.out _ HB0.out).mono ?_
    rintro e w2 ⟨hb2, B2, e2, B4, e4, F2, F4, rfl, o2, o4, hF, hd⟩
    have hz2 := hb2.size
    clear q0 q1 q2 q3 q4
    have HR2 := Lib.hid (box_keep HR0.out hb2 (by omega))
    have HB2 := Lib.hid (HB0.out.trans (hb2.mono (by have := HB0.out.size; omega)))
    have HO2 := Lib.hid o2
    have HO4 := Lib.hid o4
    have HF2 := Lib.hid hF
    have HD := Lib.hid hd
    clear hb2 o2 o4 hF hd HR0 HB0 HC
    simp only at *
    go_upto_region 2 with (fail)
    have hal : Below w2.heap.size w2 (w2.alloc (.cells #[.int .i64 pr, .int .i64 pc, .slice B2 regs.length e2, .int .i64 st, .slice B4 tr.length e4] 34)) := (Below.refl _ _).alloc (Nat.le_refl _) _
    have hY := box_new w2 #[.int .i64 pr, .int .i64 pc, .slice B2 regs.length e2, .int .i64 st, .slice B4 tr.length e4] 34
    have hR := box_keep HR2.out hal (by omega)
    have HO2a := Lib.hid (HO2.out.stay (w' := (w2.alloc (.cells #[.int .i64 pr, .int .i64 pc, .slice B2 regs.length e2, .int .i64 st, .slice B4 tr.length e4] 34))) (fun g hg hlt => hal.block g hlt) hal.size)
    have HO4a := Lib.hid (HO4.out.stay (w' := (w2.alloc (.cells #[.int .i64 pr, .int .i64 pc, .slice B2 regs.length e2, .int .i64 st, .slice B4 tr.length e4] 34))) (fun g hg hlt => hal.block g hlt) hal.size)
    have HB := Lib.hid (HB2.out.alloc (by omega) (.cells #[.int .i64 pr, .int .i64 pc, .slice B2 regs.length e2, .int .i64 st, .slice B4 tr.length e4] 34))
    have hyW : w2.heap.size < (w2.alloc (.cells #[.int .i64 pr, .int .i64 pc, .slice B2 regs.length e2, .int .i64 st, .slice B4 tr.length e4] 34)).heap.size := by simp
    have HG := Lib.hid (fun g hg => show W0.heap.size ≤ g ∧ g < w2.heap.size from HF2.out g hg)
    clear hal HO2 HO4 HB2 HF2 HR2
    generalize (w2.alloc (.cells #[.int .i64 pr, .int .i64 pc, .slice B2 regs.length e2, .int .i64 st, .slice B4 tr.length e4] 34)) = W3 at *
    generalize w2.heap.size = yy at *
    have HF := Lib.hid (fun g (hg : F2 g ∨ F4 g) => show w.heap.size ≤ g ∧ g < W3.heap.size by have := HG.out g hg; omega)
    have x3 := box_cell (j := 3) hY rfl
    have x3f := box_free hY 3
    go_upto_region 6 with (fail)
    have hX1 := box_set (j := 3) (u := (.int .i64 4)) hY
    have hR1 := (Below.heap_setCell W3 ⟨yy, 3, none⟩ (.int .i64 4) (w.heap.size + 1) (by simp only; omega)).trans hR
    have HB1 := Lib.hid (below_set (p := ⟨yy, 3, none⟩) HB.out (by simp only; omega) (.int .i64 4))
    have hn2 : ¬ F2 yy := fun hg => by have := HG.out _ (.inl hg); omega
    have hn4 : ¬ F4 yy := fun hg => by have := HG.out _ (.inr hg); omega
    have ho2 := OwnR.setCell (o := 3) HO2a.out (g := yy) hn2 (.int .i64 4)
    have ho4 := OwnR.setCell (o := 3) HO4a.out (g := yy) hn4 (.int .i64 4)
    have hz1 : W3.heap.size ≤ (W3.setCell ⟨yy, 3, none⟩ (.int .i64 4)).heap.size := by simp [World.setCell]
    have HT := Lib.hid (fun (W : World) (hW : W = W3.setCell ⟨yy, 3, none⟩ (.int .i64 4)) => specTell_any (w := W) (hi := W3.heap.size) (x := ⟨pr, pc, regs, 4, tr⟩) (i := ⟨10, 0, y, false⟩) (packGor HW.out.1 HW.out.2 ⟨HO2a.out.cap, HO2a.out.capMax, by subst hW; exact ho2.seen (hi := W3.heap.size) fun g hg => (HF.out g (.inl hg)).2⟩ (show (Lit.int .i64 4).wf = true by decide) ⟨HO4a.out.cap, HO4a.out.capMax, by subst hW; exact ho4.seen (hi := W3.heap.size) fun g hg => (HF.out g (.inr hg)).2⟩) (by subst hW; exact hz1) HN.out ⟨show (Lit.int .i64 10).wf = true by decide, show (Lit.int .i64 0).wf = true by decide, HV.out⟩)
    simp only at HT
    clear x3 x3f hY hR HO2a HO4a HB HF HG HD ho2 ho4 hn2 hn4
    generalize W3.setCell ⟨yy, 3, none⟩ (.int .i64 4) = W1 at *
    have q0 := box_cell (j := 0) hX1 rfl
    have q1 := box_cell (j := 1) hX1 rfl
    have q2 := box_cell (j := 2) hX1 rfl
    have q3 := box_cell (j := 3) hX1 rfl
    have q4 := box_cell (j := 4) hX1 rfl
    have HR1 := Lib.hid hR1
    clear hX1 hR1
    go_wp2_with fail
    refine (HT.out _ rfl).mono ?_
    rintro e w6 ⟨hb6, B2, e2, B4, e4, G2, G4, rfl, o2, o4, hF, hd⟩
    clear q0 q1 q2 q3 q4 HT
    have hz6 := hb6.size
    have hR6 := box_keep HR1.out hb6 (by omega)
    have HB6 := Lib.hid (HB1.out.trans (hb6.mono (by have := HB1.out.size; omega)))
    have HO6 := Lib.hid o2
    have HT6 := Lib.hid o4
    have HG6 := Lib.hid hF
    have HF6 := Lib.hid (fun g (hg : G2 g ∨ G4 g) => show w.heap.size ≤ g ∧ g < w6.heap.size by have := HG6.out g hg; omega)
    have HD6 := Lib.hid hd
    clear hb6 o2 o4 hF hd
    simp only [tellR] at *
    have HL := Lib.hid (show (tr ++ [(⟨10, 0, y, false⟩ : DItem)]).length = tr.length + 1 by simp)
    have r0 := box_cell (j := 0) hR6 rfl
    have r1 := box_cell (j := 1) hR6 rfl
    have r2 := box_cell (j := 2) hR6 rfl
    have r3 := box_cell (j := 3) hR6 rfl
    have r4 := box_cell (j := 4) hR6 rfl
    have g0 := box_free hR6 0
    have g1 := box_free hR6 1
    have g2 := box_free hR6 2
    have g3 := box_free hR6 3
    have g4 := box_free hR6 4
    have HRz := Lib.hid hR6
    clear hR6
    go_wp2_with fail
    have hfin := (box_set (j := 4) (u := .slice B4 (tr.length + 1) e4) (box_set (j := 3) (u := .int .i64 4) (box_set (j := 2) (u := .slice B2 regs.length e2) (box_set (j := 1) (u := .int .i64 pc) (box_set (j := 0) (u := .int .i64 pr) HRz.out)))))
    have y0 := box_cell (j := 0) hfin rfl
    have y1 := box_cell (j := 1) hfin rfl
    have y2 := box_cell (j := 2) hfin rfl
    have y3 := box_cell (j := 3) hfin rfl
    have y4 := box_cell (j := 4) hfin rfl
    clear r0 r1 r2 r3 r4 g0 g1 g2 g3 g4
    refine bodyPost_ret (v := .agg #[.int .i64 pr, .int .i64 pc, .slice B2 regs.length e2, .int .i64 4, .slice B4 (tr.length + 1) e4]) (by simp [results, Tryz.results54, go_sem, y0, y1, y2, y3, y4]) rfl ?_
    have hnR2 : ¬ G2 (w.heap.size + 1) := fun hg => by have := HG6.out _ (.inl hg); omega
    have hnR4 : ¬ G4 (w.heap.size + 1) := fun hg => by have := HG6.out _ (.inr hg); omega
    refine ⟨(below_set (below_set (below_set (below_set (below_set HB6.out (by simp only; omega) _) (by simp only; omega) _) (by simp only; omega) _) (by simp only; omega) _) (by simp only; omega) _), _, _, _, _, _, _, by rw [HL.out], (OwnR.setCell (o := 4) (OwnR.setCell (o := 3) (OwnR.setCell (o := 2) (OwnR.setCell (o := 1) (OwnR.setCell (o := 0) HO6.out (g := w.heap.size + 1) hnR2 _) hnR2 _) hnR2 _) hnR2 _) hnR2 _), (OwnR.setCell (o := 4) (OwnR.setCell (o := 3) (OwnR.setCell (o := 2) (OwnR.setCell (o := 1) (OwnR.setCell (o := 0) HT6.out (g := w.heap.size + 1) hnR4 _) hnR4 _) hnR4 _) hnR4 _) hnR4 _), ?_, fun g hg hg' => by exact HD6.out g hg hg'⟩
    rintro g (hg | hg) <;> (have hq := HF6.out g; simp only [World.size_setCell]; first | (have := hq (.inl hg); omega) | (have := hq (.inr hg); omega))
end Go.Proofs.YtapbjnfopniicaaGreatDoor
