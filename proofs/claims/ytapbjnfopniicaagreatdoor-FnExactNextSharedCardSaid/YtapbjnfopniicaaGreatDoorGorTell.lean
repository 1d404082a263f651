
/- Tell: the program's and the model's. Laid by wip/gen8/gortell.py. -/

import Derived.Test.YtapbjnfopniicaaGreatDoorGGorX

namespace Go.Proofs.YtapbjnfopniicaaGreatDoor
set_option linter.unusedSimpArgs false
set_option linter.unusedVariables false
open Go.RowKit

set_option maxRecDepth 100000 in
set_option maxHeartbeats 4000000 in
theorem implTell_any {w : World} {hi : Nat} {x : DGor} {vs : List Value} {i : DItem} (h : layGor.see w hi x vs) (hhi : hi ≤ w.heap.size) (hn : szGor x ≤ 1048576) (hv : (Lit.int .i64 i.fKind).wf = true ∧ (Lit.int .i64 i.fObj).wf = true ∧ (Lit.int .i64 i.fVal).wf = true) :
    Calls Tryz.prog 120 #[.agg vs.toArray, .agg #[.int .i64 i.fKind, .int .i64 i.fObj, .int .i64 i.fVal, .bool i.fOk]] w (CopiedG (tellR x i) w) := by
  obtain ⟨A2, n2, c2, A4, n4, c4, rfl, hw0, hw1, ⟨hc2, hm2, s2⟩, hw3, ⟨hc4, hm4, s4⟩⟩ := seeGor h
  have HC := Lib.hid (fun (W : World) (hW : Below w.heap.size w W) => copyGor_any (packGor hw0 hw1 ⟨hc2, hm2, s2.below hW hhi⟩ hw3 ⟨hc4, hm4, s4.below hW hhi⟩) (Nat.le_trans hhi hW.size) hn)
  obtain ⟨pr, pc, regs, st, tr⟩ := x
  have l2 := s2.1
  have l4 := s4.1
  simp only at l2 l4 s2 s4 hw0 hw1 hw3 HC
  subst l2 l4
  have hn2 : regs.length ≤ 1048576 := by unfold szGor at hn; simp at hn; omega
  have hn4 : tr.length ≤ 1048576 := by unfold szGor at hn; simp at hn; omega
  have hB0 : Below w.heap.size w (((w.alloc (.cells #[.int .i64 pr, .int .i64 pc, .slice A2 regs.length c2, .int .i64 st, .slice A4 tr.length c4] 34)).alloc (.cells #[.int .i64 i.fKind, .int .i64 i.fObj, .int .i64 i.fVal, .bool i.fOk] 96)).alloc (.cells #[.int .i64 0, .int .i64 0, .slice none 0 0, .int .i64 0, .slice none 0 0] 34)) := (((Below.refl _ _).alloc (Nat.le_refl _) _).alloc (by simp only [World.size_alloc]; omega) _).alloc (by simp only [World.size_alloc]; omega) _
  have hX0 := box_new w #[.int .i64 pr, .int .i64 pc, .slice A2 regs.length c2, .int .i64 st, .slice A4 tr.length c4] 34
  have hI0 := box_new (w.alloc (.cells #[.int .i64 pr, .int .i64 pc, .slice A2 regs.length c2, .int .i64 st, .slice A4 tr.length c4] 34)) #[.int .i64 i.fKind, .int .i64 i.fObj, .int .i64 i.fVal, .bool i.fOk] 96
  have hX0 := box_keep hX0 ((Below.refl _ _).alloc (Nat.le_refl _) (.cells #[.int .i64 i.fKind, .int .i64 i.fObj, .int .i64 i.fVal, .bool i.fOk] 96)) (by simp)
  have hI0 := box_keep hI0 ((Below.refl _ _).alloc (Nat.le_refl _) (.cells #[.int .i64 0, .int .i64 0, .slice none 0 0, .int .i64 0, .slice none 0 0] 34)) (by simp)
  have hX0 := box_keep hX0 ((Below.refl _ _).alloc (Nat.le_refl _) (.cells #[.int .i64 0, .int .i64 0, .slice none 0 0, .int .i64 0, .slice none 0 0] 34)) (by simp; try omega)
  have hR0 := box_new ((w.alloc (.cells #[.int .i64 pr, .int .i64 pc, .slice A2 regs.length c2, .int .i64 st, .slice A4 tr.length c4] 34)).alloc (.cells #[.int .i64 i.fKind, .int .i64 i.fObj, .int .i64 i.fVal, .bool i.fOk] 96)) #[.int .i64 0, .int .i64 0, .slice none 0 0, .int .i64 0, .slice none 0 0] 34
  simp only [World.size_alloc] at hR0 hI0
  have hz0 : w.heap.size + 2 + 1 ≤ (((w.alloc (.cells #[.int .i64 pr, .int .i64 pc, .slice A2 regs.length c2, .int .i64 st, .slice A4 tr.length c4] 34)).alloc (.cells #[.int .i64 i.fKind, .int .i64 i.fObj, .int .i64 i.fVal, .bool i.fOk] 96)).alloc (.cells #[.int .i64 0, .int .i64 0, .slice none 0 0, .int .i64 0, .slice none 0 0] 34)).heap.size := by simp
  clear h hn
  rw [show tellR ⟨pr, pc, regs, st, tr⟩ i = ⟨pr, pc, regs, st, tr ++ [i]⟩ from rfl]
  have HV := Lib.hid hv
  clear hv
  go_enter Tryz.func120, Tryz.ntmps120
  go_upto_region 1 with (fail)
  generalize (((w.alloc (.cells #[.int .i64 pr, .int .i64 pc, .slice A2 regs.length c2, .int .i64 st, .slice A4 tr.length c4] 34)).alloc (.cells #[.int .i64 i.fKind, .int .i64 i.fObj, .int .i64 i.fVal, .bool i.fOk] 96)).alloc (.cells #[.int .i64 0, .int .i64 0, .slice none 0 0, .int .i64 0, .slice none 0 0] 34)) = W0 at *
  have q0 := box_cell (j := 0) hX0 rfl
  have q1 := box_cell (j := 1) hX0 rfl
  have q2 := box_cell (j := 2) hX0 rfl
  have q3 := box_cell (j := 3) hX0 rfl
  have q4 := box_cell (j := 4) hX0 rfl
  have HR0 := Lib.hid hR0
  have HI0 := Lib.hid hI0
  clear hI0
  have HB0 := Lib.hid hB0
  clear hX0 hR0 hB0
  go_wp2_with fail
  refine (HC.out _ HB0.out).mono ?_
  rintro e w2 ⟨hb2, B2, e2, B4, e4, F2, F4, rfl, o2, o4, hF, hd⟩
  have hz2 := hb2.size
  clear q0 q1 q2 q3 q4
  have HR2 := Lib.hid (box_keep HR0.out hb2 (by omega))
  have HI2 := Lib.hid (box_keep HI0.out hb2 (by omega))
  have HB2 := Lib.hid (HB0.out.trans (hb2.mono (by have := HB0.out.size; omega)))
  have HO2 := Lib.hid o2
  have HO4 := Lib.hid o4
  have HF2 := Lib.hid hF
  have HD := Lib.hid hd
  clear hb2 o2 o4 hF hd HR0 HB0 HC
  simp only at *
  go_upto_region 2 with (fail)
  have hal : Below w2.heap.size w2 (w2.alloc (.cells #[.int .i64 pr, .int .i64 pc, .slice B2 regs.length e2, .int .i64 st, .slice B4 tr.length e4] 34)) := (Below.refl _ _).alloc (Nat.le_refl _) _
  have hY := box_new w2 #[.int .i64 pr, .int .i64 pc, .slice B2 regs.length e2, .int .i64 st, .slice B4 tr.length e4] 34
  have hR := box_keep HR2.out hal (by omega)
  have hI := box_keep HI2.out hal (by omega)
  have HO2a := Lib.hid (HO2.out.stay (w' := (w2.alloc (.cells #[.int .i64 pr, .int .i64 pc, .slice B2 regs.length e2, .int .i64 st, .slice B4 tr.length e4] 34))) (fun g hg hlt => hal.block g hlt) hal.size)
  have HO4a := Lib.hid (HO4.out.stay (w' := (w2.alloc (.cells #[.int .i64 pr, .int .i64 pc, .slice B2 regs.length e2, .int .i64 st, .slice B4 tr.length e4] 34))) (fun g hg hlt => hal.block g hlt) hal.size)
  have HB := Lib.hid (HB2.out.alloc (by omega) (.cells #[.int .i64 pr, .int .i64 pc, .slice B2 regs.length e2, .int .i64 st, .slice B4 tr.length e4] 34))
  have hyW : w2.heap.size < (w2.alloc (.cells #[.int .i64 pr, .int .i64 pc, .slice B2 regs.length e2, .int .i64 st, .slice B4 tr.length e4] 34)).heap.size := by simp
  have HG := Lib.hid (fun g hg => show W0.heap.size ≤ g ∧ g < w2.heap.size from HF2.out g hg)
  clear hal HO2 HO4 HB2 HF2 HR2
  generalize (w2.alloc (.cells #[.int .i64 pr, .int .i64 pc, .slice B2 regs.length e2, .int .i64 st, .slice B4 tr.length e4] 34)) = W3 at *
  generalize w2.heap.size = y at *
  have HF := Lib.hid (fun g (hg : F2 g ∨ F4 g) => show w.heap.size ≤ g ∧ g < W3.heap.size by have := HG.out g hg; omega)
  have y4c := box_cell (j := 4) hY rfl
  have i0c := box_cell (j := 0) hI rfl
  have i1c := box_cell (j := 1) hI rfl
  have i2c := box_cell (j := 2) hI rfl
  have i3c := box_cell (j := 3) hI rfl
  go_wp2_with fail
  refine (joinedT_any HO4a.out hn4 HV.out).mono ?_
  rintro e w5 ⟨A5, c5, rfl, own5, hA5, hk5, hb5⟩
  have hz5 := hb5.size
  have hB4 : ∀ k, blkA B4 = some k → F4 k ∧ k < W3.heap.size := fun k hk => own_blk HO4a.out hk
  have hY5 := (hk5 y hyW (fun e => by have := HG.out y (.inr (hB4 y e).1); omega)).trans hY
  have hR5 := (hk5 (w.heap.size + 2) (by omega) (fun e => by have := HG.out _ (.inr (hB4 _ e).1); omega)).trans hR
  have HB5 := Lib.hid (HB.out.trans (show Below w.heap.size W3 w5 from ⟨hb5.os, hb5.tape, hb5.output, hb5.size, fun k hk => hk5 k (by have := HB.out.size; omega) (fun e => by have := HG.out _ (.inr (hB4 _ e).1); omega)⟩))
  have HO5 := Lib.hid (HO2a.out.stay (w' := w5) (fun g hg hlt => hk5 g hlt (fun e => HD.out g hg (hB4 g e).1)) hb5.size)
  obtain ⟨F5, hT5, hG5, hD5⟩ : ∃ F5 : Nat → Prop, OwnR layItem 96 w5 F5 A5 (tr.length + 1) c5 (tr ++ [i]) ∧ (∀ g, F2 g ∨ F5 g → W0.heap.size ≤ g ∧ g < w5.heap.size ∧ g ≠ y) ∧ ∀ g, F2 g → ¬ F5 g := by
    refine ⟨_, own5, fun g hg => ?_, fun g hg hg2 => ?_⟩
    · rcases hg with hg | hg
      · have := HG.out g (.inl hg); omega
      · have hlt : g < w5.heap.size := (own_blk own5 hg).2
        rcases hA5 with h | ⟨g2, h, h2⟩
        · have := HG.out g (.inr (hB4 g (h ▸ hg)).1); omega
        · rw [h] at hg; injection hg with hg; omega
    · rcases hA5 with h | ⟨g2, h, h2⟩
      · exact HD.out g hg (hB4 g (h ▸ hg2)).1
      · rw [h] at hg2; injection hg2 with hg2; have := HG.out g (.inl hg); omega
  have HT5 := Lib.hid hT5
  have HG5 := Lib.hid hG5
  have HD5 := Lib.hid hD5
  clear hT5 hG5 hD5 hB4 own5 hA5 hk5 hb5 hY hR hI y4c i0c i1c i2c i3c HO2a HO4a HB HF HG HD
  have y4d := box_cell (j := 4) hY5 rfl
  have y4e := box_free hY5 4
  go_upto_region 3 with (fail)
  clear y4d y4e
  have hY6 := box_set (j := 4) (u := .slice A5 (tr.length + 1) c5) hY5
  have hR6 := (Below.heap_setCell w5 ⟨y, 4, none⟩ (.slice A5 (tr.length + 1) c5) (w.heap.size + 2) (by simp only; omega)).trans hR5
  have hny2 : ¬ F2 y := fun hg => (HG5.out y (.inl hg)).2.2 rfl
  have hny5 : ¬ F5 y := fun hg => (HG5.out y (.inr hg)).2.2 rfl
  have HO6 := Lib.hid (OwnR.setCell (o := 4) HO5.out (g := y) hny2 (.slice A5 (tr.length + 1) c5))
  have HT6 := Lib.hid (OwnR.setCell (o := 4) HT5.out (g := y) hny5 (.slice A5 (tr.length + 1) c5))
  have HB6 := Lib.hid (below_set (p := ⟨y, 4, none⟩) HB5.out (by simp only; omega) (.slice A5 (tr.length + 1) c5))
  have hz6a : (w5.setCell ⟨y, 4, none⟩ (.slice A5 (tr.length + 1) c5)).heap.size ≤ w5.heap.size := by simp [World.setCell]
  have hz6b : w5.heap.size ≤ (w5.setCell ⟨y, 4, none⟩ (.slice A5 (tr.length + 1) c5)).heap.size := by simp [World.setCell]
  clear hY5 hR5 HO5 HT5 HB5
  generalize w5.setCell ⟨y, 4, none⟩ (.slice A5 (tr.length + 1) c5) = W6 at *
  have HF6 := Lib.hid (fun g (hg : F2 g ∨ F5 g) => show w.heap.size ≤ g ∧ g < W6.heap.size by have := HG5.out g hg; omega)
  have HL := Lib.hid (show (tr ++ [i]).length = tr.length + 1 by simp)
  have q0 := box_cell (j := 0) hY6 rfl
  have q1 := box_cell (j := 1) hY6 rfl
  have q2 := box_cell (j := 2) hY6 rfl
  have q3 := box_cell (j := 3) hY6 rfl
  have q4 := box_cell (j := 4) hY6 rfl
  have r0 := box_cell (j := 0) hR6 rfl
  have r1 := box_cell (j := 1) hR6 rfl
  have r2 := box_cell (j := 2) hR6 rfl
  have r3 := box_cell (j := 3) hR6 rfl
  have r4 := box_cell (j := 4) hR6 rfl
  have g0 := box_free hR6 0
  have g1 := box_free hR6 1
  have g2 := box_free hR6 2
  have g3 := box_free hR6 3
  have g4 := box_free hR6 4
  have HRz := Lib.hid hR6
  clear hY6 hR6
  go_wp2_with fail
  have hfin := (box_set (j := 4) (u := .slice A5 (tr.length + 1) c5) (box_set (j := 3) (u := .int .i64 st) (box_set (j := 2) (u := .slice B2 regs.length e2) (box_set (j := 1) (u := .int .i64 pc) (box_set (j := 0) (u := .int .i64 pr) HRz.out)))))
  have y0 := box_cell (j := 0) hfin rfl
  have y1 := box_cell (j := 1) hfin rfl
  have y2 := box_cell (j := 2) hfin rfl
  have y3 := box_cell (j := 3) hfin rfl
  have y4 := box_cell (j := 4) hfin rfl
  clear q0 q1 q2 q3 q4 r0 r1 r2 r3 r4 g0 g1 g2 g3 g4
  refine bodyPost_ret (v := .agg #[.int .i64 pr, .int .i64 pc, .slice B2 regs.length e2, .int .i64 st, .slice A5 (tr.length + 1) c5]) (by simp [results, Tryz.results120, go_sem, y0, y1, y2, y3, y4]) rfl ?_
  have hnR2 : ¬ F2 (w.heap.size + 2) := fun hg => by have := HG5.out _ (.inl hg); omega
  have hnR4 : ¬ F5 (w.heap.size + 2) := fun hg => by have := HG5.out _ (.inr hg); omega
  refine ⟨(below_set (below_set (below_set (below_set (below_set HB6.out (by simp only; omega) _) (by simp only; omega) _) (by simp only; omega) _) (by simp only; omega) _) (by simp only; omega) _), _, _, _, _, _, _, by rw [HL.out], (OwnR.setCell (o := 4) (OwnR.setCell (o := 3) (OwnR.setCell (o := 2) (OwnR.setCell (o := 1) (OwnR.setCell (o := 0) HO6.out (g := w.heap.size + 2) hnR2 _) hnR2 _) hnR2 _) hnR2 _) hnR2 _), by rw [HL.out]; exact (OwnR.setCell (o := 4) (OwnR.setCell (o := 3) (OwnR.setCell (o := 2) (OwnR.setCell (o := 1) (OwnR.setCell (o := 0) HT6.out (g := w.heap.size + 2) hnR4 _) hnR4 _) hnR4 _) hnR4 _) hnR4 _), ?_, fun g hg hg' => by exact HD5.out g hg hg'⟩
  rintro g (hg | hg) <;> (have hq := HF6.out g; simp only [World.size_setCell]; first | (have := hq (.inl hg); omega) | (have := hq (.inr hg); omega))

set_option maxRecDepth 100000 in
set_option maxHeartbeats 4000000 in
theorem specTell_any {w : World} {hi : Nat} {x : DGor} {vs : List Value} {i : DItem} (h : layGor.see w hi x vs) (hhi : hi ≤ w.heap.size) (hn : szGor x ≤ 1048576) (hv : (Lit.int .i64 i.fKind).wf = true ∧ (Lit.int .i64 i.fObj).wf = true ∧ (Lit.int .i64 i.fVal).wf = true) :
    Calls Tryz.prog 74 #[.agg vs.toArray, .agg #[.int .i64 i.fKind, .int .i64 i.fObj, .int .i64 i.fVal, .bool i.fOk]] w (CopiedG (tellR x i) w) := by
  obtain ⟨A2, n2, c2, A4, n4, c4, rfl, hw0, hw1, ⟨hc2, hm2, s2⟩, hw3, ⟨hc4, hm4, s4⟩⟩ := seeGor h
  have HC := Lib.hid (fun (W : World) (hW : Below w.heap.size w W) => l08Copy_any (packGor hw0 hw1 ⟨hc2, hm2, s2.below hW hhi⟩ hw3 ⟨hc4, hm4, s4.below hW hhi⟩) (Nat.le_trans hhi hW.size) hn)
  obtain ⟨pr, pc, regs, st, tr⟩ := x
  have l2 := s2.1
  have l4 := s4.1
  simp only at l2 l4 s2 s4 hw0 hw1 hw3 HC
  subst l2 l4
  have hn2 : regs.length ≤ 1048576 := by unfold szGor at hn; simp at hn; omega
  have hn4 : tr.length ≤ 1048576 := by unfold szGor at hn; simp at hn; omega
  have hB0 : Below w.heap.size w (((w.alloc (.cells #[.int .i64 pr, .int .i64 pc, .slice A2 regs.length c2, .int .i64 st, .slice A4 tr.length c4] 34)).alloc (.cells #[.int .i64 i.fKind, .int .i64 i.fObj, .int .i64 i.fVal, .bool i.fOk] 96)).alloc (.cells #[.int .i64 0, .int .i64 0, .slice none 0 0, .int .i64 0, .slice none 0 0] 34)) := (((Below.refl _ _).alloc (Nat.le_refl _) _).alloc (by simp only [World.size_alloc]; omega) _).alloc (by simp only [World.size_alloc]; omega) _
  have hX0 := box_new w #[.int .i64 pr, .int .i64 pc, .slice A2 regs.length c2, .int .i64 st, .slice A4 tr.length c4] 34
  have hI0 := box_new (w.alloc (.cells #[.int .i64 pr, .int .i64 pc, .slice A2 regs.length c2, .int .i64 st, .slice A4 tr.length c4] 34)) #[.int .i64 i.fKind, .int .i64 i.fObj, .int .i64 i.fVal, .bool i.fOk] 96
  have hX0 := box_keep hX0 ((Below.refl _ _).alloc (Nat.le_refl _) (.cells #[.int .i64 i.fKind, .int .i64 i.fObj, .int .i64 i.fVal, .bool i.fOk] 96)) (by simp)
  have hI0 := box_keep hI0 ((Below.refl _ _).alloc (Nat.le_refl _) (.cells #[.int .i64 0, .int .i64 0, .slice none 0 0, .int .i64 0, .slice none 0 0] 34)) (by simp)
  have hX0 := box_keep hX0 ((Below.refl _ _).alloc (Nat.le_refl _) (.cells #[.int .i64 0, .int .i64 0, .slice none 0 0, .int .i64 0, .slice none 0 0] 34)) (by simp; try omega)
  have hR0 := box_new ((w.alloc (.cells #[.int .i64 pr, .int .i64 pc, .slice A2 regs.length c2, .int .i64 st, .slice A4 tr.length c4] 34)).alloc (.cells #[.int .i64 i.fKind, .int .i64 i.fObj, .int .i64 i.fVal, .bool i.fOk] 96)) #[.int .i64 0, .int .i64 0, .slice none 0 0, .int .i64 0, .slice none 0 0] 34
  simp only [World.size_alloc] at hR0 hI0
  have hz0 : w.heap.size + 2 + 1 ≤ (((w.alloc (.cells #[.int .i64 pr, .int .i64 pc, .slice A2 regs.length c2, .int .i64 st, .slice A4 tr.length c4] 34)).alloc (.cells #[.int .i64 i.fKind, .int .i64 i.fObj, .int .i64 i.fVal, .bool i.fOk] 96)).alloc (.cells #[.int .i64 0, .int .i64 0, .slice none 0 0, .int .i64 0, .slice none 0 0] 34)).heap.size := by simp
  clear h hn
  rw [show tellR ⟨pr, pc, regs, st, tr⟩ i = ⟨pr, pc, regs, st, tr ++ [i]⟩ from rfl]
  have HV := Lib.hid hv
  clear hv
  go_enter Tryz.func74, Tryz.ntmps74
  go_upto_region 1 with (fail)
  generalize (((w.alloc (.cells #[.int .i64 pr, .int .i64 pc, .slice A2 regs.length c2, .int .i64 st, .slice A4 tr.length c4] 34)).alloc (.cells #[.int .i64 i.fKind, .int .i64 i.fObj, .int .i64 i.fVal, .bool i.fOk] 96)).alloc (.cells #[.int .i64 0, .int .i64 0, .slice none 0 0, .int .i64 0, .slice none 0 0] 34)) = W0 at *
  have q0 := box_cell (j := 0) hX0 rfl
  have q1 := box_cell (j := 1) hX0 rfl
  have q2 := box_cell (j := 2) hX0 rfl
  have q3 := box_cell (j := 3) hX0 rfl
  have q4 := box_cell (j := 4) hX0 rfl
  have HR0 := Lib.hid hR0
  have HI0 := Lib.hid hI0
  clear hI0
  have HB0 := Lib.hid hB0
  clear hX0 hR0 hB0
  go_wp2_with fail
  refine (HC.out _ HB0.out).mono ?_
  rintro e w2 ⟨hb2, B2, e2, B4, e4, F2, F4, rfl, o2, o4, hF, hd⟩
  have hz2 := hb2.size
  clear q0 q1 q2 q3 q4
  have HR2 := Lib.hid (box_keep HR0.out hb2 (by omega))
  have HI2 := Lib.hid (box_keep HI0.out hb2 (by omega))
  have HB2 := Lib.hid (HB0.out.trans (hb2.mono (by have := HB0.out.size; omega)))
  have HO2 := Lib.hid o2
  have HO4 := Lib.hid o4
  have HF2 := Lib.hid hF
  have HD := Lib.hid hd
  clear hb2 o2 o4 hF hd HR0 HB0 HC
  simp only at *
  go_upto_region 2 with (fail)
  have hal : Below w2.heap.size w2 (w2.alloc (.cells #[.int .i64 pr, .int .i64 pc, .slice B2 regs.length e2, .int .i64 st, .slice B4 tr.length e4] 34)) := (Below.refl _ _).alloc (Nat.le_refl _) _
  have hY := box_new w2 #[.int .i64 pr, .int .i64 pc, .slice B2 regs.length e2, .int .i64 st, .slice B4 tr.length e4] 34
  have hR := box_keep HR2.out hal (by omega)
  have hI := box_keep HI2.out hal (by omega)
  have HO2a := Lib.hid (HO2.out.stay (w' := (w2.alloc (.cells #[.int .i64 pr, .int .i64 pc, .slice B2 regs.length e2, .int .i64 st, .slice B4 tr.length e4] 34))) (fun g hg hlt => hal.block g hlt) hal.size)
  have HO4a := Lib.hid (HO4.out.stay (w' := (w2.alloc (.cells #[.int .i64 pr, .int .i64 pc, .slice B2 regs.length e2, .int .i64 st, .slice B4 tr.length e4] 34))) (fun g hg hlt => hal.block g hlt) hal.size)
  have HB := Lib.hid (HB2.out.alloc (by omega) (.cells #[.int .i64 pr, .int .i64 pc, .slice B2 regs.length e2, .int .i64 st, .slice B4 tr.length e4] 34))
  have hyW : w2.heap.size < (w2.alloc (.cells #[.int .i64 pr, .int .i64 pc, .slice B2 regs.length e2, .int .i64 st, .slice B4 tr.length e4] 34)).heap.size := by simp
  have HG := Lib.hid (fun g hg => show W0.heap.size ≤ g ∧ g < w2.heap.size from HF2.out g hg)
  clear hal HO2 HO4 HB2 HF2 HR2
  generalize (w2.alloc (.cells #[.int .i64 pr, .int .i64 pc, .slice B2 regs.length e2, .int .i64 st, .slice B4 tr.length e4] 34)) = W3 at *
  generalize w2.heap.size = y at *
  have HF := Lib.hid (fun g (hg : F2 g ∨ F4 g) => show w.heap.size ≤ g ∧ g < W3.heap.size by have := HG.out g hg; omega)
  have y4c := box_cell (j := 4) hY rfl
  have i0c := box_cell (j := 0) hI rfl
  have i1c := box_cell (j := 1) hI rfl
  have i2c := box_cell (j := 2) hI rfl
  have i3c := box_cell (j := 3) hI rfl
  obtain ⟨j0, hj0, hjz0, hjz1, hjz2⟩ := info_parts infoItem
  have hown := (ownR_flat_own (own_only HO4a.out (fun g => 0 ≤ g ∧ g < W3.heap.size) fun g hg => ⟨Nat.zero_le _, (own_blk HO4a.out hg).2⟩) fun g hg => hg).alloc (.cells #[.int .i64 i.fKind, .int .i64 i.fObj, .int .i64 i.fVal, .bool i.fOk] 96)
  have HSF := Lib.hid (seen_four W3 (.int .i64 i.fKind) (.int .i64 i.fObj) (.int .i64 i.fVal) (.bool i.fOk) 96)
  have hY3 := hY
  have HY3 := Lib.hid hY
  have HOB := Lib.hid (fun g (hg : blkA B4 = some g) => HG.out g (.inr (own_blk HO4a.out hg).1))
  clear hY3
  go_upto_region 3 with (at_builtin; refine wpList_append_kin rfl (.tmp 9) (.tmp 11) _ rfl 0 _ 96 j0 _ 4 32 Tryz.underlying32 hj0 hjz0 hjz1 hjz2 rfl (by omega) B4 tr.length e4 _ rfl hown _ ⟨W3.heap.size, 0, none⟩ 1 1 [.int .i64 i.fKind, .int .i64 i.fObj, .int .i64 i.fVal, .bool i.fOk] rfl HSF.out (by simp [Value.oneCell']) (by simp only [maxLen]; omega) (by omega) (Nat.zero_le _) ?_; intro A5 c5 w5 own5a hb5a hk5a hA5a; have hYk : w5.heap[y]? = some (.cells #[.int .i64 pr, .int .i64 pc, .slice B2 regs.length e2, .int .i64 st, .slice B4 tr.length e4] 34 (0, 0)) := (hk5a y (by simp; omega) (fun e => by have := HOB.out y e; omega)).trans ((Below.heap_alloc W3 _ y hyW).trans HY3.out); have yk4 := box_cell (j := 4) hYk rfl; have yf4 := box_free hYk 4)
  clear yk4 yf4 hYk hown
  obtain ⟨own5, hA5, hk5, hb5⟩ := joinedT_of HO4a.out HV.out own5a hb5a hk5a hA5a
  have hz5 := hb5.size
  clear own5a hb5a hk5a hA5a
  have hB4 : ∀ k, blkA B4 = some k → F4 k ∧ k < W3.heap.size := fun k hk => own_blk HO4a.out hk
  have hY5 := (hk5 y hyW (fun e => by have := HG.out y (.inr (hB4 y e).1); omega)).trans hY
  have hR5 := (hk5 (w.heap.size + 2) (by omega) (fun e => by have := HG.out _ (.inr (hB4 _ e).1); omega)).trans hR
  have HB5 := Lib.hid (HB.out.trans (show Below w.heap.size W3 w5 from ⟨hb5.os, hb5.tape, hb5.output, hb5.size, fun k hk => hk5 k (by have := HB.out.size; omega) (fun e => by have := HG.out _ (.inr (hB4 _ e).1); omega)⟩))
  have HO5 := Lib.hid (HO2a.out.stay (w' := w5) (fun g hg hlt => hk5 g hlt (fun e => HD.out g hg (hB4 g e).1)) hb5.size)
  obtain ⟨F5, hT5, hG5, hD5⟩ : ∃ F5 : Nat → Prop, OwnR layItem 96 w5 F5 A5 (tr.length + 1) c5 (tr ++ [i]) ∧ (∀ g, F2 g ∨ F5 g → W0.heap.size ≤ g ∧ g < w5.heap.size ∧ g ≠ y) ∧ ∀ g, F2 g → ¬ F5 g := by
    refine ⟨_, own5, fun g hg => ?_, fun g hg hg2 => ?_⟩
    · rcases hg with hg | hg
      · have := HG.out g (.inl hg); omega
      · have hlt : g < w5.heap.size := (own_blk own5 hg).2
        rcases hA5 with h | ⟨g2, h, h2⟩
        · have := HG.out g (.inr (hB4 g (h ▸ hg)).1); omega
        · rw [h] at hg; injection hg with hg; omega
    · rcases hA5 with h | ⟨g2, h, h2⟩
      · exact HD.out g hg (hB4 g (h ▸ hg2)).1
      · rw [h] at hg2; injection hg2 with hg2; have := HG.out g (.inl hg); omega
  have HT5 := Lib.hid hT5
  have HG5 := Lib.hid hG5
  have HD5 := Lib.hid hD5
  clear hT5 hG5 hD5 hB4 own5 hA5 hk5 hb5 hY hR hI y4c i0c i1c i2c i3c HO2a HO4a HB HF HG HD
  have hY6 := box_set (j := 4) (u := .slice A5 (tr.length + 1) c5) hY5
  have hR6 := (Below.heap_setCell w5 ⟨y, 4, none⟩ (.slice A5 (tr.length + 1) c5) (w.heap.size + 2) (by simp only; omega)).trans hR5
  have hny2 : ¬ F2 y := fun hg => (HG5.out y (.inl hg)).2.2 rfl
  have hny5 : ¬ F5 y := fun hg => (HG5.out y (.inr hg)).2.2 rfl
  have HO6 := Lib.hid (OwnR.setCell (o := 4) HO5.out (g := y) hny2 (.slice A5 (tr.length + 1) c5))
  have HT6 := Lib.hid (OwnR.setCell (o := 4) HT5.out (g := y) hny5 (.slice A5 (tr.length + 1) c5))
  have HB6 := Lib.hid (below_set (p := ⟨y, 4, none⟩) HB5.out (by simp only; omega) (.slice A5 (tr.length + 1) c5))
  have hz6a : (w5.setCell ⟨y, 4, none⟩ (.slice A5 (tr.length + 1) c5)).heap.size ≤ w5.heap.size := by simp [World.setCell]
  have hz6b : w5.heap.size ≤ (w5.setCell ⟨y, 4, none⟩ (.slice A5 (tr.length + 1) c5)).heap.size := by simp [World.setCell]
  clear hY5 hR5 HO5 HT5 HB5
  generalize w5.setCell ⟨y, 4, none⟩ (.slice A5 (tr.length + 1) c5) = W6 at *
  have HF6 := Lib.hid (fun g (hg : F2 g ∨ F5 g) => show w.heap.size ≤ g ∧ g < W6.heap.size by have := HG5.out g hg; omega)
  have HL := Lib.hid (show (tr ++ [i]).length = tr.length + 1 by simp)
  have q0 := box_cell (j := 0) hY6 rfl
  have q1 := box_cell (j := 1) hY6 rfl
  have q2 := box_cell (j := 2) hY6 rfl
  have q3 := box_cell (j := 3) hY6 rfl
  have q4 := box_cell (j := 4) hY6 rfl
  have r0 := box_cell (j := 0) hR6 rfl
  have r1 := box_cell (j := 1) hR6 rfl
  have r2 := box_cell (j := 2) hR6 rfl
  have r3 := box_cell (j := 3) hR6 rfl
  have r4 := box_cell (j := 4) hR6 rfl
  have g0 := box_free hR6 0
  have g1 := box_free hR6 1
  have g2 := box_free hR6 2
  have g3 := box_free hR6 3
  have g4 := box_free hR6 4
  have HRz := Lib.hid hR6
  clear hY6 hR6
  go_wp2_with fail
  have hfin := (box_set (j := 4) (u := .slice A5 (tr.length + 1) c5) (box_set (j := 3) (u := .int .i64 st) (box_set (j := 2) (u := .slice B2 regs.length e2) (box_set (j := 1) (u := .int .i64 pc) (box_set (j := 0) (u := .int .i64 pr) HRz.out)))))
  have y0 := box_cell (j := 0) hfin rfl
  have y1 := box_cell (j := 1) hfin rfl
  have y2 := box_cell (j := 2) hfin rfl
  have y3 := box_cell (j := 3) hfin rfl
  have y4 := box_cell (j := 4) hfin rfl
  clear q0 q1 q2 q3 q4 r0 r1 r2 r3 r4 g0 g1 g2 g3 g4
  refine bodyPost_ret (v := .agg #[.int .i64 pr, .int .i64 pc, .slice B2 regs.length e2, .int .i64 st, .slice A5 (tr.length + 1) c5]) (by simp [results, Tryz.results74, go_sem, y0, y1, y2, y3, y4]) rfl ?_
  have hnR2 : ¬ F2 (w.heap.size + 2) := fun hg => by have := HG5.out _ (.inl hg); omega
  have hnR4 : ¬ F5 (w.heap.size + 2) := fun hg => by have := HG5.out _ (.inr hg); omega
  refine ⟨(below_set (below_set (below_set (below_set (below_set HB6.out (by simp only; omega) _) (by simp only; omega) _) (by simp only; omega) _) (by simp only; omega) _) (by simp only; omega) _), _, _, _, _, _, _, by rw [HL.out], (OwnR.setCell (o := 4) (OwnR.setCell (o := 3) (OwnR.setCell (o := 2) (OwnR.setCell (o := 1) (OwnR.setCell (o := 0) HO6.out (g := w.heap.size + 2) hnR2 _) hnR2 _) hnR2 _) hnR2 _) hnR2 _), by rw [HL.out]; exact (OwnR.setCell (o := 4) (OwnR.setCell (o := 3) (OwnR.setCell (o := 2) (OwnR.setCell (o := 1) (OwnR.setCell (o := 0) HT6.out (g := w.heap.size + 2) hnR4 _) hnR4 _) hnR4 _) hnR4 _) hnR4 _), ?_, fun g hg hg' => by exact HD5.out g hg hg'⟩
  rintro g (hg | hg) <;> (have hq := HF6.out g; simp only [World.size_setCell]; first | (have := hq (.inl hg); omega) | (have := hq (.inr hg); omega))
end Go.Proofs.YtapbjnfopniicaaGreatDoor
