
/- SetReg: the program's and the model's. Laid by wip/gen8/gorset.py. -/

import Derived.Test.YtapbjnfopniicaaGreatDoorGGorX

namespace Go.Proofs.YtapbjnfopniicaaGreatDoor
set_option linter.unusedSimpArgs false
set_option linter.unusedVariables false
open Go.RowKit

set_option maxRecDepth 100000 in
set_option maxHeartbeats 4000000 in
theorem specSetReg_any {w : World} {hi : Nat} {x : DGor} {vs : List Value} {r v : Int} (h : layGor.see w hi x vs) (hhi : hi ≤ w.heap.size) (hn : szGor x ≤ 1048576) (hv : (Lit.int .i64 v).wf = true) :
    Calls Tryz.prog 55 #[.agg vs.toArray, .int .i64 r, .int .i64 v] w (CopiedG (setR x r v) w) := by
  obtain ⟨A2, n2, c2, A4, n4, c4, rfl, hw0, hw1, ⟨hc2, hm2, s2⟩, hw3, ⟨hc4, hm4, s4⟩⟩ := seeGor h
  have HC := Lib.hid (fun (W : World) (hW : Below w.heap.size w W) => l08Copy_any (packGor hw0 hw1 ⟨hc2, hm2, s2.below hW hhi⟩ hw3 ⟨hc4, hm4, s4.below hW hhi⟩) (Nat.le_trans hhi hW.size) hn)
  obtain ⟨pr, pc, regs, st, tr⟩ := x
  have l2 := s2.1
  have l4 := s4.1
  simp only at l2 l4 s2 s4 hw0 hw1 hw3 HC
  subst l2 l4
  have hn2 : regs.length ≤ 1048576 := by unfold szGor at hn; simp at hn; omega
  have hn4 : tr.length ≤ 1048576 := by unfold szGor at hn; simp at hn; omega
  have hB0 : Below w.heap.size w ((w.alloc (.cells #[.int .i64 pr, .int .i64 pc, .slice A2 regs.length c2, .int .i64 st, .slice A4 tr.length c4] 34)).alloc (.cells #[.int .i64 0, .int .i64 0, .slice none 0 0, .int .i64 0, .slice none 0 0] 34)) := ((Below.refl _ _).alloc (Nat.le_refl _) _).alloc (by simp only [World.size_alloc]; omega) _
  have hX0 := box_new w #[.int .i64 pr, .int .i64 pc, .slice A2 regs.length c2, .int .i64 st, .slice A4 tr.length c4] 34
  have hX0 := box_keep hX0 ((Below.refl _ _).alloc (Nat.le_refl _) (.cells #[.int .i64 0, .int .i64 0, .slice none 0 0, .int .i64 0, .slice none 0 0] 34)) (by simp; try omega)
  have hR0 := box_new (w.alloc (.cells #[.int .i64 pr, .int .i64 pc, .slice A2 regs.length c2, .int .i64 st, .slice A4 tr.length c4] 34)) #[.int .i64 0, .int .i64 0, .slice none 0 0, .int .i64 0, .slice none 0 0] 34
  simp only [World.size_alloc] at hR0
  have hz0 : w.heap.size + 1 + 1 ≤ ((w.alloc (.cells #[.int .i64 pr, .int .i64 pc, .slice A2 regs.length c2, .int .i64 st, .slice A4 tr.length c4] 34)).alloc (.cells #[.int .i64 0, .int .i64 0, .slice none 0 0, .int .i64 0, .slice none 0 0] 34)).heap.size := by simp
  clear h hn
  have HV := Lib.hid hv
  clear hv
  have hcase : (∃ k : Nat, k < regs.length ∧ r = k ∧ okV v = true) ∨ (∃ k : Nat, k < regs.length ∧ r = k ∧ okV v = false) ∨ r < 0 ∨ (0 ≤ r ∧ (regs.length : Int) ≤ r) := by
    by_cases h0 : r < 0
    · exact .inr (.inr (.inl h0))
    · by_cases h1 : r < regs.length
      · cases h2 : okV v
        · exact .inr (.inl ⟨r.toNat, by omega, by omega, rfl⟩)
        · exact .inl ⟨r.toNat, by omega, by omega, rfl⟩
      · exact .inr (.inr (.inr ⟨by omega, by omega⟩))
  rcases hcase with ⟨k, hk, rfl, ho⟩ | ⟨k, hk, rfl, ho⟩ | hr | ⟨hr, hr2⟩
  · skip
    rw [show setR ⟨pr, pc, regs, st, tr⟩ (k : Int) v = ⟨pr, pc, regs.set k v, st, tr⟩ by unfold setR; rw [if_pos (by simp [ho, hk])]; simp]
    have hp : decide (0 ≤ (k : Int) ∧ (k : Int) < (regs.length : Int)) = true := decide_eq_true (by omega)
    have hk0 : (0 : Int) ≤ (k : Int) := by omega
    have hk1 : (k : Int) < (regs.length : Int) := by omega
    have HO := Lib.hid ho
    clear ho
    have HP := Lib.hid hp
    clear hp
    go_enter Tryz.func55, Tryz.ntmps55
    go_upto_region 1 with (fail)
    generalize ((w.alloc (.cells #[.int .i64 pr, .int .i64 pc, .slice A2 regs.length c2, .int .i64 st, .slice A4 tr.length c4] 34)).alloc (.cells #[.int .i64 0, .int .i64 0, .slice none 0 0, .int .i64 0, .slice none 0 0] 34)) = W0 at *
    have q0 := box_cell (j := 0) hX0 rfl
    have q1 := box_cell (j := 1) hX0 rfl
    have q2 := box_cell (j := 2) hX0 rfl
    have q3 := box_cell (j := 3) hX0 rfl
    have q4 := box_cell (j := 4) hX0 rfl
    have HR0 := Lib.hid hR0
    have HB0 := Lib.hid hB0
    clear hX0 hR0 hB0
    go_wp2_with fail
    refine (HC.out _ HB0.out).mono ?_
    rintro e w2 ⟨hb2, B2, e2, B4, e4, F2, F4, rfl, o2, o4, hF, hd⟩
    have hz2 := hb2.size
    clear q0 q1 q2 q3 q4
    have HR2 := Lib.hid (box_keep HR0.out hb2 (by omega))
    have HB2 := Lib.hid (HB0.out.trans (hb2.mono (by have := HB0.out.size; omega)))
    have HO2 := Lib.hid o2
    have HO4 := Lib.hid o4
    have HF2 := Lib.hid hF
    have HD := Lib.hid hd
    clear hb2 o2 o4 hF hd HR0 HB0 HC
    simp only at *
    go_upto_region 2 with (fail)
    have hal : Below w2.heap.size w2 (w2.alloc (.cells #[.int .i64 pr, .int .i64 pc, .slice B2 regs.length e2, .int .i64 st, .slice B4 tr.length e4] 34)) := (Below.refl _ _).alloc (Nat.le_refl _) _
    have hY := box_new w2 #[.int .i64 pr, .int .i64 pc, .slice B2 regs.length e2, .int .i64 st, .slice B4 tr.length e4] 34
    have hR := box_keep HR2.out hal (by omega)
    have HO2a := Lib.hid (HO2.out.stay (w' := (w2.alloc (.cells #[.int .i64 pr, .int .i64 pc, .slice B2 regs.length e2, .int .i64 st, .slice B4 tr.length e4] 34))) (fun g hg hlt => hal.block g hlt) hal.size)
    have HO4a := Lib.hid (HO4.out.stay (w' := (w2.alloc (.cells #[.int .i64 pr, .int .i64 pc, .slice B2 regs.length e2, .int .i64 st, .slice B4 tr.length e4] 34))) (fun g hg hlt => hal.block g hlt) hal.size)
    have HB := Lib.hid (HB2.out.alloc (by omega) (.cells #[.int .i64 pr, .int .i64 pc, .slice B2 regs.length e2, .int .i64 st, .slice B4 tr.length e4] 34))
    have hyW : w2.heap.size < (w2.alloc (.cells #[.int .i64 pr, .int .i64 pc, .slice B2 regs.length e2, .int .i64 st, .slice B4 tr.length e4] 34)).heap.size := by simp
    have HG := Lib.hid (fun g hg => show W0.heap.size ≤ g ∧ g < w2.heap.size from HF2.out g hg)
    clear hal HO2 HO4 HB2 HF2 HR2
    generalize (w2.alloc (.cells #[.int .i64 pr, .int .i64 pc, .slice B2 regs.length e2, .int .i64 st, .slice B4 tr.length e4] 34)) = W3 at *
    generalize w2.heap.size = y at *
    have HF := Lib.hid (fun g (hg : F2 g ∨ F4 g) => show w.heap.size ≤ g ∧ g < W3.heap.size by have := HG.out g hg; omega)
    have y2c := box_cell (j := 2) hY rfl
    go_wp2_with fail
    refine (l03ValG_any _ _).mono ?_
    rw [HO.out]
    rintro e w5 ⟨rfl, rfl⟩
    obtain ⟨hx, g, G0, us, rfl, hFg, -, -, hgs, -, hcell, hfr, -⟩ := HO2a.out.focus hk
    obtain ⟨_, g9, o9, us9, hA9, _, ⟨hu9, _⟩, hc9⟩ := (HO2a.out.seen (hi := W3.heap.size) fun g hg => (HF.out g (.inl hg)).2).at_ hk
    have cc := hc9 0 (.int .i64 regs[k]) (by rw [hu9]; rfl)
    injection hA9 with hA9
    injection hA9 with ha hb
    subst ha hb
    simp only [show Lay.int.size = 1 from rfl, ← Nat.add_assoc, Nat.add_zero, Nat.mul_one, Nat.zero_add] at cc
    have ff := hfr k
    have hgy := HG.out g (.inl hFg)
    clear hcell hfr hc9 hu9
    have hlk : (k : Int) < (regs.length : Int) := by omega
    go_upto_region 4 with (fail)
    have hY5 := (Below.heap_setCell W3 ⟨g, k, none⟩ (.int .i64 v) y (by simp only; omega)).trans hY
    have hR5 := (Below.heap_setCell W3 ⟨g, k, none⟩ (.int .i64 v) (w.heap.size + 1) (by simp only; omega)).trans hR
    have HO5 := Lib.hid (HO2a.out.setI hk HV.out)
    have HQ5 := Lib.hid (OwnR.setCell (o := k) HO4a.out (g := g) (HD.out g hFg) (.int .i64 v))
    have HB5 := Lib.hid (below_set (p := ⟨g, k, none⟩) HB.out (by simp only; have := HF.out g (.inl hFg); omega) (.int .i64 v))
    have hz5a : (W3.setCell ⟨g, k, none⟩ (.int .i64 v)).heap.size ≤ W3.heap.size := by simp [World.setCell]
    have hz5b : W3.heap.size ≤ (W3.setCell ⟨g, k, none⟩ (.int .i64 v)).heap.size := by simp [World.setCell]
    clear hY hR cc ff y2c
    generalize W3.setCell ⟨g, k, none⟩ (.int .i64 v) = W5 at *
    have HG5 := Lib.hid HG.out
    replace HF := Lib.hid (fun g (hg : F2 g ∨ F4 g) => show w.heap.size ≤ g ∧ g < W5.heap.size by have := HF.out g hg; omega)
    have HL := Lib.hid (show (regs.set k v).length = regs.length by simp)
    have q0 := box_cell (j := 0) hY5 rfl
    have q1 := box_cell (j := 1) hY5 rfl
    have q2 := box_cell (j := 2) hY5 rfl
    have q3 := box_cell (j := 3) hY5 rfl
    have q4 := box_cell (j := 4) hY5 rfl
    have r0 := box_cell (j := 0) hR5 rfl
    have r1 := box_cell (j := 1) hR5 rfl
    have r2 := box_cell (j := 2) hR5 rfl
    have r3 := box_cell (j := 3) hR5 rfl
    have r4 := box_cell (j := 4) hR5 rfl
    have g0 := box_free hR5 0
    have g1 := box_free hR5 1
    have g2 := box_free hR5 2
    have g3 := box_free hR5 3
    have g4 := box_free hR5 4
    have HRz := Lib.hid hR5
    clear hY5 hR5
    go_wp2_with fail
    have hfin := (box_set (j := 4) (u := .slice B4 tr.length e4) (box_set (j := 3) (u := .int .i64 st) (box_set (j := 2) (u := .slice (some ⟨g, 0, none⟩) regs.length e2) (box_set (j := 1) (u := .int .i64 pc) (box_set (j := 0) (u := .int .i64 pr) HRz.out)))))
    have y0 := box_cell (j := 0) hfin rfl
    have y1 := box_cell (j := 1) hfin rfl
    have y2 := box_cell (j := 2) hfin rfl
    have y3 := box_cell (j := 3) hfin rfl
    have y4 := box_cell (j := 4) hfin rfl
    clear q0 q1 q2 q3 q4 r0 r1 r2 r3 r4 g0 g1 g2 g3 g4
    refine bodyPost_ret (v := .agg #[.int .i64 pr, .int .i64 pc, .slice (some ⟨g, 0, none⟩) regs.length e2, .int .i64 st, .slice B4 tr.length e4]) (by simp [results, Tryz.results55, go_sem, y0, y1, y2, y3, y4]) rfl ?_
    have hnR2 : ¬ F2 (w.heap.size + 1) := fun hg => by have := HG.out _ (.inl hg); omega
    have hnR4 : ¬ F4 (w.heap.size + 1) := fun hg => by have := HG.out _ (.inr hg); omega
    refine ⟨(below_set (below_set (below_set (below_set (below_set HB5.out (by simp only; omega) _) (by simp only; omega) _) (by simp only; omega) _) (by simp only; omega) _) (by simp only; omega) _), _, _, _, _, _, _, by rw [HL.out], by rw [HL.out]; exact (OwnR.setCell (o := 4) (OwnR.setCell (o := 3) (OwnR.setCell (o := 2) (OwnR.setCell (o := 1) (OwnR.setCell (o := 0) HO5.out (g := w.heap.size + 1) hnR2 _) hnR2 _) hnR2 _) hnR2 _) hnR2 _), (OwnR.setCell (o := 4) (OwnR.setCell (o := 3) (OwnR.setCell (o := 2) (OwnR.setCell (o := 1) (OwnR.setCell (o := 0) HQ5.out (g := w.heap.size + 1) hnR4 _) hnR4 _) hnR4 _) hnR4 _) hnR4 _), ?_, fun g hg hg' => by exact HD.out g hg hg'⟩
    rintro g (hg | hg) <;> (have hq := HF.out g; simp only [World.size_setCell]; first | (have := hq (.inl hg); omega) | (have := hq (.inr hg); omega))
  · skip
    rw [show setR ⟨pr, pc, regs, st, tr⟩ (k : Int) v = ⟨pr, pc, regs, st, tr⟩ by unfold setR; rw [if_neg (by simp [ho])]]
    have hp : decide (0 ≤ (k : Int) ∧ (k : Int) < (regs.length : Int)) = true := decide_eq_true (by omega)
    have hk0 : (0 : Int) ≤ (k : Int) := by omega
    have hk1 : (k : Int) < (regs.length : Int) := by omega
    have HO := Lib.hid ho
    clear ho
    have HP := Lib.hid hp
    clear hp
    go_enter Tryz.func55, Tryz.ntmps55
    go_upto_region 1 with (fail)
    generalize ((w.alloc (.cells #[.int .i64 pr, .int .i64 pc, .slice A2 regs.length c2, .int .i64 st, .slice A4 tr.length c4] 34)).alloc (.cells #[.int .i64 0, .int .i64 0, .slice none 0 0, .int .i64 0, .slice none 0 0] 34)) = W0 at *
    have q0 := box_cell (j := 0) hX0 rfl
    have q1 := box_cell (j := 1) hX0 rfl
    have q2 := box_cell (j := 2) hX0 rfl
    have q3 := box_cell (j := 3) hX0 rfl
    have q4 := box_cell (j := 4) hX0 rfl
    have HR0 := Lib.hid hR0
    have HB0 := Lib.hid hB0
    clear hX0 hR0 hB0
    go_wp2_with fail
    refine (HC.out _ HB0.out).mono ?_
    rintro e w2 ⟨hb2, B2, e2, B4, e4, F2, F4, rfl, o2, o4, hF, hd⟩
    have hz2 := hb2.size
    clear q0 q1 q2 q3 q4
    have HR2 := Lib.hid (box_keep HR0.out hb2 (by omega))
    have HB2 := Lib.hid (HB0.out.trans (hb2.mono (by have := HB0.out.size; omega)))
    have HO2 := Lib.hid o2
    have HO4 := Lib.hid o4
    have HF2 := Lib.hid hF
    have HD := Lib.hid hd
    clear hb2 o2 o4 hF hd HR0 HB0 HC
    simp only at *
    go_upto_region 2 with (fail)
    have hal : Below w2.heap.size w2 (w2.alloc (.cells #[.int .i64 pr, .int .i64 pc, .slice B2 regs.length e2, .int .i64 st, .slice B4 tr.length e4] 34)) := (Below.refl _ _).alloc (Nat.le_refl _) _
    have hY := box_new w2 #[.int .i64 pr, .int .i64 pc, .slice B2 regs.length e2, .int .i64 st, .slice B4 tr.length e4] 34
    have hR := box_keep HR2.out hal (by omega)
    have HO2a := Lib.hid (HO2.out.stay (w' := (w2.alloc (.cells #[.int .i64 pr, .int .i64 pc, .slice B2 regs.length e2, .int .i64 st, .slice B4 tr.length e4] 34))) (fun g hg hlt => hal.block g hlt) hal.size)
    have HO4a := Lib.hid (HO4.out.stay (w' := (w2.alloc (.cells #[.int .i64 pr, .int .i64 pc, .slice B2 regs.length e2, .int .i64 st, .slice B4 tr.length e4] 34))) (fun g hg hlt => hal.block g hlt) hal.size)
    have HB := Lib.hid (HB2.out.alloc (by omega) (.cells #[.int .i64 pr, .int .i64 pc, .slice B2 regs.length e2, .int .i64 st, .slice B4 tr.length e4] 34))
    have hyW : w2.heap.size < (w2.alloc (.cells #[.int .i64 pr, .int .i64 pc, .slice B2 regs.length e2, .int .i64 st, .slice B4 tr.length e4] 34)).heap.size := by simp
    have HG := Lib.hid (fun g hg => show W0.heap.size ≤ g ∧ g < w2.heap.size from HF2.out g hg)
    clear hal HO2 HO4 HB2 HF2 HR2
    generalize (w2.alloc (.cells #[.int .i64 pr, .int .i64 pc, .slice B2 regs.length e2, .int .i64 st, .slice B4 tr.length e4] 34)) = W3 at *
    generalize w2.heap.size = y at *
    have HF := Lib.hid (fun g (hg : F2 g ∨ F4 g) => show w.heap.size ≤ g ∧ g < W3.heap.size by have := HG.out g hg; omega)
    have y2c := box_cell (j := 2) hY rfl
    go_wp2_with fail
    refine (l03ValG_any _ _).mono ?_
    rw [HO.out]
    rintro e w5 ⟨rfl, rfl⟩
    go_upto_region 4 with (fail)
    clear y2c
    have q0 := box_cell (j := 0) hY rfl
    have q1 := box_cell (j := 1) hY rfl
    have q2 := box_cell (j := 2) hY rfl
    have q3 := box_cell (j := 3) hY rfl
    have q4 := box_cell (j := 4) hY rfl
    have r0 := box_cell (j := 0) hR rfl
    have r1 := box_cell (j := 1) hR rfl
    have r2 := box_cell (j := 2) hR rfl
    have r3 := box_cell (j := 3) hR rfl
    have r4 := box_cell (j := 4) hR rfl
    have g0 := box_free hR 0
    have g1 := box_free hR 1
    have g2 := box_free hR 2
    have g3 := box_free hR 3
    have g4 := box_free hR 4
    have HRz := Lib.hid hR
    clear hY hR
    go_wp2_with fail
    have hfin := (box_set (j := 4) (u := .slice B4 tr.length e4) (box_set (j := 3) (u := .int .i64 st) (box_set (j := 2) (u := .slice B2 regs.length e2) (box_set (j := 1) (u := .int .i64 pc) (box_set (j := 0) (u := .int .i64 pr) HRz.out)))))
    have y0 := box_cell (j := 0) hfin rfl
    have y1 := box_cell (j := 1) hfin rfl
    have y2 := box_cell (j := 2) hfin rfl
    have y3 := box_cell (j := 3) hfin rfl
    have y4 := box_cell (j := 4) hfin rfl
    clear q0 q1 q2 q3 q4 r0 r1 r2 r3 r4 g0 g1 g2 g3 g4
    refine bodyPost_ret (v := .agg #[.int .i64 pr, .int .i64 pc, .slice B2 regs.length e2, .int .i64 st, .slice B4 tr.length e4]) (by simp [results, Tryz.results55, go_sem, y0, y1, y2, y3, y4]) rfl ?_
    have hnR2 : ¬ F2 (w.heap.size + 1) := fun hg => by have := HG.out _ (.inl hg); omega
    have hnR4 : ¬ F4 (w.heap.size + 1) := fun hg => by have := HG.out _ (.inr hg); omega
    refine ⟨(below_set (below_set (below_set (below_set (below_set HB.out (by simp only; omega) _) (by simp only; omega) _) (by simp only; omega) _) (by simp only; omega) _) (by simp only; omega) _), _, _, _, _, _, _, rfl, (OwnR.setCell (o := 4) (OwnR.setCell (o := 3) (OwnR.setCell (o := 2) (OwnR.setCell (o := 1) (OwnR.setCell (o := 0) HO2a.out (g := w.heap.size + 1) hnR2 _) hnR2 _) hnR2 _) hnR2 _) hnR2 _), (OwnR.setCell (o := 4) (OwnR.setCell (o := 3) (OwnR.setCell (o := 2) (OwnR.setCell (o := 1) (OwnR.setCell (o := 0) HO4a.out (g := w.heap.size + 1) hnR4 _) hnR4 _) hnR4 _) hnR4 _) hnR4 _), ?_, fun g hg hg' => by exact HD.out g hg hg'⟩
    rintro g (hg | hg) <;> (have hq := HF.out g; simp only [World.size_setCell]; first | (have := hq (.inl hg); omega) | (have := hq (.inr hg); omega))
  · skip
    rw [show setR ⟨pr, pc, regs, st, tr⟩ r v = ⟨pr, pc, regs, st, tr⟩ by unfold setR; rw [if_neg (by simp; omega)]]
    have hp : decide (0 ≤ r ∧ r < (regs.length : Int)) = false := decide_eq_false (by omega)
    have hr1 : decide (r ≥ 0) = false := decide_eq_false (by omega)
    clear hr
    have HP := Lib.hid hp
    clear hp
    go_enter Tryz.func55, Tryz.ntmps55
    go_upto_region 1 with (fail)
    generalize ((w.alloc (.cells #[.int .i64 pr, .int .i64 pc, .slice A2 regs.length c2, .int .i64 st, .slice A4 tr.length c4] 34)).alloc (.cells #[.int .i64 0, .int .i64 0, .slice none 0 0, .int .i64 0, .slice none 0 0] 34)) = W0 at *
    have q0 := box_cell (j := 0) hX0 rfl
    have q1 := box_cell (j := 1) hX0 rfl
    have q2 := box_cell (j := 2) hX0 rfl
    have q3 := box_cell (j := 3) hX0 rfl
    have q4 := box_cell (j := 4) hX0 rfl
    have HR0 := Lib.hid hR0
    have HB0 := Lib.hid hB0
    clear hX0 hR0 hB0
    go_wp2_with fail
    refine (HC.out _ HB0.out).mono ?_
    rintro e w2 ⟨hb2, B2, e2, B4, e4, F2, F4, rfl, o2, o4, hF, hd⟩
    have hz2 := hb2.size
    clear q0 q1 q2 q3 q4
    have HR2 := Lib.hid (box_keep HR0.out hb2 (by omega))
    have HB2 := Lib.hid (HB0.out.trans (hb2.mono (by have := HB0.out.size; omega)))
    have HO2 := Lib.hid o2
    have HO4 := Lib.hid o4
    have HF2 := Lib.hid hF
    have HD := Lib.hid hd
    clear hb2 o2 o4 hF hd HR0 HB0 HC
    simp only at *
    go_upto_region 2 with (fail)
    have hal : Below w2.heap.size w2 (w2.alloc (.cells #[.int .i64 pr, .int .i64 pc, .slice B2 regs.length e2, .int .i64 st, .slice B4 tr.length e4] 34)) := (Below.refl _ _).alloc (Nat.le_refl _) _
    have hY := box_new w2 #[.int .i64 pr, .int .i64 pc, .slice B2 regs.length e2, .int .i64 st, .slice B4 tr.length e4] 34
    have hR := box_keep HR2.out hal (by omega)
    have HO2a := Lib.hid (HO2.out.stay (w' := (w2.alloc (.cells #[.int .i64 pr, .int .i64 pc, .slice B2 regs.length e2, .int .i64 st, .slice B4 tr.length e4] 34))) (fun g hg hlt => hal.block g hlt) hal.size)
    have HO4a := Lib.hid (HO4.out.stay (w' := (w2.alloc (.cells #[.int .i64 pr, .int .i64 pc, .slice B2 regs.length e2, .int .i64 st, .slice B4 tr.length e4] 34))) (fun g hg hlt => hal.block g hlt) hal.size)
    have HB := Lib.hid (HB2.out.alloc (by omega) (.cells #[.int .i64 pr, .int .i64 pc, .slice B2 regs.length e2, .int .i64 st, .slice B4 tr.length e4] 34))
    have hyW : w2.heap.size < (w2.alloc (.cells #[.int .i64 pr, .int .i64 pc, .slice B2 regs.length e2, .int .i64 st, .slice B4 tr.length e4] 34)).heap.size := by simp
    have HG := Lib.hid (fun g hg => show W0.heap.size ≤ g ∧ g < w2.heap.size from HF2.out g hg)
    clear hal HO2 HO4 HB2 HF2 HR2
    generalize (w2.alloc (.cells #[.int .i64 pr, .int .i64 pc, .slice B2 regs.length e2, .int .i64 st, .slice B4 tr.length e4] 34)) = W3 at *
    generalize w2.heap.size = y at *
    have HF := Lib.hid (fun g (hg : F2 g ∨ F4 g) => show w.heap.size ≤ g ∧ g < W3.heap.size by have := HG.out g hg; omega)
    have y2c := box_cell (j := 2) hY rfl
    go_upto_region 4 with (fail)
    clear y2c
    have q0 := box_cell (j := 0) hY rfl
    have q1 := box_cell (j := 1) hY rfl
    have q2 := box_cell (j := 2) hY rfl
    have q3 := box_cell (j := 3) hY rfl
    have q4 := box_cell (j := 4) hY rfl
    have r0 := box_cell (j := 0) hR rfl
    have r1 := box_cell (j := 1) hR rfl
    have r2 := box_cell (j := 2) hR rfl
    have r3 := box_cell (j := 3) hR rfl
    have r4 := box_cell (j := 4) hR rfl
    have g0 := box_free hR 0
    have g1 := box_free hR 1
    have g2 := box_free hR 2
    have g3 := box_free hR 3
    have g4 := box_free hR 4
    have HRz := Lib.hid hR
    clear hY hR
    go_wp2_with fail
    have hfin := (box_set (j := 4) (u := .slice B4 tr.length e4) (box_set (j := 3) (u := .int .i64 st) (box_set (j := 2) (u := .slice B2 regs.length e2) (box_set (j := 1) (u := .int .i64 pc) (box_set (j := 0) (u := .int .i64 pr) HRz.out)))))
    have y0 := box_cell (j := 0) hfin rfl
    have y1 := box_cell (j := 1) hfin rfl
    have y2 := box_cell (j := 2) hfin rfl
    have y3 := box_cell (j := 3) hfin rfl
    have y4 := box_cell (j := 4) hfin rfl
    clear q0 q1 q2 q3 q4 r0 r1 r2 r3 r4 g0 g1 g2 g3 g4
    refine bodyPost_ret (v := .agg #[.int .i64 pr, .int .i64 pc, .slice B2 regs.length e2, .int .i64 st, .slice B4 tr.length e4]) (by simp [results, Tryz.results55, go_sem, y0, y1, y2, y3, y4]) rfl ?_
    have hnR2 : ¬ F2 (w.heap.size + 1) := fun hg => by have := HG.out _ (.inl hg); omega
    have hnR4 : ¬ F4 (w.heap.size + 1) := fun hg => by have := HG.out _ (.inr hg); omega
    refine ⟨(below_set (below_set (below_set (below_set (below_set HB.out (by simp only; omega) _) (by simp only; omega) _) (by simp only; omega) _) (by simp only; omega) _) (by simp only; omega) _), _, _, _, _, _, _, rfl, (OwnR.setCell (o := 4) (OwnR.setCell (o := 3) (OwnR.setCell (o := 2) (OwnR.setCell (o := 1) (OwnR.setCell (o := 0) HO2a.out (g := w.heap.size + 1) hnR2 _) hnR2 _) hnR2 _) hnR2 _) hnR2 _), (OwnR.setCell (o := 4) (OwnR.setCell (o := 3) (OwnR.setCell (o := 2) (OwnR.setCell (o := 1) (OwnR.setCell (o := 0) HO4a.out (g := w.heap.size + 1) hnR4 _) hnR4 _) hnR4 _) hnR4 _) hnR4 _), ?_, fun g hg hg' => by exact HD.out g hg hg'⟩
    rintro g (hg | hg) <;> (have hq := HF.out g; simp only [World.size_setCell]; first | (have := hq (.inl hg); omega) | (have := hq (.inr hg); omega))
  · skip
    rw [show setR ⟨pr, pc, regs, st, tr⟩ r v = ⟨pr, pc, regs, st, tr⟩ by unfold setR; rw [if_neg (by simp; omega)]]
    have hp : decide (0 ≤ r ∧ r < (regs.length : Int)) = false := decide_eq_false (by omega)
    have hr1 : decide (r < (regs.length : Int)) = false := decide_eq_false (by omega)
    clear hr2
    have HP := Lib.hid hp
    clear hp
    go_enter Tryz.func55, Tryz.ntmps55
    go_upto_region 1 with (fail)
    generalize ((w.alloc (.cells #[.int .i64 pr, .int .i64 pc, .slice A2 regs.length c2, .int .i64 st, .slice A4 tr.length c4] 34)).alloc (.cells #[.int .i64 0, .int .i64 0, .slice none 0 0, .int .i64 0, .slice none 0 0] 34)) = W0 at *
    have q0 := box_cell (j := 0) hX0 rfl
    have q1 := box_cell (j := 1) hX0 rfl
    have q2 := box_cell (j := 2) hX0 rfl
    have q3 := box_cell (j := 3) hX0 rfl
    have q4 := box_cell (j := 4) hX0 rfl
    have HR0 := Lib.hid hR0
    have HB0 := Lib.hid hB0
    clear hX0 hR0 hB0
    go_wp2_with fail
    refine (HC.out _ HB0.out).mono ?_
    rintro e w2 ⟨hb2, B2, e2, B4, e4, F2, F4, rfl, o2, o4, hF, hd⟩
    have hz2 := hb2.size
    clear q0 q1 q2 q3 q4
    have HR2 := Lib.hid (box_keep HR0.out hb2 (by omega))
    have HB2 := Lib.hid (HB0.out.trans (hb2.mono (by have := HB0.out.size; omega)))
    have HO2 := Lib.hid o2
    have HO4 := Lib.hid o4
    have HF2 := Lib.hid hF
    have HD := Lib.hid hd
    clear hb2 o2 o4 hF hd HR0 HB0 HC
    simp only at *
    go_upto_region 2 with (fail)
    have hal : Below w2.heap.size w2 (w2.alloc (.cells #[.int .i64 pr, .int .i64 pc, .slice B2 regs.length e2, .int .i64 st, .slice B4 tr.length e4] 34)) := (Below.refl _ _).alloc (Nat.le_refl _) _
    have hY := box_new w2 #[.int .i64 pr, .int .i64 pc, .slice B2 regs.length e2, .int .i64 st, .slice B4 tr.length e4] 34
    have hR := box_keep HR2.out hal (by omega)
    have HO2a := Lib.hid (HO2.out.stay (w' := (w2.alloc (.cells #[.int .i64 pr, .int .i64 pc, .slice B2 regs.length e2, .int .i64 st, .slice B4 tr.length e4] 34))) (fun g hg hlt => hal.block g hlt) hal.size)
    have HO4a := Lib.hid (HO4.out.stay (w' := (w2.alloc (.cells #[.int .i64 pr, .int .i64 pc, .slice B2 regs.length e2, .int .i64 st, .slice B4 tr.length e4] 34))) (fun g hg hlt => hal.block g hlt) hal.size)
    have HB := Lib.hid (HB2.out.alloc (by omega) (.cells #[.int .i64 pr, .int .i64 pc, .slice B2 regs.length e2, .int .i64 st, .slice B4 tr.length e4] 34))
    have hyW : w2.heap.size < (w2.alloc (.cells #[.int .i64 pr, .int .i64 pc, .slice B2 regs.length e2, .int .i64 st, .slice B4 tr.length e4] 34)).heap.size := by simp
    have HG := Lib.hid (fun g hg => show W0.heap.size ≤ g ∧ g < w2.heap.size from HF2.out g hg)
    clear hal HO2 HO4 HB2 HF2 HR2
    generalize (w2.alloc (.cells #[.int .i64 pr, .int .i64 pc, .slice B2 regs.length e2, .int .i64 st, .slice B4 tr.length e4] 34)) = W3 at *
    generalize w2.heap.size = y at *
    have HF := Lib.hid (fun g (hg : F2 g ∨ F4 g) => show w.heap.size ≤ g ∧ g < W3.heap.size by have := HG.out g hg; omega)
    have y2c := box_cell (j := 2) hY rfl
    go_upto_region 4 with (fail)
    clear y2c
    have q0 := box_cell (j := 0) hY rfl
    have q1 := box_cell (j := 1) hY rfl
    have q2 := box_cell (j := 2) hY rfl
    have q3 := box_cell (j := 3) hY rfl
    have q4 := box_cell (j := 4) hY rfl
    have r0 := box_cell (j := 0) hR rfl
    have r1 := box_cell (j := 1) hR rfl
    have r2 := box_cell (j := 2) hR rfl
    have r3 := box_cell (j := 3) hR rfl
    have r4 := box_cell (j := 4) hR rfl
    have g0 := box_free hR 0
    have g1 := box_free hR 1
    have g2 := box_free hR 2
    have g3 := box_free hR 3
    have g4 := box_free hR 4
    have HRz := Lib.hid hR
    clear hY hR
    go_wp2_with fail
    have hfin := (box_set (j := 4) (u := .slice B4 tr.length e4) (box_set (j := 3) (u := .int .i64 st) (box_set (j := 2) (u := .slice B2 regs.length e2) (box_set (j := 1) (u := .int .i64 pc) (box_set (j := 0) (u := .int .i64 pr) HRz.out)))))
    have y0 := box_cell (j := 0) hfin rfl
    have y1 := box_cell (j := 1) hfin rfl
    have y2 := box_cell (j := 2) hfin rfl
    have y3 := box_cell (j := 3) hfin rfl
    have y4 := box_cell (j := 4) hfin rfl
    clear q0 q1 q2 q3 q4 r0 r1 r2 r3 r4 g0 g1 g2 g3 g4
    refine bodyPost_ret (v := .agg #[.int .i64 pr, .int .i64 pc, .slice B2 regs.length e2, .int .i64 st, .slice B4 tr.length e4]) (by simp [results, Tryz.results55, go_sem, y0, y1, y2, y3, y4]) rfl ?_
    have hnR2 : ¬ F2 (w.heap.size + 1) := fun hg => by have := HG.out _ (.inl hg); omega
    have hnR4 : ¬ F4 (w.heap.size + 1) := fun hg => by have := HG.out _ (.inr hg); omega
    refine ⟨(below_set (below_set (below_set (below_set (below_set HB.out (by simp only; omega) _) (by simp only; omega) _) (by simp only; omega) _) (by simp only; omega) _) (by simp only; omega) _), _, _, _, _, _, _, rfl, (OwnR.setCell (o := 4) (OwnR.setCell (o := 3) (OwnR.setCell (o := 2) (OwnR.setCell (o := 1) (OwnR.setCell (o := 0) HO2a.out (g := w.heap.size + 1) hnR2 _) hnR2 _) hnR2 _) hnR2 _) hnR2 _), (OwnR.setCell (o := 4) (OwnR.setCell (o := 3) (OwnR.setCell (o := 2) (OwnR.setCell (o := 1) (OwnR.setCell (o := 0) HO4a.out (g := w.heap.size + 1) hnR4 _) hnR4 _) hnR4 _) hnR4 _) hnR4 _), ?_, fun g hg hg' => by exact HD.out g hg hg'⟩
    rintro g (hg | hg) <;> (have hq := HF.out g; simp only [World.size_setCell]; first | (have := hq (.inl hg); omega) | (have := hq (.inr hg); omega))
end Go.Proofs.YtapbjnfopniicaaGreatDoor
