
/- MayWait: the program's and the model's. Laid by wip/gen9/mayw.py. -/

import Derived.Test.YtghkdkagnibkgaaGreatDoorGMay

import Derived.Deep.Cut

namespace Go.Proofs.YtghkdkagnibkgaaGreatDoor
set_option linter.unusedSimpArgs false
set_option linter.unusedVariables false
open Go.RowKit

theorem may_same {p : DProg} {g : DGor} (hp : progOkB p = true) (hat : 0 ≤ g.fPc ∧ g.fPc < instrsZ p g.fProc) :
    (decide ((atI p g).fOp = 8) || (decide ((atI p g).fOp = 9) || (decide ((atI p g).fOp = 12) || (decide ((atI p g).fOp = 11) && decide ((selI p (atI p g)).fElse = -1))))) = mayB p g := by
  have h := (at_names hp hat).2.2.1
  unfold mayB
  by_cases h1 : (atI p g).fOp = 11
  · obtain ⟨_, h2, _⟩ := h h1
    have h3 : decide ((selI p (atI p g)).fElse = -1) = decide ((selI p (atI p g)).fElse < 0) := by
      rw [decide_eq_decide]
      omega
    rw [h3]
  · rw [decide_eq_false h1, Bool.false_and, Bool.false_and]
theorem gorB_at {n : Int} {g : DGor} (h : gorB n g = true) : 0 ≤ g.fPc ∧ g.fPc < n := by
  unfold gorB at h
  rw [Bool.and_eq_true] at h
  exact of_decide_eq_true h.1

set_option maxRecDepth 100000 in
set_option maxHeartbeats 4000000 in
theorem specMay_any {w : World} {hi : Nat} {p : DProg} {g : DGor} {vs us : List Value} (hp : layProg.see w hi p vs) (hg : layGor.see w hi g us) (hhi : hi ≤ w.heap.size) (hnp : szProg p ≤ 1048576) (hok : progOkB p = true) (hat : 0 ≤ g.fPc ∧ g.fPc < instrsZ p g.fProc) :
    Calls Tryz.prog 90 #[.agg vs.toArray, .agg us.toArray] w fun e w' => e = .returned (.bool (mayB p g)) ∧ Below w.heap.size w w' := by
  have HI := Lib.hid (fun (W : World) (hW : Below w.heap.size w W) => specAt_any (layProg.keep hp fun k hk => hW.block k (by omega)) (layGor.keep hg fun k hk => hW.block k (by omega)) (Nat.le_trans hhi hW.size) hnp hat)
  have hnm := (at_names hok hat).2.2.1
  obtain ⟨A0, n0, c0, B2, m2, d2, A3, n3, c3, rfl, -, -, ⟨hc2, hm2, s2⟩, -⟩ := seeProg hp
  have HS := Lib.hid (fun (W : World) (hW : Below w.heap.size w W) => s2.below hW hhi)
  have hn2 : m2 ≤ 1048576 := by have := s2.1; unfold szProg at hnp; omega
  obtain ⟨A2, n2, c2, A4, n4, c4, rfl, -⟩ := seeGor hg
  unfold mayB
  clear hp hg s2 hat hok hnp
  generalize atI p g = ins at *
  obtain ⟨op, a, b, c⟩ := ins
  simp only at hnm HI ⊢
  have hP0 := box_keep (box_new w #[.slice A0 n0 c0, .int .i64 p.fMus, .slice B2 m2 d2, .slice A3 n3 c3] 38) ((Below.refl _ _).alloc (Nat.le_refl _) (.cells #[.int .i64 g.fProc, .int .i64 g.fPc, .slice A2 n2 c2, .int .i64 g.fState, .slice A4 n4 c4] 65)) (by simp)
  have hB0 : Below w.heap.size w ((w.alloc (.cells #[.slice A0 n0 c0, .int .i64 p.fMus, .slice B2 m2 d2, .slice A3 n3 c3] 38)).alloc (.cells #[.int .i64 g.fProc, .int .i64 g.fPc, .slice A2 n2 c2, .int .i64 g.fState, .slice A4 n4 c4] 65)) := ((Below.refl _ _).alloc (Nat.le_refl _) _).alloc (by simp) _
  have hz0 : w.heap.size + 2 ≤ ((w.alloc (.cells #[.slice A0 n0 c0, .int .i64 p.fMus, .slice B2 m2 d2, .slice A3 n3 c3] 38)).alloc (.cells #[.int .i64 g.fProc, .int .i64 g.fPc, .slice A2 n2 c2, .int .i64 g.fState, .slice A4 n4 c4] 65)).heap.size := by simp
  go_enter Tryz.func90, Tryz.ntmps90
  go_wp2_with fail
  refine (HI.out _ hB0).mono ?_
  rintro e w1 ⟨rfl, hb1⟩
  have hz1 := hb1.size
  go_upto_region 2 with (fail)
  have hA1 : Below w1.heap.size w1 (w1.alloc (.cells #[.int .i64 op, .int .i64 a, .int .i64 b, .int .i64 c] 61)) := (Below.refl _ _).alloc (Nat.le_refl _) _
  have hB1 := hB0.trans ((hb1.mono (by omega)).trans (hA1.mono (by omega)))
  have hP1 := box_keep (box_keep hP0 hb1 (by omega)) hA1 (by omega)
  have hX1 := box_new w1 #[.int .i64 op, .int .i64 a, .int .i64 b, .int .i64 c] 61
  have HB1 := Lib.hid hB1
  have hp2 := box_cell (j := 2) hP1 rfl
  have x0 := box_cell (j := 0) hX1 rfl
  have x1 := box_cell (j := 1) hX1 rfl
  by_cases h8 : op = 8
  · subst h8
    go_wp2_with fail
    go_ret
    exact ⟨rfl, HB1.out⟩
  by_cases h9 : op = 9
  · subst h9
    go_wp2_with fail
    go_ret
    exact ⟨rfl, HB1.out⟩
  by_cases h12 : op = 12
  · subst h12
    go_wp2_with fail
    go_ret
    exact ⟨rfl, HB1.out⟩
  by_cases h11 : op = 11
  · subst h11
    obtain ⟨⟨ha, hb⟩, -, -⟩ := hnm rfl
    obtain ⟨q, rfl⟩ := Int.eq_ofNat_of_zero_le ha
    have hq : q < m2 := by have := (HS.out _ (Below.refl _ _)).1; omega
    obtain ⟨hx, g9, o9, ws, rfl, hg9, hsee, hcell⟩ := (HS.out _ HB1.out).at_ hq
    have hsl : selI p ⟨11, q, b, c⟩ = p.fSels[q] := by unfold selI; simp only [Int.toNat_natCast]; rw [List.getElem?_eq_getElem hx, Option.getD_some]
    have HSL := Lib.hid hsl
    clear hsl
    generalize p.fSels[q] = s at *
    obtain ⟨B0, m0, d0, rfl, -⟩ := seeSelect hsee
    have cc1 := hcell 1 _ rfl
    simp only [show laySelect.size = 2 from rfl, ← Nat.add_assoc] at cc1
    have hi1 : (q : Int) < (m2 : Int) := by omega
    clear hcell hsee HS hnm hb hB0 hP0 hb1 hP1 hX1 hA1 hB1 HI
    go_wp2_with fail
    go_ret
    exact ⟨by rw [HSL.out]; simp, HB1.out⟩
  · have q8 : (op == 8) = false := by simp [h8]
    have q9 : (op == 9) = false := by simp [h9]
    have q12 : (op == 12) = false := by simp [h12]
    have q11 : (op == 11) = false := by simp [h11]
    have HR := Lib.hid (show (decide (op = 8) || (decide (op = 9) || (decide (op = 12) || (decide (op = 11) && decide ((selI p ⟨op, a, b, c⟩).fElse < 0))))) = false by rw [decide_eq_false h8, decide_eq_false h9, decide_eq_false h12, decide_eq_false h11]; rfl)
    clear h8 h9 h12 h11
    go_wp2_with fail
    go_ret
    exact ⟨by rw [HR.out]; rfl, HB1.out⟩

end Go.Proofs.YtghkdkagnibkgaaGreatDoor
