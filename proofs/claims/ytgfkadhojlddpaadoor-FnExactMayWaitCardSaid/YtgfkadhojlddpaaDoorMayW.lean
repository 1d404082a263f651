
/- MayWait: the program's and the model's. Laid by wip/gen9/mayw.py. -/

import Derived.Test.YtgfkadhojlddpaaDoorGMay

import Derived.Deep.Cut

namespace Go.Proofs.YtgfkadhojlddpaaDoor
set_option linter.unusedSimpArgs false
set_option linter.unusedVariables false
open Go.RowKit

theorem may_same {p : DProg} {g : DGor} (hp : progOkB p = true) (hat : 0 ≤ g.fPc ∧ g.fPc < instrsZ p g.fProc) :
    (decide ((atI p g).fOp = 8) || (decide ((atI p g).fOp = 9) || (decide ((atI p g).fOp = 12) || (decide ((atI p g).fOp = 11) && decide ((selI p (atI p g)).fElse = -1))))) = mayB p g := by
  have h := (at_names hp hat).2.2.1
  unfold mayB
  by_cases h1 : (atI p g).fOp = 11
  · obtain ⟨_, h2, _⟩ := h h1
    have h3 : decide ((selI p (atI p g)).fElse = -1) = decide ((selI p (atI p g)).fElse < 0) := by
      rw [decide_eq_decide]
      omega
    rw [h3]
  · rw [decide_eq_false h1, Bool.false_and, Bool.false_and]
theorem gorB_at {n : Int} {g : DGor} (h : gorB n g = true) : 0 ≤ g.fPc ∧ g.fPc < n := by
  unfold gorB at h
  rw [Bool.and_eq_true] at h
  exact of_decide_eq_true h.1

set_option maxRecDepth 100000 in
set_option maxHeartbeats 4000000 in
theorem specMay_any {w : World} {hi : Nat} {p : DProg} {g : DGor} {vs us : List Value} (hp : layProg.see w hi p vs) (hg : layGor.see w hi g us) (hhi : hi ≤ w.heap.size) (hnp : szProg p ≤ 1048576) (hok : progOkB p = true) (hat : 0 ≤ g.fPc ∧ g.fPc < instrsZ p g.fProc) :
    Calls Tryd.prog 80 #[.agg vs.toArray, .agg us.toArray] w fun e w' => e = .returned (.bool (mayB p g)) ∧ Below w.heap.size w w' := by
  have HI := Lib.hid (fun (W : World) (hW : Below w.heap.size w W) => specAt_any (layProg.keep hp fun k hk => hW.block k (by omega)) (layGor.keep hg fun k hk => hW.block k (by omega)) (Nat.le_trans hhi hW.size) hnp hat)
  have hnm := (at_names hok hat).2.2.1
  obtain ⟨A0, n0, c0, B2, m2, d2, A3, n3, c3, rfl, -, -, ⟨hc2, hm2, s2⟩, -⟩ := seeProg hp
  have HS := Lib.hid (fun (W : World) (hW : Below w.heap.size w W) => s2.below hW hhi)
  have hn2 : m2 ≤ 1048576 := by have := s2.1; unfold szProg at hnp; omega
  obtain ⟨A2, n2, c2, A4, n4, c4, rfl, -⟩ := seeGor hg
  unfold mayB
  clear hp hg s2 hat hok hnp
  generalize atI p g = ins at *
  obtain ⟨op, a, b, c⟩ := ins
  simp only at hnm HI ⊢
  have hP0 := box_keep (box_new w #[.slice A0 n0 c0, .int .i64 p.fMus, .slice B2 m2 d2, .slice A3 n3 c3] 53) ((Below.refl _ _).alloc (Nat.le_refl _) (.cells #[.int .i64 g.fProc, .int .i64 g.fPc, .slice A2 n2 c2, .int .i64 g.fState, .slice A4 n4 c4] 57)) (by simp)
  have hB0 : Below w.heap.size w ((w.alloc (.cells #[.slice A0 n0 c0, .int .i64 p.fMus, .slice B2 m2 d2, .slice A3 n3 c3] 53)).alloc (.cells #[.int .i64 g.fProc, .int .i64 g.fPc, .slice A2 n2 c2, .int .i64 g.fState, .slice A4 n4 c4] 57)) := ((Below.refl _ _).alloc (Nat.le_refl _) _).alloc (by simp) _
  have hz0 : w.heap.size + 2 ≤ ((w.alloc (.cells #[.slice A0 n0 c0, .int .i64 p.fMus, .slice B2 m2 d2, .slice A3 n3 c3] 53)).alloc (.cells #[.int .i64 g.fProc, .int .i64 g.fPc, .slice A2 n2 c2, .int .i64 g.fState, .slice A4 n4 c4] 57)).heap.size := by simp
  go_enter Tryd.func80, Tryd.ntmps80
  go_wp2_with fail
  refine (HI.out _ hB0).mono ?_
  rintro e w1 ⟨rfl, hb1⟩
  have hz1 := hb1.size
  go_upto_region 2 with (fail)
  have hA1 : Below w1.heap.size w1 (w1.alloc (.cells #[.int .i64 op, .int .i64 a, .int .i64 b, .int .i64 c] 25)) := (Below.refl _ _).alloc (Nat.le_refl _) _
  have hB1 := hB0.trans ((hb1.mono (by omega)).trans (hA1.mono (by omega)))
  have hP1 := box_keep (box_keep hP0 hb1 (by omega)) hA1 (by omega)
  have hX1 := box_new w1 #[.int .i64 op, .int .i64 a, .int .i64 b, .int .i64 c] 25
  have HB1 := Lib.hid hB1
  have hp2 := box_cell (j := 2) hP1 rfl
  have x0 := box_cell (j := 0) hX1 rfl
  have x1 := box_cell (j := 1) hX1 rfl
  by_cases h8 : op = 8
  · subst h8
    go_wp2_with fail
    go_ret
    exact ⟨rfl, HB1.out⟩
  by_cases h9 : op = 9
  · subst h9
    go_wp2_with fail
    go_ret
    exact ⟨rfl, HB1.out⟩
  by_cases h12 : op = 12
  · subst h12
    go_wp2_with fail
    go_ret
    exact ⟨rfl, HB1.out⟩
  by_cases h11 : op = 11
  · subst h11
    obtain ⟨⟨ha, hb⟩, -, -⟩ := hnm rfl
    obtain ⟨q, rfl⟩ := Int.eq_ofNat_of_zero_le ha
    have hq : q < m2 := by have := (HS.out _ (Below.refl _ _)).1; omega
    obtain ⟨hx, g9, o9, ws, rfl, hg9, hsee, hcell⟩ := (HS.out _ HB1.out).at_ hq
    have hsl : selI p ⟨11, q, b, c⟩ = p.fSels[q] := by unfold selI; simp only [Int.toNat_natCast]; rw [List.getElem?_eq_getElem hx, Option.getD_some]
    have HSL := Lib.hid hsl
    clear hsl
    generalize p.fSels[q] = s at *
    obtain ⟨B0, m0, d0, rfl, -⟩ := seeSelect hsee
    have cc1 := hcell 1 _ rfl
    simp only [show laySelect.size = 2 from rfl, ← Nat.add_assoc] at cc1
    have hi1 : (q : Int) < (m2 : Int) := by omega
    clear hcell hsee HS hnm hb hB0 hP0 hb1 hP1 hX1 hA1 hB1 HI
    go_wp2_with fail
    go_ret
    exact ⟨by rw [HSL.out]; simp, HB1.out⟩
  · have q8 : (op == 8) = false := by simp [h8]
    have q9 : (op == 9) = false := by simp [h9]
    have q12 : (op == 12) = false := by simp [h12]
    have q11 : (op == 11) = false := by simp [h11]
    have HR := Lib.hid (show (decide (op = 8) || (decide (op = 9) || (decide (op = 12) || (decide (op = 11) && decide ((selI p ⟨op, a, b, c⟩).fElse < 0))))) = false by rw [decide_eq_false h8, decide_eq_false h9, decide_eq_false h12, decide_eq_false h11]; rfl)
    clear h8 h9 h12 h11
    go_wp2_with fail
    go_ret
    exact ⟨by rw [HR.out]; rfl, HB1.out⟩

set_option maxRecDepth 100000 in
set_option maxHeartbeats 4000000 in
theorem specMayWait_any {w : World} {hi : Nat} {p : DProg} {g : DGor} {vs us : List Value} (hp : layProg.see w hi p vs) (hg : layGor.see w hi g us) (hhi : hi ≤ w.heap.size) (hnp : szProg p ≤ 1048576) (hng : szGor g ≤ 1048576) :
    Calls Tryd.prog 30 #[.agg vs.toArray, .agg us.toArray] w fun e w' => e = .returned (.bool (gorOkB p g && mayB p g)) ∧ Below w.heap.size w w' := by
  have HG := Lib.hid (fun (W : World) (hW : Below w.heap.size w W) => specGorOk_any (layProg.keep hp fun k hk => hW.block k (by omega)) (layGor.keep hg fun k hk => hW.block k (by omega)) (Nat.le_trans hhi hW.size) hnp hng)
  have HM := Lib.hid (fun (hok : gorOkB p g = true) (W : World) (hW : Below w.heap.size w W) => specMay_any (layProg.keep hp fun k hk => hW.block k (by omega)) (layGor.keep hg fun k hk => hW.block k (by omega)) (Nat.le_trans hhi hW.size) hnp (by unfold gorOkB at hok; rw [Bool.and_eq_true] at hok; exact hok.1) (by unfold gorOkB at hok; rw [Bool.and_eq_true] at hok; exact gorB_at hok.2))
  obtain ⟨A0, n0, c0, B2, m2, d2, A3, n3, c3, rfl, -⟩ := seeProg hp
  obtain ⟨A2, n2, c2, A4, n4, c4, rfl, -⟩ := seeGor hg
  clear hp hg hnp hng
  rw [show (progOkB p && gorB (instrsZ p g.fProc) g) = gorOkB p g from rfl] at HG
  generalize gorOkB p g = b1 at *
  generalize mayB p g = b2 at *
  have hP0 := box_keep (box_new w #[.slice A0 n0 c0, .int .i64 p.fMus, .slice B2 m2 d2, .slice A3 n3 c3] 53) ((Below.refl _ _).alloc (Nat.le_refl _) (.cells #[.int .i64 g.fProc, .int .i64 g.fPc, .slice A2 n2 c2, .int .i64 g.fState, .slice A4 n4 c4] 57)) (by simp)
  have hG0 := box_new (w.alloc (.cells #[.slice A0 n0 c0, .int .i64 p.fMus, .slice B2 m2 d2, .slice A3 n3 c3] 53)) #[.int .i64 g.fProc, .int .i64 g.fPc, .slice A2 n2 c2, .int .i64 g.fState, .slice A4 n4 c4] 57
  rw [World.size_alloc] at hG0
  have hB0 : Below w.heap.size w ((w.alloc (.cells #[.slice A0 n0 c0, .int .i64 p.fMus, .slice B2 m2 d2, .slice A3 n3 c3] 53)).alloc (.cells #[.int .i64 g.fProc, .int .i64 g.fPc, .slice A2 n2 c2, .int .i64 g.fState, .slice A4 n4 c4] 57)) := ((Below.refl _ _).alloc (Nat.le_refl _) _).alloc (by simp) _
  have hz0 : w.heap.size + 2 ≤ ((w.alloc (.cells #[.slice A0 n0 c0, .int .i64 p.fMus, .slice B2 m2 d2, .slice A3 n3 c3] 53)).alloc (.cells #[.int .i64 g.fProc, .int .i64 g.fPc, .slice A2 n2 c2, .int .i64 g.fState, .slice A4 n4 c4] 57)).heap.size := by simp
  go_enter Tryd.func30, Tryd.ntmps30
  go_wp2_with fail
  refine (HG.out _ hB0).mono ?_
  rintro e w1 ⟨rfl, hb1⟩
  have hz1 := hb1.size
  have HB1 := Lib.hid (hB0.trans (hb1.mono (by omega)))
  have hP1 := box_keep hP0 hb1 (by omega)
  have hG1 := box_keep hG0 hb1 (by omega)
  clear hP0 hG0 hB0
  have p0 := box_cell (j := 0) hP1 rfl
  have p1 := box_cell (j := 1) hP1 rfl
  have p2 := box_cell (j := 2) hP1 rfl
  have p3 := box_cell (j := 3) hP1 rfl
  have g0 := box_cell (j := 0) hG1 rfl
  have g1 := box_cell (j := 1) hG1 rfl
  have g2 := box_cell (j := 2) hG1 rfl
  have g3 := box_cell (j := 3) hG1 rfl
  have g4 := box_cell (j := 4) hG1 rfl
  clear hb1 hP1 hG1
  cases b1
  · go_wp2_with fail
    go_ret
    exact ⟨rfl, HB1.out⟩
  · go_wp2_with fail
    refine (HM.out (by simp) _ HB1.out).mono ?_
    rintro e w2 ⟨rfl, hb2⟩
    go_wp2_with fail
    go_ret
    exact ⟨by simp, HB1.out.trans (hb2.mono HB1.out.size)⟩

set_option maxRecDepth 100000 in
set_option maxHeartbeats 4000000 in
theorem implMayWait_any {w : World} {hi : Nat} {p : DProg} {g : DGor} {vs us : List Value} (hp : layProg.see w hi p vs) (hg : layGor.see w hi g us) (hhi : hi ≤ w.heap.size) (hOC : OpCells w) (hIC : ItemCells w) (hnp : szProg p ≤ 1048576) (hng : szGor g ≤ 1048576) :
    Calls Tryd.prog 31 #[.agg vs.toArray, .agg us.toArray] w fun e w' => e = .returned (.bool (gorOkB p g && mayB p g)) ∧ Below w.heap.size w w' := by
  have HG := Lib.hid (fun (W : World) (hW : Below w.heap.size w W) => implGorOk_any (layProg.keep hp fun k hk => hW.block k (by omega)) (layGor.keep hg fun k hk => hW.block k (by omega)) (Nat.le_trans hhi hW.size) (opCells_below hOC hW) (itemCells_below hIC hW (Nat.le_refl _)) hnp hng)
  rw [show (progOkB p && gorB (instrsZ p g.fProc) g) = gorOkB p g from rfl] at HG
  have HI := Lib.hid (fun (hok : gorOkB p g = true) (W : World) (hW : Below w.heap.size w W) => implAt_any (layProg.keep hp fun k hk => hW.block k (by omega)) (layGor.keep hg fun k hk => hW.block k (by omega)) (Nat.le_trans hhi hW.size) hnp (by unfold gorOkB at hok; rw [Bool.and_eq_true] at hok; exact gorB_at hok.2))
  have HM := Lib.hid (fun (hok : gorOkB p g = true) (W : World) (hW : Below w.heap.size w W) => show Calls Tryd.prog 81 #[.agg vs.toArray, .agg #[.int .i64 (atI p g).fOp, .int .i64 (atI p g).fA, .int .i64 (atI p g).fB, .int .i64 (atI p g).fC]] W fun e w' => e = .returned (.bool (mayB p g)) ∧ Below W.heap.size W w' from by
    have h1 := hok
    unfold gorOkB at h1
    rw [Bool.and_eq_true] at h1
    have h2 := gorB_at h1.2
    rw [← may_same h1.1 h2]
    exact mayAt_any (layProg.keep hp fun k hk => hW.block k (by omega)) (Nat.le_trans hhi hW.size) hnp (fun h => ((at_names h1.1 h2).2.2.1 h).1))
  obtain ⟨A0, n0, c0, B2, m2, d2, A3, n3, c3, rfl, -⟩ := seeProg hp
  obtain ⟨A2, n2, c2, A4, n4, c4, rfl, -⟩ := seeGor hg
  clear hp hg hnp hng hOC hIC
  generalize gorOkB p g = b1 at *
  generalize mayB p g = b2 at *
  generalize atI p g = ins at *
  have hB0 : Below w.heap.size w ((w.alloc (.cells #[.slice A0 n0 c0, .int .i64 p.fMus, .slice B2 m2 d2, .slice A3 n3 c3] 53)).alloc (.cells #[.int .i64 g.fProc, .int .i64 g.fPc, .slice A2 n2 c2, .int .i64 g.fState, .slice A4 n4 c4] 57)) := ((Below.refl _ _).alloc (Nat.le_refl _) _).alloc (by simp) _
  have hP0 := box_keep (box_new w #[.slice A0 n0 c0, .int .i64 p.fMus, .slice B2 m2 d2, .slice A3 n3 c3] 53) ((Below.refl _ _).alloc (Nat.le_refl _) (.cells #[.int .i64 g.fProc, .int .i64 g.fPc, .slice A2 n2 c2, .int .i64 g.fState, .slice A4 n4 c4] 57)) (by simp)
  have hG0 := box_new (w.alloc (.cells #[.slice A0 n0 c0, .int .i64 p.fMus, .slice B2 m2 d2, .slice A3 n3 c3] 53)) #[.int .i64 g.fProc, .int .i64 g.fPc, .slice A2 n2 c2, .int .i64 g.fState, .slice A4 n4 c4] 57
  rw [World.size_alloc] at hG0
  have hz0 : w.heap.size + 2 ≤ ((w.alloc (.cells #[.slice A0 n0 c0, .int .i64 p.fMus, .slice B2 m2 d2, .slice A3 n3 c3] 53)).alloc (.cells #[.int .i64 g.fProc, .int .i64 g.fPc, .slice A2 n2 c2, .int .i64 g.fState, .slice A4 n4 c4] 57)).heap.size := by simp
  go_enter Tryd.func31, Tryd.ntmps31
  go_upto_region 1 with (fail)
  generalize ((w.alloc (.cells #[.slice A0 n0 c0, .int .i64 p.fMus, .slice B2 m2 d2, .slice A3 n3 c3] 53)).alloc (.cells #[.int .i64 g.fProc, .int .i64 g.fPc, .slice A2 n2 c2, .int .i64 g.fState, .slice A4 n4 c4] 57)) = W0 at *
  have HP0 := Lib.hid hP0
  have HG0 := Lib.hid hG0
  have HB0 := Lib.hid hB0
  clear hP0 hG0 hB0
  cases b1
  · skip
    refine wp_region_inv (fun AC0 L a W => ∃ sl5 sl6 sl7 sl8 sl9 sl10 sl11 sl12 sl13 sl14 sl4 : Value, a = (((((((((((AC0.put (some 5) sl5).put (some 6) sl6).put (some 7) sl7).put (some 8) sl8).put (some 9) sl9).put (some 10) sl10).put (some 11) sl11).put (some 12) sl12).put (some 13) sl13).put (some 14) sl14).put (some 4) sl4) ∧ Below W0.heap.size W0 W ∧ ((L 0 → sl5 = (.agg #[.slice A0 n0 c0, .int .i64 p.fMus, .slice B2 m2 d2, .slice A3 n3 c3])) ∧ (L 1 → sl6 = (.agg #[.int .i64 g.fProc, .int .i64 g.fPc, .slice A2 n2 c2, .int .i64 g.fState, .slice A4 n4 c4])) ∧ (L 2 → sl7 = (.bool false)) ∧ (L 3 → sl8 = (.bool false)) ∧ (L 4 → True) ∧ (L 5 → True) ∧ (L 6 → True) ∧ (L 7 → True) ∧ (L 8 → True) ∧ (L 9 → sl14 = (.bool false)) ∧ (L 10 → sl4 = (.bool false)))) (by kernel_rfl) (by kernel_rfl) ?_ ?_ ?_
    · exact ⟨undef, undef, undef, undef, undef, undef, undef, undef, undef, undef, (.bool false), by simp only [Act.put, List.setIfInBounds_toArray, List.set_cons_zero, List.set_cons_succ], Below.drew (Below.refl _ _), fun h => absurd h id, fun h => absurd h id, fun h => absurd h id, fun h => absurd h id, fun h => absurd h id, fun h => absurd h id, fun h => absurd h id, fun h => absurd h id, fun h => absurd h id, fun h => absurd h id, fun h => absurd h id⟩
    · intro Q9; refine InvFrom.cons (fun L a W hI hN hD K hK => ?_) ?_
      · obtain ⟨sl5, sl6, sl7, sl8, sl9, sl10, sl11, sl12, sl13, sl14, sl4, ha, hB, f0, f1, f2, f3, f4, f5, f6, f7, f8, f9, f10⟩ := hI
        subst ha
        have hz := hB.size
        have pp0 := box_cell (j := 0) (box_keep HP0.out hB (by omega)) rfl
        have pp1 := box_cell (j := 1) (box_keep HP0.out hB (by omega)) rfl
        have pp2 := box_cell (j := 2) (box_keep HP0.out hB (by omega)) rfl
        have pp3 := box_cell (j := 3) (box_keep HP0.out hB (by omega)) rfl
        refine Kept.mk ?_
        simp only [Act.put, List.setIfInBounds_toArray, List.set_cons_zero, List.set_cons_succ]
        go_simp
        refine hK.out _ _ ?_
        exact ⟨(.agg #[.slice A0 n0 c0, .int .i64 p.fMus, .slice B2 m2 d2, .slice A3 n3 c3]), sl6, sl7, sl8, sl9, sl10, sl11, sl12, sl13, sl14, sl4, by simp only [Act.put, List.setIfInBounds_toArray, List.set_cons_zero, List.set_cons_succ], hB, fun _ => rfl, fun h => f1 (h.resolve_right (by decide)), fun h => f2 (h.resolve_right (by decide)), fun h => f3 (h.resolve_right (by decide)), fun h => f4 (h.resolve_right (by decide)), fun h => f5 (h.resolve_right (by decide)), fun h => f6 (h.resolve_right (by decide)), fun h => f7 (h.resolve_right (by decide)), fun h => f8 (h.resolve_right (by decide)), fun h => f9 (h.resolve_right (by decide)), fun h => f10 (h.resolve_right (by decide))⟩
      refine InvFrom.cons (fun L a W hI hN hD K hK => ?_) ?_
      · obtain ⟨sl5, sl6, sl7, sl8, sl9, sl10, sl11, sl12, sl13, sl14, sl4, ha, hB, f0, f1, f2, f3, f4, f5, f6, f7, f8, f9, f10⟩ := hI
        subst ha
        have hz := hB.size
        have pg0 := box_cell (j := 0) (box_keep HG0.out hB (by omega)) rfl
        have pg1 := box_cell (j := 1) (box_keep HG0.out hB (by omega)) rfl
        have pg2 := box_cell (j := 2) (box_keep HG0.out hB (by omega)) rfl
        have pg3 := box_cell (j := 3) (box_keep HG0.out hB (by omega)) rfl
        have pg4 := box_cell (j := 4) (box_keep HG0.out hB (by omega)) rfl
        refine Kept.mk ?_
        simp only [Act.put, List.setIfInBounds_toArray, List.set_cons_zero, List.set_cons_succ]
        go_simp
        refine hK.out _ _ ?_
        exact ⟨sl5, (.agg #[.int .i64 g.fProc, .int .i64 g.fPc, .slice A2 n2 c2, .int .i64 g.fState, .slice A4 n4 c4]), sl7, sl8, sl9, sl10, sl11, sl12, sl13, sl14, sl4, by simp only [Act.put, List.setIfInBounds_toArray, List.set_cons_zero, List.set_cons_succ], hB, fun h => f0 (h.resolve_right (by decide)), fun _ => rfl, fun h => f2 (h.resolve_right (by decide)), fun h => f3 (h.resolve_right (by decide)), fun h => f4 (h.resolve_right (by decide)), fun h => f5 (h.resolve_right (by decide)), fun h => f6 (h.resolve_right (by decide)), fun h => f7 (h.resolve_right (by decide)), fun h => f8 (h.resolve_right (by decide)), fun h => f9 (h.resolve_right (by decide)), fun h => f10 (h.resolve_right (by decide))⟩
      refine InvFrom.cons (fun L a W hI hN hD K hK => ?_) ?_
      · obtain ⟨sl5, sl6, sl7, sl8, sl9, sl10, sl11, sl12, sl13, sl14, sl4, ha, hB, f0, f1, f2, f3, f4, f5, f6, f7, f8, f9, f10⟩ := hI
        subst ha
        have hz := hB.size
        have d0 := f0 (hD 0 (by kernel_rfl))
        subst d0
        have d1 := f1 (hD 1 (by kernel_rfl))
        subst d1
        refine kept_c2 rfl 21 _ _ _ rfl (fenters_of' Tryd.func21 (by kernel_rfl) (by kernel_rfl)) (.agg #[.slice A0 n0 c0, .int .i64 p.fMus, .slice B2 m2 d2, .slice A3 n3 c3]) (.agg #[.int .i64 g.fProc, .int .i64 g.fPc, .slice A2 n2 c2, .int .i64 g.fState, .slice A4 n4 c4]) (by kernel_rfl) (by kernel_rfl) (HG.out W (HB0.out.trans (hB.mono (by omega)))) ?_
        rintro e W1 ⟨rfl, hb1⟩
        refine ⟨_, rfl, hK.out _ _ ?_⟩
        exact ⟨(.agg #[.slice A0 n0 c0, .int .i64 p.fMus, .slice B2 m2 d2, .slice A3 n3 c3]), (.agg #[.int .i64 g.fProc, .int .i64 g.fPc, .slice A2 n2 c2, .int .i64 g.fState, .slice A4 n4 c4]), (.bool false), sl8, sl9, sl10, sl11, sl12, sl13, sl14, sl4, by simp only [Act.put, List.setIfInBounds_toArray, List.set_cons_zero, List.set_cons_succ], hB.trans ((hb1.mono (Nat.le_refl _)).mono hz), fun h => f0 (h.resolve_right (by decide)), fun h => f1 (h.resolve_right (by decide)), fun _ => rfl, fun h => f3 (h.resolve_right (by decide)), fun h => f4 (h.resolve_right (by decide)), fun h => f5 (h.resolve_right (by decide)), fun h => f6 (h.resolve_right (by decide)), fun h => f7 (h.resolve_right (by decide)), fun h => f8 (h.resolve_right (by decide)), fun h => f9 (h.resolve_right (by decide)), fun h => f10 (h.resolve_right (by decide))⟩
      refine InvFrom.cons (fun L a W hI hN hD K hK => ?_) ?_
      · obtain ⟨sl5, sl6, sl7, sl8, sl9, sl10, sl11, sl12, sl13, sl14, sl4, ha, hB, f0, f1, f2, f3, f4, f5, f6, f7, f8, f9, f10⟩ := hI
        subst ha
        have hz := hB.size
        have d2 := f2 (hD 2 (by kernel_rfl))
        subst d2
        refine Kept.mk ?_
        simp only [Act.put, List.setIfInBounds_toArray, List.set_cons_zero, List.set_cons_succ]
        go_simp
        refine hK.out _ _ ?_
        exact ⟨sl5, sl6, (.bool false), (.bool false), sl9, sl10, sl11, sl12, sl13, sl14, sl4, by simp only [Act.put, List.setIfInBounds_toArray, List.set_cons_zero, List.set_cons_succ], hB, fun h => f0 (h.resolve_right (by decide)), fun h => f1 (h.resolve_right (by decide)), fun h => f2 (h.resolve_right (by decide)), fun _ => rfl, fun h => f4 (h.resolve_right (by decide)), fun h => f5 (h.resolve_right (by decide)), fun h => f6 (h.resolve_right (by decide)), fun h => f7 (h.resolve_right (by decide)), fun h => f8 (h.resolve_right (by decide)), fun h => f9 (h.resolve_right (by decide)), fun h => f10 (h.resolve_right (by decide))⟩
      refine InvFrom.cons (fun L a W hI hN hD K hK => ?_) ?_
      · obtain ⟨sl5, sl6, sl7, sl8, sl9, sl10, sl11, sl12, sl13, sl14, sl4, ha, hB, f0, f1, f2, f3, f4, f5, f6, f7, f8, f9, f10⟩ := hI
        subst ha
        have hz := hB.size
        have d3 := f3 (hD 3 (by kernel_rfl))
        subst d3
        refine Kept.mk ?_
        simp only [Act.put, List.setIfInBounds_toArray, List.set_cons_zero, List.set_cons_succ]
        go_simp
        refine hK.out _ _ ?_
        exact ⟨sl5, sl6, sl7, (.bool false), undef, sl10, sl11, sl12, sl13, sl14, sl4, by simp only [Act.put, List.setIfInBounds_toArray, List.set_cons_zero, List.set_cons_succ], hB, fun h => f0 (h.resolve_right (by decide)), fun h => f1 (h.resolve_right (by decide)), fun h => f2 (h.resolve_right (by decide)), fun h => f3 (h.resolve_right (by decide)), fun _ => trivial, fun h => f5 (h.resolve_right (by decide)), fun h => f6 (h.resolve_right (by decide)), fun h => f7 (h.resolve_right (by decide)), fun h => f8 (h.resolve_right (by decide)), fun h => f9 (h.resolve_right (by decide)), fun h => f10 (h.resolve_right (by decide))⟩
      refine InvFrom.cons (fun L a W hI hN hD K hK => ?_) ?_
      · obtain ⟨sl5, sl6, sl7, sl8, sl9, sl10, sl11, sl12, sl13, sl14, sl4, ha, hB, f0, f1, f2, f3, f4, f5, f6, f7, f8, f9, f10⟩ := hI
        subst ha
        have hz := hB.size
        have d3 := f3 (hD 3 (by kernel_rfl))
        subst d3
        refine Kept.mk ?_
        simp only [Act.put, List.setIfInBounds_toArray, List.set_cons_zero, List.set_cons_succ]
        go_simp
        refine hK.out _ _ ?_
        exact ⟨sl5, sl6, sl7, (.bool false), sl9, undef, sl11, sl12, sl13, sl14, sl4, by simp only [Act.put, List.setIfInBounds_toArray, List.set_cons_zero, List.set_cons_succ], hB, fun h => f0 (h.resolve_right (by decide)), fun h => f1 (h.resolve_right (by decide)), fun h => f2 (h.resolve_right (by decide)), fun h => f3 (h.resolve_right (by decide)), fun h => f4 (h.resolve_right (by decide)), fun _ => trivial, fun h => f6 (h.resolve_right (by decide)), fun h => f7 (h.resolve_right (by decide)), fun h => f8 (h.resolve_right (by decide)), fun h => f9 (h.resolve_right (by decide)), fun h => f10 (h.resolve_right (by decide))⟩
      refine InvFrom.cons (fun L a W hI hN hD K hK => ?_) ?_
      · obtain ⟨sl5, sl6, sl7, sl8, sl9, sl10, sl11, sl12, sl13, sl14, sl4, ha, hB, f0, f1, f2, f3, f4, f5, f6, f7, f8, f9, f10⟩ := hI
        subst ha
        have hz := hB.size
        have d3 := f3 (hD 3 (by kernel_rfl))
        subst d3
        refine Kept.mk ?_
        simp only [Act.put, List.setIfInBounds_toArray, List.set_cons_zero, List.set_cons_succ]
        go_simp
        refine hK.out _ _ ?_
        exact ⟨sl5, sl6, sl7, (.bool false), sl9, sl10, undef, sl12, sl13, sl14, sl4, by simp only [Act.put, List.setIfInBounds_toArray, List.set_cons_zero, List.set_cons_succ], hB, fun h => f0 (h.resolve_right (by decide)), fun h => f1 (h.resolve_right (by decide)), fun h => f2 (h.resolve_right (by decide)), fun h => f3 (h.resolve_right (by decide)), fun h => f4 (h.resolve_right (by decide)), fun h => f5 (h.resolve_right (by decide)), fun _ => trivial, fun h => f7 (h.resolve_right (by decide)), fun h => f8 (h.resolve_right (by decide)), fun h => f9 (h.resolve_right (by decide)), fun h => f10 (h.resolve_right (by decide))⟩
      refine InvFrom.cons (fun L a W hI hN hD K hK => ?_) ?_
      · obtain ⟨sl5, sl6, sl7, sl8, sl9, sl10, sl11, sl12, sl13, sl14, sl4, ha, hB, f0, f1, f2, f3, f4, f5, f6, f7, f8, f9, f10⟩ := hI
        subst ha
        have hz := hB.size
        have d3 := f3 (hD 3 (by kernel_rfl))
        subst d3
        refine Kept.mk ?_
        simp only [Act.put, List.setIfInBounds_toArray, List.set_cons_zero, List.set_cons_succ]
        go_simp
        refine hK.out _ _ ?_
        exact ⟨sl5, sl6, sl7, (.bool false), sl9, sl10, sl11, undef, sl13, sl14, sl4, by simp only [Act.put, List.setIfInBounds_toArray, List.set_cons_zero, List.set_cons_succ], hB, fun h => f0 (h.resolve_right (by decide)), fun h => f1 (h.resolve_right (by decide)), fun h => f2 (h.resolve_right (by decide)), fun h => f3 (h.resolve_right (by decide)), fun h => f4 (h.resolve_right (by decide)), fun h => f5 (h.resolve_right (by decide)), fun h => f6 (h.resolve_right (by decide)), fun _ => trivial, fun h => f8 (h.resolve_right (by decide)), fun h => f9 (h.resolve_right (by decide)), fun h => f10 (h.resolve_right (by decide))⟩
      refine InvFrom.cons (fun L a W hI hN hD K hK => ?_) ?_
      · obtain ⟨sl5, sl6, sl7, sl8, sl9, sl10, sl11, sl12, sl13, sl14, sl4, ha, hB, f0, f1, f2, f3, f4, f5, f6, f7, f8, f9, f10⟩ := hI
        subst ha
        have hz := hB.size
        have d3 := f3 (hD 3 (by kernel_rfl))
        subst d3
        refine Kept.mk ?_
        simp only [Act.put, List.setIfInBounds_toArray, List.set_cons_zero, List.set_cons_succ]
        go_simp
        refine hK.out _ _ ?_
        exact ⟨sl5, sl6, sl7, (.bool false), sl9, sl10, sl11, sl12, undef, sl14, sl4, by simp only [Act.put, List.setIfInBounds_toArray, List.set_cons_zero, List.set_cons_succ], hB, fun h => f0 (h.resolve_right (by decide)), fun h => f1 (h.resolve_right (by decide)), fun h => f2 (h.resolve_right (by decide)), fun h => f3 (h.resolve_right (by decide)), fun h => f4 (h.resolve_right (by decide)), fun h => f5 (h.resolve_right (by decide)), fun h => f6 (h.resolve_right (by decide)), fun h => f7 (h.resolve_right (by decide)), fun _ => trivial, fun h => f9 (h.resolve_right (by decide)), fun h => f10 (h.resolve_right (by decide))⟩
      refine InvFrom.cons (fun L a W hI hN hD K hK => ?_) ?_
      · obtain ⟨sl5, sl6, sl7, sl8, sl9, sl10, sl11, sl12, sl13, sl14, sl4, ha, hB, f0, f1, f2, f3, f4, f5, f6, f7, f8, f9, f10⟩ := hI
        subst ha
        have hz := hB.size
        have d3 := f3 (hD 3 (by kernel_rfl))
        subst d3
        refine Kept.mk ?_
        simp only [Act.put, List.setIfInBounds_toArray, List.set_cons_zero, List.set_cons_succ]
        go_simp
        refine hK.out _ _ ?_
        exact ⟨sl5, sl6, sl7, (.bool false), sl9, sl10, sl11, sl12, sl13, (.bool false), sl4, by simp only [Act.put, List.setIfInBounds_toArray, List.set_cons_zero, List.set_cons_succ], hB, fun h => f0 (h.resolve_right (by decide)), fun h => f1 (h.resolve_right (by decide)), fun h => f2 (h.resolve_right (by decide)), fun h => f3 (h.resolve_right (by decide)), fun h => f4 (h.resolve_right (by decide)), fun h => f5 (h.resolve_right (by decide)), fun h => f6 (h.resolve_right (by decide)), fun h => f7 (h.resolve_right (by decide)), fun h => f8 (h.resolve_right (by decide)), fun _ => rfl, fun h => f10 (h.resolve_right (by decide))⟩
      refine InvFrom.cons (fun L a W hI hN hD K hK => ?_) ?_
      · obtain ⟨sl5, sl6, sl7, sl8, sl9, sl10, sl11, sl12, sl13, sl14, sl4, ha, hB, f0, f1, f2, f3, f4, f5, f6, f7, f8, f9, f10⟩ := hI
        subst ha
        have hz := hB.size
        have d0 := f0 (hD 0 (by kernel_rfl))
        subst d0
        have d1 := f1 (hD 1 (by kernel_rfl))
        subst d1
        have d2 := f2 (hD 2 (by kernel_rfl))
        subst d2
        have d3 := f3 (hD 3 (by kernel_rfl))
        subst d3
        have d9 := f9 (hD 9 (by kernel_rfl))
        subst d9
        refine Kept.mk ?_
        simp only [Act.put, List.setIfInBounds_toArray, List.set_cons_zero, List.set_cons_succ]
        go_simp
        refine hK.out _ _ ?_
        exact ⟨(.agg #[.slice A0 n0 c0, .int .i64 p.fMus, .slice B2 m2 d2, .slice A3 n3 c3]), (.agg #[.int .i64 g.fProc, .int .i64 g.fPc, .slice A2 n2 c2, .int .i64 g.fState, .slice A4 n4 c4]), (.bool false), (.bool false), sl9, sl10, sl11, sl12, sl13, (.bool false), (.bool false), by simp only [Act.put, List.setIfInBounds_toArray, List.set_cons_zero, List.set_cons_succ], hB, fun h => f0 (h.resolve_right (by decide)), fun h => f1 (h.resolve_right (by decide)), fun h => f2 (h.resolve_right (by decide)), fun h => f3 (h.resolve_right (by decide)), fun h => f4 (h.resolve_right (by decide)), fun h => f5 (h.resolve_right (by decide)), fun h => f6 (h.resolve_right (by decide)), fun h => f7 (h.resolve_right (by decide)), fun h => f8 (h.resolve_right (by decide)), fun h => f9 (h.resolve_right (by decide)), fun _ => rfl⟩
      exact InvFrom.nil
    intro L a w1 hL hI
    obtain ⟨sl5, sl6, sl7, sl8, sl9, sl10, sl11, sl12, sl13, sl14, sl4, ha, hbw1, hI⟩ := hI
    subst ha
    have hfin := hI.2.2.2.2.2.2.2.2.2.2 (hL 10 (by decide))
    subst hfin
    clear hL hI
    refine Kept.mk ?_
    simp only [Act.put, List.setIfInBounds_toArray, List.set_cons_zero, List.set_cons_succ]
    go_wp2_with fail
    go_ret
    exact ⟨rfl, HB0.out.trans (hbw1.mono (by omega))⟩
  · skip
    refine wp_region_inv (fun AC0 L a W => ∃ sl5 sl6 sl7 sl8 sl9 sl10 sl11 sl12 sl13 sl14 sl4 : Value, a = (((((((((((AC0.put (some 5) sl5).put (some 6) sl6).put (some 7) sl7).put (some 8) sl8).put (some 9) sl9).put (some 10) sl10).put (some 11) sl11).put (some 12) sl12).put (some 13) sl13).put (some 14) sl14).put (some 4) sl4) ∧ Below W0.heap.size W0 W ∧ ((L 0 → sl5 = (.agg #[.slice A0 n0 c0, .int .i64 p.fMus, .slice B2 m2 d2, .slice A3 n3 c3])) ∧ (L 1 → sl6 = (.agg #[.int .i64 g.fProc, .int .i64 g.fPc, .slice A2 n2 c2, .int .i64 g.fState, .slice A4 n4 c4])) ∧ (L 2 → sl7 = (.bool true)) ∧ (L 3 → sl8 = (.bool true)) ∧ (L 4 → sl9 = (.agg #[.slice A0 n0 c0, .int .i64 p.fMus, .slice B2 m2 d2, .slice A3 n3 c3])) ∧ (L 5 → sl10 = (.agg #[.slice A0 n0 c0, .int .i64 p.fMus, .slice B2 m2 d2, .slice A3 n3 c3])) ∧ (L 6 → sl11 = (.agg #[.int .i64 g.fProc, .int .i64 g.fPc, .slice A2 n2 c2, .int .i64 g.fState, .slice A4 n4 c4])) ∧ (L 7 → sl12 = (.agg #[.int .i64 ins.fOp, .int .i64 ins.fA, .int .i64 ins.fB, .int .i64 ins.fC])) ∧ (L 8 → sl13 = (.bool b2)) ∧ (L 9 → sl14 = (.bool b2)) ∧ (L 10 → sl4 = (.bool b2)))) (by kernel_rfl) (by kernel_rfl) ?_ ?_ ?_
    · exact ⟨undef, undef, undef, undef, undef, undef, undef, undef, undef, undef, (.bool false), by simp only [Act.put, List.setIfInBounds_toArray, List.set_cons_zero, List.set_cons_succ], Below.drew (Below.refl _ _), fun h => absurd h id, fun h => absurd h id, fun h => absurd h id, fun h => absurd h id, fun h => absurd h id, fun h => absurd h id, fun h => absurd h id, fun h => absurd h id, fun h => absurd h id, fun h => absurd h id, fun h => absurd h id⟩
    · intro Q9; refine InvFrom.cons (fun L a W hI hN hD K hK => ?_) ?_
      · obtain ⟨sl5, sl6, sl7, sl8, sl9, sl10, sl11, sl12, sl13, sl14, sl4, ha, hB, f0, f1, f2, f3, f4, f5, f6, f7, f8, f9, f10⟩ := hI
        subst ha
        have hz := hB.size
        have pp0 := box_cell (j := 0) (box_keep HP0.out hB (by omega)) rfl
        have pp1 := box_cell (j := 1) (box_keep HP0.out hB (by omega)) rfl
        have pp2 := box_cell (j := 2) (box_keep HP0.out hB (by omega)) rfl
        have pp3 := box_cell (j := 3) (box_keep HP0.out hB (by omega)) rfl
        refine Kept.mk ?_
        simp only [Act.put, List.setIfInBounds_toArray, List.set_cons_zero, List.set_cons_succ]
        go_simp
        refine hK.out _ _ ?_
        exact ⟨(.agg #[.slice A0 n0 c0, .int .i64 p.fMus, .slice B2 m2 d2, .slice A3 n3 c3]), sl6, sl7, sl8, sl9, sl10, sl11, sl12, sl13, sl14, sl4, by simp only [Act.put, List.setIfInBounds_toArray, List.set_cons_zero, List.set_cons_succ], hB, fun _ => rfl, fun h => f1 (h.resolve_right (by decide)), fun h => f2 (h.resolve_right (by decide)), fun h => f3 (h.resolve_right (by decide)), fun h => f4 (h.resolve_right (by decide)), fun h => f5 (h.resolve_right (by decide)), fun h => f6 (h.resolve_right (by decide)), fun h => f7 (h.resolve_right (by decide)), fun h => f8 (h.resolve_right (by decide)), fun h => f9 (h.resolve_right (by decide)), fun h => f10 (h.resolve_right (by decide))⟩
      refine InvFrom.cons (fun L a W hI hN hD K hK => ?_) ?_
      · obtain ⟨sl5, sl6, sl7, sl8, sl9, sl10, sl11, sl12, sl13, sl14, sl4, ha, hB, f0, f1, f2, f3, f4, f5, f6, f7, f8, f9, f10⟩ := hI
        subst ha
        have hz := hB.size
        have pg0 := box_cell (j := 0) (box_keep HG0.out hB (by omega)) rfl
        have pg1 := box_cell (j := 1) (box_keep HG0.out hB (by omega)) rfl
        have pg2 := box_cell (j := 2) (box_keep HG0.out hB (by omega)) rfl
        have pg3 := box_cell (j := 3) (box_keep HG0.out hB (by omega)) rfl
        have pg4 := box_cell (j := 4) (box_keep HG0.out hB (by omega)) rfl
        refine Kept.mk ?_
        simp only [Act.put, List.setIfInBounds_toArray, List.set_cons_zero, List.set_cons_succ]
        go_simp
        refine hK.out _ _ ?_
        exact ⟨sl5, (.agg #[.int .i64 g.fProc, .int .i64 g.fPc, .slice A2 n2 c2, .int .i64 g.fState, .slice A4 n4 c4]), sl7, sl8, sl9, sl10, sl11, sl12, sl13, sl14, sl4, by simp only [Act.put, List.setIfInBounds_toArray, List.set_cons_zero, List.set_cons_succ], hB, fun h => f0 (h.resolve_right (by decide)), fun _ => rfl, fun h => f2 (h.resolve_right (by decide)), fun h => f3 (h.resolve_right (by decide)), fun h => f4 (h.resolve_right (by decide)), fun h => f5 (h.resolve_right (by decide)), fun h => f6 (h.resolve_right (by decide)), fun h => f7 (h.resolve_right (by decide)), fun h => f8 (h.resolve_right (by decide)), fun h => f9 (h.resolve_right (by decide)), fun h => f10 (h.resolve_right (by decide))⟩
      refine InvFrom.cons (fun L a W hI hN hD K hK => ?_) ?_
      · obtain ⟨sl5, sl6, sl7, sl8, sl9, sl10, sl11, sl12, sl13, sl14, sl4, ha, hB, f0, f1, f2, f3, f4, f5, f6, f7, f8, f9, f10⟩ := hI
        subst ha
        have hz := hB.size
        have d0 := f0 (hD 0 (by kernel_rfl))
        subst d0
        have d1 := f1 (hD 1 (by kernel_rfl))
        subst d1
        refine kept_c2 rfl 21 _ _ _ rfl (fenters_of' Tryd.func21 (by kernel_rfl) (by kernel_rfl)) (.agg #[.slice A0 n0 c0, .int .i64 p.fMus, .slice B2 m2 d2, .slice A3 n3 c3]) (.agg #[.int .i64 g.fProc, .int .i64 g.fPc, .slice A2 n2 c2, .int .i64 g.fState, .slice A4 n4 c4]) (by kernel_rfl) (by kernel_rfl) (HG.out W (HB0.out.trans (hB.mono (by omega)))) ?_
        rintro e W1 ⟨rfl, hb1⟩
        refine ⟨_, rfl, hK.out _ _ ?_⟩
        exact ⟨(.agg #[.slice A0 n0 c0, .int .i64 p.fMus, .slice B2 m2 d2, .slice A3 n3 c3]), (.agg #[.int .i64 g.fProc, .int .i64 g.fPc, .slice A2 n2 c2, .int .i64 g.fState, .slice A4 n4 c4]), (.bool true), sl8, sl9, sl10, sl11, sl12, sl13, sl14, sl4, by simp only [Act.put, List.setIfInBounds_toArray, List.set_cons_zero, List.set_cons_succ], hB.trans ((hb1.mono (Nat.le_refl _)).mono hz), fun h => f0 (h.resolve_right (by decide)), fun h => f1 (h.resolve_right (by decide)), fun _ => rfl, fun h => f3 (h.resolve_right (by decide)), fun h => f4 (h.resolve_right (by decide)), fun h => f5 (h.resolve_right (by decide)), fun h => f6 (h.resolve_right (by decide)), fun h => f7 (h.resolve_right (by decide)), fun h => f8 (h.resolve_right (by decide)), fun h => f9 (h.resolve_right (by decide)), fun h => f10 (h.resolve_right (by decide))⟩
      refine InvFrom.cons (fun L a W hI hN hD K hK => ?_) ?_
      · obtain ⟨sl5, sl6, sl7, sl8, sl9, sl10, sl11, sl12, sl13, sl14, sl4, ha, hB, f0, f1, f2, f3, f4, f5, f6, f7, f8, f9, f10⟩ := hI
        subst ha
        have hz := hB.size
        have d2 := f2 (hD 2 (by kernel_rfl))
        subst d2
        refine Kept.mk ?_
        simp only [Act.put, List.setIfInBounds_toArray, List.set_cons_zero, List.set_cons_succ]
        go_simp
        refine hK.out _ _ ?_
        exact ⟨sl5, sl6, (.bool true), (.bool true), sl9, sl10, sl11, sl12, sl13, sl14, sl4, by simp only [Act.put, List.setIfInBounds_toArray, List.set_cons_zero, List.set_cons_succ], hB, fun h => f0 (h.resolve_right (by decide)), fun h => f1 (h.resolve_right (by decide)), fun h => f2 (h.resolve_right (by decide)), fun _ => rfl, fun h => f4 (h.resolve_right (by decide)), fun h => f5 (h.resolve_right (by decide)), fun h => f6 (h.resolve_right (by decide)), fun h => f7 (h.resolve_right (by decide)), fun h => f8 (h.resolve_right (by decide)), fun h => f9 (h.resolve_right (by decide)), fun h => f10 (h.resolve_right (by decide))⟩
      refine InvFrom.cons (fun L a W hI hN hD K hK => ?_) ?_
      · obtain ⟨sl5, sl6, sl7, sl8, sl9, sl10, sl11, sl12, sl13, sl14, sl4, ha, hB, f0, f1, f2, f3, f4, f5, f6, f7, f8, f9, f10⟩ := hI
        subst ha
        have hz := hB.size
        have d3 := f3 (hD 3 (by kernel_rfl))
        subst d3
        have pp0 := box_cell (j := 0) (box_keep HP0.out hB (by omega)) rfl
        have pp1 := box_cell (j := 1) (box_keep HP0.out hB (by omega)) rfl
        have pp2 := box_cell (j := 2) (box_keep HP0.out hB (by omega)) rfl
        have pp3 := box_cell (j := 3) (box_keep HP0.out hB (by omega)) rfl
        refine Kept.mk ?_
        simp only [Act.put, List.setIfInBounds_toArray, List.set_cons_zero, List.set_cons_succ]
        go_simp
        refine hK.out _ _ ?_
        exact ⟨sl5, sl6, sl7, (.bool true), (.agg #[.slice A0 n0 c0, .int .i64 p.fMus, .slice B2 m2 d2, .slice A3 n3 c3]), sl10, sl11, sl12, sl13, sl14, sl4, by simp only [Act.put, List.setIfInBounds_toArray, List.set_cons_zero, List.set_cons_succ], hB, fun h => f0 (h.resolve_right (by decide)), fun h => f1 (h.resolve_right (by decide)), fun h => f2 (h.resolve_right (by decide)), fun h => f3 (h.resolve_right (by decide)), fun _ => rfl, fun h => f5 (h.resolve_right (by decide)), fun h => f6 (h.resolve_right (by decide)), fun h => f7 (h.resolve_right (by decide)), fun h => f8 (h.resolve_right (by decide)), fun h => f9 (h.resolve_right (by decide)), fun h => f10 (h.resolve_right (by decide))⟩
      refine InvFrom.cons (fun L a W hI hN hD K hK => ?_) ?_
      · obtain ⟨sl5, sl6, sl7, sl8, sl9, sl10, sl11, sl12, sl13, sl14, sl4, ha, hB, f0, f1, f2, f3, f4, f5, f6, f7, f8, f9, f10⟩ := hI
        subst ha
        have hz := hB.size
        have d3 := f3 (hD 3 (by kernel_rfl))
        subst d3
        have pp0 := box_cell (j := 0) (box_keep HP0.out hB (by omega)) rfl
        have pp1 := box_cell (j := 1) (box_keep HP0.out hB (by omega)) rfl
        have pp2 := box_cell (j := 2) (box_keep HP0.out hB (by omega)) rfl
        have pp3 := box_cell (j := 3) (box_keep HP0.out hB (by omega)) rfl
        refine Kept.mk ?_
        simp only [Act.put, List.setIfInBounds_toArray, List.set_cons_zero, List.set_cons_succ]
        go_simp
        refine hK.out _ _ ?_
        exact ⟨sl5, sl6, sl7, (.bool true), sl9, (.agg #[.slice A0 n0 c0, .int .i64 p.fMus, .slice B2 m2 d2, .slice A3 n3 c3]), sl11, sl12, sl13, sl14, sl4, by simp only [Act.put, List.setIfInBounds_toArray, List.set_cons_zero, List.set_cons_succ], hB, fun h => f0 (h.resolve_right (by decide)), fun h => f1 (h.resolve_right (by decide)), fun h => f2 (h.resolve_right (by decide)), fun h => f3 (h.resolve_right (by decide)), fun h => f4 (h.resolve_right (by decide)), fun _ => rfl, fun h => f6 (h.resolve_right (by decide)), fun h => f7 (h.resolve_right (by decide)), fun h => f8 (h.resolve_right (by decide)), fun h => f9 (h.resolve_right (by decide)), fun h => f10 (h.resolve_right (by decide))⟩
      refine InvFrom.cons (fun L a W hI hN hD K hK => ?_) ?_
      · obtain ⟨sl5, sl6, sl7, sl8, sl9, sl10, sl11, sl12, sl13, sl14, sl4, ha, hB, f0, f1, f2, f3, f4, f5, f6, f7, f8, f9, f10⟩ := hI
        subst ha
        have hz := hB.size
        have d3 := f3 (hD 3 (by kernel_rfl))
        subst d3
        have pg0 := box_cell (j := 0) (box_keep HG0.out hB (by omega)) rfl
        have pg1 := box_cell (j := 1) (box_keep HG0.out hB (by omega)) rfl
        have pg2 := box_cell (j := 2) (box_keep HG0.out hB (by omega)) rfl
        have pg3 := box_cell (j := 3) (box_keep HG0.out hB (by omega)) rfl
        have pg4 := box_cell (j := 4) (box_keep HG0.out hB (by omega)) rfl
        refine Kept.mk ?_
        simp only [Act.put, List.setIfInBounds_toArray, List.set_cons_zero, List.set_cons_succ]
        go_simp
        refine hK.out _ _ ?_
        exact ⟨sl5, sl6, sl7, (.bool true), sl9, sl10, (.agg #[.int .i64 g.fProc, .int .i64 g.fPc, .slice A2 n2 c2, .int .i64 g.fState, .slice A4 n4 c4]), sl12, sl13, sl14, sl4, by simp only [Act.put, List.setIfInBounds_toArray, List.set_cons_zero, List.set_cons_succ], hB, fun h => f0 (h.resolve_right (by decide)), fun h => f1 (h.resolve_right (by decide)), fun h => f2 (h.resolve_right (by decide)), fun h => f3 (h.resolve_right (by decide)), fun h => f4 (h.resolve_right (by decide)), fun h => f5 (h.resolve_right (by decide)), fun _ => rfl, fun h => f7 (h.resolve_right (by decide)), fun h => f8 (h.resolve_right (by decide)), fun h => f9 (h.resolve_right (by decide)), fun h => f10 (h.resolve_right (by decide))⟩
      refine InvFrom.cons (fun L a W hI hN hD K hK => ?_) ?_
      · obtain ⟨sl5, sl6, sl7, sl8, sl9, sl10, sl11, sl12, sl13, sl14, sl4, ha, hB, f0, f1, f2, f3, f4, f5, f6, f7, f8, f9, f10⟩ := hI
        subst ha
        have hz := hB.size
        have d3 := f3 (hD 3 (by kernel_rfl))
        subst d3
        have d5 := f5 (hD 5 (by kernel_rfl))
        subst d5
        have d6 := f6 (hD 6 (by kernel_rfl))
        subst d6
        refine kept_w2 (by kernel_rfl) 82 _ _ _ rfl (fenters_of' Tryd.func82 (by kernel_rfl) (by kernel_rfl)) (.agg #[.slice A0 n0 c0, .int .i64 p.fMus, .slice B2 m2 d2, .slice A3 n3 c3]) (.agg #[.int .i64 g.fProc, .int .i64 g.fPc, .slice A2 n2 c2, .int .i64 g.fState, .slice A4 n4 c4]) (by kernel_rfl) (by kernel_rfl) (HI.out rfl W (HB0.out.trans (hB.mono (by omega)))) ?_
        rintro e W1 ⟨rfl, hb1⟩
        refine ⟨_, rfl, hK.out _ _ ?_⟩
        exact ⟨sl5, sl6, sl7, (.bool true), sl9, (.agg #[.slice A0 n0 c0, .int .i64 p.fMus, .slice B2 m2 d2, .slice A3 n3 c3]), (.agg #[.int .i64 g.fProc, .int .i64 g.fPc, .slice A2 n2 c2, .int .i64 g.fState, .slice A4 n4 c4]), (.agg #[.int .i64 ins.fOp, .int .i64 ins.fA, .int .i64 ins.fB, .int .i64 ins.fC]), sl13, sl14, sl4, by simp only [Act.put, List.setIfInBounds_toArray, List.set_cons_zero, List.set_cons_succ], hB.trans ((hb1.mono (Nat.le_refl _)).mono hz), fun h => f0 (h.resolve_right (by decide)), fun h => f1 (h.resolve_right (by decide)), fun h => f2 (h.resolve_right (by decide)), fun h => f3 (h.resolve_right (by decide)), fun h => f4 (h.resolve_right (by decide)), fun h => f5 (h.resolve_right (by decide)), fun h => f6 (h.resolve_right (by decide)), fun _ => rfl, fun h => f8 (h.resolve_right (by decide)), fun h => f9 (h.resolve_right (by decide)), fun h => f10 (h.resolve_right (by decide))⟩
      refine InvFrom.cons (fun L a W hI hN hD K hK => ?_) ?_
      · obtain ⟨sl5, sl6, sl7, sl8, sl9, sl10, sl11, sl12, sl13, sl14, sl4, ha, hB, f0, f1, f2, f3, f4, f5, f6, f7, f8, f9, f10⟩ := hI
        subst ha
        have hz := hB.size
        have d3 := f3 (hD 3 (by kernel_rfl))
        subst d3
        have d4 := f4 (hD 4 (by kernel_rfl))
        subst d4
        have d7 := f7 (hD 7 (by kernel_rfl))
        subst d7
        refine kept_w2 (by kernel_rfl) 81 _ _ _ rfl (fenters_of' Tryd.func81 (by kernel_rfl) (by kernel_rfl)) (.agg #[.slice A0 n0 c0, .int .i64 p.fMus, .slice B2 m2 d2, .slice A3 n3 c3]) (.agg #[.int .i64 ins.fOp, .int .i64 ins.fA, .int .i64 ins.fB, .int .i64 ins.fC]) (by kernel_rfl) (by kernel_rfl) (HM.out rfl W (HB0.out.trans (hB.mono (by omega)))) ?_
        rintro e W1 ⟨rfl, hb1⟩
        refine ⟨_, rfl, hK.out _ _ ?_⟩
        exact ⟨sl5, sl6, sl7, (.bool true), (.agg #[.slice A0 n0 c0, .int .i64 p.fMus, .slice B2 m2 d2, .slice A3 n3 c3]), sl10, sl11, (.agg #[.int .i64 ins.fOp, .int .i64 ins.fA, .int .i64 ins.fB, .int .i64 ins.fC]), (.bool b2), sl14, sl4, by simp only [Act.put, List.setIfInBounds_toArray, List.set_cons_zero, List.set_cons_succ], hB.trans ((hb1.mono (Nat.le_refl _)).mono hz), fun h => f0 (h.resolve_right (by decide)), fun h => f1 (h.resolve_right (by decide)), fun h => f2 (h.resolve_right (by decide)), fun h => f3 (h.resolve_right (by decide)), fun h => f4 (h.resolve_right (by decide)), fun h => f5 (h.resolve_right (by decide)), fun h => f6 (h.resolve_right (by decide)), fun h => f7 (h.resolve_right (by decide)), fun _ => rfl, fun h => f9 (h.resolve_right (by decide)), fun h => f10 (h.resolve_right (by decide))⟩
      refine InvFrom.cons (fun L a W hI hN hD K hK => ?_) ?_
      · obtain ⟨sl5, sl6, sl7, sl8, sl9, sl10, sl11, sl12, sl13, sl14, sl4, ha, hB, f0, f1, f2, f3, f4, f5, f6, f7, f8, f9, f10⟩ := hI
        subst ha
        have hz := hB.size
        have d3 := f3 (hD 3 (by kernel_rfl))
        subst d3
        have d8 := f8 (hD 8 (by kernel_rfl))
        subst d8
        refine Kept.mk ?_
        simp only [Act.put, List.setIfInBounds_toArray, List.set_cons_zero, List.set_cons_succ]
        go_simp
        refine hK.out _ _ ?_
        exact ⟨sl5, sl6, sl7, (.bool true), sl9, sl10, sl11, sl12, (.bool b2), (.bool b2), sl4, by simp only [Act.put, List.setIfInBounds_toArray, List.set_cons_zero, List.set_cons_succ], hB, fun h => f0 (h.resolve_right (by decide)), fun h => f1 (h.resolve_right (by decide)), fun h => f2 (h.resolve_right (by decide)), fun h => f3 (h.resolve_right (by decide)), fun h => f4 (h.resolve_right (by decide)), fun h => f5 (h.resolve_right (by decide)), fun h => f6 (h.resolve_right (by decide)), fun h => f7 (h.resolve_right (by decide)), fun h => f8 (h.resolve_right (by decide)), fun _ => rfl, fun h => f10 (h.resolve_right (by decide))⟩
      refine InvFrom.cons (fun L a W hI hN hD K hK => ?_) ?_
      · obtain ⟨sl5, sl6, sl7, sl8, sl9, sl10, sl11, sl12, sl13, sl14, sl4, ha, hB, f0, f1, f2, f3, f4, f5, f6, f7, f8, f9, f10⟩ := hI
        subst ha
        have hz := hB.size
        have d0 := f0 (hD 0 (by kernel_rfl))
        subst d0
        have d1 := f1 (hD 1 (by kernel_rfl))
        subst d1
        have d2 := f2 (hD 2 (by kernel_rfl))
        subst d2
        have d3 := f3 (hD 3 (by kernel_rfl))
        subst d3
        have d4 := f4 (hD 4 (by kernel_rfl))
        subst d4
        have d5 := f5 (hD 5 (by kernel_rfl))
        subst d5
        have d6 := f6 (hD 6 (by kernel_rfl))
        subst d6
        have d7 := f7 (hD 7 (by kernel_rfl))
        subst d7
        have d8 := f8 (hD 8 (by kernel_rfl))
        subst d8
        have d9 := f9 (hD 9 (by kernel_rfl))
        subst d9
        refine Kept.mk ?_
        simp only [Act.put, List.setIfInBounds_toArray, List.set_cons_zero, List.set_cons_succ]
        go_simp
        refine hK.out _ _ ?_
        exact ⟨(.agg #[.slice A0 n0 c0, .int .i64 p.fMus, .slice B2 m2 d2, .slice A3 n3 c3]), (.agg #[.int .i64 g.fProc, .int .i64 g.fPc, .slice A2 n2 c2, .int .i64 g.fState, .slice A4 n4 c4]), (.bool true), (.bool true), (.agg #[.slice A0 n0 c0, .int .i64 p.fMus, .slice B2 m2 d2, .slice A3 n3 c3]), (.agg #[.slice A0 n0 c0, .int .i64 p.fMus, .slice B2 m2 d2, .slice A3 n3 c3]), (.agg #[.int .i64 g.fProc, .int .i64 g.fPc, .slice A2 n2 c2, .int .i64 g.fState, .slice A4 n4 c4]), (.agg #[.int .i64 ins.fOp, .int .i64 ins.fA, .int .i64 ins.fB, .int .i64 ins.fC]), (.bool b2), (.bool b2), (.bool b2), by simp only [Act.put, List.setIfInBounds_toArray, List.set_cons_zero, List.set_cons_succ], hB, fun h => f0 (h.resolve_right (by decide)), fun h => f1 (h.resolve_right (by decide)), fun h => f2 (h.resolve_right (by decide)), fun h => f3 (h.resolve_right (by decide)), fun h => f4 (h.resolve_right (by decide)), fun h => f5 (h.resolve_right (by decide)), fun h => f6 (h.resolve_right (by decide)), fun h => f7 (h.resolve_right (by decide)), fun h => f8 (h.resolve_right (by decide)), fun h => f9 (h.resolve_right (by decide)), fun _ => rfl⟩
      exact InvFrom.nil
    intro L a w1 hL hI
    obtain ⟨sl5, sl6, sl7, sl8, sl9, sl10, sl11, sl12, sl13, sl14, sl4, ha, hbw1, hI⟩ := hI
    subst ha
    have hfin := hI.2.2.2.2.2.2.2.2.2.2 (hL 10 (by decide))
    subst hfin
    clear hL hI
    refine Kept.mk ?_
    simp only [Act.put, List.setIfInBounds_toArray, List.set_cons_zero, List.set_cons_succ]
    go_wp2_with fail
    go_ret
    exact ⟨by simp, HB0.out.trans (hbw1.mono (by omega))⟩
end Go.Proofs.YtgfkadhojlddpaaDoor
