
/- gorFits, GorOk: the program's. Laid by wip/gen9/gorfits.py. -/

import Derived.Test.YtghkdkagnibkgaaGreatDoorGTrace

import Derived.Test.YtghkdkagnibkgaaGreatDoorInstrs

import Derived.Test.YtghkdkagnibkgaaGreatDoorOkProgI

import Derived.Test.YtghkdkagnibkgaaGreatDoorChanOkI

import Derived.Test.YtghkdkagnibkgaaGreatDoorGInv

import Derived.Deep.Cut

namespace Go.Proofs.YtghkdkagnibkgaaGreatDoor
set_option linter.unusedSimpArgs false
set_option linter.unusedVariables false
open Go.RowKit

set_option maxRecDepth 100000 in
set_option maxHeartbeats 8000000 in
theorem gorFits_any {w : World} {hi : Nat} {p : DProg} {g : DGor} {vs us : List Value} (hp : layProg.see w hi p vs) (hg : layGor.see w hi g us) (hhi : hi ≤ w.heap.size) (hIC : ItemCells w) (hnp : szProg p ≤ 1048576) (hng : szGor g ≤ 1048576) :
    Calls Tryz.prog 129 #[.agg vs.toArray, .agg us.toArray] w fun e w' => e = .returned (.bool (gorB (instrsZ p g.fProc) g)) ∧ Below w.heap.size w w' := by
  obtain ⟨A0, n0, c0, B2, m2, d2, A3, n3, c3, rfl, -⟩ := seeProg hp
  obtain ⟨A2, n2, c2, A4, n4, c4, rfl, -, -, ⟨hc2, hm2, s2⟩, -, ⟨hc4, hm4, s4⟩⟩ := seeGor hg
  obtain ⟨pr, pc, regs, st, tr⟩ := g
  have hn2 : n2 ≤ 1048576 := by have := s2.1; unfold szGor at hng; simp at hng this; omega
  have hn4 : n4 ≤ 1048576 := by have := s4.1; unfold szGor at hng; simp at hng this; omega
  simp only at s2 s4 ⊢
  have HI := Lib.hid (fun (W : World) (hW : Below w.heap.size w W) => implInstrs_any (q := pr) (layProg.keep hp fun k hk => hW.block k (by omega)) (Nat.le_trans hhi hW.size) hnp)
  have HL := Lib.hid s2.1
  have HA := Lib.hid (fun (W : World) (hW : Below w.heap.size w W) => allV_any (c := c2) enters_val (cap := #[]) (s2.below hW hhi) (Nat.le_trans hhi hW.size) (Nat.le_trans hn2 (by decide)) (fun W' d hB => hpVal W W' d hB))
  have HT := Lib.hid (fun (W : World) (hW : Below w.heap.size w W) (en : Int) => traceOk_any (c := c4) (en := en) (s4.below hW hhi) (Nat.le_trans hhi hW.size) hn4 (itemCells_below hIC hW (Nat.le_refl _)))
  clear hp hg hnp hng hIC s2 s4
  have hB0 : Below w.heap.size w ((w.alloc (.cells #[.slice A0 n0 c0, .int .i64 p.fMus, .slice B2 m2 d2, .slice A3 n3 c3] 38)).alloc (.cells #[.int .i64 pr, .int .i64 pc, .slice A2 n2 c2, .int .i64 st, .slice A4 n4 c4] 65)) := ((Below.refl _ _).alloc (Nat.le_refl _) _).alloc (by simp) _
  have hP0 := box_keep (box_new w #[.slice A0 n0 c0, .int .i64 p.fMus, .slice B2 m2 d2, .slice A3 n3 c3] 38) ((Below.refl _ _).alloc (Nat.le_refl _) (.cells #[.int .i64 pr, .int .i64 pc, .slice A2 n2 c2, .int .i64 st, .slice A4 n4 c4] 65)) (by simp)
  have hG0 := box_new (w.alloc (.cells #[.slice A0 n0 c0, .int .i64 p.fMus, .slice B2 m2 d2, .slice A3 n3 c3] 38)) #[.int .i64 pr, .int .i64 pc, .slice A2 n2 c2, .int .i64 st, .slice A4 n4 c4] 65
  rw [World.size_alloc] at hG0
  have hz0 : w.heap.size + 2 ≤ ((w.alloc (.cells #[.slice A0 n0 c0, .int .i64 p.fMus, .slice B2 m2 d2, .slice A3 n3 c3] 38)).alloc (.cells #[.int .i64 pr, .int .i64 pc, .slice A2 n2 c2, .int .i64 st, .slice A4 n4 c4] 65)).heap.size := by simp
  obtain ⟨R, hR⟩ : ∃ R, R = (gorB (instrsZ p pr) ⟨pr, pc, regs, st, tr⟩) := ⟨_, rfl⟩
  rw [← hR]
  unfold gorB at hR
  simp only at hR
  have HR := Lib.hid hR
  clear hR
  go_enter Tryz.func129, Tryz.ntmps129
  go_upto_region 1 with (fail)
  generalize ((w.alloc (.cells #[.slice A0 n0 c0, .int .i64 p.fMus, .slice B2 m2 d2, .slice A3 n3 c3] 38)).alloc (.cells #[.int .i64 pr, .int .i64 pc, .slice A2 n2 c2, .int .i64 st, .slice A4 n4 c4] 65)) = W0 at *
  have HP0 := Lib.hid hP0
  have HG0 := Lib.hid hG0
  have HB0 := Lib.hid hB0
  clear hP0 hG0 hB0
  generalize hN : instrsZ p pr = N at *
  refine wp_region_inv (fun AC0 L a W => ∃ sl5 sl6 sl7 sl8 sl9 sl10 sl11 sl12 : Value, a = ((((((((AC0.put (some 5) sl5).put (some 6) sl6).put (some 7) sl7).put (some 8) sl8).put (some 9) sl9).put (some 10) sl10).put (some 11) sl11).put (some 12) sl12) ∧ Below W0.heap.size W0 W ∧ ((L 0 → sl5 = (.pointer (some ⟨w.heap.size + 1, 1, none⟩))) ∧ (L 1 → sl6 = (.int .i64 pc)) ∧ (L 2 → sl7 = (.agg #[.slice A0 n0 c0, .int .i64 p.fMus, .slice B2 m2 d2, .slice A3 n3 c3])) ∧ (L 3 → sl8 = (.pointer (some ⟨w.heap.size + 1, 0, none⟩))) ∧ (L 4 → sl9 = (.int .i64 pr)) ∧ (L 5 → sl10 = (.int .i64 N)) ∧ (L 6 → sl11 = (.bool (inB pc 0 (N - 1)))) ∧ (L 7 → sl12 = (.bool (!inB pc 0 (N - 1)))))) (by kernel_rfl) (by kernel_rfl) ?_ ?_ ?_
  · exact ⟨undef, undef, undef, undef, undef, undef, undef, undef, by kernel_rfl, Below.drew (Below.refl _ _), fun h => absurd h id, fun h => absurd h id, fun h => absurd h id, fun h => absurd h id, fun h => absurd h id, fun h => absurd h id, fun h => absurd h id, fun h => absurd h id⟩
  · intro Q9; refine InvFrom.cons (fun L a W hI hN hD K hK => ?_) ?_
    · obtain ⟨sl5, sl6, sl7, sl8, sl9, sl10, sl11, sl12, ha, hB, f0, f1, f2, f3, f4, f5, f6, f7⟩ := hI
      subst ha
      have hz := hB.size
      refine Kept.mk ?_
      simp only [Act.put, pA, pZ, pS]
      go_simp
      refine hK.out _ _ ?_
      exact ⟨(.pointer (some ⟨w.heap.size + 1, 1, none⟩)), sl6, sl7, sl8, sl9, sl10, sl11, sl12, by kernel_rfl, hB, fun _ => rfl, nf f1, nf f2, nf f3, nf f4, nf f5, nf f6, nf f7⟩
    refine InvFrom.cons (fun L a W hI hN hD K hK => ?_) ?_
    · obtain ⟨sl5, sl6, sl7, sl8, sl9, sl10, sl11, sl12, ha, hB, f0, f1, f2, f3, f4, f5, f6, f7⟩ := hI
      subst ha
      have hz := hB.size
      have d0 := f0 (hD 0 (by kernel_rfl))
      subst d0
      have pg := box_cell (j := 1) (box_keep (HG0.out) hB (by omega)) rfl
      refine Kept.mk ?_
      simp only [Act.put, pA, pZ, pS]
      go_simp
      refine hK.out _ _ ?_
      exact ⟨(.pointer (some ⟨w.heap.size + 1, 1, none⟩)), (.int .i64 pc), sl7, sl8, sl9, sl10, sl11, sl12, by kernel_rfl, hB, nf f0, fun _ => rfl, nf f2, nf f3, nf f4, nf f5, nf f6, nf f7⟩
    refine InvFrom.cons (fun L a W hI hN hD K hK => ?_) ?_
    · obtain ⟨sl5, sl6, sl7, sl8, sl9, sl10, sl11, sl12, ha, hB, f0, f1, f2, f3, f4, f5, f6, f7⟩ := hI
      subst ha
      have hz := hB.size
      have pp0 := box_cell (j := 0) (box_keep (HP0.out) hB (by omega)) rfl
      have pp1 := box_cell (j := 1) (box_keep (HP0.out) hB (by omega)) rfl
      have pp2 := box_cell (j := 2) (box_keep (HP0.out) hB (by omega)) rfl
      have pp3 := box_cell (j := 3) (box_keep (HP0.out) hB (by omega)) rfl
      refine Kept.mk ?_
      simp only [Act.put, pA, pZ, pS]
      go_simp
      refine hK.out _ _ ?_
      exact ⟨sl5, sl6, (.agg #[.slice A0 n0 c0, .int .i64 p.fMus, .slice B2 m2 d2, .slice A3 n3 c3]), sl8, sl9, sl10, sl11, sl12, by kernel_rfl, hB, nf f0, nf f1, fun _ => rfl, nf f3, nf f4, nf f5, nf f6, nf f7⟩
    refine InvFrom.cons (fun L a W hI hN hD K hK => ?_) ?_
    · obtain ⟨sl5, sl6, sl7, sl8, sl9, sl10, sl11, sl12, ha, hB, f0, f1, f2, f3, f4, f5, f6, f7⟩ := hI
      subst ha
      have hz := hB.size
      refine Kept.mk ?_
      simp only [Act.put, pA, pZ, pS]
      go_simp
      refine hK.out _ _ ?_
      exact ⟨sl5, sl6, sl7, (.pointer (some ⟨w.heap.size + 1, 0, none⟩)), sl9, sl10, sl11, sl12, by kernel_rfl, hB, nf f0, nf f1, nf f2, fun _ => rfl, nf f4, nf f5, nf f6, nf f7⟩
    refine InvFrom.cons (fun L a W hI hN hD K hK => ?_) ?_
    · obtain ⟨sl5, sl6, sl7, sl8, sl9, sl10, sl11, sl12, ha, hB, f0, f1, f2, f3, f4, f5, f6, f7⟩ := hI
      subst ha
      have hz := hB.size
      have d3 := f3 (hD 3 (by kernel_rfl))
      subst d3
      have pg := box_cell (j := 0) (box_keep (HG0.out) hB (by omega)) rfl
      refine Kept.mk ?_
      simp only [Act.put, pA, pZ, pS]
      go_simp
      refine hK.out _ _ ?_
      exact ⟨sl5, sl6, sl7, (.pointer (some ⟨w.heap.size + 1, 0, none⟩)), (.int .i64 pr), sl10, sl11, sl12, by kernel_rfl, hB, nf f0, nf f1, nf f2, nf f3, fun _ => rfl, nf f5, nf f6, nf f7⟩
    refine InvFrom.cons (fun L a W hI hN hD K hK => ?_) ?_
    · obtain ⟨sl5, sl6, sl7, sl8, sl9, sl10, sl11, sl12, ha, hB, f0, f1, f2, f3, f4, f5, f6, f7⟩ := hI
      subst ha
      have hz := hB.size
      have d2 := f2 (hD 2 (by kernel_rfl))
      subst d2
      have d4 := f4 (hD 4 (by kernel_rfl))
      subst d4
      refine kept_c2 rfl 153 _ _ _ rfl (fenters_of' Tryz.func153 (by kernel_rfl) (by kernel_rfl)) (.agg #[.slice A0 n0 c0, .int .i64 p.fMus, .slice B2 m2 d2, .slice A3 n3 c3]) (.int .i64 pr) (by kernel_rfl) (by kernel_rfl) (HI.out W (HB0.out.trans (hB.mono (by omega)))) ?_
      rintro e W1 ⟨rfl, hb1⟩
      refine ⟨_, rfl, hK.out _ _ ?_⟩
      exact ⟨sl5, sl6, (.agg #[.slice A0 n0 c0, .int .i64 p.fMus, .slice B2 m2 d2, .slice A3 n3 c3]), sl8, (.int .i64 pr), (.int .i64 N), sl11, sl12, by kernel_rfl, hB.trans ((hb1.mono (Nat.le_refl _)).mono hz), nf f0, nf f1, nf f2, nf f3, nf f4, fun _ => rfl, nf f6, nf f7⟩
    refine InvFrom.cons (fun L a W hI hN hD K hK => ?_) ?_
    · obtain ⟨sl5, sl6, sl7, sl8, sl9, sl10, sl11, sl12, ha, hB, f0, f1, f2, f3, f4, f5, f6, f7⟩ := hI
      subst ha
      have hz := hB.size
      have d1 := f1 (hD 1 (by kernel_rfl))
      subst d1
      have d5 := f5 (hD 5 (by kernel_rfl))
      subst d5
      refine kept_c2 rfl 65 _ _ _ rfl (fenters_of' Tryz.func65 (by kernel_rfl) (by kernel_rfl)) (.int .i64 pc) (.int .i64 N) (by kernel_rfl) (by kernel_rfl) (isPlaceIn_any pc N W) ?_
      rintro e W1 ⟨rfl, rfl⟩
      refine ⟨_, rfl, hK.out _ _ ?_⟩
      exact ⟨sl5, (.int .i64 pc), sl7, sl8, sl9, (.int .i64 N), (.bool (inB pc 0 (N - 1))), sl12, by kernel_rfl, hB.trans ((Below.refl _ _).mono hz), nf f0, nf f1, nf f2, nf f3, nf f4, nf f5, fun _ => rfl, nf f7⟩
    refine InvFrom.cons (fun L a W hI hN hD K hK => ?_) ?_
    · obtain ⟨sl5, sl6, sl7, sl8, sl9, sl10, sl11, sl12, ha, hB, f0, f1, f2, f3, f4, f5, f6, f7⟩ := hI
      subst ha
      have hz := hB.size
      have d6 := f6 (hD 6 (by kernel_rfl))
      subst d6
      refine Kept.mk ?_
      simp only [Act.put, pA, pZ, pS]
      go_simp
      refine hK.out _ _ ?_
      exact ⟨sl5, sl6, sl7, sl8, sl9, sl10, (.bool (inB pc 0 (N - 1))), (.bool (!inB pc 0 (N - 1))), by kernel_rfl, hB, nf f0, nf f1, nf f2, nf f3, nf f4, nf f5, nf f6, fun _ => rfl⟩
    exact InvFrom.nil
  intro L a w1 hL hI
  obtain ⟨sl5, sl6, sl7, sl8, sl9, sl10, sl11, sl12, ha, hbw1, hI⟩ := hI
  subst ha
  have hfin := hI.2.2.2.2.2.2.2 (hL 7 (by decide))
  subst hfin
  clear hL hI
  refine Kept.mk ?_
  simp only [Act.put, pA, pZ, pS]
  have hz1 := hbw1.size
  have HB1 := Lib.hid (HB0.out.trans (hbw1.mono (by omega)))
  have hG1 := box_keep HG0.out hbw1 (by omega)
  have HG1 := Lib.hid hG1
  clear hbw1 hG1 HI HP0
  cases q1 : inB pc 0 (N - 1)
  · have q2 : ¬ (0 ≤ pc ∧ pc ≤ N - 1) := by unfold inB at q1; exact of_decide_eq_false q1
    go_wp2_with fail
    go_ret
    exact ⟨by rw [HR.out, show decide (0 ≤ pc ∧ pc < N) = false from decide_eq_false (by omega)]; rfl, HB1.out⟩
  have q2 : 0 ≤ pc ∧ pc ≤ N - 1 := by unfold inB at q1; exact of_decide_eq_true q1
  replace HR := Lib.hid (HR.out.trans (by rw [show decide (0 ≤ pc ∧ pc < N) = true from decide_eq_true (by omega)]))
  clear q1 q2
  have g2 := box_cell (j := 2) HG1.out rfl
  by_cases q3 : n2 = 6
  · have b6 : ((n2 : Int) != 6) = false := by have : (n2 : Int) = 6 := by omega
                                              simp [this]
    replace HR := Lib.hid (HR.out.trans (by rw [HL.out, q3]))
    clear q3
    go_wp2_with fail
    refine (HA.out _ HB1.out).mono ?_
    rintro e w2 ⟨rfl, hb2⟩
    have hz2 := hb2.size
    have HB2 := Lib.hid (HB1.out.trans (hb2.mono HB1.out.size))
    have HG2 := Lib.hid (box_keep HG1.out hb2 (by omega))
    clear hb2 g2 HG1 HA
    cases q4 : regs.all okV
    · go_wp2_with fail
      go_ret
      exact ⟨by rw [HR.out, q4]; simp, HB2.out⟩
    replace HR := Lib.hid (HR.out.trans (by rw [q4]))
    clear q4
    go_upto_region 5 with (fail)
    by_cases q5 : 1 ≤ st ∧ st ≤ 4
    · have hST := fun W => (isState_any st W)
      simp only [show decide (1 ≤ st ∧ st ≤ 4) = true from decide_eq_true q5] at hST
      replace HR := Lib.hid (HR.out.trans (by rw [show decide (1 ≤ st ∧ st ≤ 4) = true from decide_eq_true q5, ← tr_same q5]))
      have hEK : ∃ EK, EK = endK st := ⟨_, rfl⟩
      obtain ⟨EK, hEK⟩ := hEK
      have hTR : ∃ TR, TR = trRes (trGo 0 tr) EK := ⟨_, rfl⟩
      obtain ⟨TR, hTR⟩ := hTR
      have HT := Lib.hid (fun (W : World) (hW : Below w.heap.size w W) => show Calls Tryz.prog 157 #[.slice A4 n4 c4, .int .i64 EK] W fun e w' => e = .returned (.bool TR) ∧ Below W.heap.size W w' by rw [hTR]; exact HT.out W hW EK)
      have HE := Lib.hid (fun (W : World) => show Calls Tryz.prog 158 #[.int .i64 st] W fun e w' => e = .returned (.int .i64 EK) ∧ W = w' by rw [hEK]; exact endKind_any st W)
      replace HR := Lib.hid (HR.out.trans (by rw [← hEK, ← hTR]))
      clear hEK hTR q5
      refine wp_region_inv (fun AC0 L a W => ∃ sl23 sl24 sl25 sl26 sl27 sl28 sl29 sl30 sl31 sl32 sl33 sl4 : Value, a = ((((((((((((AC0.put (some 23) sl23).put (some 24) sl24).put (some 25) sl25).put (some 26) sl26).put (some 27) sl27).put (some 28) sl28).put (some 29) sl29).put (some 30) sl30).put (some 31) sl31).put (some 32) sl32).put (some 33) sl33).put (some 4) sl4) ∧ Below w2.heap.size w2 W ∧ ((L 0 → sl23 = (.pointer (some ⟨w.heap.size + 1, 3, none⟩))) ∧ (L 1 → sl24 = (.int .i64 st)) ∧ (L 2 → sl25 = (.bool true)) ∧ (L 3 → sl26 = (.bool true)) ∧ (L 4 → sl27 = (.pointer (some ⟨w.heap.size + 1, 4, none⟩))) ∧ (L 5 → sl28 = (.slice A4 n4 c4)) ∧ (L 6 → sl29 = (.pointer (some ⟨w.heap.size + 1, 3, none⟩))) ∧ (L 7 → sl30 = (.int .i64 st)) ∧ (L 8 → sl31 = (.int .i64 EK)) ∧ (L 9 → sl32 = (.bool TR)) ∧ (L 10 → sl33 = (.bool TR)) ∧ (L 11 → sl4 = (.bool TR)))) (by kernel_rfl) (by kernel_rfl) ?_ ?_ ?_
      · exact ⟨undef, undef, undef, undef, undef, undef, undef, undef, undef, undef, undef, (.bool false), by kernel_rfl, Below.drew (Below.refl _ _), fun h => absurd h id, fun h => absurd h id, fun h => absurd h id, fun h => absurd h id, fun h => absurd h id, fun h => absurd h id, fun h => absurd h id, fun h => absurd h id, fun h => absurd h id, fun h => absurd h id, fun h => absurd h id, fun h => absurd h id⟩
      · intro Q9; refine InvFrom.cons (fun L a W hI hN hD K hK => ?_) ?_
        · obtain ⟨sl23, sl24, sl25, sl26, sl27, sl28, sl29, sl30, sl31, sl32, sl33, sl4, ha, hB, f0, f1, f2, f3, f4, f5, f6, f7, f8, f9, f10, f11⟩ := hI
          subst ha
          have hz := hB.size
          refine Kept.mk ?_
          simp only [Act.put, pA, pZ, pS]
          go_simp
          refine hK.out _ _ ?_
          exact ⟨(.pointer (some ⟨w.heap.size + 1, 3, none⟩)), sl24, sl25, sl26, sl27, sl28, sl29, sl30, sl31, sl32, sl33, sl4, by kernel_rfl, hB, fun _ => rfl, nf f1, nf f2, nf f3, nf f4, nf f5, nf f6, nf f7, nf f8, nf f9, nf f10, nf f11⟩
        refine InvFrom.cons (fun L a W hI hN hD K hK => ?_) ?_
        · obtain ⟨sl23, sl24, sl25, sl26, sl27, sl28, sl29, sl30, sl31, sl32, sl33, sl4, ha, hB, f0, f1, f2, f3, f4, f5, f6, f7, f8, f9, f10, f11⟩ := hI
          subst ha
          have hz := hB.size
          have d0 := f0 (hD 0 (by kernel_rfl))
          subst d0
          have pg := box_cell (j := 3) (box_keep (HG2.out) hB (by omega)) rfl
          refine Kept.mk ?_
          simp only [Act.put, pA, pZ, pS]
          go_simp
          refine hK.out _ _ ?_
          exact ⟨(.pointer (some ⟨w.heap.size + 1, 3, none⟩)), (.int .i64 st), sl25, sl26, sl27, sl28, sl29, sl30, sl31, sl32, sl33, sl4, by kernel_rfl, hB, nf f0, fun _ => rfl, nf f2, nf f3, nf f4, nf f5, nf f6, nf f7, nf f8, nf f9, nf f10, nf f11⟩
        refine InvFrom.cons (fun L a W hI hN hD K hK => ?_) ?_
        · obtain ⟨sl23, sl24, sl25, sl26, sl27, sl28, sl29, sl30, sl31, sl32, sl33, sl4, ha, hB, f0, f1, f2, f3, f4, f5, f6, f7, f8, f9, f10, f11⟩ := hI
          subst ha
          have hz := hB.size
          have d1 := f1 (hD 1 (by kernel_rfl))
          subst d1
          refine kept_c1 rfl 156 _ _ rfl (fenters_of' Tryz.func156 (by kernel_rfl) (by kernel_rfl)) (.int .i64 st) (by kernel_rfl) (hST W) ?_
          rintro e W1 ⟨rfl, rfl⟩
          refine ⟨_, rfl, hK.out _ _ ?_⟩
          exact ⟨sl23, (.int .i64 st), (.bool true), sl26, sl27, sl28, sl29, sl30, sl31, sl32, sl33, sl4, by kernel_rfl, hB.trans ((Below.refl _ _).mono hz), nf f0, nf f1, fun _ => rfl, nf f3, nf f4, nf f5, nf f6, nf f7, nf f8, nf f9, nf f10, nf f11⟩
        refine InvFrom.cons (fun L a W hI hN hD K hK => ?_) ?_
        · obtain ⟨sl23, sl24, sl25, sl26, sl27, sl28, sl29, sl30, sl31, sl32, sl33, sl4, ha, hB, f0, f1, f2, f3, f4, f5, f6, f7, f8, f9, f10, f11⟩ := hI
          subst ha
          have hz := hB.size
          have d2 := f2 (hD 2 (by kernel_rfl))
          subst d2
          refine Kept.mk ?_
          simp only [Act.put, pA, pZ, pS]
          go_simp
          refine hK.out _ _ ?_
          exact ⟨sl23, sl24, (.bool true), (.bool true), sl27, sl28, sl29, sl30, sl31, sl32, sl33, sl4, by kernel_rfl, hB, nf f0, nf f1, nf f2, fun _ => rfl, nf f4, nf f5, nf f6, nf f7, nf f8, nf f9, nf f10, nf f11⟩
        refine InvFrom.cons (fun L a W hI hN hD K hK => ?_) ?_
        · obtain ⟨sl23, sl24, sl25, sl26, sl27, sl28, sl29, sl30, sl31, sl32, sl33, sl4, ha, hB, f0, f1, f2, f3, f4, f5, f6, f7, f8, f9, f10, f11⟩ := hI
          subst ha
          have hz := hB.size
          have d3 := f3 (hD 3 (by kernel_rfl))
          subst d3
          refine Kept.mk ?_
          simp only [Act.put, pA, pZ, pS]
          go_simp
          refine hK.out _ _ ?_
          exact ⟨sl23, sl24, sl25, (.bool true), (.pointer (some ⟨w.heap.size + 1, 4, none⟩)), sl28, sl29, sl30, sl31, sl32, sl33, sl4, by kernel_rfl, hB, nf f0, nf f1, nf f2, nf f3, fun _ => rfl, nf f5, nf f6, nf f7, nf f8, nf f9, nf f10, nf f11⟩
        refine InvFrom.cons (fun L a W hI hN hD K hK => ?_) ?_
        · obtain ⟨sl23, sl24, sl25, sl26, sl27, sl28, sl29, sl30, sl31, sl32, sl33, sl4, ha, hB, f0, f1, f2, f3, f4, f5, f6, f7, f8, f9, f10, f11⟩ := hI
          subst ha
          have hz := hB.size
          have d3 := f3 (hD 3 (by kernel_rfl))
          subst d3
          have d4 := f4 (hD 4 (by kernel_rfl))
          subst d4
          have pg := box_cell (j := 4) (box_keep (HG2.out) hB (by omega)) rfl
          refine Kept.mk ?_
          simp only [Act.put, pA, pZ, pS]
          go_simp
          refine hK.out _ _ ?_
          exact ⟨sl23, sl24, sl25, (.bool true), (.pointer (some ⟨w.heap.size + 1, 4, none⟩)), (.slice A4 n4 c4), sl29, sl30, sl31, sl32, sl33, sl4, by kernel_rfl, hB, nf f0, nf f1, nf f2, nf f3, nf f4, fun _ => rfl, nf f6, nf f7, nf f8, nf f9, nf f10, nf f11⟩
        refine InvFrom.cons (fun L a W hI hN hD K hK => ?_) ?_
        · obtain ⟨sl23, sl24, sl25, sl26, sl27, sl28, sl29, sl30, sl31, sl32, sl33, sl4, ha, hB, f0, f1, f2, f3, f4, f5, f6, f7, f8, f9, f10, f11⟩ := hI
          subst ha
          have hz := hB.size
          have d3 := f3 (hD 3 (by kernel_rfl))
          subst d3
          refine Kept.mk ?_
          simp only [Act.put, pA, pZ, pS]
          go_simp
          refine hK.out _ _ ?_
          exact ⟨sl23, sl24, sl25, (.bool true), sl27, sl28, (.pointer (some ⟨w.heap.size + 1, 3, none⟩)), sl30, sl31, sl32, sl33, sl4, by kernel_rfl, hB, nf f0, nf f1, nf f2, nf f3, nf f4, nf f5, fun _ => rfl, nf f7, nf f8, nf f9, nf f10, nf f11⟩
        refine InvFrom.cons (fun L a W hI hN hD K hK => ?_) ?_
        · obtain ⟨sl23, sl24, sl25, sl26, sl27, sl28, sl29, sl30, sl31, sl32, sl33, sl4, ha, hB, f0, f1, f2, f3, f4, f5, f6, f7, f8, f9, f10, f11⟩ := hI
          subst ha
          have hz := hB.size
          have d3 := f3 (hD 3 (by kernel_rfl))
          subst d3
          have d6 := f6 (hD 6 (by kernel_rfl))
          subst d6
          have pg := box_cell (j := 3) (box_keep (HG2.out) hB (by omega)) rfl
          refine Kept.mk ?_
          simp only [Act.put, pA, pZ, pS]
          go_simp
          refine hK.out _ _ ?_
          exact ⟨sl23, sl24, sl25, (.bool true), sl27, sl28, (.pointer (some ⟨w.heap.size + 1, 3, none⟩)), (.int .i64 st), sl31, sl32, sl33, sl4, by kernel_rfl, hB, nf f0, nf f1, nf f2, nf f3, nf f4, nf f5, nf f6, fun _ => rfl, nf f8, nf f9, nf f10, nf f11⟩
        refine InvFrom.cons (fun L a W hI hN hD K hK => ?_) ?_
        · obtain ⟨sl23, sl24, sl25, sl26, sl27, sl28, sl29, sl30, sl31, sl32, sl33, sl4, ha, hB, f0, f1, f2, f3, f4, f5, f6, f7, f8, f9, f10, f11⟩ := hI
          subst ha
          have hz := hB.size
          have d3 := f3 (hD 3 (by kernel_rfl))
          subst d3
          have d7 := f7 (hD 7 (by kernel_rfl))
          subst d7
          refine kept_w1 (by kernel_rfl) 158 _ _ rfl (fenters_of' Tryz.func158 (by kernel_rfl) (by kernel_rfl)) (.int .i64 st) (by kernel_rfl) (HE.out W) ?_
          rintro e W1 ⟨rfl, rfl⟩
          refine ⟨_, rfl, hK.out _ _ ?_⟩
          exact ⟨sl23, sl24, sl25, (.bool true), sl27, sl28, sl29, (.int .i64 st), (.int .i64 EK), sl32, sl33, sl4, by kernel_rfl, hB.trans ((Below.refl _ _).mono hz), nf f0, nf f1, nf f2, nf f3, nf f4, nf f5, nf f6, nf f7, fun _ => rfl, nf f9, nf f10, nf f11⟩
        refine InvFrom.cons (fun L a W hI hN hD K hK => ?_) ?_
        · obtain ⟨sl23, sl24, sl25, sl26, sl27, sl28, sl29, sl30, sl31, sl32, sl33, sl4, ha, hB, f0, f1, f2, f3, f4, f5, f6, f7, f8, f9, f10, f11⟩ := hI
          subst ha
          have hz := hB.size
          have d3 := f3 (hD 3 (by kernel_rfl))
          subst d3
          have d5 := f5 (hD 5 (by kernel_rfl))
          subst d5
          have d8 := f8 (hD 8 (by kernel_rfl))
          subst d8
          refine kept_w2 (by kernel_rfl) 157 _ _ _ rfl (fenters_of' Tryz.func157 (by kernel_rfl) (by kernel_rfl)) (.slice A4 n4 c4) (.int .i64 EK) (by kernel_rfl) (by kernel_rfl) (HT.out W (HB2.out.trans (hB.mono HB2.out.size))) ?_
          rintro e W1 ⟨rfl, hb1⟩
          refine ⟨_, rfl, hK.out _ _ ?_⟩
          exact ⟨sl23, sl24, sl25, (.bool true), sl27, (.slice A4 n4 c4), sl29, sl30, (.int .i64 EK), (.bool TR), sl33, sl4, by kernel_rfl, hB.trans ((hb1.mono (Nat.le_refl _)).mono hz), nf f0, nf f1, nf f2, nf f3, nf f4, nf f5, nf f6, nf f7, nf f8, fun _ => rfl, nf f10, nf f11⟩
        refine InvFrom.cons (fun L a W hI hN hD K hK => ?_) ?_
        · obtain ⟨sl23, sl24, sl25, sl26, sl27, sl28, sl29, sl30, sl31, sl32, sl33, sl4, ha, hB, f0, f1, f2, f3, f4, f5, f6, f7, f8, f9, f10, f11⟩ := hI
          subst ha
          have hz := hB.size
          have d3 := f3 (hD 3 (by kernel_rfl))
          subst d3
          have d9 := f9 (hD 9 (by kernel_rfl))
          subst d9
          refine Kept.mk ?_
          simp only [Act.put, pA, pZ, pS]
          go_simp
          refine hK.out _ _ ?_
          exact ⟨sl23, sl24, sl25, (.bool true), sl27, sl28, sl29, sl30, sl31, (.bool TR), (.bool TR), sl4, by kernel_rfl, hB, nf f0, nf f1, nf f2, nf f3, nf f4, nf f5, nf f6, nf f7, nf f8, nf f9, fun _ => rfl, nf f11⟩
        refine InvFrom.cons (fun L a W hI hN hD K hK => ?_) ?_
        · obtain ⟨sl23, sl24, sl25, sl26, sl27, sl28, sl29, sl30, sl31, sl32, sl33, sl4, ha, hB, f0, f1, f2, f3, f4, f5, f6, f7, f8, f9, f10, f11⟩ := hI
          subst ha
          have hz := hB.size
          have d0 := f0 (hD 0 (by kernel_rfl))
          subst d0
          have d1 := f1 (hD 1 (by kernel_rfl))
          subst d1
          have d2 := f2 (hD 2 (by kernel_rfl))
          subst d2
          have d3 := f3 (hD 3 (by kernel_rfl))
          subst d3
          have d4 := f4 (hD 4 (by kernel_rfl))
          subst d4
          have d5 := f5 (hD 5 (by kernel_rfl))
          subst d5
          have d6 := f6 (hD 6 (by kernel_rfl))
          subst d6
          have d7 := f7 (hD 7 (by kernel_rfl))
          subst d7
          have d8 := f8 (hD 8 (by kernel_rfl))
          subst d8
          have d9 := f9 (hD 9 (by kernel_rfl))
          subst d9
          have d10 := f10 (hD 10 (by kernel_rfl))
          subst d10
          refine Kept.mk ?_
          simp only [Act.put, pA, pZ, pS]
          go_simp
          refine hK.out _ _ ?_
          exact ⟨(.pointer (some ⟨w.heap.size + 1, 3, none⟩)), (.int .i64 st), (.bool true), (.bool true), (.pointer (some ⟨w.heap.size + 1, 4, none⟩)), (.slice A4 n4 c4), (.pointer (some ⟨w.heap.size + 1, 3, none⟩)), (.int .i64 st), (.int .i64 EK), (.bool TR), (.bool TR), (.bool TR), by kernel_rfl, hB, nf f0, nf f1, nf f2, nf f3, nf f4, nf f5, nf f6, nf f7, nf f8, nf f9, nf f10, fun _ => rfl⟩
        exact InvFrom.nil
      intro L a w3 hL hI
      obtain ⟨sl23, sl24, sl25, sl26, sl27, sl28, sl29, sl30, sl31, sl32, sl33, sl4, ha, hbw3, hI⟩ := hI
      subst ha
      have hfin := hI.2.2.2.2.2.2.2.2.2.2.2 (hL 11 (by decide))
      subst hfin
      clear hL hI
      refine Kept.mk ?_
      simp only [Act.put, pA, pZ, pS]
      have HB3 := Lib.hid (HB2.out.trans (hbw3.mono HB2.out.size))
      clear hbw3
      go_wp2_with fail
      go_ret
      exact ⟨by rw [HR.out]; simp, HB3.out⟩
    · have hST := fun W => (isState_any st W)
      simp only [show decide (1 ≤ st ∧ st ≤ 4) = false from decide_eq_false q5] at hST
      replace HR := Lib.hid (HR.out.trans (by rw [show decide (1 ≤ st ∧ st ≤ 4) = false from decide_eq_false q5]))
      refine wp_region_inv (fun AC0 L a W => ∃ sl23 sl24 sl25 sl26 sl27 sl28 sl29 sl30 sl31 sl32 sl33 sl4 : Value, a = ((((((((((((AC0.put (some 23) sl23).put (some 24) sl24).put (some 25) sl25).put (some 26) sl26).put (some 27) sl27).put (some 28) sl28).put (some 29) sl29).put (some 30) sl30).put (some 31) sl31).put (some 32) sl32).put (some 33) sl33).put (some 4) sl4) ∧ Below w2.heap.size w2 W ∧ ((L 0 → sl23 = (.pointer (some ⟨w.heap.size + 1, 3, none⟩))) ∧ (L 1 → sl24 = (.int .i64 st)) ∧ (L 2 → sl25 = (.bool false)) ∧ (L 3 → sl26 = (.bool false)) ∧ (L 4 → True) ∧ (L 5 → True) ∧ (L 6 → True) ∧ (L 7 → True) ∧ (L 8 → True) ∧ (L 9 → True) ∧ (L 10 → sl33 = (.bool false)) ∧ (L 11 → sl4 = (.bool false)))) (by kernel_rfl) (by kernel_rfl) ?_ ?_ ?_
      · exact ⟨undef, undef, undef, undef, undef, undef, undef, undef, undef, undef, undef, (.bool false), by kernel_rfl, Below.drew (Below.refl _ _), fun h => absurd h id, fun h => absurd h id, fun h => absurd h id, fun h => absurd h id, fun h => absurd h id, fun h => absurd h id, fun h => absurd h id, fun h => absurd h id, fun h => absurd h id, fun h => absurd h id, fun h => absurd h id, fun h => absurd h id⟩
      · intro Q9; refine InvFrom.cons (fun L a W hI hN hD K hK => ?_) ?_
        · obtain ⟨sl23, sl24, sl25, sl26, sl27, sl28, sl29, sl30, sl31, sl32, sl33, sl4, ha, hB, f0, f1, f2, f3, f4, f5, f6, f7, f8, f9, f10, f11⟩ := hI
          subst ha
          have hz := hB.size
          refine Kept.mk ?_
          simp only [Act.put, pA, pZ, pS]
          go_simp
          refine hK.out _ _ ?_
          exact ⟨(.pointer (some ⟨w.heap.size + 1, 3, none⟩)), sl24, sl25, sl26, sl27, sl28, sl29, sl30, sl31, sl32, sl33, sl4, by kernel_rfl, hB, fun _ => rfl, nf f1, nf f2, nf f3, nf f4, nf f5, nf f6, nf f7, nf f8, nf f9, nf f10, nf f11⟩
        refine InvFrom.cons (fun L a W hI hN hD K hK => ?_) ?_
        · obtain ⟨sl23, sl24, sl25, sl26, sl27, sl28, sl29, sl30, sl31, sl32, sl33, sl4, ha, hB, f0, f1, f2, f3, f4, f5, f6, f7, f8, f9, f10, f11⟩ := hI
          subst ha
          have hz := hB.size
          have d0 := f0 (hD 0 (by kernel_rfl))
          subst d0
          have pg := box_cell (j := 3) (box_keep (HG2.out) hB (by omega)) rfl
          refine Kept.mk ?_
          simp only [Act.put, pA, pZ, pS]
          go_simp
          refine hK.out _ _ ?_
          exact ⟨(.pointer (some ⟨w.heap.size + 1, 3, none⟩)), (.int .i64 st), sl25, sl26, sl27, sl28, sl29, sl30, sl31, sl32, sl33, sl4, by kernel_rfl, hB, nf f0, fun _ => rfl, nf f2, nf f3, nf f4, nf f5, nf f6, nf f7, nf f8, nf f9, nf f10, nf f11⟩
        refine InvFrom.cons (fun L a W hI hN hD K hK => ?_) ?_
        · obtain ⟨sl23, sl24, sl25, sl26, sl27, sl28, sl29, sl30, sl31, sl32, sl33, sl4, ha, hB, f0, f1, f2, f3, f4, f5, f6, f7, f8, f9, f10, f11⟩ := hI
          subst ha
          have hz := hB.size
          have d1 := f1 (hD 1 (by kernel_rfl))
          subst d1
          refine kept_c1 rfl 156 _ _ rfl (fenters_of' Tryz.func156 (by kernel_rfl) (by kernel_rfl)) (.int .i64 st) (by kernel_rfl) (hST W) ?_
          rintro e W1 ⟨rfl, rfl⟩
          refine ⟨_, rfl, hK.out _ _ ?_⟩
          exact ⟨sl23, (.int .i64 st), (.bool false), sl26, sl27, sl28, sl29, sl30, sl31, sl32, sl33, sl4, by kernel_rfl, hB.trans ((Below.refl _ _).mono hz), nf f0, nf f1, fun _ => rfl, nf f3, nf f4, nf f5, nf f6, nf f7, nf f8, nf f9, nf f10, nf f11⟩
        refine InvFrom.cons (fun L a W hI hN hD K hK => ?_) ?_
        · obtain ⟨sl23, sl24, sl25, sl26, sl27, sl28, sl29, sl30, sl31, sl32, sl33, sl4, ha, hB, f0, f1, f2, f3, f4, f5, f6, f7, f8, f9, f10, f11⟩ := hI
          subst ha
          have hz := hB.size
          have d2 := f2 (hD 2 (by kernel_rfl))
          subst d2
          refine Kept.mk ?_
          simp only [Act.put, pA, pZ, pS]
          go_simp
          refine hK.out _ _ ?_
          exact ⟨sl23, sl24, (.bool false), (.bool false), sl27, sl28, sl29, sl30, sl31, sl32, sl33, sl4, by kernel_rfl, hB, nf f0, nf f1, nf f2, fun _ => rfl, nf f4, nf f5, nf f6, nf f7, nf f8, nf f9, nf f10, nf f11⟩
        refine InvFrom.cons (fun L a W hI hN hD K hK => ?_) ?_
        · obtain ⟨sl23, sl24, sl25, sl26, sl27, sl28, sl29, sl30, sl31, sl32, sl33, sl4, ha, hB, f0, f1, f2, f3, f4, f5, f6, f7, f8, f9, f10, f11⟩ := hI
          subst ha
          have hz := hB.size
          have d3 := f3 (hD 3 (by kernel_rfl))
          subst d3
          refine Kept.mk ?_
          simp only [Act.put, pA, pZ, pS]
          go_simp
          refine hK.out _ _ ?_
          exact ⟨sl23, sl24, sl25, (.bool false), undef, sl28, sl29, sl30, sl31, sl32, sl33, sl4, by kernel_rfl, hB, nf f0, nf f1, nf f2, nf f3, fun _ => trivial, nf f5, nf f6, nf f7, nf f8, nf f9, nf f10, nf f11⟩
        refine InvFrom.cons (fun L a W hI hN hD K hK => ?_) ?_
        · obtain ⟨sl23, sl24, sl25, sl26, sl27, sl28, sl29, sl30, sl31, sl32, sl33, sl4, ha, hB, f0, f1, f2, f3, f4, f5, f6, f7, f8, f9, f10, f11⟩ := hI
          subst ha
          have hz := hB.size
          have d3 := f3 (hD 3 (by kernel_rfl))
          subst d3
          refine Kept.mk ?_
          simp only [Act.put, pA, pZ, pS]
          go_simp
          refine hK.out _ _ ?_
          exact ⟨sl23, sl24, sl25, (.bool false), sl27, undef, sl29, sl30, sl31, sl32, sl33, sl4, by kernel_rfl, hB, nf f0, nf f1, nf f2, nf f3, nf f4, fun _ => trivial, nf f6, nf f7, nf f8, nf f9, nf f10, nf f11⟩
        refine InvFrom.cons (fun L a W hI hN hD K hK => ?_) ?_
        · obtain ⟨sl23, sl24, sl25, sl26, sl27, sl28, sl29, sl30, sl31, sl32, sl33, sl4, ha, hB, f0, f1, f2, f3, f4, f5, f6, f7, f8, f9, f10, f11⟩ := hI
          subst ha
          have hz := hB.size
          have d3 := f3 (hD 3 (by kernel_rfl))
          subst d3
          refine Kept.mk ?_
          simp only [Act.put, pA, pZ, pS]
          go_simp
          refine hK.out _ _ ?_
          exact ⟨sl23, sl24, sl25, (.bool false), sl27, sl28, undef, sl30, sl31, sl32, sl33, sl4, by kernel_rfl, hB, nf f0, nf f1, nf f2, nf f3, nf f4, nf f5, fun _ => trivial, nf f7, nf f8, nf f9, nf f10, nf f11⟩
        refine InvFrom.cons (fun L a W hI hN hD K hK => ?_) ?_
        · obtain ⟨sl23, sl24, sl25, sl26, sl27, sl28, sl29, sl30, sl31, sl32, sl33, sl4, ha, hB, f0, f1, f2, f3, f4, f5, f6, f7, f8, f9, f10, f11⟩ := hI
          subst ha
          have hz := hB.size
          have d3 := f3 (hD 3 (by kernel_rfl))
          subst d3
          refine Kept.mk ?_
          simp only [Act.put, pA, pZ, pS]
          go_simp
          refine hK.out _ _ ?_
          exact ⟨sl23, sl24, sl25, (.bool false), sl27, sl28, sl29, undef, sl31, sl32, sl33, sl4, by kernel_rfl, hB, nf f0, nf f1, nf f2, nf f3, nf f4, nf f5, nf f6, fun _ => trivial, nf f8, nf f9, nf f10, nf f11⟩
        refine InvFrom.cons (fun L a W hI hN hD K hK => ?_) ?_
        · obtain ⟨sl23, sl24, sl25, sl26, sl27, sl28, sl29, sl30, sl31, sl32, sl33, sl4, ha, hB, f0, f1, f2, f3, f4, f5, f6, f7, f8, f9, f10, f11⟩ := hI
          subst ha
          have hz := hB.size
          have d3 := f3 (hD 3 (by kernel_rfl))
          subst d3
          refine Kept.mk ?_
          simp only [Act.put, pA, pZ, pS]
          go_simp
          refine hK.out _ _ ?_
          exact ⟨sl23, sl24, sl25, (.bool false), sl27, sl28, sl29, sl30, undef, sl32, sl33, sl4, by kernel_rfl, hB, nf f0, nf f1, nf f2, nf f3, nf f4, nf f5, nf f6, nf f7, fun _ => trivial, nf f9, nf f10, nf f11⟩
        refine InvFrom.cons (fun L a W hI hN hD K hK => ?_) ?_
        · obtain ⟨sl23, sl24, sl25, sl26, sl27, sl28, sl29, sl30, sl31, sl32, sl33, sl4, ha, hB, f0, f1, f2, f3, f4, f5, f6, f7, f8, f9, f10, f11⟩ := hI
          subst ha
          have hz := hB.size
          have d3 := f3 (hD 3 (by kernel_rfl))
          subst d3
          refine Kept.mk ?_
          simp only [Act.put, pA, pZ, pS]
          go_simp
          refine hK.out _ _ ?_
          exact ⟨sl23, sl24, sl25, (.bool false), sl27, sl28, sl29, sl30, sl31, undef, sl33, sl4, by kernel_rfl, hB, nf f0, nf f1, nf f2, nf f3, nf f4, nf f5, nf f6, nf f7, nf f8, fun _ => trivial, nf f10, nf f11⟩
        refine InvFrom.cons (fun L a W hI hN hD K hK => ?_) ?_
        · obtain ⟨sl23, sl24, sl25, sl26, sl27, sl28, sl29, sl30, sl31, sl32, sl33, sl4, ha, hB, f0, f1, f2, f3, f4, f5, f6, f7, f8, f9, f10, f11⟩ := hI
          subst ha
          have hz := hB.size
          have d3 := f3 (hD 3 (by kernel_rfl))
          subst d3
          refine Kept.mk ?_
          simp only [Act.put, pA, pZ, pS]
          go_simp
          refine hK.out _ _ ?_
          exact ⟨sl23, sl24, sl25, (.bool false), sl27, sl28, sl29, sl30, sl31, sl32, (.bool false), sl4, by kernel_rfl, hB, nf f0, nf f1, nf f2, nf f3, nf f4, nf f5, nf f6, nf f7, nf f8, nf f9, fun _ => rfl, nf f11⟩
        refine InvFrom.cons (fun L a W hI hN hD K hK => ?_) ?_
        · obtain ⟨sl23, sl24, sl25, sl26, sl27, sl28, sl29, sl30, sl31, sl32, sl33, sl4, ha, hB, f0, f1, f2, f3, f4, f5, f6, f7, f8, f9, f10, f11⟩ := hI
          subst ha
          have hz := hB.size
          have d0 := f0 (hD 0 (by kernel_rfl))
          subst d0
          have d1 := f1 (hD 1 (by kernel_rfl))
          subst d1
          have d2 := f2 (hD 2 (by kernel_rfl))
          subst d2
          have d3 := f3 (hD 3 (by kernel_rfl))
          subst d3
          have d10 := f10 (hD 10 (by kernel_rfl))
          subst d10
          refine Kept.mk ?_
          simp only [Act.put, pA, pZ, pS]
          go_simp
          refine hK.out _ _ ?_
          exact ⟨(.pointer (some ⟨w.heap.size + 1, 3, none⟩)), (.int .i64 st), (.bool false), (.bool false), sl27, sl28, sl29, sl30, sl31, sl32, (.bool false), (.bool false), by kernel_rfl, hB, nf f0, nf f1, nf f2, nf f3, nf f4, nf f5, nf f6, nf f7, nf f8, nf f9, nf f10, fun _ => rfl⟩
        exact InvFrom.nil
      intro L a w3 hL hI
      obtain ⟨sl23, sl24, sl25, sl26, sl27, sl28, sl29, sl30, sl31, sl32, sl33, sl4, ha, hbw3, hI⟩ := hI
      subst ha
      have hfin := hI.2.2.2.2.2.2.2.2.2.2.2 (hL 11 (by decide))
      subst hfin
      clear hL hI
      refine Kept.mk ?_
      simp only [Act.put, pA, pZ, pS]
      have HB3 := Lib.hid (HB2.out.trans (hbw3.mono HB2.out.size))
      clear hbw3
      go_wp2_with fail
      go_ret
      exact ⟨by rw [HR.out]; simp, HB3.out⟩
  · have b3 : ((n2 : Int) != 6) = true := by simp; omega
    replace HR := Lib.hid (HR.out.trans (by rw [show decide (regs.length = 6) = false from decide_eq_false (by rw [HL.out]; exact q3)]))
    go_wp2_with fail
    go_ret
    exact ⟨by rw [HR.out]; simp, HB1.out⟩

end Go.Proofs.YtghkdkagnibkgaaGreatDoor
