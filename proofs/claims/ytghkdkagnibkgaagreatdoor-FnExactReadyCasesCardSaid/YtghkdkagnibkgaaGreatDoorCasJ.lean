
/- The program's ReadyCases, Blocks, Choices. Laid by wip/gen11/casJ.py. -/

import Derived.Test.YtghkdkagnibkgaaGreatDoorCasI

import Derived.Deep.Cut

namespace Go.Proofs.YtghkdkagnibkgaaGreatDoor
set_option linter.unusedSimpArgs false
set_option linter.unusedVariables false
open Go.RowKit


set_option maxRecDepth 100000 in
set_option maxHeartbeats 4000000 in
theorem implReadyCases_any {w : World} {hi : Nat} {p : DProg} {x : DEng} {vs us : List Value} (hp : layProg.see w hi p vs) (he : layEng.see w hi x us) (hhi : hi ≤ w.heap.size) (hOC : OpCells w) (hIC : ItemCells w) (hnp : szProg p ≤ 1048576) (hne : szEng x ≤ 1048576) (n : Int) :
    Calls Tryz.prog 11 #[.agg vs.toArray, .agg us.toArray, .int .i64 n] w (MadeRow Lay.int 3 w (readyCasesL p x n)) := by
  have HK := Lib.hid (fun (W : World) (hW : Below w.heap.size w W) => readyAt_any (layProg.keep hp fun k hk => hW.block k (by omega)) (layEng.keep he fun k hk => hW.block k (by omega)) (Nat.le_trans hhi hW.size) (opCells_below hOC hW) (itemCells_below hIC hW (Nat.le_refl _)) hnp hne n)
  have HCO := Lib.hid (fun (W : World) (hW : Below w.heap.size w W) (io ia ib ic : Int) (h11 : io = 11 → 0 ≤ ia ∧ ia < p.fSels.length) => casesOf_any (ib := ib) (ic := ic) (layProg.keep hp (w' := W) fun k hk => hW.block k (by omega)) (Nat.le_trans hhi hW.size) hnp h11)
  have HOI := Lib.hid (fun (W : World) (hW : Below w.heap.size w W) (io ia ib ic : Int) (h11 : io = 11 → 0 ≤ ia ∧ ia < p.fSels.length) (h12 : io = 12 → 0 ≤ ia) => ofInstr_any (ib := ib) (ic := ic) (n := n) (layProg.keep hp (w' := W) fun k hk => hW.block k (by omega)) (Nat.le_trans hhi hW.size) hnp h11 h12)
  have HRO := Lib.hid (fun (W : World) (hW : Below w.heap.size w W) (cs : List DCase) (A : Option Addr) (l c : Nat) (hs : SeenR layCase W W.heap.size A l cs) (hl : l ≤ 1048576) => readyOf_any (cc := c) (layEng.keep he (w' := W) fun k hk => hW.block k (by omega)) (Nat.le_trans hhi hW.size) hne hs (Nat.le_refl _) hl)
  have HEE := Lib.hid (fun (W : World) (hW : Below w.heap.size w W) => layEng.keep he (w' := W) fun k hk => hW.block k (by omega))
  have HN := Lib.hid hne
  have HASK := Lib.hid (fun (h : askB p x n = true) => ask_parts h)
  obtain ⟨B0, m0, d0, B2, m2, d2, B3, m3, d3, rfl, -⟩ := seeProg hp
  obtain ⟨A0, n0, c0, A1, n1, c1, A2, n2, c2, rfl, -⟩ := seeEng he
  have hP0 := box_new w #[.slice B0 m0 d0, .int .i64 p.fMus, .slice B2 m2 d2, .slice B3 m3 d3] 38
  have hP0 := box_keep hP0 ((Below.refl _ _).alloc (Nat.le_refl _) (.cells #[.slice A0 n0 c0, .slice A1 n1 c1, .slice A2 n2 c2] 44)) (by simp only [World.size_alloc]; omega)
  have hE0 := box_new (w.alloc (.cells #[.slice B0 m0 d0, .int .i64 p.fMus, .slice B2 m2 d2, .slice B3 m3 d3] 38)) #[.slice A0 n0 c0, .slice A1 n1 c1, .slice A2 n2 c2] 44
  simp only [World.size_alloc, Nat.add_assoc, Nat.reduceAdd] at hE0
  have hB0 : Below w.heap.size w ((w.alloc (.cells #[.slice B0 m0 d0, .int .i64 p.fMus, .slice B2 m2 d2, .slice B3 m3 d3] 38)).alloc (.cells #[.slice A0 n0 c0, .slice A1 n1 c1, .slice A2 n2 c2] 44)) := ((Below.refl _ _).alloc (Nat.le_refl _) _).alloc (by simp only [World.size_alloc]; omega) _
  have hz0 : w.heap.size + 2 ≤ ((w.alloc (.cells #[.slice B0 m0 d0, .int .i64 p.fMus, .slice B2 m2 d2, .slice B3 m3 d3] 38)).alloc (.cells #[.slice A0 n0 c0, .slice A1 n1 c1, .slice A2 n2 c2] 44)).heap.size := by simp only [World.size_alloc]; omega
  have pe0 := box_cell (j := 0) hE0 rfl
  have pe1 := box_cell (j := 1) hE0 rfl
  have pe2 := box_cell (j := 2) hE0 rfl
  have pp0 := box_cell (j := 0) hP0 rfl
  have pp1 := box_cell (j := 1) hP0 rfl
  have pp2 := box_cell (j := 2) hP0 rfl
  have pp3 := box_cell (j := 3) hP0 rfl
  have HE0 := Lib.hid hE0
  have HP0 := Lib.hid hP0
  have HB0 := Lib.hid hB0
  have HIR := Lib.hid (show askB p x n = true → insR p x n = insAt p x n from fun h => by unfold insR; rw [if_pos h])
  generalize insR p x n = ins at *
  obtain ⟨io, ia, ib, ic⟩ := ins
  simp only at HK
  clear hp he hP0 hE0 hB0 hOC hIC hne hnp
  go_enter Tryz.func11, Tryz.ntmps11
  go_upto_region 1 with (fail)
  generalize ((w.alloc (.cells #[.slice B0 m0 d0, .int .i64 p.fMus, .slice B2 m2 d2, .slice B3 m3 d3] 38)).alloc (.cells #[.slice A0 n0 c0, .slice A1 n1 c1, .slice A2 n2 c2] 44)) = W0 at *
  go_wp2_with fail
  refine (HK.out _ HB0.out).mono ?_
  rintro e w1 ⟨rfl, hb1⟩
  have hz1 := hb1.size
  have HB1 := Lib.hid (HB0.out.trans (hb1.mono (by omega)))
  have HP1 := Lib.hid (box_keep HP0.out hb1 (by omega))
  have HE1 := Lib.hid (box_keep HE0.out hb1 (by omega))
  clear pe0 pe1 pe2 pp0 pp1 pp2 pp3 hb1 HK HP0 HE0 HB0
  go_upto_region 2 with (fail)
  have hbA : Below w1.heap.size w1 (w1.alloc (.cells #[.int .i64 io, .int .i64 ia, .int .i64 ib, .int .i64 ic] 61)) := (Below.refl _ _).alloc (Nat.le_refl _) _
  have hxA := box_new w1 #[.int .i64 io, .int .i64 ia, .int .i64 ib, .int .i64 ic] 61
  have hzA : w1.heap.size + 1 ≤ (w1.alloc (.cells #[.int .i64 io, .int .i64 ia, .int .i64 ib, .int .i64 ic] 61)).heap.size := by simp only [World.size_alloc]; omega
  generalize (w1.alloc (.cells #[.int .i64 io, .int .i64 ia, .int .i64 ib, .int .i64 ic] 61)) = w2 at *
  have HB2 := Lib.hid (HB1.out.trans (hbA.mono (by omega)))
  have HX2 := Lib.hid hxA
  have HP2 := Lib.hid (box_keep HP1.out hbA (by omega))
  have HE2 := Lib.hid (box_keep HE1.out hbA (by omega))
  generalize hbi : w1.heap.size = bi at *
  have hbi1 : w.heap.size + 2 ≤ bi := by omega
  have hbi2 : bi < w2.heap.size := by omega
  clear hbA hxA hbi hzA HP1 HE1 HB1 hz1 hz0
  cases ha : askB p x n
  · have HR0 := Lib.hid (show readyCasesL p x n = [] by unfold readyCasesL; rw [if_neg (by rw [ha]; simp)])
    clear ha
    go_wp2_with fail
    go_ret
    rw [HR0.out]
    exact ⟨none, 0, rfl, own_rowI (Own.nil_ _ _ _ _ _) (fun z hz => by cases hz), HB2.out⟩
  have HR := Lib.hid (show readyCasesL p x n = rdyL x (csAt p (insAt p x n)) by unfold readyCasesL; rw [if_pos ha])
  have HQ := Lib.hid (HASK.out ha)
  have hin : insAt p x n = ⟨io, ia, ib, ic⟩ := (HIR.out ha).symm
  have hnm := at_names HQ.out.prog HQ.out.at_
  rw [show atI p (gorAt x n) = ⟨io, ia, ib, ic⟩ from hin] at hnm
  have HNM := Lib.hid hnm
  have HIN := Lib.hid hin
  clear hnm hin HIR HASK
  rw [HIN.out] at HR
  generalize hr : rdyL x (csAt p ⟨io, ia, ib, ic⟩) = r at *
  have HRO2 := Lib.hid (fun (W : World) (hW : Below w.heap.size w W) (A : Option Addr) (l c : Nat) (hs : SeenR layCase W W.heap.size A l (csAt p ⟨io, ia, ib, ic⟩)) (hl : l ≤ 1048576) => show Calls _ _ _ W (MadeRow Lay.int 3 W r) from hr ▸ HRO.out W hW _ A l c hs hl)
  clear hr HRO ha
  go_upto_region 4 with (fail)
  refine wp_region_inv (fun AC0 L a W => ∃ sl18 sl19 sl20 sl21 sl22 sl6 : Value, a = ((((((AC0.put (some 18) sl18).put (some 19) sl19).put (some 20) sl20).put (some 21) sl21).put (some 22) sl22).put (some 6) sl6) ∧ Below w2.heap.size w2 W ∧ ((L 0 → sl18 = (.agg #[.slice A0 n0 c0, .slice A1 n1 c1, .slice A2 n2 c2])) ∧ (L 1 → sl19 = (.agg #[.slice B0 m0 d0, .int .i64 p.fMus, .slice B2 m2 d2, .slice B3 m3 d3])) ∧ (L 2 → sl20 = (.agg #[.int .i64 io, .int .i64 ia, .int .i64 ib, .int .i64 ic])) ∧ (L 3 → CasesAt (csAt p ⟨io, ia, ib, ic⟩) W sl21) ∧ (L 4 → RowAt Lay.int 3 w2.heap.size W r sl22) ∧ (L 5 → RowAt Lay.int 3 w2.heap.size W r sl6))) (by kernel_rfl) (by kernel_rfl) ?_ ?_ ?_
  · exact ⟨undef, undef, undef, undef, undef, (.slice none 0 0), by kernel_rfl, Below.drew (Below.refl _ _), fun h => absurd h id, fun h => absurd h id, fun h => absurd h id, fun h => absurd h id, fun h => absurd h id, fun h => absurd h id⟩
  · intro Q9; refine InvFrom.cons (fun L a W hI hN hD K hK => ?_) ?_
    · obtain ⟨sl18, sl19, sl20, sl21, sl22, sl6, ha, hB, f0, f1, f2, f3, f4, f5⟩ := hI
      subst ha
      have hz := hB.size
      have pe0 := box_cell (j := 0) (box_keep HE2.out hB (by omega)) rfl
      have pe1 := box_cell (j := 1) (box_keep HE2.out hB (by omega)) rfl
      have pe2 := box_cell (j := 2) (box_keep HE2.out hB (by omega)) rfl
      refine Kept.mk ?_
      simp only [Act.put, pA, pZ, pS]
      go_simp
      refine hK.out _ _ ?_
      exact ⟨(.agg #[.slice A0 n0 c0, .slice A1 n1 c1, .slice A2 n2 c2]), sl19, sl20, sl21, sl22, sl6, by kernel_rfl, hB, fun _ => rfl, nf f1, nf f2, nf f3, nf f4, nf f5⟩
    refine InvFrom.cons (fun L a W hI hN hD K hK => ?_) ?_
    · obtain ⟨sl18, sl19, sl20, sl21, sl22, sl6, ha, hB, f0, f1, f2, f3, f4, f5⟩ := hI
      subst ha
      have hz := hB.size
      have pp0 := box_cell (j := 0) (box_keep HP2.out hB (by omega)) rfl
      have pp1 := box_cell (j := 1) (box_keep HP2.out hB (by omega)) rfl
      have pp2 := box_cell (j := 2) (box_keep HP2.out hB (by omega)) rfl
      have pp3 := box_cell (j := 3) (box_keep HP2.out hB (by omega)) rfl
      refine Kept.mk ?_
      simp only [Act.put, pA, pZ, pS]
      go_simp
      refine hK.out _ _ ?_
      exact ⟨sl18, (.agg #[.slice B0 m0 d0, .int .i64 p.fMus, .slice B2 m2 d2, .slice B3 m3 d3]), sl20, sl21, sl22, sl6, by kernel_rfl, hB, nf f0, fun _ => rfl, nf f2, nf f3, nf f4, nf f5⟩
    refine InvFrom.cons (fun L a W hI hN hD K hK => ?_) ?_
    · obtain ⟨sl18, sl19, sl20, sl21, sl22, sl6, ha, hB, f0, f1, f2, f3, f4, f5⟩ := hI
      subst ha
      have hz := hB.size
      have zi0 := box_cell (j := 0) (box_keep HX2.out hB (by omega)) rfl
      have zi1 := box_cell (j := 1) (box_keep HX2.out hB (by omega)) rfl
      have zi2 := box_cell (j := 2) (box_keep HX2.out hB (by omega)) rfl
      have zi3 := box_cell (j := 3) (box_keep HX2.out hB (by omega)) rfl
      refine Kept.mk ?_
      simp only [Act.put, pA, pZ, pS]
      go_simp
      refine hK.out _ _ ?_
      exact ⟨sl18, sl19, (.agg #[.int .i64 io, .int .i64 ia, .int .i64 ib, .int .i64 ic]), sl21, sl22, sl6, by kernel_rfl, hB, nf f0, nf f1, fun _ => rfl, nf f3, nf f4, nf f5⟩
    refine InvFrom.cons (fun L a W hI hN hD K hK => ?_) ?_
    · obtain ⟨sl18, sl19, sl20, sl21, sl22, sl6, ha, hB, f0, f1, f2, f3, f4, f5⟩ := hI
      subst ha
      have hz := hB.size
      have d1 := f1 (hD 1 (by kernel_rfl))
      subst d1
      have d2 := f2 (hD 2 (by kernel_rfl))
      subst d2
      refine kept_c2 rfl 40 _ _ _ rfl (fenters_of' Tryz.func40 (by kernel_rfl) (by kernel_rfl)) (.agg #[.slice B0 m0 d0, .int .i64 p.fMus, .slice B2 m2 d2, .slice B3 m3 d3]) (.agg #[.int .i64 io, .int .i64 ia, .int .i64 ib, .int .i64 ic]) (by kernel_rfl) (by kernel_rfl) (HCO.out W (HB2.out.trans (hB.mono (by omega))) io ia ib ic (fun h => (HNM.out.2.2.1 h).1)) ?_
      rintro e W1 ⟨v9, rfl, hv9, hb1⟩
      refine ⟨_, rfl, hK.out _ _ ?_⟩
      exact ⟨sl18, (.agg #[.slice B0 m0 d0, .int .i64 p.fMus, .slice B2 m2 d2, .slice B3 m3 d3]), (.agg #[.int .i64 io, .int .i64 ia, .int .i64 ib, .int .i64 ic]), v9, sl22, sl6, by kernel_rfl, hB.trans (hb1.mono hz), nf f0, nf f1, nf f2, fun _ => hv9, fun h => (f4 (nx h)).up hb1, fun h => (f5 (nx h)).up hb1⟩
    refine InvFrom.cons (fun L a W hI hN hD K hK => ?_) ?_
    · obtain ⟨sl18, sl19, sl20, sl21, sl22, sl6, ha, hB, f0, f1, f2, f3, f4, f5⟩ := hI
      subst ha
      have hz := hB.size
      have d0 := f0 (hD 0 (by kernel_rfl))
      subst d0
      have d3 := f3 (hD 3 (by kernel_rfl))
      obtain ⟨A8, l8, c8, rfl, hs8, hl8⟩ := d3
      refine kept_c2 rfl 39 _ _ _ rfl (fenters_of' Tryz.func39 (by kernel_rfl) (by kernel_rfl)) (.agg #[.slice A0 n0 c0, .slice A1 n1 c1, .slice A2 n2 c2]) (.slice A8 l8 c8) (by kernel_rfl) (by kernel_rfl) (HRO2.out W (HB2.out.trans (hB.mono (by omega))) A8 l8 c8 hs8 hl8) ?_
      rintro e W1 ⟨A9, c9, rfl, own9, hb9⟩
      refine ⟨_, rfl, hK.out _ _ ?_⟩
      exact ⟨(.agg #[.slice A0 n0 c0, .slice A1 n1 c1, .slice A2 n2 c2]), sl19, sl20, (.slice A8 l8 c8), (.slice A9 r.length c9), sl6, by kernel_rfl, hB.trans (hb9.mono hz), nf f0, nf f1, nf f2, fun h => (f3 (nx h)).up hb9, fun _ => RowAt.of_own hz own9, fun h => (f5 (nx h)).up hb9⟩
    refine InvFrom.cons (fun L a W hI hN hD K hK => ?_) ?_
    · obtain ⟨sl18, sl19, sl20, sl21, sl22, sl6, ha, hB, f0, f1, f2, f3, f4, f5⟩ := hI
      subst ha
      have hz := hB.size
      have d0 := f0 (hD 0 (by kernel_rfl))
      subst d0
      have d1 := f1 (hD 1 (by kernel_rfl))
      subst d1
      have d2 := f2 (hD 2 (by kernel_rfl))
      subst d2
      have d3 := f3 (hD 3 (by kernel_rfl))
      obtain ⟨A8, l8, c8, rfl, hs8, hl8⟩ := d3
      have d4 := f4 (hD 4 (by kernel_rfl))
      obtain ⟨A9, c9, rfl, own9⟩ := d4
      refine Kept.mk ?_
      simp only [Act.put, pA, pZ, pS]
      go_simp
      refine hK.out _ _ ?_
      exact ⟨(.agg #[.slice A0 n0 c0, .slice A1 n1 c1, .slice A2 n2 c2]), (.agg #[.slice B0 m0 d0, .int .i64 p.fMus, .slice B2 m2 d2, .slice B3 m3 d3]), (.agg #[.int .i64 io, .int .i64 ia, .int .i64 ib, .int .i64 ic]), (.slice A8 l8 c8), (.slice A9 r.length c9), (.slice A9 r.length c9), by kernel_rfl, hB, nf f0, nf f1, nf f2, nf f3, nf f4, fun _ => ⟨A9, c9, rfl, own9⟩⟩
    exact InvFrom.nil
  intro L a w5 hL hI
  obtain ⟨sl18, sl19, sl20, sl21, sl22, sl6, ha, hbw5, hI⟩ := hI
  subst ha
  have hfin := hI.2.2.2.2.2 (hL 5 (by decide))
  obtain ⟨A9, c9, rfl, own9⟩ := hfin
  clear hL hI
  refine Kept.mk ?_
  simp only [Act.put, pA, pZ, pS]
  go_wp2_with fail
  go_ret
  rw [HR.out]
  exact ⟨A9, c9, rfl, own9.wide (fun b hb => ⟨by have := HB2.out.size; omega, hb.2⟩), HB2.out.trans (hbw5.mono HB2.out.size)⟩

set_option maxRecDepth 100000 in
set_option maxHeartbeats 4000000 in
theorem implChoices_any {w : World} {hi : Nat} {p : DProg} {x : DEng} {vs us : List Value} (hp : layProg.see w hi p vs) (he : layEng.see w hi x us) (hhi : hi ≤ w.heap.size) (hOC : OpCells w) (hIC : ItemCells w) (hnp : szProg p ≤ 1048576) (hne : szEng x ≤ 1048576) (n : Int) :
    Calls Tryz.prog 22 #[.agg vs.toArray, .agg us.toArray, .int .i64 n] w fun e w' => e = .returned (.int .i64 (choicesZ p x n)) ∧ Below w.heap.size w w' := by
  have HK := Lib.hid (fun (W : World) (hW : Below w.heap.size w W) => readyAt_any (layProg.keep hp fun k hk => hW.block k (by omega)) (layEng.keep he fun k hk => hW.block k (by omega)) (Nat.le_trans hhi hW.size) (opCells_below hOC hW) (itemCells_below hIC hW (Nat.le_refl _)) hnp hne n)
  have HCO := Lib.hid (fun (W : World) (hW : Below w.heap.size w W) (io ia ib ic : Int) (h11 : io = 11 → 0 ≤ ia ∧ ia < p.fSels.length) => casesOf_any (ib := ib) (ic := ic) (layProg.keep hp (w' := W) fun k hk => hW.block k (by omega)) (Nat.le_trans hhi hW.size) hnp h11)
  have HOI := Lib.hid (fun (W : World) (hW : Below w.heap.size w W) (io ia ib ic : Int) (h11 : io = 11 → 0 ≤ ia ∧ ia < p.fSels.length) (h12 : io = 12 → 0 ≤ ia) => ofInstr_any (ib := ib) (ic := ic) (n := n) (layProg.keep hp (w' := W) fun k hk => hW.block k (by omega)) (Nat.le_trans hhi hW.size) hnp h11 h12)
  have HRO := Lib.hid (fun (W : World) (hW : Below w.heap.size w W) (cs : List DCase) (A : Option Addr) (l c : Nat) (hs : SeenR layCase W W.heap.size A l cs) (hl : l ≤ 1048576) => readyOf_any (cc := c) (layEng.keep he (w' := W) fun k hk => hW.block k (by omega)) (Nat.le_trans hhi hW.size) hne hs (Nat.le_refl _) hl)
  have HEE := Lib.hid (fun (W : World) (hW : Below w.heap.size w W) => layEng.keep he (w' := W) fun k hk => hW.block k (by omega))
  have HN := Lib.hid hne
  have HASK := Lib.hid (fun (h : askB p x n = true) => ask_parts h)
  obtain ⟨B0, m0, d0, B2, m2, d2, B3, m3, d3, rfl, -⟩ := seeProg hp
  obtain ⟨A0, n0, c0, A1, n1, c1, A2, n2, c2, rfl, -⟩ := seeEng he
  have hP0 := box_new w #[.slice B0 m0 d0, .int .i64 p.fMus, .slice B2 m2 d2, .slice B3 m3 d3] 38
  have hP0 := box_keep hP0 ((Below.refl _ _).alloc (Nat.le_refl _) (.cells #[.slice A0 n0 c0, .slice A1 n1 c1, .slice A2 n2 c2] 44)) (by simp only [World.size_alloc]; omega)
  have hE0 := box_new (w.alloc (.cells #[.slice B0 m0 d0, .int .i64 p.fMus, .slice B2 m2 d2, .slice B3 m3 d3] 38)) #[.slice A0 n0 c0, .slice A1 n1 c1, .slice A2 n2 c2] 44
  simp only [World.size_alloc, Nat.add_assoc, Nat.reduceAdd] at hE0
  have hB0 : Below w.heap.size w ((w.alloc (.cells #[.slice B0 m0 d0, .int .i64 p.fMus, .slice B2 m2 d2, .slice B3 m3 d3] 38)).alloc (.cells #[.slice A0 n0 c0, .slice A1 n1 c1, .slice A2 n2 c2] 44)) := ((Below.refl _ _).alloc (Nat.le_refl _) _).alloc (by simp only [World.size_alloc]; omega) _
  have hz0 : w.heap.size + 2 ≤ ((w.alloc (.cells #[.slice B0 m0 d0, .int .i64 p.fMus, .slice B2 m2 d2, .slice B3 m3 d3] 38)).alloc (.cells #[.slice A0 n0 c0, .slice A1 n1 c1, .slice A2 n2 c2] 44)).heap.size := by simp only [World.size_alloc]; omega
  have pe0 := box_cell (j := 0) hE0 rfl
  have pe1 := box_cell (j := 1) hE0 rfl
  have pe2 := box_cell (j := 2) hE0 rfl
  have pp0 := box_cell (j := 0) hP0 rfl
  have pp1 := box_cell (j := 1) hP0 rfl
  have pp2 := box_cell (j := 2) hP0 rfl
  have pp3 := box_cell (j := 3) hP0 rfl
  have HE0 := Lib.hid hE0
  have HP0 := Lib.hid hP0
  have HB0 := Lib.hid hB0
  have HIR := Lib.hid (show askB p x n = true → insR p x n = insAt p x n from fun h => by unfold insR; rw [if_pos h])
  generalize insR p x n = ins at *
  obtain ⟨io, ia, ib, ic⟩ := ins
  simp only at HK
  clear hp he hP0 hE0 hB0 hOC hIC hne hnp
  go_enter Tryz.func22, Tryz.ntmps22
  go_upto_region 1 with (fail)
  generalize ((w.alloc (.cells #[.slice B0 m0 d0, .int .i64 p.fMus, .slice B2 m2 d2, .slice B3 m3 d3] 38)).alloc (.cells #[.slice A0 n0 c0, .slice A1 n1 c1, .slice A2 n2 c2] 44)) = W0 at *
  go_wp2_with fail
  refine (HK.out _ HB0.out).mono ?_
  rintro e w1 ⟨rfl, hb1⟩
  have hz1 := hb1.size
  have HB1 := Lib.hid (HB0.out.trans (hb1.mono (by omega)))
  have HP1 := Lib.hid (box_keep HP0.out hb1 (by omega))
  have HE1 := Lib.hid (box_keep HE0.out hb1 (by omega))
  clear pe0 pe1 pe2 pp0 pp1 pp2 pp3 hb1 HK HP0 HE0 HB0
  go_upto_region 2 with (fail)
  have hbA : Below w1.heap.size w1 (w1.alloc (.cells #[.int .i64 io, .int .i64 ia, .int .i64 ib, .int .i64 ic] 61)) := (Below.refl _ _).alloc (Nat.le_refl _) _
  have hxA := box_new w1 #[.int .i64 io, .int .i64 ia, .int .i64 ib, .int .i64 ic] 61
  have hzA : w1.heap.size + 1 ≤ (w1.alloc (.cells #[.int .i64 io, .int .i64 ia, .int .i64 ib, .int .i64 ic] 61)).heap.size := by simp only [World.size_alloc]; omega
  generalize (w1.alloc (.cells #[.int .i64 io, .int .i64 ia, .int .i64 ib, .int .i64 ic] 61)) = w2 at *
  have HB2 := Lib.hid (HB1.out.trans (hbA.mono (by omega)))
  have HX2 := Lib.hid hxA
  have HP2 := Lib.hid (box_keep HP1.out hbA (by omega))
  have HE2 := Lib.hid (box_keep HE1.out hbA (by omega))
  generalize hbi : w1.heap.size = bi at *
  have hbi1 : w.heap.size + 2 ≤ bi := by omega
  have hbi2 : bi < w2.heap.size := by omega
  clear hbA hxA hbi hzA HP1 HE1 HB1 hz1 hz0
  cases ha : askB p x n
  · have HR0 := Lib.hid (show choicesZ p x n = 0 by unfold choicesZ; rw [if_neg (by rw [ha]; simp)])
    clear ha
    go_wp2_with fail
    go_ret
    exact ⟨by rw [HR0.out] <;> rfl, HB2.out⟩
  have HR := Lib.hid (show choicesZ p x n = (if 1 < ((rdyL x (csAt p (insAt p x n))).length : Int) then ((rdyL x (csAt p (insAt p x n))).length : Int) else 1) by unfold choicesZ; rw [if_pos ha]; split <;> omega)
  have hrl := rdyL_len (HASK.out ha)
  have HQ := Lib.hid (HASK.out ha)
  have hin : insAt p x n = ⟨io, ia, ib, ic⟩ := (HIR.out ha).symm
  have hnm := at_names HQ.out.prog HQ.out.at_
  rw [show atI p (gorAt x n) = ⟨io, ia, ib, ic⟩ from hin] at hnm
  have HNM := Lib.hid hnm
  have HIN := Lib.hid hin
  clear hnm hin HIR HASK
  rw [HIN.out] at HR hrl
  generalize hr : rdyL x (csAt p ⟨io, ia, ib, ic⟩) = r at *
  have HRO2 := Lib.hid (fun (W : World) (hW : Below w.heap.size w W) (A : Option Addr) (l c : Nat) (hs : SeenR layCase W W.heap.size A l (csAt p ⟨io, ia, ib, ic⟩)) (hl : l ≤ 1048576) => show Calls _ _ _ W (MadeRow Lay.int 3 W r) from hr ▸ HRO.out W hW _ A l c hs hl)
  clear hr HRO ha
  go_upto_region 4 with (fail)
  refine wp_region_inv (fun AC0 L a W => ∃ sl18 sl19 sl20 sl21 sl22 sl23 sl24 sl6 : Value, a = ((((((((AC0.put (some 18) sl18).put (some 19) sl19).put (some 20) sl20).put (some 21) sl21).put (some 22) sl22).put (some 23) sl23).put (some 24) sl24).put (some 6) sl6) ∧ Below w2.heap.size w2 W ∧ ((L 0 → sl18 = (.agg #[.slice A0 n0 c0, .slice A1 n1 c1, .slice A2 n2 c2])) ∧ (L 1 → sl19 = (.agg #[.slice B0 m0 d0, .int .i64 p.fMus, .slice B2 m2 d2, .slice B3 m3 d3])) ∧ (L 2 → sl20 = (.agg #[.int .i64 io, .int .i64 ia, .int .i64 ib, .int .i64 ic])) ∧ (L 3 → CasesAt (csAt p ⟨io, ia, ib, ic⟩) W sl21) ∧ (L 4 → RowAt Lay.int 3 w2.heap.size W r sl22) ∧ (L 5 → sl23 = (.int .i64 (r.length : Int))) ∧ (L 6 → sl24 = (.int .i64 (if 1 < (r.length : Int) then (r.length : Int) else 1))) ∧ (L 7 → sl6 = (.int .i64 (if 1 < (r.length : Int) then (r.length : Int) else 1))))) (by kernel_rfl) (by kernel_rfl) ?_ ?_ ?_
  · exact ⟨undef, undef, undef, undef, undef, undef, undef, (.int .i64 0), by kernel_rfl, Below.drew (Below.refl _ _), fun h => absurd h id, fun h => absurd h id, fun h => absurd h id, fun h => absurd h id, fun h => absurd h id, fun h => absurd h id, fun h => absurd h id, fun h => absurd h id⟩
  · intro Q9; refine InvFrom.cons (fun L a W hI hN hD K hK => ?_) ?_
    · obtain ⟨sl18, sl19, sl20, sl21, sl22, sl23, sl24, sl6, ha, hB, f0, f1, f2, f3, f4, f5, f6, f7⟩ := hI
      subst ha
      have hz := hB.size
      have pe0 := box_cell (j := 0) (box_keep HE2.out hB (by omega)) rfl
      have pe1 := box_cell (j := 1) (box_keep HE2.out hB (by omega)) rfl
      have pe2 := box_cell (j := 2) (box_keep HE2.out hB (by omega)) rfl
      refine Kept.mk ?_
      simp only [Act.put, pA, pZ, pS]
      go_simp
      refine hK.out _ _ ?_
      exact ⟨(.agg #[.slice A0 n0 c0, .slice A1 n1 c1, .slice A2 n2 c2]), sl19, sl20, sl21, sl22, sl23, sl24, sl6, by kernel_rfl, hB, fun _ => rfl, nf f1, nf f2, nf f3, nf f4, nf f5, nf f6, nf f7⟩
    refine InvFrom.cons (fun L a W hI hN hD K hK => ?_) ?_
    · obtain ⟨sl18, sl19, sl20, sl21, sl22, sl23, sl24, sl6, ha, hB, f0, f1, f2, f3, f4, f5, f6, f7⟩ := hI
      subst ha
      have hz := hB.size
      have pp0 := box_cell (j := 0) (box_keep HP2.out hB (by omega)) rfl
      have pp1 := box_cell (j := 1) (box_keep HP2.out hB (by omega)) rfl
      have pp2 := box_cell (j := 2) (box_keep HP2.out hB (by omega)) rfl
      have pp3 := box_cell (j := 3) (box_keep HP2.out hB (by omega)) rfl
      refine Kept.mk ?_
      simp only [Act.put, pA, pZ, pS]
      go_simp
      refine hK.out _ _ ?_
      exact ⟨sl18, (.agg #[.slice B0 m0 d0, .int .i64 p.fMus, .slice B2 m2 d2, .slice B3 m3 d3]), sl20, sl21, sl22, sl23, sl24, sl6, by kernel_rfl, hB, nf f0, fun _ => rfl, nf f2, nf f3, nf f4, nf f5, nf f6, nf f7⟩
    refine InvFrom.cons (fun L a W hI hN hD K hK => ?_) ?_
    · obtain ⟨sl18, sl19, sl20, sl21, sl22, sl23, sl24, sl6, ha, hB, f0, f1, f2, f3, f4, f5, f6, f7⟩ := hI
      subst ha
      have hz := hB.size
      have zi0 := box_cell (j := 0) (box_keep HX2.out hB (by omega)) rfl
      have zi1 := box_cell (j := 1) (box_keep HX2.out hB (by omega)) rfl
      have zi2 := box_cell (j := 2) (box_keep HX2.out hB (by omega)) rfl
      have zi3 := box_cell (j := 3) (box_keep HX2.out hB (by omega)) rfl
      refine Kept.mk ?_
      simp only [Act.put, pA, pZ, pS]
      go_simp
      refine hK.out _ _ ?_
      exact ⟨sl18, sl19, (.agg #[.int .i64 io, .int .i64 ia, .int .i64 ib, .int .i64 ic]), sl21, sl22, sl23, sl24, sl6, by kernel_rfl, hB, nf f0, nf f1, fun _ => rfl, nf f3, nf f4, nf f5, nf f6, nf f7⟩
    refine InvFrom.cons (fun L a W hI hN hD K hK => ?_) ?_
    · obtain ⟨sl18, sl19, sl20, sl21, sl22, sl23, sl24, sl6, ha, hB, f0, f1, f2, f3, f4, f5, f6, f7⟩ := hI
      subst ha
      have hz := hB.size
      have d1 := f1 (hD 1 (by kernel_rfl))
      subst d1
      have d2 := f2 (hD 2 (by kernel_rfl))
      subst d2
      refine kept_c2 rfl 40 _ _ _ rfl (fenters_of' Tryz.func40 (by kernel_rfl) (by kernel_rfl)) (.agg #[.slice B0 m0 d0, .int .i64 p.fMus, .slice B2 m2 d2, .slice B3 m3 d3]) (.agg #[.int .i64 io, .int .i64 ia, .int .i64 ib, .int .i64 ic]) (by kernel_rfl) (by kernel_rfl) (HCO.out W (HB2.out.trans (hB.mono (by omega))) io ia ib ic (fun h => (HNM.out.2.2.1 h).1)) ?_
      rintro e W1 ⟨v9, rfl, hv9, hb1⟩
      refine ⟨_, rfl, hK.out _ _ ?_⟩
      exact ⟨sl18, (.agg #[.slice B0 m0 d0, .int .i64 p.fMus, .slice B2 m2 d2, .slice B3 m3 d3]), (.agg #[.int .i64 io, .int .i64 ia, .int .i64 ib, .int .i64 ic]), v9, sl22, sl23, sl24, sl6, by kernel_rfl, hB.trans (hb1.mono hz), nf f0, nf f1, nf f2, fun _ => hv9, fun h => (f4 (nx h)).up hb1, nf f5, nf f6, nf f7⟩
    refine InvFrom.cons (fun L a W hI hN hD K hK => ?_) ?_
    · obtain ⟨sl18, sl19, sl20, sl21, sl22, sl23, sl24, sl6, ha, hB, f0, f1, f2, f3, f4, f5, f6, f7⟩ := hI
      subst ha
      have hz := hB.size
      have d0 := f0 (hD 0 (by kernel_rfl))
      subst d0
      have d3 := f3 (hD 3 (by kernel_rfl))
      obtain ⟨A8, l8, c8, rfl, hs8, hl8⟩ := d3
      refine kept_c2 rfl 39 _ _ _ rfl (fenters_of' Tryz.func39 (by kernel_rfl) (by kernel_rfl)) (.agg #[.slice A0 n0 c0, .slice A1 n1 c1, .slice A2 n2 c2]) (.slice A8 l8 c8) (by kernel_rfl) (by kernel_rfl) (HRO2.out W (HB2.out.trans (hB.mono (by omega))) A8 l8 c8 hs8 hl8) ?_
      rintro e W1 ⟨A9, c9, rfl, own9, hb9⟩
      refine ⟨_, rfl, hK.out _ _ ?_⟩
      exact ⟨(.agg #[.slice A0 n0 c0, .slice A1 n1 c1, .slice A2 n2 c2]), sl19, sl20, (.slice A8 l8 c8), (.slice A9 r.length c9), sl23, sl24, sl6, by kernel_rfl, hB.trans (hb9.mono hz), nf f0, nf f1, nf f2, fun h => (f3 (nx h)).up hb9, fun _ => RowAt.of_own hz own9, nf f5, nf f6, nf f7⟩
    refine InvFrom.cons (fun L a W hI hN hD K hK => ?_) ?_
    · obtain ⟨sl18, sl19, sl20, sl21, sl22, sl23, sl24, sl6, ha, hB, f0, f1, f2, f3, f4, f5, f6, f7⟩ := hI
      subst ha
      have hz := hB.size
      have d4 := f4 (hD 4 (by kernel_rfl))
      obtain ⟨A9, c9, rfl, own9⟩ := d4
      refine Kept.mk ?_
      simp only [Act.put, pA, pZ, pS]
      go_simp
      refine hK.out _ _ ?_
      exact ⟨sl18, sl19, sl20, sl21, (.slice A9 r.length c9), (.int .i64 (r.length : Int)), sl24, sl6, by kernel_rfl, hB, nf f0, nf f1, nf f2, nf f3, nf f4, fun _ => rfl, nf f6, nf f7⟩
    refine InvFrom.cons (fun L a W hI hN hD K hK => ?_) ?_
    · obtain ⟨sl18, sl19, sl20, sl21, sl22, sl23, sl24, sl6, ha, hB, f0, f1, f2, f3, f4, f5, f6, f7⟩ := hI
      subst ha
      have hz := hB.size
      have d5 := f5 (hD 5 (by kernel_rfl))
      subst d5
      refine Kept.mk ?_
      simp only [Act.put, pA, pZ, pS]
      go_simp
      refine hK.out _ _ ?_
      exact ⟨sl18, sl19, sl20, sl21, sl22, (.int .i64 (r.length : Int)), (.int .i64 (if 1 < (r.length : Int) then (r.length : Int) else 1)), sl6, by kernel_rfl, hB, nf f0, nf f1, nf f2, nf f3, nf f4, nf f5, fun _ => rfl, nf f7⟩
    refine InvFrom.cons (fun L a W hI hN hD K hK => ?_) ?_
    · obtain ⟨sl18, sl19, sl20, sl21, sl22, sl23, sl24, sl6, ha, hB, f0, f1, f2, f3, f4, f5, f6, f7⟩ := hI
      subst ha
      have hz := hB.size
      have d0 := f0 (hD 0 (by kernel_rfl))
      subst d0
      have d1 := f1 (hD 1 (by kernel_rfl))
      subst d1
      have d2 := f2 (hD 2 (by kernel_rfl))
      subst d2
      have d3 := f3 (hD 3 (by kernel_rfl))
      obtain ⟨A8, l8, c8, rfl, hs8, hl8⟩ := d3
      have d4 := f4 (hD 4 (by kernel_rfl))
      obtain ⟨A9, c9, rfl, own9⟩ := d4
      have d5 := f5 (hD 5 (by kernel_rfl))
      subst d5
      have d6 := f6 (hD 6 (by kernel_rfl))
      subst d6
      refine Kept.mk ?_
      simp only [Act.put, pA, pZ, pS]
      go_simp
      refine hK.out _ _ ?_
      exact ⟨(.agg #[.slice A0 n0 c0, .slice A1 n1 c1, .slice A2 n2 c2]), (.agg #[.slice B0 m0 d0, .int .i64 p.fMus, .slice B2 m2 d2, .slice B3 m3 d3]), (.agg #[.int .i64 io, .int .i64 ia, .int .i64 ib, .int .i64 ic]), (.slice A8 l8 c8), (.slice A9 r.length c9), (.int .i64 (r.length : Int)), (.int .i64 (if 1 < (r.length : Int) then (r.length : Int) else 1)), (.int .i64 (if 1 < (r.length : Int) then (r.length : Int) else 1)), by kernel_rfl, hB, nf f0, nf f1, nf f2, nf f3, nf f4, nf f5, nf f6, fun _ => rfl⟩
    exact InvFrom.nil
  intro L a w5 hL hI
  obtain ⟨sl18, sl19, sl20, sl21, sl22, sl23, sl24, sl6, ha, hbw5, hI⟩ := hI
  subst ha
  have hfin := hI.2.2.2.2.2.2.2 (hL 7 (by decide))
  subst hfin
  clear hL hI
  refine Kept.mk ?_
  simp only [Act.put, pA, pZ, pS]
  generalize (if 1 < (r.length : Int) then (r.length : Int) else 1) = mx at *
  go_wp2_with fail
  go_ret
  exact ⟨by rw [HR.out] <;> rfl, HB2.out.trans (hbw5.mono HB2.out.size)⟩

set_option maxRecDepth 100000 in
set_option maxHeartbeats 4000000 in
theorem implBlocks_any {w : World} {hi : Nat} {p : DProg} {x : DEng} {vs us : List Value} (hp : layProg.see w hi p vs) (he : layEng.see w hi x us) (hhi : hi ≤ w.heap.size) (hOC : OpCells w) (hIC : ItemCells w) (hnp : szProg p ≤ 1048576) (hne : szEng x ≤ 1048576) (n : Int) :
    Calls Tryz.prog 20 #[.agg vs.toArray, .agg us.toArray, .int .i64 n] w fun e w' => e = .returned (.bool (blocksB p x n)) ∧ Below w.heap.size w w' := by
  have HK := Lib.hid (fun (W : World) (hW : Below w.heap.size w W) => readyAt_any (layProg.keep hp fun k hk => hW.block k (by omega)) (layEng.keep he fun k hk => hW.block k (by omega)) (Nat.le_trans hhi hW.size) (opCells_below hOC hW) (itemCells_below hIC hW (Nat.le_refl _)) hnp hne n)
  have HCO := Lib.hid (fun (W : World) (hW : Below w.heap.size w W) (io ia ib ic : Int) (h11 : io = 11 → 0 ≤ ia ∧ ia < p.fSels.length) => casesOf_any (ib := ib) (ic := ic) (layProg.keep hp (w' := W) fun k hk => hW.block k (by omega)) (Nat.le_trans hhi hW.size) hnp h11)
  have HOI := Lib.hid (fun (W : World) (hW : Below w.heap.size w W) (io ia ib ic : Int) (h11 : io = 11 → 0 ≤ ia ∧ ia < p.fSels.length) (h12 : io = 12 → 0 ≤ ia) => ofInstr_any (ib := ib) (ic := ic) (n := n) (layProg.keep hp (w' := W) fun k hk => hW.block k (by omega)) (Nat.le_trans hhi hW.size) hnp h11 h12)
  have HRO := Lib.hid (fun (W : World) (hW : Below w.heap.size w W) (cs : List DCase) (A : Option Addr) (l c : Nat) (hs : SeenR layCase W W.heap.size A l cs) (hl : l ≤ 1048576) => readyOf_any (cc := c) (layEng.keep he (w' := W) fun k hk => hW.block k (by omega)) (Nat.le_trans hhi hW.size) hne hs (Nat.le_refl _) hl)
  have HEE := Lib.hid (fun (W : World) (hW : Below w.heap.size w W) => layEng.keep he (w' := W) fun k hk => hW.block k (by omega))
  have HN := Lib.hid hne
  have HASK := Lib.hid (fun (h : askB p x n = true) => ask_parts h)
  obtain ⟨B0, m0, d0, B2, m2, d2, B3, m3, d3, rfl, -⟩ := seeProg hp
  obtain ⟨A0, n0, c0, A1, n1, c1, A2, n2, c2, rfl, -⟩ := seeEng he
  have hP0 := box_new w #[.slice B0 m0 d0, .int .i64 p.fMus, .slice B2 m2 d2, .slice B3 m3 d3] 38
  have hP0 := box_keep hP0 ((Below.refl _ _).alloc (Nat.le_refl _) (.cells #[.slice A0 n0 c0, .slice A1 n1 c1, .slice A2 n2 c2] 44)) (by simp only [World.size_alloc]; omega)
  have hE0 := box_new (w.alloc (.cells #[.slice B0 m0 d0, .int .i64 p.fMus, .slice B2 m2 d2, .slice B3 m3 d3] 38)) #[.slice A0 n0 c0, .slice A1 n1 c1, .slice A2 n2 c2] 44
  simp only [World.size_alloc, Nat.add_assoc, Nat.reduceAdd] at hE0
  have hB0 : Below w.heap.size w ((w.alloc (.cells #[.slice B0 m0 d0, .int .i64 p.fMus, .slice B2 m2 d2, .slice B3 m3 d3] 38)).alloc (.cells #[.slice A0 n0 c0, .slice A1 n1 c1, .slice A2 n2 c2] 44)) := ((Below.refl _ _).alloc (Nat.le_refl _) _).alloc (by simp only [World.size_alloc]; omega) _
  have hz0 : w.heap.size + 2 ≤ ((w.alloc (.cells #[.slice B0 m0 d0, .int .i64 p.fMus, .slice B2 m2 d2, .slice B3 m3 d3] 38)).alloc (.cells #[.slice A0 n0 c0, .slice A1 n1 c1, .slice A2 n2 c2] 44)).heap.size := by simp only [World.size_alloc]; omega
  have pe0 := box_cell (j := 0) hE0 rfl
  have pe1 := box_cell (j := 1) hE0 rfl
  have pe2 := box_cell (j := 2) hE0 rfl
  have pp0 := box_cell (j := 0) hP0 rfl
  have pp1 := box_cell (j := 1) hP0 rfl
  have pp2 := box_cell (j := 2) hP0 rfl
  have pp3 := box_cell (j := 3) hP0 rfl
  have HE0 := Lib.hid hE0
  have HP0 := Lib.hid hP0
  have HB0 := Lib.hid hB0
  have HIR := Lib.hid (show askB p x n = true → insR p x n = insAt p x n from fun h => by unfold insR; rw [if_pos h])
  generalize insR p x n = ins at *
  obtain ⟨io, ia, ib, ic⟩ := ins
  simp only at HK
  clear hp he hP0 hE0 hB0 hOC hIC hne hnp
  go_enter Tryz.func20, Tryz.ntmps20
  go_upto_region 1 with (fail)
  generalize ((w.alloc (.cells #[.slice B0 m0 d0, .int .i64 p.fMus, .slice B2 m2 d2, .slice B3 m3 d3] 38)).alloc (.cells #[.slice A0 n0 c0, .slice A1 n1 c1, .slice A2 n2 c2] 44)) = W0 at *
  go_wp2_with fail
  refine (HK.out _ HB0.out).mono ?_
  rintro e w1 ⟨rfl, hb1⟩
  have hz1 := hb1.size
  have HB1 := Lib.hid (HB0.out.trans (hb1.mono (by omega)))
  have HP1 := Lib.hid (box_keep HP0.out hb1 (by omega))
  have HE1 := Lib.hid (box_keep HE0.out hb1 (by omega))
  clear pe0 pe1 pe2 pp0 pp1 pp2 pp3 hb1 HK HP0 HE0 HB0
  go_upto_region 2 with (fail)
  have hbA : Below w1.heap.size w1 (w1.alloc (.cells #[.int .i64 io, .int .i64 ia, .int .i64 ib, .int .i64 ic] 61)) := (Below.refl _ _).alloc (Nat.le_refl _) _
  have hxA := box_new w1 #[.int .i64 io, .int .i64 ia, .int .i64 ib, .int .i64 ic] 61
  have hzA : w1.heap.size + 1 ≤ (w1.alloc (.cells #[.int .i64 io, .int .i64 ia, .int .i64 ib, .int .i64 ic] 61)).heap.size := by simp only [World.size_alloc]; omega
  generalize (w1.alloc (.cells #[.int .i64 io, .int .i64 ia, .int .i64 ib, .int .i64 ic] 61)) = w2 at *
  have HB2 := Lib.hid (HB1.out.trans (hbA.mono (by omega)))
  have HX2 := Lib.hid hxA
  have HP2 := Lib.hid (box_keep HP1.out hbA (by omega))
  have HE2 := Lib.hid (box_keep HE1.out hbA (by omega))
  generalize hbi : w1.heap.size = bi at *
  have hbi1 : w.heap.size + 2 ≤ bi := by omega
  have hbi2 : bi < w2.heap.size := by omega
  clear hbA hxA hbi hzA HP1 HE1 HB1 hz1 hz0
  cases ha : askB p x n
  · have HR0 := Lib.hid (show blocksB p x n = false by unfold blocksB; rw [ha]; rfl)
    clear ha
    refine wp_region_inv (fun AC0 L a W => ∃ sl16 sl17 sl18 sl19 sl20 sl21 sl22 sl23 sl24 sl25 sl6 : Value, a = (((((((((((AC0.put (some 16) sl16).put (some 17) sl17).put (some 18) sl18).put (some 19) sl19).put (some 20) sl20).put (some 21) sl21).put (some 22) sl22).put (some 23) sl23).put (some 24) sl24).put (some 25) sl25).put (some 6) sl6) ∧ Below w2.heap.size w2 W ∧ ((L 0 → sl16 = (.bool false)) ∧ (L 1 → sl17 = (.bool false)) ∧ (L 2 → True) ∧ (L 3 → True) ∧ (L 4 → True) ∧ (L 5 → True) ∧ (L 6 → True) ∧ (L 7 → True) ∧ (L 8 → True) ∧ (L 9 → sl25 = (.bool false)) ∧ (L 10 → sl6 = (.bool false)))) (by kernel_rfl) (by kernel_rfl) ?_ ?_ ?_
    · exact ⟨undef, undef, undef, undef, undef, undef, undef, undef, undef, undef, (.bool false), by kernel_rfl, Below.drew (Below.refl _ _), fun h => absurd h id, fun h => absurd h id, fun h => absurd h id, fun h => absurd h id, fun h => absurd h id, fun h => absurd h id, fun h => absurd h id, fun h => absurd h id, fun h => absurd h id, fun h => absurd h id, fun h => absurd h id⟩
    · intro Q9; refine InvFrom.cons (fun L a W hI hN hD K hK => ?_) ?_
      · obtain ⟨sl16, sl17, sl18, sl19, sl20, sl21, sl22, sl23, sl24, sl25, sl6, ha, hB, f0, f1, f2, f3, f4, f5, f6, f7, f8, f9, f10⟩ := hI
        subst ha
        have hz := hB.size
        refine Kept.mk ?_
        simp only [Act.put, pA, pZ, pS]
        go_simp
        refine hK.out _ _ ?_
        exact ⟨(.bool false), sl17, sl18, sl19, sl20, sl21, sl22, sl23, sl24, sl25, sl6, by kernel_rfl, hB, fun _ => rfl, nf f1, nf f2, nf f3, nf f4, nf f5, nf f6, nf f7, nf f8, nf f9, nf f10⟩
      refine InvFrom.cons (fun L a W hI hN hD K hK => ?_) ?_
      · obtain ⟨sl16, sl17, sl18, sl19, sl20, sl21, sl22, sl23, sl24, sl25, sl6, ha, hB, f0, f1, f2, f3, f4, f5, f6, f7, f8, f9, f10⟩ := hI
        subst ha
        have hz := hB.size
        have d0 := f0 (hD 0 (by kernel_rfl))
        subst d0
        refine Kept.mk ?_
        simp only [Act.put, pA, pZ, pS]
        go_simp
        refine hK.out _ _ ?_
        exact ⟨(.bool false), (.bool false), sl18, sl19, sl20, sl21, sl22, sl23, sl24, sl25, sl6, by kernel_rfl, hB, nf f0, fun _ => rfl, nf f2, nf f3, nf f4, nf f5, nf f6, nf f7, nf f8, nf f9, nf f10⟩
      refine InvFrom.cons (fun L a W hI hN hD K hK => ?_) ?_
      · obtain ⟨sl16, sl17, sl18, sl19, sl20, sl21, sl22, sl23, sl24, sl25, sl6, ha, hB, f0, f1, f2, f3, f4, f5, f6, f7, f8, f9, f10⟩ := hI
        subst ha
        have hz := hB.size
        have d1 := f1 (hD 1 (by kernel_rfl))
        subst d1
        refine Kept.mk ?_
        simp only [Act.put, pA, pZ, pS]
        go_simp
        refine hK.out _ _ ?_
        exact ⟨sl16, (.bool false), undef, sl19, sl20, sl21, sl22, sl23, sl24, sl25, sl6, by kernel_rfl, hB, nf f0, nf f1, fun _ => trivial, nf f3, nf f4, nf f5, nf f6, nf f7, nf f8, nf f9, nf f10⟩
      refine InvFrom.cons (fun L a W hI hN hD K hK => ?_) ?_
      · obtain ⟨sl16, sl17, sl18, sl19, sl20, sl21, sl22, sl23, sl24, sl25, sl6, ha, hB, f0, f1, f2, f3, f4, f5, f6, f7, f8, f9, f10⟩ := hI
        subst ha
        have hz := hB.size
        have d1 := f1 (hD 1 (by kernel_rfl))
        subst d1
        refine Kept.mk ?_
        simp only [Act.put, pA, pZ, pS]
        go_simp
        refine hK.out _ _ ?_
        exact ⟨sl16, (.bool false), sl18, undef, sl20, sl21, sl22, sl23, sl24, sl25, sl6, by kernel_rfl, hB, nf f0, nf f1, nf f2, fun _ => trivial, nf f4, nf f5, nf f6, nf f7, nf f8, nf f9, nf f10⟩
      refine InvFrom.cons (fun L a W hI hN hD K hK => ?_) ?_
      · obtain ⟨sl16, sl17, sl18, sl19, sl20, sl21, sl22, sl23, sl24, sl25, sl6, ha, hB, f0, f1, f2, f3, f4, f5, f6, f7, f8, f9, f10⟩ := hI
        subst ha
        have hz := hB.size
        have d1 := f1 (hD 1 (by kernel_rfl))
        subst d1
        refine Kept.mk ?_
        simp only [Act.put, pA, pZ, pS]
        go_simp
        refine hK.out _ _ ?_
        exact ⟨sl16, (.bool false), sl18, sl19, undef, sl21, sl22, sl23, sl24, sl25, sl6, by kernel_rfl, hB, nf f0, nf f1, nf f2, nf f3, fun _ => trivial, nf f5, nf f6, nf f7, nf f8, nf f9, nf f10⟩
      refine InvFrom.cons (fun L a W hI hN hD K hK => ?_) ?_
      · obtain ⟨sl16, sl17, sl18, sl19, sl20, sl21, sl22, sl23, sl24, sl25, sl6, ha, hB, f0, f1, f2, f3, f4, f5, f6, f7, f8, f9, f10⟩ := hI
        subst ha
        have hz := hB.size
        have d1 := f1 (hD 1 (by kernel_rfl))
        subst d1
        refine Kept.mk ?_
        simp only [Act.put, pA, pZ, pS]
        go_simp
        refine hK.out _ _ ?_
        exact ⟨sl16, (.bool false), sl18, sl19, sl20, undef, sl22, sl23, sl24, sl25, sl6, by kernel_rfl, hB, nf f0, nf f1, nf f2, nf f3, nf f4, fun _ => trivial, nf f6, nf f7, nf f8, nf f9, nf f10⟩
      refine InvFrom.cons (fun L a W hI hN hD K hK => ?_) ?_
      · obtain ⟨sl16, sl17, sl18, sl19, sl20, sl21, sl22, sl23, sl24, sl25, sl6, ha, hB, f0, f1, f2, f3, f4, f5, f6, f7, f8, f9, f10⟩ := hI
        subst ha
        have hz := hB.size
        have d1 := f1 (hD 1 (by kernel_rfl))
        subst d1
        refine Kept.mk ?_
        simp only [Act.put, pA, pZ, pS]
        go_simp
        refine hK.out _ _ ?_
        exact ⟨sl16, (.bool false), sl18, sl19, sl20, sl21, undef, sl23, sl24, sl25, sl6, by kernel_rfl, hB, nf f0, nf f1, nf f2, nf f3, nf f4, nf f5, fun _ => trivial, nf f7, nf f8, nf f9, nf f10⟩
      refine InvFrom.cons (fun L a W hI hN hD K hK => ?_) ?_
      · obtain ⟨sl16, sl17, sl18, sl19, sl20, sl21, sl22, sl23, sl24, sl25, sl6, ha, hB, f0, f1, f2, f3, f4, f5, f6, f7, f8, f9, f10⟩ := hI
        subst ha
        have hz := hB.size
        have d1 := f1 (hD 1 (by kernel_rfl))
        subst d1
        refine Kept.mk ?_
        simp only [Act.put, pA, pZ, pS]
        go_simp
        refine hK.out _ _ ?_
        exact ⟨sl16, (.bool false), sl18, sl19, sl20, sl21, sl22, undef, sl24, sl25, sl6, by kernel_rfl, hB, nf f0, nf f1, nf f2, nf f3, nf f4, nf f5, nf f6, fun _ => trivial, nf f8, nf f9, nf f10⟩
      refine InvFrom.cons (fun L a W hI hN hD K hK => ?_) ?_
      · obtain ⟨sl16, sl17, sl18, sl19, sl20, sl21, sl22, sl23, sl24, sl25, sl6, ha, hB, f0, f1, f2, f3, f4, f5, f6, f7, f8, f9, f10⟩ := hI
        subst ha
        have hz := hB.size
        have d1 := f1 (hD 1 (by kernel_rfl))
        subst d1
        refine Kept.mk ?_
        simp only [Act.put, pA, pZ, pS]
        go_simp
        refine hK.out _ _ ?_
        exact ⟨sl16, (.bool false), sl18, sl19, sl20, sl21, sl22, sl23, undef, sl25, sl6, by kernel_rfl, hB, nf f0, nf f1, nf f2, nf f3, nf f4, nf f5, nf f6, nf f7, fun _ => trivial, nf f9, nf f10⟩
      refine InvFrom.cons (fun L a W hI hN hD K hK => ?_) ?_
      · obtain ⟨sl16, sl17, sl18, sl19, sl20, sl21, sl22, sl23, sl24, sl25, sl6, ha, hB, f0, f1, f2, f3, f4, f5, f6, f7, f8, f9, f10⟩ := hI
        subst ha
        have hz := hB.size
        have d1 := f1 (hD 1 (by kernel_rfl))
        subst d1
        refine Kept.mk ?_
        simp only [Act.put, pA, pZ, pS]
        go_simp
        refine hK.out _ _ ?_
        exact ⟨sl16, (.bool false), sl18, sl19, sl20, sl21, sl22, sl23, sl24, (.bool false), sl6, by kernel_rfl, hB, nf f0, nf f1, nf f2, nf f3, nf f4, nf f5, nf f6, nf f7, nf f8, fun _ => rfl, nf f10⟩
      refine InvFrom.cons (fun L a W hI hN hD K hK => ?_) ?_
      · obtain ⟨sl16, sl17, sl18, sl19, sl20, sl21, sl22, sl23, sl24, sl25, sl6, ha, hB, f0, f1, f2, f3, f4, f5, f6, f7, f8, f9, f10⟩ := hI
        subst ha
        have hz := hB.size
        have d0 := f0 (hD 0 (by kernel_rfl))
        subst d0
        have d1 := f1 (hD 1 (by kernel_rfl))
        subst d1
        have d9 := f9 (hD 9 (by kernel_rfl))
        subst d9
        refine Kept.mk ?_
        simp only [Act.put, pA, pZ, pS]
        go_simp
        refine hK.out _ _ ?_
        exact ⟨(.bool false), (.bool false), sl18, sl19, sl20, sl21, sl22, sl23, sl24, (.bool false), (.bool false), by kernel_rfl, hB, nf f0, nf f1, nf f2, nf f3, nf f4, nf f5, nf f6, nf f7, nf f8, nf f9, fun _ => rfl⟩
      exact InvFrom.nil
    intro L a w5 hL hI
    obtain ⟨sl16, sl17, sl18, sl19, sl20, sl21, sl22, sl23, sl24, sl25, sl6, ha, hbw5, hI⟩ := hI
    subst ha
    have hfin := hI.2.2.2.2.2.2.2.2.2.2 (hL 10 (by decide))
    subst hfin
    clear hL hI
    refine Kept.mk ?_
    simp only [Act.put, pA, pZ, pS]
    go_wp2_with fail
    go_ret
    exact ⟨by rw [HR0.out] <;> rfl, HB2.out.trans (hbw5.mono HB2.out.size)⟩
  have HR := Lib.hid (show blocksB p x n = !goB p x (insAt p x n) n by unfold blocksB; rw [ha]; rfl)
  have HQ := Lib.hid (HASK.out ha)
  have hin : insAt p x n = ⟨io, ia, ib, ic⟩ := (HIR.out ha).symm
  have hnm := at_names HQ.out.prog HQ.out.at_
  rw [show atI p (gorAt x n) = ⟨io, ia, ib, ic⟩ from hin] at hnm
  have HNM := Lib.hid hnm
  have HIN := Lib.hid hin
  clear hnm hin HIR HASK
  rw [HIN.out] at HR
  obtain ⟨gb, hgb⟩ : ∃ gb, gb = goB p x ⟨io, ia, ib, ic⟩ n := ⟨_, rfl⟩
  have HGD := Lib.hid (show GoodI ⟨io, ia, ib, ic⟩ x from fun h => ⟨(HNM.out.2.2.2 h).1, (owner_low HQ.out.eng (HNM.out.2.2.2 h).1 (HNM.out.2.2.2 h).2).1⟩)
  have HCV := Lib.hid (fun (W : World) (hW : Below w.heap.size w W) (f : Nat) (cp : Array Value) (h : RdyV (GoodI ⟨io, ia, ib, ic⟩) (fun x => goB p x ⟨io, ia, ib, ic⟩ n) W f cp) => show Calls Tryz.prog f (#[.agg #[.slice A0 n0 c0, .slice A1 n1 c1, .slice A2 n2 c2]] ++ cp) W fun e W' => e = .returned (.bool gb) ∧ Below W.heap.size W W' from by rw [hgb]; exact h.2 W (Below.refl _ _) hi x _ (HEE.out W hW) (Nat.le_trans hhi hW.size) HN.out HGD.out)
  rw [← hgb] at HR
  clear ha hgb
  refine wp_region_inv (fun AC0 L a W => ∃ sl16 sl17 sl18 sl19 sl20 sl21 sl22 sl23 sl24 sl25 sl6 : Value, a = (((((((((((AC0.put (some 16) sl16).put (some 17) sl17).put (some 18) sl18).put (some 19) sl19).put (some 20) sl20).put (some 21) sl21).put (some 22) sl22).put (some 23) sl23).put (some 24) sl24).put (some 25) sl25).put (some 6) sl6) ∧ Below w2.heap.size w2 W ∧ ((L 0 → sl16 = (.bool true)) ∧ (L 1 → sl17 = (.bool true)) ∧ (L 2 → sl18 = (.agg #[.slice B0 m0 d0, .int .i64 p.fMus, .slice B2 m2 d2, .slice B3 m3 d3])) ∧ (L 3 → sl19 = (.agg #[.int .i64 io, .int .i64 ia, .int .i64 ib, .int .i64 ic])) ∧ (L 4 → sl20 = (.int .i64 n)) ∧ (L 5 → RdyAt (GoodI ⟨io, ia, ib, ic⟩) (fun x => goB p x ⟨io, ia, ib, ic⟩ n) W sl21) ∧ (L 6 → sl22 = (.agg #[.slice A0 n0 c0, .slice A1 n1 c1, .slice A2 n2 c2])) ∧ (L 7 → sl23 = (.bool gb)) ∧ (L 8 → sl24 = (.bool (!gb))) ∧ (L 9 → sl25 = (.bool (!gb))) ∧ (L 10 → sl6 = (.bool (!gb))))) (by kernel_rfl) (by kernel_rfl) ?_ ?_ ?_
  · exact ⟨undef, undef, undef, undef, undef, undef, undef, undef, undef, undef, (.bool false), by kernel_rfl, Below.drew (Below.refl _ _), fun h => absurd h id, fun h => absurd h id, fun h => absurd h id, fun h => absurd h id, fun h => absurd h id, fun h => absurd h id, fun h => absurd h id, fun h => absurd h id, fun h => absurd h id, fun h => absurd h id, fun h => absurd h id⟩
  · intro Q9; refine InvFrom.cons (fun L a W hI hN hD K hK => ?_) ?_
    · obtain ⟨sl16, sl17, sl18, sl19, sl20, sl21, sl22, sl23, sl24, sl25, sl6, ha, hB, f0, f1, f2, f3, f4, f5, f6, f7, f8, f9, f10⟩ := hI
      subst ha
      have hz := hB.size
      refine Kept.mk ?_
      simp only [Act.put, pA, pZ, pS]
      go_simp
      refine hK.out _ _ ?_
      exact ⟨(.bool true), sl17, sl18, sl19, sl20, sl21, sl22, sl23, sl24, sl25, sl6, by kernel_rfl, hB, fun _ => rfl, nf f1, nf f2, nf f3, nf f4, nf f5, nf f6, nf f7, nf f8, nf f9, nf f10⟩
    refine InvFrom.cons (fun L a W hI hN hD K hK => ?_) ?_
    · obtain ⟨sl16, sl17, sl18, sl19, sl20, sl21, sl22, sl23, sl24, sl25, sl6, ha, hB, f0, f1, f2, f3, f4, f5, f6, f7, f8, f9, f10⟩ := hI
      subst ha
      have hz := hB.size
      have d0 := f0 (hD 0 (by kernel_rfl))
      subst d0
      refine Kept.mk ?_
      simp only [Act.put, pA, pZ, pS]
      go_simp
      refine hK.out _ _ ?_
      exact ⟨(.bool true), (.bool true), sl18, sl19, sl20, sl21, sl22, sl23, sl24, sl25, sl6, by kernel_rfl, hB, nf f0, fun _ => rfl, nf f2, nf f3, nf f4, nf f5, nf f6, nf f7, nf f8, nf f9, nf f10⟩
    refine InvFrom.cons (fun L a W hI hN hD K hK => ?_) ?_
    · obtain ⟨sl16, sl17, sl18, sl19, sl20, sl21, sl22, sl23, sl24, sl25, sl6, ha, hB, f0, f1, f2, f3, f4, f5, f6, f7, f8, f9, f10⟩ := hI
      subst ha
      have hz := hB.size
      have d1 := f1 (hD 1 (by kernel_rfl))
      subst d1
      have pp0 := box_cell (j := 0) (box_keep HP2.out hB (by omega)) rfl
      have pp1 := box_cell (j := 1) (box_keep HP2.out hB (by omega)) rfl
      have pp2 := box_cell (j := 2) (box_keep HP2.out hB (by omega)) rfl
      have pp3 := box_cell (j := 3) (box_keep HP2.out hB (by omega)) rfl
      refine Kept.mk ?_
      simp only [Act.put, pA, pZ, pS]
      go_simp
      refine hK.out _ _ ?_
      exact ⟨sl16, (.bool true), (.agg #[.slice B0 m0 d0, .int .i64 p.fMus, .slice B2 m2 d2, .slice B3 m3 d3]), sl19, sl20, sl21, sl22, sl23, sl24, sl25, sl6, by kernel_rfl, hB, nf f0, nf f1, fun _ => rfl, nf f3, nf f4, nf f5, nf f6, nf f7, nf f8, nf f9, nf f10⟩
    refine InvFrom.cons (fun L a W hI hN hD K hK => ?_) ?_
    · obtain ⟨sl16, sl17, sl18, sl19, sl20, sl21, sl22, sl23, sl24, sl25, sl6, ha, hB, f0, f1, f2, f3, f4, f5, f6, f7, f8, f9, f10⟩ := hI
      subst ha
      have hz := hB.size
      have d1 := f1 (hD 1 (by kernel_rfl))
      subst d1
      have zi0 := box_cell (j := 0) (box_keep HX2.out hB (by omega)) rfl
      have zi1 := box_cell (j := 1) (box_keep HX2.out hB (by omega)) rfl
      have zi2 := box_cell (j := 2) (box_keep HX2.out hB (by omega)) rfl
      have zi3 := box_cell (j := 3) (box_keep HX2.out hB (by omega)) rfl
      refine Kept.mk ?_
      simp only [Act.put, pA, pZ, pS]
      go_simp
      refine hK.out _ _ ?_
      exact ⟨sl16, (.bool true), sl18, (.agg #[.int .i64 io, .int .i64 ia, .int .i64 ib, .int .i64 ic]), sl20, sl21, sl22, sl23, sl24, sl25, sl6, by kernel_rfl, hB, nf f0, nf f1, nf f2, fun _ => rfl, nf f4, nf f5, nf f6, nf f7, nf f8, nf f9, nf f10⟩
    refine InvFrom.cons (fun L a W hI hN hD K hK => ?_) ?_
    · obtain ⟨sl16, sl17, sl18, sl19, sl20, sl21, sl22, sl23, sl24, sl25, sl6, ha, hB, f0, f1, f2, f3, f4, f5, f6, f7, f8, f9, f10⟩ := hI
      subst ha
      have hz := hB.size
      have d1 := f1 (hD 1 (by kernel_rfl))
      subst d1
      refine Kept.mk ?_
      simp only [Act.put, pA, pZ, pS]
      go_simp
      refine hK.out _ _ ?_
      exact ⟨sl16, (.bool true), sl18, sl19, (.int .i64 n), sl21, sl22, sl23, sl24, sl25, sl6, by kernel_rfl, hB, nf f0, nf f1, nf f2, nf f3, fun _ => rfl, nf f5, nf f6, nf f7, nf f8, nf f9, nf f10⟩
    refine InvFrom.cons (fun L a W hI hN hD K hK => ?_) ?_
    · obtain ⟨sl16, sl17, sl18, sl19, sl20, sl21, sl22, sl23, sl24, sl25, sl6, ha, hB, f0, f1, f2, f3, f4, f5, f6, f7, f8, f9, f10⟩ := hI
      subst ha
      have hz := hB.size
      have d1 := f1 (hD 1 (by kernel_rfl))
      subst d1
      have d2 := f2 (hD 2 (by kernel_rfl))
      subst d2
      have d3 := f3 (hD 3 (by kernel_rfl))
      subst d3
      have d4 := f4 (hD 4 (by kernel_rfl))
      subst d4
      refine kept_w3 (by kernel_rfl) 52 _ _ _ _ rfl (fenters_of' Tryz.func52 (by kernel_rfl) (by kernel_rfl)) (.agg #[.slice B0 m0 d0, .int .i64 p.fMus, .slice B2 m2 d2, .slice B3 m3 d3]) (.agg #[.int .i64 io, .int .i64 ia, .int .i64 ib, .int .i64 ic]) (.int .i64 n) (by kernel_rfl) (by kernel_rfl) (by kernel_rfl) (HOI.out W (HB2.out.trans (hB.mono (by omega))) io ia ib ic (fun h => (HNM.out.2.2.1 h).1) (fun h => (HNM.out.2.2.2 h).1)) ?_
      rintro e W1 ⟨fn9, cp9, rfl, hr9, hb1⟩
      refine ⟨_, rfl, hK.out _ _ ?_⟩
      exact ⟨sl16, (.bool true), (.agg #[.slice B0 m0 d0, .int .i64 p.fMus, .slice B2 m2 d2, .slice B3 m3 d3]), (.agg #[.int .i64 io, .int .i64 ia, .int .i64 ib, .int .i64 ic]), (.int .i64 n), (.func (.func fn9) #[] cp9), sl22, sl23, sl24, sl25, sl6, by kernel_rfl, hB.trans (hb1.mono hz), nf f0, nf f1, nf f2, nf f3, nf f4, fun _ => ⟨fn9, cp9, rfl, hr9⟩, nf f6, nf f7, nf f8, nf f9, nf f10⟩
    refine InvFrom.cons (fun L a W hI hN hD K hK => ?_) ?_
    · obtain ⟨sl16, sl17, sl18, sl19, sl20, sl21, sl22, sl23, sl24, sl25, sl6, ha, hB, f0, f1, f2, f3, f4, f5, f6, f7, f8, f9, f10⟩ := hI
      subst ha
      have hz := hB.size
      have d1 := f1 (hD 1 (by kernel_rfl))
      subst d1
      have pe0 := box_cell (j := 0) (box_keep HE2.out hB (by omega)) rfl
      have pe1 := box_cell (j := 1) (box_keep HE2.out hB (by omega)) rfl
      have pe2 := box_cell (j := 2) (box_keep HE2.out hB (by omega)) rfl
      refine Kept.mk ?_
      simp only [Act.put, pA, pZ, pS]
      go_simp
      refine hK.out _ _ ?_
      exact ⟨sl16, (.bool true), sl18, sl19, sl20, sl21, (.agg #[.slice A0 n0 c0, .slice A1 n1 c1, .slice A2 n2 c2]), sl23, sl24, sl25, sl6, by kernel_rfl, hB, nf f0, nf f1, nf f2, nf f3, nf f4, nf f5, fun _ => rfl, nf f7, nf f8, nf f9, nf f10⟩
    refine InvFrom.cons (fun L a W hI hN hD K hK => ?_) ?_
    · obtain ⟨sl16, sl17, sl18, sl19, sl20, sl21, sl22, sl23, sl24, sl25, sl6, ha, hB, f0, f1, f2, f3, f4, f5, f6, f7, f8, f9, f10⟩ := hI
      subst ha
      have hz := hB.size
      have d1 := f1 (hD 1 (by kernel_rfl))
      subst d1
      have d5 := f5 (hD 5 (by kernel_rfl))
      obtain ⟨fn8, cp8, rfl, hr8⟩ := d5
      have d6 := f6 (hD 6 (by kernel_rfl))
      subst d6
      refine kept_vw1 (by kernel_rfl) fn8 cp8 _ _ _ rfl hr8.1 (by kernel_rfl) (.agg #[.slice A0 n0 c0, .slice A1 n1 c1, .slice A2 n2 c2]) (by kernel_rfl) (HCV.out W (HB2.out.trans (hB.mono (by omega))) _ _ hr8) ?_
      rintro e W1 ⟨rfl, hb1⟩
      refine ⟨_, rfl, hK.out _ _ ?_⟩
      exact ⟨sl16, (.bool true), sl18, sl19, sl20, (.func (.func fn8) #[] cp8), (.agg #[.slice A0 n0 c0, .slice A1 n1 c1, .slice A2 n2 c2]), (.bool gb), sl24, sl25, sl6, by kernel_rfl, hB.trans (hb1.mono hz), nf f0, nf f1, nf f2, nf f3, nf f4, fun h => (f5 (nx h)).up hb1, nf f6, fun _ => rfl, nf f8, nf f9, nf f10⟩
    refine InvFrom.cons (fun L a W hI hN hD K hK => ?_) ?_
    · obtain ⟨sl16, sl17, sl18, sl19, sl20, sl21, sl22, sl23, sl24, sl25, sl6, ha, hB, f0, f1, f2, f3, f4, f5, f6, f7, f8, f9, f10⟩ := hI
      subst ha
      have hz := hB.size
      have d1 := f1 (hD 1 (by kernel_rfl))
      subst d1
      have d7 := f7 (hD 7 (by kernel_rfl))
      subst d7
      refine Kept.mk ?_
      simp only [Act.put, pA, pZ, pS]
      go_simp
      refine hK.out _ _ ?_
      exact ⟨sl16, (.bool true), sl18, sl19, sl20, sl21, sl22, (.bool gb), (.bool (!gb)), sl25, sl6, by kernel_rfl, hB, nf f0, nf f1, nf f2, nf f3, nf f4, nf f5, nf f6, nf f7, fun _ => rfl, nf f9, nf f10⟩
    refine InvFrom.cons (fun L a W hI hN hD K hK => ?_) ?_
    · obtain ⟨sl16, sl17, sl18, sl19, sl20, sl21, sl22, sl23, sl24, sl25, sl6, ha, hB, f0, f1, f2, f3, f4, f5, f6, f7, f8, f9, f10⟩ := hI
      subst ha
      have hz := hB.size
      have d1 := f1 (hD 1 (by kernel_rfl))
      subst d1
      have d8 := f8 (hD 8 (by kernel_rfl))
      subst d8
      refine Kept.mk ?_
      simp only [Act.put, pA, pZ, pS]
      go_simp
      refine hK.out _ _ ?_
      exact ⟨sl16, (.bool true), sl18, sl19, sl20, sl21, sl22, sl23, (.bool (!gb)), (.bool (!gb)), sl6, by kernel_rfl, hB, nf f0, nf f1, nf f2, nf f3, nf f4, nf f5, nf f6, nf f7, nf f8, fun _ => rfl, nf f10⟩
    refine InvFrom.cons (fun L a W hI hN hD K hK => ?_) ?_
    · obtain ⟨sl16, sl17, sl18, sl19, sl20, sl21, sl22, sl23, sl24, sl25, sl6, ha, hB, f0, f1, f2, f3, f4, f5, f6, f7, f8, f9, f10⟩ := hI
      subst ha
      have hz := hB.size
      have d0 := f0 (hD 0 (by kernel_rfl))
      subst d0
      have d1 := f1 (hD 1 (by kernel_rfl))
      subst d1
      have d2 := f2 (hD 2 (by kernel_rfl))
      subst d2
      have d3 := f3 (hD 3 (by kernel_rfl))
      subst d3
      have d4 := f4 (hD 4 (by kernel_rfl))
      subst d4
      have d5 := f5 (hD 5 (by kernel_rfl))
      obtain ⟨fn8, cp8, rfl, hr8⟩ := d5
      have d6 := f6 (hD 6 (by kernel_rfl))
      subst d6
      have d7 := f7 (hD 7 (by kernel_rfl))
      subst d7
      have d8 := f8 (hD 8 (by kernel_rfl))
      subst d8
      have d9 := f9 (hD 9 (by kernel_rfl))
      subst d9
      refine Kept.mk ?_
      simp only [Act.put, pA, pZ, pS]
      go_simp
      refine hK.out _ _ ?_
      exact ⟨(.bool true), (.bool true), (.agg #[.slice B0 m0 d0, .int .i64 p.fMus, .slice B2 m2 d2, .slice B3 m3 d3]), (.agg #[.int .i64 io, .int .i64 ia, .int .i64 ib, .int .i64 ic]), (.int .i64 n), (.func (.func fn8) #[] cp8), (.agg #[.slice A0 n0 c0, .slice A1 n1 c1, .slice A2 n2 c2]), (.bool gb), (.bool (!gb)), (.bool (!gb)), (.bool (!gb)), by kernel_rfl, hB, nf f0, nf f1, nf f2, nf f3, nf f4, nf f5, nf f6, nf f7, nf f8, nf f9, fun _ => rfl⟩
    exact InvFrom.nil
  intro L a w5 hL hI
  obtain ⟨sl16, sl17, sl18, sl19, sl20, sl21, sl22, sl23, sl24, sl25, sl6, ha, hbw5, hI⟩ := hI
  subst ha
  have hfin := hI.2.2.2.2.2.2.2.2.2.2 (hL 10 (by decide))
  subst hfin
  clear hL hI
  refine Kept.mk ?_
  simp only [Act.put, pA, pZ, pS]
  go_wp2_with fail
  go_ret
  exact ⟨by rw [HR.out] <;> rfl, HB2.out.trans (hbw5.mono HB2.out.size)⟩
end Go.Proofs.YtghkdkagnibkgaaGreatDoor
