
/- The program's CaseReady. Laid by wip/gen11/caseL.py. -/

import Derived.Test.YtghkdkagnibkgaaCaseI

import Derived.Deep.Cut

namespace Go.Proofs.Ytghkdkagnibkgaa
set_option linter.unusedSimpArgs false
set_option linter.unusedVariables false
open Go.RowKit


set_option maxRecDepth 100000 in
set_option maxHeartbeats 4000000 in
theorem implCase_any {w : World} {hi : Nat} {x : DEng} {vs : List Value} (h : layEng.see w hi x vs) (hhi : hi ≤ w.heap.size) (hn : szEng x ≤ 1048576) (snd : Bool) (ch rg ok to : Int) :
    Calls Try.prog 8 #[.agg vs.toArray, .agg #[.bool snd, .int .i64 ch, .int .i64 rg, .int .i64 ok, .int .i64 to]] w fun e w' => e = .returned (.bool (canB x ⟨snd, ch, rg, ok, to⟩)) ∧ Below w.heap.size w w' := by
  have HEE := Lib.hid (fun (W : World) (hW : Below w.heap.size w W) => layEng.keep h (w' := W) fun k hk => hW.block k (by omega))
  obtain ⟨A0, n0, c0, A1, n1, c1, A2, n2, c2, rfl, -⟩ := seeEng h
  have hE0 := box_new w #[.slice A0 n0 c0, .slice A1 n1 c1, .slice A2 n2 c2] 35
  have hE0 := box_keep hE0 ((Below.refl _ _).alloc (Nat.le_refl _) (.cells #[.bool snd, .int .i64 ch, .int .i64 rg, .int .i64 ok, .int .i64 to] 37)) (by simp only [World.size_alloc]; omega)
  have hC0 := box_new (w.alloc (.cells #[.slice A0 n0 c0, .slice A1 n1 c1, .slice A2 n2 c2] 35)) #[.bool snd, .int .i64 ch, .int .i64 rg, .int .i64 ok, .int .i64 to] 37
  simp only [World.size_alloc, Nat.add_assoc, Nat.reduceAdd] at hC0
  have hB0 : Below w.heap.size w ((w.alloc (.cells #[.slice A0 n0 c0, .slice A1 n1 c1, .slice A2 n2 c2] 35)).alloc (.cells #[.bool snd, .int .i64 ch, .int .i64 rg, .int .i64 ok, .int .i64 to] 37)) := ((Below.refl _ _).alloc (Nat.le_refl _) _).alloc (by simp only [World.size_alloc]; omega) _
  have hz0 : w.heap.size + 2 ≤ ((w.alloc (.cells #[.slice A0 n0 c0, .slice A1 n1 c1, .slice A2 n2 c2] 35)).alloc (.cells #[.bool snd, .int .i64 ch, .int .i64 rg, .int .i64 ok, .int .i64 to] 37)).heap.size := by simp only [World.size_alloc]; omega
  have HE0 := Lib.hid hE0
  have HC0 := Lib.hid hC0
  have HB0 := Lib.hid hB0
  clear h hE0 hC0 hB0
  have HOC := Lib.hid (fun (W : World) => ofCase_any W snd ch rg ok to)
  have HN := Lib.hid hn
  clear hn
  go_enter Try.func8, Try.ntmps8
  go_upto_region 1 with (fail)
  generalize ((w.alloc (.cells #[.slice A0 n0 c0, .slice A1 n1 c1, .slice A2 n2 c2] 35)).alloc (.cells #[.bool snd, .int .i64 ch, .int .i64 rg, .int .i64 ok, .int .i64 to] 37)) = W0 at *
  refine wp_region_inv (fun AC0 L a W => ∃ sl5 sl6 sl7 sl8 sl4 : Value, a = (((((AC0.put (some 5) sl5).put (some 6) sl6).put (some 7) sl7).put (some 8) sl8).put (some 4) sl4) ∧ Below W0.heap.size W0 W ∧ ((L 0 → sl5 = (.agg #[.bool snd, .int .i64 ch, .int .i64 rg, .int .i64 ok, .int .i64 to])) ∧ (L 1 → RdyAt (fun _ => True) (fun x => canB x ⟨snd, ch, rg, ok, to⟩) W sl6) ∧ (L 2 → sl7 = (.agg #[.slice A0 n0 c0, .slice A1 n1 c1, .slice A2 n2 c2])) ∧ (L 3 → sl8 = (.bool (canB x ⟨snd, ch, rg, ok, to⟩))) ∧ (L 4 → sl4 = (.bool (canB x ⟨snd, ch, rg, ok, to⟩))))) (by kernel_rfl) (by kernel_rfl) ?_ ?_ ?_
  · exact ⟨undef, undef, undef, undef, (.bool false), by simp only [Act.put, List.setIfInBounds_toArray, List.set_cons_zero, List.set_cons_succ], Below.drew (Below.refl _ _), fun h => absurd h id, fun h => absurd h id, fun h => absurd h id, fun h => absurd h id, fun h => absurd h id⟩
  · intro Q9; refine InvFrom.cons (fun L a W hI hN hD K hK => ?_) ?_
    · obtain ⟨sl5, sl6, sl7, sl8, sl4, ha, hB, f0, f1, f2, f3, f4⟩ := hI
      subst ha
      have hz := hB.size
      have pc0 := box_cell (j := 0) (box_keep HC0.out hB (by omega)) rfl
      have pc1 := box_cell (j := 1) (box_keep HC0.out hB (by omega)) rfl
      have pc2 := box_cell (j := 2) (box_keep HC0.out hB (by omega)) rfl
      have pc3 := box_cell (j := 3) (box_keep HC0.out hB (by omega)) rfl
      have pc4 := box_cell (j := 4) (box_keep HC0.out hB (by omega)) rfl
      refine Kept.mk ?_
      simp only [Act.put, List.setIfInBounds_toArray, List.set_cons_zero, List.set_cons_succ]
      go_simp
      refine hK.out _ _ ?_
      exact ⟨(.agg #[.bool snd, .int .i64 ch, .int .i64 rg, .int .i64 ok, .int .i64 to]), sl6, sl7, sl8, sl4, by simp only [Act.put, List.setIfInBounds_toArray, List.set_cons_zero, List.set_cons_succ], hB, fun _ => rfl, fun h => f1 (nx h), fun h => f2 (nx h), fun h => f3 (nx h), fun h => f4 (nx h)⟩
    refine InvFrom.cons (fun L a W hI hN hD K hK => ?_) ?_
    · obtain ⟨sl5, sl6, sl7, sl8, sl4, ha, hB, f0, f1, f2, f3, f4⟩ := hI
      subst ha
      have hz := hB.size
      have d0 := f0 (hD 0 (by kernel_rfl))
      subst d0
      refine kept_c1 rfl 18 _ _ rfl (fenters_of' Try.func18 (by kernel_rfl) (by kernel_rfl)) (.agg #[.bool snd, .int .i64 ch, .int .i64 rg, .int .i64 ok, .int .i64 to]) (by kernel_rfl) (HOC.out W) ?_
      rintro e W1 ⟨f9, cp9, rfl, hr9, hb1⟩
      refine ⟨_, rfl, hK.out _ _ ?_⟩
      exact ⟨(.agg #[.bool snd, .int .i64 ch, .int .i64 rg, .int .i64 ok, .int .i64 to]), (.func (.func f9) #[] cp9), sl7, sl8, sl4, by simp only [Act.put, List.setIfInBounds_toArray, List.set_cons_zero, List.set_cons_succ], hB.trans (hb1.mono hz), fun h => f0 (nx h), fun _ => ⟨f9, cp9, rfl, hr9⟩, fun h => f2 (nx h), fun h => f3 (nx h), fun h => f4 (nx h)⟩
    refine InvFrom.cons (fun L a W hI hN hD K hK => ?_) ?_
    · obtain ⟨sl5, sl6, sl7, sl8, sl4, ha, hB, f0, f1, f2, f3, f4⟩ := hI
      subst ha
      have hz := hB.size
      have pe0 := box_cell (j := 0) (box_keep HE0.out hB (by omega)) rfl
      have pe1 := box_cell (j := 1) (box_keep HE0.out hB (by omega)) rfl
      have pe2 := box_cell (j := 2) (box_keep HE0.out hB (by omega)) rfl
      refine Kept.mk ?_
      simp only [Act.put, List.setIfInBounds_toArray, List.set_cons_zero, List.set_cons_succ]
      go_simp
      refine hK.out _ _ ?_
      exact ⟨sl5, sl6, (.agg #[.slice A0 n0 c0, .slice A1 n1 c1, .slice A2 n2 c2]), sl8, sl4, by simp only [Act.put, List.setIfInBounds_toArray, List.set_cons_zero, List.set_cons_succ], hB, fun h => f0 (nx h), fun h => f1 (nx h), fun _ => rfl, fun h => f3 (nx h), fun h => f4 (nx h)⟩
    refine InvFrom.cons (fun L a W hI hN hD K hK => ?_) ?_
    · obtain ⟨sl5, sl6, sl7, sl8, sl4, ha, hB, f0, f1, f2, f3, f4⟩ := hI
      subst ha
      have hz := hB.size
      have d1 := f1 (hD 1 (by kernel_rfl))
      obtain ⟨f8, cp8, rfl, hr8⟩ := d1
      have d2 := f2 (hD 2 (by kernel_rfl))
      subst d2
      refine kept_vc1 rfl f8 cp8 _ _ _ rfl hr8.1 (by kernel_rfl) (.agg #[.slice A0 n0 c0, .slice A1 n1 c1, .slice A2 n2 c2]) (by kernel_rfl) (hr8.2 W (Below.refl _ _) hi x _ (HEE.out W (HB0.out.trans (hB.mono (by omega)))) (by omega) HN.out trivial) ?_
      rintro e W1 ⟨rfl, hb1⟩
      refine ⟨_, rfl, hK.out _ _ ?_⟩
      exact ⟨sl5, (.func (.func f8) #[] cp8), (.agg #[.slice A0 n0 c0, .slice A1 n1 c1, .slice A2 n2 c2]), (.bool (canB x ⟨snd, ch, rg, ok, to⟩)), sl4, by simp only [Act.put, List.setIfInBounds_toArray, List.set_cons_zero, List.set_cons_succ], hB.trans (hb1.mono hz), fun h => f0 (nx h), fun h => (f1 (nx h)).up hb1, fun h => f2 (nx h), fun _ => rfl, fun h => f4 (nx h)⟩
    refine InvFrom.cons (fun L a W hI hN hD K hK => ?_) ?_
    · obtain ⟨sl5, sl6, sl7, sl8, sl4, ha, hB, f0, f1, f2, f3, f4⟩ := hI
      subst ha
      have hz := hB.size
      have d0 := f0 (hD 0 (by kernel_rfl))
      subst d0
      have d1 := f1 (hD 1 (by kernel_rfl))
      obtain ⟨f8, cp8, rfl, hr8⟩ := d1
      have d2 := f2 (hD 2 (by kernel_rfl))
      subst d2
      have d3 := f3 (hD 3 (by kernel_rfl))
      subst d3
      refine Kept.mk ?_
      simp only [Act.put, List.setIfInBounds_toArray, List.set_cons_zero, List.set_cons_succ]
      go_simp
      refine hK.out _ _ ?_
      exact ⟨(.agg #[.bool snd, .int .i64 ch, .int .i64 rg, .int .i64 ok, .int .i64 to]), (.func (.func f8) #[] cp8), (.agg #[.slice A0 n0 c0, .slice A1 n1 c1, .slice A2 n2 c2]), (.bool (canB x ⟨snd, ch, rg, ok, to⟩)), (.bool (canB x ⟨snd, ch, rg, ok, to⟩)), by simp only [Act.put, List.setIfInBounds_toArray, List.set_cons_zero, List.set_cons_succ], hB, fun h => f0 (nx h), fun h => f1 (nx h), fun h => f2 (nx h), fun h => f3 (nx h), fun _ => rfl⟩
    exact InvFrom.nil
  intro L a w1 hL hI
  obtain ⟨sl5, sl6, sl7, sl8, sl4, ha, hbw1, hI⟩ := hI
  subst ha
  have hfin := hI.2.2.2.2 (hL 4 (by decide))
  subst hfin
  clear hL hI
  refine Kept.mk ?_
  simp only [Act.put, List.setIfInBounds_toArray, List.set_cons_zero, List.set_cons_succ]
  go_wp2_with fail
  go_ret
  exact ⟨rfl, HB0.out.trans (hbw1.mono (by omega))⟩
end Go.Proofs.Ytghkdkagnibkgaa
