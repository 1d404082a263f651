/- Choices answers as its model at every program, engine and number, writes into no argument, and ends. -/
import Derived.Test.YtghkdkagnibkgaaGreatDoorRows
import Derived.WalkKit
import Derived.Test.YtghkdkagnibkgaaGreatDoorCards
import Derived.Test.YtghkdkagnibkgaaGreatDoorTie
import Derived.Lib.LaidTab
import Derived.SevenTiedAt
import Derived.Stop.Joined
import Derived.LaidMore
import Derived.ChangeVars
import Derived.OpenVars
import Derived.Test.YtghkdkagnibkgaaGreatDoorCasJ
import Derived.Test.YtghkdkagnibkgaaGreatDoorCasS
import Derived.Test.YtghkdkagnibkgaaGreatDoorGTabs
import Derived.Lib.Hide
import Derived.ProofKit
import Derived.OpenShut
import Derived.ShutString
import Derived.ChangeOld
import Derived.Below
namespace Go.Proofs.YtghkdkagnibkgaaGreatDoor.fnExactChoices
open Go.ChangeShapes Go.WideShapes Go.ChangeAt Go.RowKit
open Go.ChangeMaps (open_string shut_string)
set_option linter.unusedVariables false
set_option linter.unusedSimpArgs false

theorem own : ownKnob Tryz.prog.godebug = none := by kernel_rfl
theorem laidOut : laidOutB Tryz.prog = true := by kernel_rfl

set_option maxRecDepth 100000 in
set_option maxHeartbeats 20000000 in
theorem walk (w : World) (x0 : DProg) (vs0 : List Value) (s0 : layProg.see w w.heap.size x0 vs0) (x1 : DEng) (vs1 : List Value) (s1 : layEng.see w w.heap.size x1 vs1) (a2 : Int) (w2 : (Lit.int .i64 a2).wf = true) (hC : OpCells w ∧ ItemCells w) :
    Calls Tryz.prog 5 #[.agg vs0.toArray, .agg vs1.toArray, .int .i64 a2] w fun e w' => e = .returned (.bool true) ∧ Below w.heap.size w w' := by
  obtain ⟨p0A0, p0n0, p0c0, p0A2, p0n2, p0c2, p0A3, p0n3, p0c3, rfl, -⟩ := seeProg s0
  obtain ⟨p1A0, p1n0, p1c0, p1A1, p1n1, p1c1, p1A2, p1n2, p1c2, rfl, -⟩ := seeEng s1
  have HV2 := Lib.hid w2
  clear w2
  have hWE : Below w.heap.size w ((w.alloc (.cells #[.slice p0A0 p0n0 p0c0, .int .i64 x0.fMus, .slice p0A2 p0n2 p0c2, .slice p0A3 p0n3 p0c3] 26)).alloc (.cells #[.slice p1A0 p1n0 p1c0, .slice p1A1 p1n1 p1c1, .slice p1A2 p1n2 p1c2] 31)) := (((Below.refl _ _).alloc (Nat.le_refl _) _).alloc (by simp only [World.size_alloc]; omega) _)
  have hzE : w.heap.size + 2 ≤ ((w.alloc (.cells #[.slice p0A0 p0n0 p0c0, .int .i64 x0.fMus, .slice p0A2 p0n2 p0c2, .slice p0A3 p0n3 p0c3] 26)).alloc (.cells #[.slice p1A0 p1n0 p1c0, .slice p1A1 p1n1 p1c1, .slice p1A2 p1n2 p1c2] 31)).heap.size := by simp
  have hbx0 := box_new w #[.slice p0A0 p0n0 p0c0, .int .i64 x0.fMus, .slice p0A2 p0n2 p0c2, .slice p0A3 p0n3 p0c3] 26
  have hbx0 := box_keep hbx0 ((Below.refl _ _).alloc (Nat.le_refl _) (.cells #[.slice p1A0 p1n0 p1c0, .slice p1A1 p1n1 p1c1, .slice p1A2 p1n2 p1c2] 31)) (by simp only [World.size_alloc]; omega)
  have hbx1 := box_new (w.alloc (.cells #[.slice p0A0 p0n0 p0c0, .int .i64 x0.fMus, .slice p0A2 p0n2 p0c2, .slice p0A3 p0n3 p0c3] 26)) #[.slice p1A0 p1n0 p1c0, .slice p1A1 p1n1 p1c1, .slice p1A2 p1n2 p1c2] 31
  simp only [World.size_alloc, Nat.add_assoc, Nat.reduceAdd] at hbx1
  have HKE := Lib.hid (fun (W : World) (hW : Below (w.heap.size + 2) ((w.alloc (.cells #[.slice p0A0 p0n0 p0c0, .int .i64 x0.fMus, .slice p0A2 p0n2 p0c2, .slice p0A3 p0n3 p0c3] 26)).alloc (.cells #[.slice p1A0 p1n0 p1c0, .slice p1A1 p1n1 p1c1, .slice p1A2 p1n2 p1c2] 31)) W) => show (w.heap.size + 2 ≤ W.heap.size ∧ Below w.heap.size w W) ∧ layProg.see W w.heap.size x0 [.slice p0A0 p0n0 p0c0, .int .i64 x0.fMus, .slice p0A2 p0n2 p0c2, .slice p0A3 p0n3 p0c3] ∧ W.heap[w.heap.size]? = some (.cells #[.slice p0A0 p0n0 p0c0, .int .i64 x0.fMus, .slice p0A2 p0n2 p0c2, .slice p0A3 p0n3 p0c3] 26 (0, 0)) ∧ layEng.see W w.heap.size x1 [.slice p1A0 p1n0 p1c0, .slice p1A1 p1n1 p1c1, .slice p1A2 p1n2 p1c2] ∧ W.heap[w.heap.size + 1]? = some (.cells #[.slice p1A0 p1n0 p1c0, .slice p1A1 p1n1 p1c1, .slice p1A2 p1n2 p1c2] 31 (0, 0)) ∧ True from ⟨⟨Nat.le_trans hzE hW.size, hWE.trans (hW.mono (by omega))⟩, layProg.keep s0 (fun k hk => (hW.block k (by omega)).trans (hWE.block k hk)), box_keep hbx0 hW (by omega), layEng.keep s1 (fun k hk => (hW.block k (by omega)).trans (hWE.block k hk)), box_keep hbx1 hW (by omega), trivial⟩)
  have HE := Lib.hid (show Below (w.heap.size + 2) ((w.alloc (.cells #[.slice p0A0 p0n0 p0c0, .int .i64 x0.fMus, .slice p0A2 p0n2 p0c2, .slice p0A3 p0n3 p0c3] 26)).alloc (.cells #[.slice p1A0 p1n0 p1c0, .slice p1A1 p1n1 p1c1, .slice p1A2 p1n2 p1c2] 31)) ((w.alloc (.cells #[.slice p0A0 p0n0 p0c0, .int .i64 x0.fMus, .slice p0A2 p0n2 p0c2, .slice p0A3 p0n3 p0c3] 26)).alloc (.cells #[.slice p1A0 p1n0 p1c0, .slice p1A1 p1n1 p1c1, .slice p1A2 p1n2 p1c2] 31)) from Below.refl _ _)
  clear hWE hzE hbx0 hbx1 s0 s1
  go_enter Tryz.func5, Tryz.ntmps5
  have pe1_0 := box_cell (j := 0) ((HKE.out _ HE.out).2.2.1) rfl
  have pe1_1 := box_cell (j := 1) ((HKE.out _ HE.out).2.2.1) rfl
  have pe1_2 := box_cell (j := 2) ((HKE.out _ HE.out).2.2.1) rfl
  have pe1_3 := box_cell (j := 3) ((HKE.out _ HE.out).2.2.1) rfl
  have zE2 := ((HKE.out _ HE.out).1).1
  go_wp2_with fail
  refine (szProg_any (l := 1048576) ((HKE.out _ HE.out).2.1) (by omega) (Nat.le_refl _)).mono ?_
  rintro e v2 ⟨hbv2, hcase⟩
  have hzv2 := hbv2.size
  simp only [World.size_alloc, Nat.add_assoc, Nat.reduceAdd] at hzv2
  replace HE := Lib.hid (HE.out.trans (hbv2.mono (by simp only [World.size_alloc]; omega)))
  clear hbv2 pe1_0 pe1_1 pe1_2 pe1_3
  rcases hcase with ⟨hq0, rfl⟩ | ⟨hq0, rfl⟩
  · skip
    have hle0 : szProg x0 ≤ 1048576 := by omega
    obtain ⟨l0, hl0⟩ : ∃ l, l = 1048576 - szProg x0 := ⟨_, rfl⟩
    simp only [← hl0]
    have hlm0 : l0 ≤ 1048576 := by omega
    clear hl0
    have pe4_0 := box_cell (j := 0) ((HKE.out _ HE.out).2.2.2.2.1) rfl
    have pe4_1 := box_cell (j := 1) ((HKE.out _ HE.out).2.2.2.2.1) rfl
    have pe4_2 := box_cell (j := 2) ((HKE.out _ HE.out).2.2.2.2.1) rfl
    have zE5 := ((HKE.out _ HE.out).1).1
    go_wp2_with fail
    refine (szEng_any (l := l0) ((HKE.out _ HE.out).2.2.2.1) (by omega) (by omega)).mono ?_
    rintro e v5 ⟨hbv5, hcase⟩
    have hzv5 := hbv5.size
    replace HE := Lib.hid (HE.out.trans (hbv5.mono (by omega)))
    clear hbv5 pe4_0 pe4_1 pe4_2
    rcases hcase with ⟨hq1, rfl⟩ | ⟨hq1, rfl⟩
    · skip
      have hle1 : szEng x1 ≤ 1048576 := by omega
      have HSP := Lib.hid (fun (W : World) (hi : Nat) (vs0 : List Value) (h0 : layProg.see W hi x0 vs0) (vs1 : List Value) (h1 : layEng.see W hi x1 vs1) (hhi : hi ≤ W.heap.size) (hW : Below w.heap.size w W) => specChoices_any h0 h1 hhi hle0 hle1 a2)
      have HIM := Lib.hid (fun (W : World) (hi : Nat) (vs0 : List Value) (h0 : layProg.see W hi x0 vs0) (vs1 : List Value) (h1 : layEng.see W hi x1 vs1) (hhi : hi ≤ W.heap.size) (hW : Below w.heap.size w W) => implChoices_any h0 h1 hhi (opCells_below hC.1 hW) (itemCells_below hC.2 hW (Nat.le_refl _)) hle0 hle1 a2)
      generalize (choicesZ x0 x1 a2) = r at *
      have hneq : (r != r) = false := by simp
      have zE7 := ((HKE.out _ HE.out).1).1
      go_upto_region 8 with (fail)
      refine wp_region_inv (fun AC0 L a W => ∃ sl22 sl23 sl24 sl25 sl26 sl27 sl8 : Value, a = (((((((AC0.put (some 22) sl22).put (some 23) sl23).put (some 24) sl24).put (some 25) sl25).put (some 26) sl26).put (some 27) sl27).put (some 8) sl8) ∧ Below v5.heap.size v5 W ∧ ((L 0 → sl22 = (.agg #[.slice p0A0 p0n0 p0c0, .int .i64 x0.fMus, .slice p0A2 p0n2 p0c2, .slice p0A3 p0n3 p0c3])) ∧ (L 1 → SeeAt layProg W x0 sl23) ∧ (L 2 → sl24 = (.agg #[.slice p1A0 p1n0 p1c0, .slice p1A1 p1n1 p1c1, .slice p1A2 p1n2 p1c2])) ∧ (L 3 → SeeAt layEng W x1 sl25) ∧ (L 4 → sl26 = (.int .i64 a2)) ∧ (L 5 → sl27 = (.int .i64 r)) ∧ (L 6 → sl8 = (.int .i64 r)))) (by kernel_rfl) (by kernel_rfl) ?_ ?_ ?_
      · exact ⟨undef, undef, undef, undef, undef, undef, undef, by kernel_rfl, Below.drew (Below.refl _ _), fun h => absurd h id, fun h => absurd h id, fun h => absurd h id, fun h => absurd h id, fun h => absurd h id, fun h => absurd h id, fun h => absurd h id⟩
      · intro Q9; refine InvFrom.cons (fun L a W hI hN hD K hK => ?_) ?_
        · obtain ⟨sl22, sl23, sl24, sl25, sl26, sl27, sl8, ha, hB, f0, f1, f2, f3, f4, f5, f6⟩ := hI
          subst ha
          have hz := hB.size
          have hW := (HKE.out W (HE.out.trans (hB.mono (by omega))))
          have pc0 := box_cell (j := 0) hW.2.2.1 rfl
          have pc1 := box_cell (j := 1) hW.2.2.1 rfl
          have pc2 := box_cell (j := 2) hW.2.2.1 rfl
          have pc3 := box_cell (j := 3) hW.2.2.1 rfl
          refine Kept.mk ?_
          simp only [Act.put, pA, pZ, pS]
          go_simp
          refine hK.out _ _ ?_
          exact ⟨(.agg #[.slice p0A0 p0n0 p0c0, .int .i64 x0.fMus, .slice p0A2 p0n2 p0c2, .slice p0A3 p0n3 p0c3]), sl23, sl24, sl25, sl26, sl27, sl8, by kernel_rfl, hB, fun _ => rfl, nf f1, nf f2, nf f3, nf f4, nf f5, nf f6⟩
        refine InvFrom.cons (fun L a W hI hN hD K hK => ?_) ?_
        · obtain ⟨sl22, sl23, sl24, sl25, sl26, sl27, sl8, ha, hB, f0, f1, f2, f3, f4, f5, f6⟩ := hI
          subst ha
          have hz := hB.size
          have d0 := f0 (hD 0 (by kernel_rfl))
          subst d0
          have hW := (HKE.out W (HE.out.trans (hB.mono (by omega))))
          refine kept_c1 rfl 9 _ _ rfl (fenters_of' Tryz.func9 (by kernel_rfl) (by kernel_rfl)) (.agg #[.slice p0A0 p0n0 p0c0, .int .i64 x0.fMus, .slice p0A2 p0n2 p0c2, .slice p0A3 p0n3 p0c3]) (by kernel_rfl) (toProg_any hW.2.1 (by omega) hle0) ?_
          rintro e W1 ⟨u1, rfl, own1, hb1⟩
          refine ⟨_, rfl, hK.out _ _ ?_⟩
          exact ⟨(.agg #[.slice p0A0 p0n0 p0c0, .int .i64 x0.fMus, .slice p0A2 p0n2 p0c2, .slice p0A3 p0n3 p0c3]), (.agg u1.toArray), sl24, sl25, sl26, sl27, sl8, by kernel_rfl, hB.trans (hb1.mono hz), nf f0, fun _ => ⟨_, rfl, layProg.seen (hi := W1.heap.size) own1 (fun g hg => hg.2)⟩, nf f2, fun h => (f3 (nx h)).up hb1, nf f4, nf f5, nf f6⟩
        refine InvFrom.cons (fun L a W hI hN hD K hK => ?_) ?_
        · obtain ⟨sl22, sl23, sl24, sl25, sl26, sl27, sl8, ha, hB, f0, f1, f2, f3, f4, f5, f6⟩ := hI
          subst ha
          have hz := hB.size
          have hW := (HKE.out W (HE.out.trans (hB.mono (by omega))))
          have pc0 := box_cell (j := 0) hW.2.2.2.2.1 rfl
          have pc1 := box_cell (j := 1) hW.2.2.2.2.1 rfl
          have pc2 := box_cell (j := 2) hW.2.2.2.2.1 rfl
          refine Kept.mk ?_
          simp only [Act.put, pA, pZ, pS]
          go_simp
          refine hK.out _ _ ?_
          exact ⟨sl22, sl23, (.agg #[.slice p1A0 p1n0 p1c0, .slice p1A1 p1n1 p1c1, .slice p1A2 p1n2 p1c2]), sl25, sl26, sl27, sl8, by kernel_rfl, hB, nf f0, nf f1, fun _ => rfl, nf f3, nf f4, nf f5, nf f6⟩
        refine InvFrom.cons (fun L a W hI hN hD K hK => ?_) ?_
        · obtain ⟨sl22, sl23, sl24, sl25, sl26, sl27, sl8, ha, hB, f0, f1, f2, f3, f4, f5, f6⟩ := hI
          subst ha
          have hz := hB.size
          have d1 := f1 (hD 1 (by kernel_rfl))
          obtain ⟨uy0, rfl, sy0⟩ := d1
          have d2 := f2 (hD 2 (by kernel_rfl))
          subst d2
          have hW := (HKE.out W (HE.out.trans (hB.mono (by omega))))
          refine kept_c1 rfl 10 _ _ rfl (fenters_of' Tryz.func10 (by kernel_rfl) (by kernel_rfl)) (.agg #[.slice p1A0 p1n0 p1c0, .slice p1A1 p1n1 p1c1, .slice p1A2 p1n2 p1c2]) (by kernel_rfl) (toEng_any hW.2.2.2.1 (by omega) hle1) ?_
          rintro e W1 ⟨u1, rfl, own1, hb1⟩
          refine ⟨_, rfl, hK.out _ _ ?_⟩
          exact ⟨sl22, (.agg uy0.toArray), (.agg #[.slice p1A0 p1n0 p1c0, .slice p1A1 p1n1 p1c1, .slice p1A2 p1n2 p1c2]), (.agg u1.toArray), sl26, sl27, sl8, by kernel_rfl, hB.trans (hb1.mono hz), nf f0, fun h => (f1 (nx h)).up hb1, nf f2, fun _ => ⟨_, rfl, layEng.seen (hi := W1.heap.size) own1 (fun g hg => hg.2)⟩, nf f4, nf f5, nf f6⟩
        refine InvFrom.cons (fun L a W hI hN hD K hK => ?_) ?_
        · obtain ⟨sl22, sl23, sl24, sl25, sl26, sl27, sl8, ha, hB, f0, f1, f2, f3, f4, f5, f6⟩ := hI
          subst ha
          have hz := hB.size
          refine Kept.mk ?_
          simp only [Act.put, pA, pZ, pS]
          go_simp
          refine hK.out _ _ ?_
          exact ⟨sl22, sl23, sl24, sl25, (.int .i64 a2), sl27, sl8, by kernel_rfl, hB, nf f0, nf f1, nf f2, nf f3, fun _ => rfl, nf f5, nf f6⟩
        refine InvFrom.cons (fun L a W hI hN hD K hK => ?_) ?_
        · obtain ⟨sl22, sl23, sl24, sl25, sl26, sl27, sl8, ha, hB, f0, f1, f2, f3, f4, f5, f6⟩ := hI
          subst ha
          have hz := hB.size
          have d1 := f1 (hD 1 (by kernel_rfl))
          obtain ⟨uy0, rfl, sy0⟩ := d1
          have d3 := f3 (hD 3 (by kernel_rfl))
          obtain ⟨uy1, rfl, sy1⟩ := d3
          have d4 := f4 (hD 4 (by kernel_rfl))
          subst d4
          have hW := (HKE.out W (HE.out.trans (hB.mono (by omega))))
          refine kept_c3 rfl 21 _ _ _ _ rfl (fenters_of' Tryz.func21 (by kernel_rfl) (by kernel_rfl)) (.agg uy0.toArray) (.agg uy1.toArray) (.int .i64 a2) (by kernel_rfl) (by kernel_rfl) (by kernel_rfl) (HSP.out W W.heap.size _ sy0 _ sy1 (Nat.le_refl _) hW.1.2) ?_
          rintro e W1 ⟨rfl, hb9⟩
          refine ⟨_, rfl, hK.out _ _ ?_⟩
          exact ⟨sl22, (.agg uy0.toArray), sl24, (.agg uy1.toArray), (.int .i64 a2), (.int .i64 r), sl8, by kernel_rfl, hB.trans (hb9.mono hz), nf f0, fun h => (f1 (nx h)).up hb9, nf f2, fun h => (f3 (nx h)).up hb9, nf f4, fun _ => rfl, nf f6⟩
        refine InvFrom.cons (fun L a W hI hN hD K hK => ?_) ?_
        · obtain ⟨sl22, sl23, sl24, sl25, sl26, sl27, sl8, ha, hB, f0, f1, f2, f3, f4, f5, f6⟩ := hI
          subst ha
          have hz := hB.size
          have d0 := f0 (hD 0 (by kernel_rfl))
          subst d0
          have d1 := f1 (hD 1 (by kernel_rfl))
          obtain ⟨uy0, rfl, sy0⟩ := d1
          have d2 := f2 (hD 2 (by kernel_rfl))
          subst d2
          have d3 := f3 (hD 3 (by kernel_rfl))
          obtain ⟨uy1, rfl, sy1⟩ := d3
          have d4 := f4 (hD 4 (by kernel_rfl))
          subst d4
          have d5 := f5 (hD 5 (by kernel_rfl))
          subst d5
          refine Kept.mk ?_
          simp only [Act.put, pA, pZ, pS]
          go_simp
          refine hK.out _ _ ?_
          exact ⟨(.agg #[.slice p0A0 p0n0 p0c0, .int .i64 x0.fMus, .slice p0A2 p0n2 p0c2, .slice p0A3 p0n3 p0c3]), (.agg uy0.toArray), (.agg #[.slice p1A0 p1n0 p1c0, .slice p1A1 p1n1 p1c1, .slice p1A2 p1n2 p1c2]), (.agg uy1.toArray), (.int .i64 a2), (.int .i64 r), (.int .i64 r), by kernel_rfl, hB, nf f0, nf f1, nf f2, nf f3, nf f4, nf f5, fun _ => rfl⟩
        exact InvFrom.nil
      intro L a v7 hL hI
      obtain ⟨sl22, sl23, sl24, sl25, sl26, sl27, sl8, ha, hbv7, hI⟩ := hI
      subst ha
      have hfin := hI.2.2.2.2.2.2 (hL 6 (by decide))
      subst hfin
      clear hL hI
      refine Kept.mk ?_
      simp only [Act.put, pA, pZ, pS]
      have hzv7 := hbv7.size
      replace HE := Lib.hid (HE.out.trans (hbv7.mono (by omega)))
      clear hbv7
      have pe9_0 := box_cell (j := 0) ((HKE.out _ HE.out).2.2.1) rfl
      have pe9_1 := box_cell (j := 1) ((HKE.out _ HE.out).2.2.1) rfl
      have pe9_2 := box_cell (j := 2) ((HKE.out _ HE.out).2.2.1) rfl
      have pe9_3 := box_cell (j := 3) ((HKE.out _ HE.out).2.2.1) rfl
      have zE10 := ((HKE.out _ HE.out).1).1
      go_wp2_with fail
      refine (toProg_any ((HKE.out _ HE.out).2.1) (by omega) hle0).mono ?_
      rintro e v10 ⟨uv10, rfl, ownv10, hbv10⟩
      have hzv10 := hbv10.size
      replace HE := Lib.hid (HE.out.trans (hbv10.mono (by omega)))
      clear hbv10 pe9_0 pe9_1 pe9_2 pe9_3
      have seev10 := layProg.seen (hi := v10.heap.size) ownv10 fun g hg => hg.2
      obtain ⟨q0A0, q0n0, q0c0, q0A2, q0n2, q0c2, q0A3, q0n3, q0c3, rfl, -⟩ := seeProg seev10
      have hal : Below v10.heap.size v10 (v10.alloc (.cells #[.slice q0A0 q0n0 q0c0, .int .i64 x0.fMus, .slice q0A2 q0n2 q0c2, .slice q0A3 q0n3 q0c3] 38)) := (Below.refl _ _).alloc (Nat.le_refl _) _
      have hbx := box_new v10 #[.slice q0A0 q0n0 q0c0, .int .i64 x0.fMus, .slice q0A2 q0n2 q0c2, .slice q0A3 q0n3 q0c3] 38
      replace seev10 := layProg.keep seev10 (fun k hk => hal.block k hk)
      have hza : v10.heap.size + 1 ≤ (v10.alloc (.cells #[.slice q0A0 q0n0 q0c0, .int .i64 x0.fMus, .slice q0A2 q0n2 q0c2, .slice q0A3 q0n3 q0c3] 38)).heap.size := by simp
      replace HE := Lib.hid (HE.out.trans (hal.mono (by omega)))
      clear hal ownv10
      go_upto_region 10 with (fail)
      generalize (v10.alloc (.cells #[.slice q0A0 q0n0 q0c0, .int .i64 x0.fMus, .slice q0A2 q0n2 q0c2, .slice q0A3 q0n3 q0c3] 38)) = vX0 at *
      have HKX0 := Lib.hid (fun (W : World) (hW : Below vX0.heap.size vX0 W) => show vX0.heap.size ≤ W.heap.size ∧ v10.heap.size < vX0.heap.size ∧ layProg.see W v10.heap.size x0 [.slice q0A0 q0n0 q0c0, .int .i64 x0.fMus, .slice q0A2 q0n2 q0c2, .slice q0A3 q0n3 q0c3] ∧ W.heap[v10.heap.size]? = some (.cells #[.slice q0A0 q0n0 q0c0, .int .i64 x0.fMus, .slice q0A2 q0n2 q0c2, .slice q0A3 q0n3 q0c3] 38 (0, 0)) from ⟨hW.size, by omega, layProg.keep seev10 (fun k hk => hW.block k (by omega)), box_keep hbx hW (by omega)⟩)
      have HX0 := Lib.hid (Below.refl vX0.heap.size vX0)
      clear hbx seev10 hza
      have pe12_0 := box_cell (j := 0) ((HKE.out _ HE.out).2.2.2.2.1) rfl
      have pe12_1 := box_cell (j := 1) ((HKE.out _ HE.out).2.2.2.2.1) rfl
      have pe12_2 := box_cell (j := 2) ((HKE.out _ HE.out).2.2.2.2.1) rfl
      have zE13 := ((HKE.out _ HE.out).1).1
      go_wp2_with fail
      refine (toEng_any ((HKE.out _ HE.out).2.2.2.1) (by omega) hle1).mono ?_
      rintro e v13 ⟨uv13, rfl, ownv13, hbv13⟩
      have hzv13 := hbv13.size
      replace HE := Lib.hid (HE.out.trans (hbv13.mono (by omega)))
      replace HX0 := Lib.hid (HX0.out.trans (hbv13.mono (by omega)))
      clear hbv13 pe12_0 pe12_1 pe12_2
      have seev13 := layEng.seen (hi := v13.heap.size) ownv13 fun g hg => hg.2
      obtain ⟨q1A0, q1n0, q1c0, q1A1, q1n1, q1c1, q1A2, q1n2, q1c2, rfl, -⟩ := seeEng seev13
      have hal : Below v13.heap.size v13 (v13.alloc (.cells #[.slice q1A0 q1n0 q1c0, .slice q1A1 q1n1 q1c1, .slice q1A2 q1n2 q1c2] 44)) := (Below.refl _ _).alloc (Nat.le_refl _) _
      have hbx := box_new v13 #[.slice q1A0 q1n0 q1c0, .slice q1A1 q1n1 q1c1, .slice q1A2 q1n2 q1c2] 44
      replace seev13 := layEng.keep seev13 (fun k hk => hal.block k hk)
      have hza : v13.heap.size + 1 ≤ (v13.alloc (.cells #[.slice q1A0 q1n0 q1c0, .slice q1A1 q1n1 q1c1, .slice q1A2 q1n2 q1c2] 44)).heap.size := by simp
      replace HE := Lib.hid (HE.out.trans (hal.mono (by omega)))
      replace HX0 := Lib.hid (HX0.out.trans (hal.mono (by omega)))
      clear hal ownv13
      go_upto_region 11 with (fail)
      generalize (v13.alloc (.cells #[.slice q1A0 q1n0 q1c0, .slice q1A1 q1n1 q1c1, .slice q1A2 q1n2 q1c2] 44)) = vX1 at *
      have HKX1 := Lib.hid (fun (W : World) (hW : Below vX1.heap.size vX1 W) => show vX1.heap.size ≤ W.heap.size ∧ v13.heap.size < vX1.heap.size ∧ layEng.see W v13.heap.size x1 [.slice q1A0 q1n0 q1c0, .slice q1A1 q1n1 q1c1, .slice q1A2 q1n2 q1c2] ∧ W.heap[v13.heap.size]? = some (.cells #[.slice q1A0 q1n0 q1c0, .slice q1A1 q1n1 q1c1, .slice q1A2 q1n2 q1c2] 44 (0, 0)) from ⟨hW.size, by omega, layEng.keep seev13 (fun k hk => hW.block k (by omega)), box_keep hbx hW (by omega)⟩)
      have HX1 := Lib.hid (Below.refl vX1.heap.size vX1)
      clear hbx seev13 hza
      have pe15_0 := box_cell (j := 0) (HKX0.out _ HX0.out).2.2.2 rfl
      have pe15_1 := box_cell (j := 1) (HKX0.out _ HX0.out).2.2.2 rfl
      have pe15_2 := box_cell (j := 2) (HKX0.out _ HX0.out).2.2.2 rfl
      have pe15_3 := box_cell (j := 3) (HKX0.out _ HX0.out).2.2.2 rfl
      have pe16_0 := box_cell (j := 0) (HKX1.out _ HX1.out).2.2.2 rfl
      have pe16_1 := box_cell (j := 1) (HKX1.out _ HX1.out).2.2.2 rfl
      have pe16_2 := box_cell (j := 2) (HKX1.out _ HX1.out).2.2.2 rfl
      have zx0 := (HKX0.out _ HX0.out).1
      have zy0 := (HKX0.out _ HX0.out).2.1
      have zx1 := (HKX1.out _ HX1.out).1
      have zy1 := (HKX1.out _ HX1.out).2.1
      go_wp2_with fail
      refine (HIM.out _ vX1.heap.size _ (layProg.more ((HKX0.out _ HX0.out).2.2.1) (by omega)) _ (layEng.more ((HKX1.out _ HX1.out).2.2.1) (by omega)) (Nat.le_refl _) ((HKE.out _ HE.out).1).2).mono ?_
      rintro e v16 ⟨rfl, hbv16⟩
      have hzv16 := hbv16.size
      replace HE := Lib.hid (HE.out.trans (hbv16.mono (by omega)))
      replace HX0 := Lib.hid (HX0.out.trans (hbv16.mono (by omega)))
      replace HX1 := Lib.hid (HX1.out.trans (hbv16.mono (by omega)))
      clear hbv16 pe15_0 pe15_1 pe15_2 pe15_3 pe16_0 pe16_1 pe16_2
      have zE18 := ((HKE.out _ HE.out).1).1
      have zx := (HKX0.out _ HX0.out).1
      have zy := (HKX0.out _ HX0.out).2.1
      go_upto_region 14 with (fail)
      refine wp_region_inv (fun AC0 L a W => ∃ sl39 sl40 sl41 sl42 sl43 : Value, a = (((((AC0.put (some 39) sl39).put (some 40) sl40).put (some 41) sl41).put (some 42) sl42).put (some 43) sl43) ∧ Below v16.heap.size v16 W ∧ ((L 0 → sl39 = (.agg #[.slice q0A0 q0n0 q0c0, .int .i64 x0.fMus, .slice q0A2 q0n2 q0c2, .slice q0A3 q0n3 q0c3])) ∧ (L 1 → sl40 = (.agg #[.slice p0A0 p0n0 p0c0, .int .i64 x0.fMus, .slice p0A2 p0n2 p0c2, .slice p0A3 p0n3 p0c3])) ∧ (L 2 → SeeAt layProg W x0 sl41) ∧ (L 3 → sl42 = (.bool true)) ∧ (L 4 → sl43 = (.bool false)))) (by kernel_rfl) (by kernel_rfl) ?_ ?_ ?_
      · exact ⟨undef, undef, undef, undef, undef, by kernel_rfl, Below.drew (Below.refl _ _), fun h => absurd h id, fun h => absurd h id, fun h => absurd h id, fun h => absurd h id, fun h => absurd h id⟩
      · intro Q9; refine InvFrom.cons (fun L a W hI hN hD K hK => ?_) ?_
        · obtain ⟨sl39, sl40, sl41, sl42, sl43, ha, hB, f0, f1, f2, f3, f4⟩ := hI
          subst ha
          have hz := hB.size
          have hX := (HKX0.out W (HX0.out.trans (hB.mono (by omega)))).2.2.2
          have pc0 := box_cell (j := 0) hX rfl
          have pc1 := box_cell (j := 1) hX rfl
          have pc2 := box_cell (j := 2) hX rfl
          have pc3 := box_cell (j := 3) hX rfl
          refine Kept.mk ?_
          simp only [Act.put, pA, pZ, pS]
          go_simp
          refine hK.out _ _ ?_
          exact ⟨(.agg #[.slice q0A0 q0n0 q0c0, .int .i64 x0.fMus, .slice q0A2 q0n2 q0c2, .slice q0A3 q0n3 q0c3]), sl40, sl41, sl42, sl43, by kernel_rfl, hB, fun _ => rfl, nf f1, nf f2, nf f3, nf f4⟩
        refine InvFrom.cons (fun L a W hI hN hD K hK => ?_) ?_
        · obtain ⟨sl39, sl40, sl41, sl42, sl43, ha, hB, f0, f1, f2, f3, f4⟩ := hI
          subst ha
          have hz := hB.size
          have hW := (HKE.out W (HE.out.trans (hB.mono (by omega))))
          have pc0 := box_cell (j := 0) hW.2.2.1 rfl
          have pc1 := box_cell (j := 1) hW.2.2.1 rfl
          have pc2 := box_cell (j := 2) hW.2.2.1 rfl
          have pc3 := box_cell (j := 3) hW.2.2.1 rfl
          refine Kept.mk ?_
          simp only [Act.put, pA, pZ, pS]
          go_simp
          refine hK.out _ _ ?_
          exact ⟨sl39, (.agg #[.slice p0A0 p0n0 p0c0, .int .i64 x0.fMus, .slice p0A2 p0n2 p0c2, .slice p0A3 p0n3 p0c3]), sl41, sl42, sl43, by kernel_rfl, hB, nf f0, fun _ => rfl, nf f2, nf f3, nf f4⟩
        refine InvFrom.cons (fun L a W hI hN hD K hK => ?_) ?_
        · obtain ⟨sl39, sl40, sl41, sl42, sl43, ha, hB, f0, f1, f2, f3, f4⟩ := hI
          subst ha
          have hz := hB.size
          have d1 := f1 (hD 1 (by kernel_rfl))
          subst d1
          have hW := (HKE.out W (HE.out.trans (hB.mono (by omega))))
          refine kept_c1 rfl 9 _ _ rfl (fenters_of' Tryz.func9 (by kernel_rfl) (by kernel_rfl)) (.agg #[.slice p0A0 p0n0 p0c0, .int .i64 x0.fMus, .slice p0A2 p0n2 p0c2, .slice p0A3 p0n3 p0c3]) (by kernel_rfl) (toProg_any hW.2.1 (by omega) hle0) ?_
          rintro e W1 ⟨u1, rfl, own1, hb1⟩
          refine ⟨_, rfl, hK.out _ _ ?_⟩
          exact ⟨sl39, (.agg #[.slice p0A0 p0n0 p0c0, .int .i64 x0.fMus, .slice p0A2 p0n2 p0c2, .slice p0A3 p0n3 p0c3]), (.agg u1.toArray), sl42, sl43, by kernel_rfl, hB.trans (hb1.mono hz), nf f0, nf f1, fun _ => ⟨_, rfl, layProg.seen (hi := W1.heap.size) own1 (fun g hg => hg.2)⟩, nf f3, nf f4⟩
        refine InvFrom.cons (fun L a W hI hN hD K hK => ?_) ?_
        · obtain ⟨sl39, sl40, sl41, sl42, sl43, ha, hB, f0, f1, f2, f3, f4⟩ := hI
          subst ha
          have hz := hB.size
          have d0 := f0 (hD 0 (by kernel_rfl))
          subst d0
          have d2 := f2 (hD 2 (by kernel_rfl))
          obtain ⟨uy0, rfl, sy0⟩ := d2
          refine kept_c2 rfl 13 _ _ _ rfl (fenters_of' Tryz.func13 (by kernel_rfl) (by kernel_rfl)) (.agg #[.slice q0A0 q0n0 q0c0, .int .i64 x0.fMus, .slice q0A2 q0n2 q0c2, .slice q0A3 q0n3 q0c3]) (.agg uy0.toArray) (by kernel_rfl) (by kernel_rfl) (eqProg_same (layProg.more (HKX0.out W (HX0.out.trans (hB.mono (by omega)))).2.2.1 (by omega)) sy0 (Nat.le_refl _) (Nat.le_refl _) (Nat.le_trans hle0 (by omega))) ?_
          rintro e W1 ⟨rfl, hb9⟩
          refine ⟨_, rfl, hK.out _ _ ?_⟩
          exact ⟨(.agg #[.slice q0A0 q0n0 q0c0, .int .i64 x0.fMus, .slice q0A2 q0n2 q0c2, .slice q0A3 q0n3 q0c3]), sl40, (.agg uy0.toArray), (.bool true), sl43, by kernel_rfl, hB.trans (hb9.mono hz), nf f0, nf f1, fun h => (f2 (nx h)).up hb9, fun _ => rfl, nf f4⟩
        refine InvFrom.cons (fun L a W hI hN hD K hK => ?_) ?_
        · obtain ⟨sl39, sl40, sl41, sl42, sl43, ha, hB, f0, f1, f2, f3, f4⟩ := hI
          subst ha
          have hz := hB.size
          have d3 := f3 (hD 3 (by kernel_rfl))
          subst d3
          refine Kept.mk ?_
          simp only [Act.put, pA, pZ, pS]
          go_simp
          refine hK.out _ _ ?_
          exact ⟨sl39, sl40, sl41, (.bool true), (.bool false), by kernel_rfl, hB, nf f0, nf f1, nf f2, nf f3, fun _ => rfl⟩
        exact InvFrom.nil
      intro L a v18 hL hI
      obtain ⟨sl39, sl40, sl41, sl42, sl43, ha, hbv18, hI⟩ := hI
      subst ha
      have hfin := hI.2.2.2.2 (hL 4 (by decide))
      subst hfin
      clear hL hI
      refine Kept.mk ?_
      simp only [Act.put, pA, pZ, pS]
      have hzv18 := hbv18.size
      clear zx zy
      replace HE := Lib.hid (HE.out.trans (hbv18.mono (by omega)))
      replace HX0 := Lib.hid (HX0.out.trans (hbv18.mono (by omega)))
      replace HX1 := Lib.hid (HX1.out.trans (hbv18.mono (by omega)))
      clear hbv18
      have zE20 := ((HKE.out _ HE.out).1).1
      have zx := (HKX1.out _ HX1.out).1
      have zy := (HKX1.out _ HX1.out).2.1
      go_upto_region 16 with (fail)
      refine wp_region_inv (fun AC0 L a W => ∃ sl44 sl45 sl46 sl47 sl48 : Value, a = (((((AC0.put (some 44) sl44).put (some 45) sl45).put (some 46) sl46).put (some 47) sl47).put (some 48) sl48) ∧ Below v18.heap.size v18 W ∧ ((L 0 → sl44 = (.agg #[.slice q1A0 q1n0 q1c0, .slice q1A1 q1n1 q1c1, .slice q1A2 q1n2 q1c2])) ∧ (L 1 → sl45 = (.agg #[.slice p1A0 p1n0 p1c0, .slice p1A1 p1n1 p1c1, .slice p1A2 p1n2 p1c2])) ∧ (L 2 → SeeAt layEng W x1 sl46) ∧ (L 3 → sl47 = (.bool true)) ∧ (L 4 → sl48 = (.bool false)))) (by kernel_rfl) (by kernel_rfl) ?_ ?_ ?_
      · exact ⟨undef, undef, undef, undef, undef, by kernel_rfl, Below.drew (Below.refl _ _), fun h => absurd h id, fun h => absurd h id, fun h => absurd h id, fun h => absurd h id, fun h => absurd h id⟩
      · intro Q9; refine InvFrom.cons (fun L a W hI hN hD K hK => ?_) ?_
        · obtain ⟨sl44, sl45, sl46, sl47, sl48, ha, hB, f0, f1, f2, f3, f4⟩ := hI
          subst ha
          have hz := hB.size
          have hX := (HKX1.out W (HX1.out.trans (hB.mono (by omega)))).2.2.2
          have pc0 := box_cell (j := 0) hX rfl
          have pc1 := box_cell (j := 1) hX rfl
          have pc2 := box_cell (j := 2) hX rfl
          refine Kept.mk ?_
          simp only [Act.put, pA, pZ, pS]
          go_simp
          refine hK.out _ _ ?_
          exact ⟨(.agg #[.slice q1A0 q1n0 q1c0, .slice q1A1 q1n1 q1c1, .slice q1A2 q1n2 q1c2]), sl45, sl46, sl47, sl48, by kernel_rfl, hB, fun _ => rfl, nf f1, nf f2, nf f3, nf f4⟩
        refine InvFrom.cons (fun L a W hI hN hD K hK => ?_) ?_
        · obtain ⟨sl44, sl45, sl46, sl47, sl48, ha, hB, f0, f1, f2, f3, f4⟩ := hI
          subst ha
          have hz := hB.size
          have hW := (HKE.out W (HE.out.trans (hB.mono (by omega))))
          have pc0 := box_cell (j := 0) hW.2.2.2.2.1 rfl
          have pc1 := box_cell (j := 1) hW.2.2.2.2.1 rfl
          have pc2 := box_cell (j := 2) hW.2.2.2.2.1 rfl
          refine Kept.mk ?_
          simp only [Act.put, pA, pZ, pS]
          go_simp
          refine hK.out _ _ ?_
          exact ⟨sl44, (.agg #[.slice p1A0 p1n0 p1c0, .slice p1A1 p1n1 p1c1, .slice p1A2 p1n2 p1c2]), sl46, sl47, sl48, by kernel_rfl, hB, nf f0, fun _ => rfl, nf f2, nf f3, nf f4⟩
        refine InvFrom.cons (fun L a W hI hN hD K hK => ?_) ?_
        · obtain ⟨sl44, sl45, sl46, sl47, sl48, ha, hB, f0, f1, f2, f3, f4⟩ := hI
          subst ha
          have hz := hB.size
          have d1 := f1 (hD 1 (by kernel_rfl))
          subst d1
          have hW := (HKE.out W (HE.out.trans (hB.mono (by omega))))
          refine kept_c1 rfl 10 _ _ rfl (fenters_of' Tryz.func10 (by kernel_rfl) (by kernel_rfl)) (.agg #[.slice p1A0 p1n0 p1c0, .slice p1A1 p1n1 p1c1, .slice p1A2 p1n2 p1c2]) (by kernel_rfl) (toEng_any hW.2.2.2.1 (by omega) hle1) ?_
          rintro e W1 ⟨u1, rfl, own1, hb1⟩
          refine ⟨_, rfl, hK.out _ _ ?_⟩
          exact ⟨sl44, (.agg #[.slice p1A0 p1n0 p1c0, .slice p1A1 p1n1 p1c1, .slice p1A2 p1n2 p1c2]), (.agg u1.toArray), sl47, sl48, by kernel_rfl, hB.trans (hb1.mono hz), nf f0, nf f1, fun _ => ⟨_, rfl, layEng.seen (hi := W1.heap.size) own1 (fun g hg => hg.2)⟩, nf f3, nf f4⟩
        refine InvFrom.cons (fun L a W hI hN hD K hK => ?_) ?_
        · obtain ⟨sl44, sl45, sl46, sl47, sl48, ha, hB, f0, f1, f2, f3, f4⟩ := hI
          subst ha
          have hz := hB.size
          have d0 := f0 (hD 0 (by kernel_rfl))
          subst d0
          have d2 := f2 (hD 2 (by kernel_rfl))
          obtain ⟨uy1, rfl, sy1⟩ := d2
          refine kept_c2 rfl 14 _ _ _ rfl (fenters_of' Tryz.func14 (by kernel_rfl) (by kernel_rfl)) (.agg #[.slice q1A0 q1n0 q1c0, .slice q1A1 q1n1 q1c1, .slice q1A2 q1n2 q1c2]) (.agg uy1.toArray) (by kernel_rfl) (by kernel_rfl) (eqEng_same (layEng.more (HKX1.out W (HX1.out.trans (hB.mono (by omega)))).2.2.1 (by omega)) sy1 (Nat.le_refl _) (Nat.le_refl _) (Nat.le_trans hle1 (by omega))) ?_
          rintro e W1 ⟨rfl, hb9⟩
          refine ⟨_, rfl, hK.out _ _ ?_⟩
          exact ⟨(.agg #[.slice q1A0 q1n0 q1c0, .slice q1A1 q1n1 q1c1, .slice q1A2 q1n2 q1c2]), sl45, (.agg uy1.toArray), (.bool true), sl48, by kernel_rfl, hB.trans (hb9.mono hz), nf f0, nf f1, fun h => (f2 (nx h)).up hb9, fun _ => rfl, nf f4⟩
        refine InvFrom.cons (fun L a W hI hN hD K hK => ?_) ?_
        · obtain ⟨sl44, sl45, sl46, sl47, sl48, ha, hB, f0, f1, f2, f3, f4⟩ := hI
          subst ha
          have hz := hB.size
          have d3 := f3 (hD 3 (by kernel_rfl))
          subst d3
          refine Kept.mk ?_
          simp only [Act.put, pA, pZ, pS]
          go_simp
          refine hK.out _ _ ?_
          exact ⟨sl44, sl45, sl46, (.bool true), (.bool false), by kernel_rfl, hB, nf f0, nf f1, nf f2, nf f3, fun _ => rfl⟩
        exact InvFrom.nil
      intro L a v20 hL hI
      obtain ⟨sl44, sl45, sl46, sl47, sl48, ha, hbv20, hI⟩ := hI
      subst ha
      have hfin := hI.2.2.2.2 (hL 4 (by decide))
      subst hfin
      clear hL hI
      refine Kept.mk ?_
      simp only [Act.put, pA, pZ, pS]
      have hzv20 := hbv20.size
      clear zx zy
      replace HE := Lib.hid (HE.out.trans (hbv20.mono (by omega)))
      replace HX0 := Lib.hid (HX0.out.trans (hbv20.mono (by omega)))
      replace HX1 := Lib.hid (HX1.out.trans (hbv20.mono (by omega)))
      clear hbv20
      go_wp2_with fail
      go_ret
      exact ⟨rfl, ((HKE.out _ HE.out).1).2⟩
    · go_wp2_with fail
      go_ret
      exact ⟨rfl, ((HKE.out _ HE.out).1).2⟩
  · go_wp2_with fail
    go_ret
    exact ⟨rfl, ((HKE.out _ HE.out).1).2⟩

set_option maxRecDepth 100000 in
theorem door_met (os : Os) (args : Array Value) : laidMetH Tryz.prog Rows.fnExactChoicesRow.laid ((World.doorLaid Tryz.prog 400 os).forCall (fun _ _ => 0) ⟨#[], args, []⟩).memory :=
  laidMetH_of_parts3 (fuel := 8) (laidMet_of_run' 8 (by kernel_rfl) (by kernel_rfl)) (by kernel_rfl) (by kernel_rfl)

set_option maxRecDepth 100000 in
theorem lifted (os : Os) (started : os.Started) (H : Type) (enc : TypeId × Value → H) :
    ReturnsInHanded {} Tryz.checked os 5 .any (fun w args => (Rows.fnExactChoicesSpec.pre enc Tryz.prog Tryz.f5 [] false w args ∧ laidMetH Tryz.prog Rows.fnExactChoicesRow.laid w) ∧ sizedMet enc Tryz.prog Tryz.f5 (OpenSpec.ofChange Rows.fnExactChoicesSpec) false w args) (Rows.fnExactChoicesSpec.post enc Tryz.prog Tryz.f5 false true false false) := by
  refine returnsInHanded_of_change_and (C := Tryz.checked) (X := fun w _ => laidMetH Tryz.prog Rows.fnExactChoicesRow.laid w) (fun _ _ _ hh h => h.of_heap hh) own started (by kernel_rfl) Tryz.func5
    (ChangeSpec.witness_shaped (enc := enc) (C := Tryz.checked) (os := os) (X := fun w _ => laidMetH Tryz.prog Rows.fnExactChoicesRow.laid w) false (World.doorLaid Tryz.prog 400 os) #[.agg #[.slice none 0 0, .int .i64 0, .slice none 0 0, .slice none 0 0], .agg #[.slice none 0 0, .slice none 0 0, .slice none 0 0], .int .i64 0] 8 rfl (World.shaped_of_RefB (by kernel_rfl) (by kernel_rfl)) (by kernel_rfl) (by kernel_rfl) (by kernel_rfl) (door_met os _)) ?_
  intro W base args ds gs before hval0 hW _ _ hL _
  have hval : ∀ (j : Nat) t v, Tryz.f5.params[j]? = some t → args[j]? = some v → Value.okWide Tryz.prog W .any base t v := hval0
  have hW' := hW
  obtain ⟨p, q, hA0, hV, rfl, hfz, hnd⟩ := hW
  have hA : DataW.TrodAll enc Tryz.prog W 0 (fun _ => true) true Tryz.f5.params.toList args.toList ds p := hA0
  rw [Tryz.params5] at hA hval
  obtain ⟨v0, vs0, d0, ds0, p0, q0, hargs, rfl, rfl, h0, r0⟩ := trodAll_cons hA
  obtain ⟨v1, vs1, d1, ds1, p1, q1, rfl, rfl, rfl, h1, r1⟩ := trodAll_cons r0
  obtain ⟨v2, vs2, d2, ds2, p2, q2, rfl, rfl, rfl, h2, r2⟩ := trodAll_cons r1
  obtain ⟨rfl, rfl, rfl⟩ := trodAll_nil r2
  obtain rfl : args = #[v0, v1, v2] := by cases args; simp_all
  have hV' := hV
  obtain ⟨_, _, _, _, ga, _, _, _, _, _, gb, _, rfl, _⟩ := trodVars_two hV
  obtain ⟨cs0, rfl, _⟩ := okWide_struct Tryz.underlying26 (hval 0 26 v0 rfl rfl)
  obtain ⟨vc0, rfl⟩ : ∃ l : List Value, cs0 = l.toArray := ⟨cs0.toList, by simp⟩
  have k0 := h0
  have lt0 : ∀ x ∈ p0, x.block < W.heap.size := by obtain ⟨m, hm⟩ := k0; exact DataW.trod_lt m _ _ _ hm
  obtain ⟨x0, s0'⟩ := (opensProg).arg h0
  have s0 : layProg.see W W.heap.size x0 vc0 := by simpa [Value.cells] using s0'
  obtain ⟨cs1, rfl, _⟩ := okWide_struct Tryz.underlying31 (hval 1 31 v1 rfl rfl)
  obtain ⟨vc1, rfl⟩ : ∃ l : List Value, cs1 = l.toArray := ⟨cs1.toList, by simp⟩
  have k1 := h1
  have lt1 : ∀ x ∈ p1, x.block < W.heap.size := by obtain ⟨m, hm⟩ := k1; exact DataW.trod_lt m _ _ _ hm
  obtain ⟨x1, s1'⟩ := (opensEng).arg h1
  have s1 : layEng.see W W.heap.size x1 vc1 := by simpa [Value.cells] using s1'
  obtain ⟨a2, rfl, rfl, rfl, w2⟩ := open_int Tryz.underlying3 (hval 2 3 v2 rfl rfl) h2
  clear hA0 hval0
  refine (walk W x0 _ s0 x1 _ s1 a2 w2 (⟨opCells_of (opTab_of_laid hL), itemCells_of (itemTab_of_laid hL.tail)⟩)).mono fun e W' ⟨he, bel⟩ => ?_
  subst he
  exact ⟨_, rfl, _, _, _, [], _, _, hW', trodAll_mk1 (shut_bool Tryz.underlying4 _), (trodAll_cons_mk (Below.trod laidOut (by kernel_rfl) (of_decide_eq_true (by kernel_rfl)) k0 bel lt0) (trodAll_cons_mk (Below.trod laidOut (by kernel_rfl) (of_decide_eq_true (by kernel_rfl)) k1 bel lt1) (trodAll_cons_mk (shut_int Tryz.underlying3 w2) trodAll_mk0))), bel.trodVars laidOut (by kernel_rfl) hV', bel.frame _, fun h => by cases h⟩

theorem over : Rows.fnExactChoicesRow.holds Tryz.pinned (OpenSpec.ofChange Rows.fnExactChoicesSpec) :=
  OpenClaim.holds_of_wide 5 Tryz.f5 rfl rfl rfl rfl rfl rfl rfl ⟨rfl, rfl, rfl, rfl, rfl⟩ rfl rfl rfl rfl rfl (by kernel_rfl) Tryz.func5 (by kernel_rfl)
    (of_decide_eq_true (by kernel_rfl)) (by unfold Func.isWrapper; first | (rw [if_pos (by decide +kernel)]; kernel_rfl) | (rw [if_neg (by decide +kernel)]; exact ⟨rfl, rfl⟩))
    (fun os started H enc _ => lifted os started H enc)

theorem proved : Rows.FnExactChoicesCardSaid :=
  Claim7.holds_tied_plain_at .later [] [.data, .data] true (true, "127ccc7b3dedd35ba3f8aba58048db804333b0932bcdfc114acb82c8fe97cf82") false
    over (fun _ h => by cases h) (by kernel_rfl) (fun _ h => by cases h) fnExactChoices_row_tie rfl ⟨rfl, rfl⟩ (by kernel_rfl) rfl
    (fun f fn hf hfn => by
      obtain rfl : f = 5 := Option.some.inj ((show Tryz.prog.funcNamed "loop.example/g00679/laws.FnExactChoices" = some 5 by kernel_rfl).symm.trans hf) |>.symm
      obtain rfl : fn = Tryz.f5 := (Option.some.inj (Tryz.func5.symm.trans hfn)).symm
      exact ⟨by kernel_rfl, fun j t ht => by
        rw [Tryz.params5] at ht
        rcases j with _ | j
        · have ht' : t = 26 := by simpa using ht.symm
          subst ht'
          exact (show Tryz.prog.wantsStandIn 26 = false by kernel_rfl)
        rcases j with _ | j
        · have ht' : t = 31 := by simpa using ht.symm
          subst ht'
          exact (show Tryz.prog.wantsStandIn 31 = false by kernel_rfl)
        rcases j with _ | j
        · have ht' : t = 3 := by simpa using ht.symm
          subst ht'
          exact (show Tryz.prog.wantsStandIn 3 = false by kernel_rfl)
        simp at ht
      ⟩)
    (by kernel_rfl)
#print axioms proved
end Go.Proofs.YtghkdkagnibkgaaGreatDoor.fnExactChoices
