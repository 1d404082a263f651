/- ReadyCases answers as its model at every program, engine and number, writes into no argument, its answer owns its memory, and it ends. -/
import Derived.Test.YtghkdkagnibkgaaGreatDoorRows
import Derived.WalkKit
import Derived.Test.YtghkdkagnibkgaaGreatDoorCards
import Derived.Test.YtghkdkagnibkgaaGreatDoorTie
import Derived.Lib.LaidTab
import Derived.SevenTiedAt
import Derived.Stop.Joined
import Derived.LaidMore
import Derived.ChangeVars
import Derived.OpenVars
import Derived.Test.YtghkdkagnibkgaaGreatDoorCasJ
import Derived.Test.YtghkdkagnibkgaaGreatDoorCasS
import Derived.Test.YtghkdkagnibkgaaGreatDoorCasL
import Derived.Test.YtghkdkagnibkgaaGreatDoorGM
import Derived.Test.YtghkdkagnibkgaaGreatDoorGTabs
import Derived.Lib.Hide
import Derived.ProofKit
import Derived.OpenShut
import Derived.ShutString
import Derived.ChangeOld
import Derived.Below
namespace Go.Proofs.YtghkdkagnibkgaaGreatDoor.fnExactReadyCases
open Go.ChangeShapes Go.WideShapes Go.ChangeAt Go.RowKit
open Go.ChangeMaps (open_string shut_string)
set_option linter.unusedVariables false
set_option linter.unusedSimpArgs false

theorem own : ownKnob Tryz.prog.godebug = none := by kernel_rfl
theorem laidOut : laidOutB Tryz.prog = true := by kernel_rfl

set_option maxRecDepth 100000 in
set_option maxHeartbeats 20000000 in
theorem walk (w : World) (x0 : DProg) (vs0 : List Value) (s0 : layProg.see w w.heap.size x0 vs0) (x1 : DEng) (vs1 : List Value) (s1 : layEng.see w w.heap.size x1 vs1) (a2 : Int) (w2 : (Lit.int .i64 a2).wf = true) (hC : OpCells w ∧ ItemCells w) :
    Calls Tryz.prog 3 #[.agg vs0.toArray, .agg vs1.toArray, .int .i64 a2] w fun e w' => e = .returned (.bool true) ∧ Below w.heap.size w w' := by
  obtain ⟨p0A0, p0n0, p0c0, p0A2, p0n2, p0c2, p0A3, p0n3, p0c3, rfl, -⟩ := seeProg s0
  obtain ⟨p1A0, p1n0, p1c0, p1A1, p1n1, p1c1, p1A2, p1n2, p1c2, rfl, -⟩ := seeEng s1
  have HV2 := Lib.hid w2
  clear w2
  have hWE : Below w.heap.size w ((w.alloc (.cells #[.slice p0A0 p0n0 p0c0, .int .i64 x0.fMus, .slice p0A2 p0n2 p0c2, .slice p0A3 p0n3 p0c3] 26)).alloc (.cells #[.slice p1A0 p1n0 p1c0, .slice p1A1 p1n1 p1c1, .slice p1A2 p1n2 p1c2] 31)) := (((Below.refl w.heap.size w).alloc (Nat.le_refl _) _).alloc (by simp only [World.size_alloc]; omega) _)
  have hzE : w.heap.size + 2 ≤ ((w.alloc (.cells #[.slice p0A0 p0n0 p0c0, .int .i64 x0.fMus, .slice p0A2 p0n2 p0c2, .slice p0A3 p0n3 p0c3] 26)).alloc (.cells #[.slice p1A0 p1n0 p1c0, .slice p1A1 p1n1 p1c1, .slice p1A2 p1n2 p1c2] 31)).heap.size := by simp
  have hbx0 := box_new w #[.slice p0A0 p0n0 p0c0, .int .i64 x0.fMus, .slice p0A2 p0n2 p0c2, .slice p0A3 p0n3 p0c3] 26
  have hbx0 := box_keep hbx0 ((Below.refl _ _).alloc (Nat.le_refl _) (.cells #[.slice p1A0 p1n0 p1c0, .slice p1A1 p1n1 p1c1, .slice p1A2 p1n2 p1c2] 31)) (by simp only [World.size_alloc]; omega)
  have hbx1 := box_new (w.alloc (.cells #[.slice p0A0 p0n0 p0c0, .int .i64 x0.fMus, .slice p0A2 p0n2 p0c2, .slice p0A3 p0n3 p0c3] 26)) #[.slice p1A0 p1n0 p1c0, .slice p1A1 p1n1 p1c1, .slice p1A2 p1n2 p1c2] 31
  simp only [World.size_alloc, Nat.add_assoc, Nat.reduceAdd] at hbx1
  have HKE := Lib.hid (fun (W : World) (hW : Below (w.heap.size + 2) ((w.alloc (.cells #[.slice p0A0 p0n0 p0c0, .int .i64 x0.fMus, .slice p0A2 p0n2 p0c2, .slice p0A3 p0n3 p0c3] 26)).alloc (.cells #[.slice p1A0 p1n0 p1c0, .slice p1A1 p1n1 p1c1, .slice p1A2 p1n2 p1c2] 31)) W) => show (w.heap.size + 2 ≤ W.heap.size ∧ Below w.heap.size w W) ∧ layProg.see W w.heap.size x0 [.slice p0A0 p0n0 p0c0, .int .i64 x0.fMus, .slice p0A2 p0n2 p0c2, .slice p0A3 p0n3 p0c3] ∧ W.heap[w.heap.size]? = some (.cells #[.slice p0A0 p0n0 p0c0, .int .i64 x0.fMus, .slice p0A2 p0n2 p0c2, .slice p0A3 p0n3 p0c3] 26 (0, 0)) ∧ layEng.see W w.heap.size x1 [.slice p1A0 p1n0 p1c0, .slice p1A1 p1n1 p1c1, .slice p1A2 p1n2 p1c2] ∧ W.heap[w.heap.size + 1]? = some (.cells #[.slice p1A0 p1n0 p1c0, .slice p1A1 p1n1 p1c1, .slice p1A2 p1n2 p1c2] 31 (0, 0)) ∧ True from ⟨⟨Nat.le_trans hzE hW.size, hWE.trans (hW.mono (by omega))⟩, layProg.keep s0 (fun k hk => (hW.block k (by omega)).trans (hWE.block k hk)), box_keep hbx0 hW (by omega), layEng.keep s1 (fun k hk => (hW.block k (by omega)).trans (hWE.block k hk)), box_keep hbx1 hW (by omega), trivial⟩)
  have HE := Lib.hid (show Below (w.heap.size + 2) ((w.alloc (.cells #[.slice p0A0 p0n0 p0c0, .int .i64 x0.fMus, .slice p0A2 p0n2 p0c2, .slice p0A3 p0n3 p0c3] 26)).alloc (.cells #[.slice p1A0 p1n0 p1c0, .slice p1A1 p1n1 p1c1, .slice p1A2 p1n2 p1c2] 31)) ((w.alloc (.cells #[.slice p0A0 p0n0 p0c0, .int .i64 x0.fMus, .slice p0A2 p0n2 p0c2, .slice p0A3 p0n3 p0c3] 26)).alloc (.cells #[.slice p1A0 p1n0 p1c0, .slice p1A1 p1n1 p1c1, .slice p1A2 p1n2 p1c2] 31)) from Below.refl _ _)
  clear hWE hzE hbx0 hbx1 s0 s1
  go_enter Tryz.func3, Tryz.ntmps3
  have pe1_0 := box_cell (j := 0) ((HKE.out _ (HE.out)).2.2.1) rfl
  have pe1_1 := box_cell (j := 1) ((HKE.out _ (HE.out)).2.2.1) rfl
  have pe1_2 := box_cell (j := 2) ((HKE.out _ (HE.out)).2.2.1) rfl
  have pe1_3 := box_cell (j := 3) ((HKE.out _ (HE.out)).2.2.1) rfl
  have zE2 := ((HKE.out _ (HE.out)).1).1
  go_wp2_with fail
  refine (szProg_any (l := 1048576) ((HKE.out _ (HE.out)).2.1) (by omega) (Nat.le_refl _)).mono ?_
  rintro e v3 ⟨hbv3, hcase⟩
  replace HE := Lib.hid (HE.out.trans (hbv3.mono (by first | omega | (simp only [World.size_alloc]; omega))))
  have hz4 := hbv3.size
  clear hbv3 pe1_0 pe1_1 pe1_2 pe1_3
  rcases hcase with ⟨hq0, rfl⟩ | ⟨hq0, rfl⟩
  · skip
    have hle0 : szProg x0 ≤ 1048576 := by omega
    obtain ⟨l0, hl0⟩ : ∃ l, l = 1048576 - szProg x0 := ⟨_, rfl⟩
    simp only [← hl0]
    have hlm0 : l0 ≤ 1048576 := by omega
    clear hl0
    have pe5_0 := box_cell (j := 0) ((HKE.out _ (HE.out)).2.2.2.2.1) rfl
    have pe5_1 := box_cell (j := 1) ((HKE.out _ (HE.out)).2.2.2.2.1) rfl
    have pe5_2 := box_cell (j := 2) ((HKE.out _ (HE.out)).2.2.2.2.1) rfl
    have zE6 := ((HKE.out _ (HE.out)).1).1
    go_wp2_with fail
    refine (szEng_any (l := l0) ((HKE.out _ (HE.out)).2.2.2.1) (by omega) (by omega)).mono ?_
    rintro e v7 ⟨hbv7, hcase⟩
    replace HE := Lib.hid (HE.out.trans (hbv7.mono (by omega)))
    have hz8 := hbv7.size
    clear hbv7 pe5_0 pe5_1 pe5_2
    rcases hcase with ⟨hq1, rfl⟩ | ⟨hq1, rfl⟩
    · skip
      have hle1 : szEng x1 ≤ 1048576 := by omega
      have hszR : (readyCasesL x0 x1 a2).length ≤ 1048580 := Nat.le_trans (readyCasesL_len _ _ _) (by decide)
      have hvcX0 := vcntP11_le (Nat.le_trans hle0 (by omega))
      have hvcX1 := vcntEng_le (Nat.le_trans hle1 (by omega))
      have HSP := Lib.hid (fun (W : World) (hi : Nat) (vs0 : List Value) (h0 : layProg.see W hi x0 vs0) (vs1 : List Value) (h1 : layEng.see W hi x1 vs1) (hhi : hi ≤ W.heap.size) (hW : Below w.heap.size w W) => specReadyCases_any h0 h1 hhi hle0 hle1 a2)
      have HIM := Lib.hid (fun (W : World) (hi : Nat) (vs0 : List Value) (h0 : layProg.see W hi x0 vs0) (vs1 : List Value) (h1 : layEng.see W hi x1 vs1) (hhi : hi ≤ W.heap.size) (hW : Below w.heap.size w W) => implReadyCases_any h0 h1 hhi (opCells_below hC.1 hW) (itemCells_below hC.2 hW (Nat.le_refl _)) hle0 hle1 a2)
      generalize readyCasesL x0 x1 a2 = r at *
      have zE9 := ((HKE.out _ (HE.out)).1).1
      go_upto_region 8 with (fail)
      refine wp_region_inv (fun AC0 L a W => ∃ sl26 sl27 sl28 sl29 sl30 sl31 sl8 : Value, a = (((((((AC0.put (some 26) sl26).put (some 27) sl27).put (some 28) sl28).put (some 29) sl29).put (some 30) sl30).put (some 31) sl31).put (some 8) sl8) ∧ Below v7.heap.size v7 W ∧ ((L 0 → sl26 = (.agg #[.slice p0A0 p0n0 p0c0, .int .i64 x0.fMus, .slice p0A2 p0n2 p0c2, .slice p0A3 p0n3 p0c3])) ∧ (L 1 → SeeAt layProg W x0 sl27) ∧ (L 2 → sl28 = (.agg #[.slice p1A0 p1n0 p1c0, .slice p1A1 p1n1 p1c1, .slice p1A2 p1n2 p1c2])) ∧ (L 3 → SeeAt layEng W x1 sl29) ∧ (L 4 → sl30 = (.int .i64 a2)) ∧ (L 5 → RowAt Lay.int 3 v7.heap.size W r sl31) ∧ (L 6 → RowAt Lay.int 3 v7.heap.size W r sl8))) (by kernel_rfl) (by kernel_rfl) ?_ ?_ ?_
      · exact ⟨undef, undef, undef, undef, undef, undef, undef, by kernel_rfl, Below.drew (Below.refl _ _), fun h => absurd h id, fun h => absurd h id, fun h => absurd h id, fun h => absurd h id, fun h => absurd h id, fun h => absurd h id, fun h => absurd h id⟩
      · intro Q9; refine InvFrom.cons (fun L a W hI hN hD K hK => ?_) ?_
        · obtain ⟨sl26, sl27, sl28, sl29, sl30, sl31, sl8, ha, hB, f0, f1, f2, f3, f4, f5, f6⟩ := hI
          subst ha
          have hz := hB.size
          have hW := (HKE.out W (HE.out.trans (hB.mono (by omega))))
          have pc0 := box_cell (j := 0) hW.2.2.1 rfl
          have pc1 := box_cell (j := 1) hW.2.2.1 rfl
          have pc2 := box_cell (j := 2) hW.2.2.1 rfl
          have pc3 := box_cell (j := 3) hW.2.2.1 rfl
          refine Kept.mk ?_
          simp only [Act.put, pA, pZ, pS]
          go_simp
          refine hK.out _ _ ?_
          exact ⟨(.agg #[.slice p0A0 p0n0 p0c0, .int .i64 x0.fMus, .slice p0A2 p0n2 p0c2, .slice p0A3 p0n3 p0c3]), sl27, sl28, sl29, sl30, sl31, sl8, by kernel_rfl, hB, fun _ => rfl, nf f1, nf f2, nf f3, nf f4, nf f5, nf f6⟩
        refine InvFrom.cons (fun L a W hI hN hD K hK => ?_) ?_
        · obtain ⟨sl26, sl27, sl28, sl29, sl30, sl31, sl8, ha, hB, f0, f1, f2, f3, f4, f5, f6⟩ := hI
          subst ha
          have hz := hB.size
          have d0 := f0 (hD 0 (by kernel_rfl))
          subst d0
          have hW := (HKE.out W (HE.out.trans (hB.mono (by omega))))
          refine kept_c1 rfl 9 _ _ rfl (fenters_of' Tryz.func9 (by kernel_rfl) (by kernel_rfl)) (.agg #[.slice p0A0 p0n0 p0c0, .int .i64 x0.fMus, .slice p0A2 p0n2 p0c2, .slice p0A3 p0n3 p0c3]) (by kernel_rfl) (toProg_any hW.2.1 (by omega) hle0) ?_
          rintro e W1 ⟨u1, rfl, own1, hb1⟩
          refine ⟨_, rfl, hK.out _ _ ?_⟩
          exact ⟨(.agg #[.slice p0A0 p0n0 p0c0, .int .i64 x0.fMus, .slice p0A2 p0n2 p0c2, .slice p0A3 p0n3 p0c3]), (.agg u1.toArray), sl28, sl29, sl30, sl31, sl8, by kernel_rfl, hB.trans (hb1.mono hz), nf f0, fun _ => ⟨_, rfl, layProg.seen (hi := W1.heap.size) own1 (fun g hg => hg.2)⟩, nf f2, fun h => (f3 (nx h)).up hb1, nf f4, fun h => (f5 (nx h)).up hb1, fun h => (f6 (nx h)).up hb1⟩
        refine InvFrom.cons (fun L a W hI hN hD K hK => ?_) ?_
        · obtain ⟨sl26, sl27, sl28, sl29, sl30, sl31, sl8, ha, hB, f0, f1, f2, f3, f4, f5, f6⟩ := hI
          subst ha
          have hz := hB.size
          have hW := (HKE.out W (HE.out.trans (hB.mono (by omega))))
          have pc0 := box_cell (j := 0) hW.2.2.2.2.1 rfl
          have pc1 := box_cell (j := 1) hW.2.2.2.2.1 rfl
          have pc2 := box_cell (j := 2) hW.2.2.2.2.1 rfl
          refine Kept.mk ?_
          simp only [Act.put, pA, pZ, pS]
          go_simp
          refine hK.out _ _ ?_
          exact ⟨sl26, sl27, (.agg #[.slice p1A0 p1n0 p1c0, .slice p1A1 p1n1 p1c1, .slice p1A2 p1n2 p1c2]), sl29, sl30, sl31, sl8, by kernel_rfl, hB, nf f0, nf f1, fun _ => rfl, nf f3, nf f4, nf f5, nf f6⟩
        refine InvFrom.cons (fun L a W hI hN hD K hK => ?_) ?_
        · obtain ⟨sl26, sl27, sl28, sl29, sl30, sl31, sl8, ha, hB, f0, f1, f2, f3, f4, f5, f6⟩ := hI
          subst ha
          have hz := hB.size
          have d1 := f1 (hD 1 (by kernel_rfl))
          obtain ⟨uy0, rfl, sy0⟩ := d1
          have d2 := f2 (hD 2 (by kernel_rfl))
          subst d2
          have hW := (HKE.out W (HE.out.trans (hB.mono (by omega))))
          refine kept_c1 rfl 10 _ _ rfl (fenters_of' Tryz.func10 (by kernel_rfl) (by kernel_rfl)) (.agg #[.slice p1A0 p1n0 p1c0, .slice p1A1 p1n1 p1c1, .slice p1A2 p1n2 p1c2]) (by kernel_rfl) (toEng_any hW.2.2.2.1 (by omega) hle1) ?_
          rintro e W1 ⟨u1, rfl, own1, hb1⟩
          refine ⟨_, rfl, hK.out _ _ ?_⟩
          exact ⟨sl26, (.agg uy0.toArray), (.agg #[.slice p1A0 p1n0 p1c0, .slice p1A1 p1n1 p1c1, .slice p1A2 p1n2 p1c2]), (.agg u1.toArray), sl30, sl31, sl8, by kernel_rfl, hB.trans (hb1.mono hz), nf f0, fun h => (f1 (nx h)).up hb1, nf f2, fun _ => ⟨_, rfl, layEng.seen (hi := W1.heap.size) own1 (fun g hg => hg.2)⟩, nf f4, fun h => (f5 (nx h)).up hb1, fun h => (f6 (nx h)).up hb1⟩
        refine InvFrom.cons (fun L a W hI hN hD K hK => ?_) ?_
        · obtain ⟨sl26, sl27, sl28, sl29, sl30, sl31, sl8, ha, hB, f0, f1, f2, f3, f4, f5, f6⟩ := hI
          subst ha
          have hz := hB.size
          refine Kept.mk ?_
          simp only [Act.put, pA, pZ, pS]
          go_simp
          refine hK.out _ _ ?_
          exact ⟨sl26, sl27, sl28, sl29, (.int .i64 a2), sl31, sl8, by kernel_rfl, hB, nf f0, nf f1, nf f2, nf f3, fun _ => rfl, nf f5, nf f6⟩
        refine InvFrom.cons (fun L a W hI hN hD K hK => ?_) ?_
        · obtain ⟨sl26, sl27, sl28, sl29, sl30, sl31, sl8, ha, hB, f0, f1, f2, f3, f4, f5, f6⟩ := hI
          subst ha
          have hz := hB.size
          have d1 := f1 (hD 1 (by kernel_rfl))
          obtain ⟨uy0, rfl, sy0⟩ := d1
          have d3 := f3 (hD 3 (by kernel_rfl))
          obtain ⟨uy1, rfl, sy1⟩ := d3
          have d4 := f4 (hD 4 (by kernel_rfl))
          subst d4
          have hW := (HKE.out W (HE.out.trans (hB.mono (by omega))))
          refine kept_c3 rfl 8 _ _ _ _ rfl (fenters_of' Tryz.func8 (by kernel_rfl) (by kernel_rfl)) (.agg uy0.toArray) (.agg uy1.toArray) (.int .i64 a2) (by kernel_rfl) (by kernel_rfl) (by kernel_rfl) (HSP.out W W.heap.size _ sy0 _ sy1 (Nat.le_refl _) hW.1.2) ?_
          rintro e W1 ⟨A9, c9, rfl, own9, hb9⟩
          refine ⟨_, rfl, hK.out _ _ ?_⟩
          exact ⟨sl26, (.agg uy0.toArray), sl28, (.agg uy1.toArray), (.int .i64 a2), (.slice A9 r.length c9), sl8, by kernel_rfl, hB.trans (hb9.mono hz), nf f0, fun h => (f1 (nx h)).up hb9, nf f2, fun h => (f3 (nx h)).up hb9, nf f4, fun _ => RowAt.of_own hz own9, fun h => (f6 (nx h)).up hb9⟩
        refine InvFrom.cons (fun L a W hI hN hD K hK => ?_) ?_
        · obtain ⟨sl26, sl27, sl28, sl29, sl30, sl31, sl8, ha, hB, f0, f1, f2, f3, f4, f5, f6⟩ := hI
          subst ha
          have hz := hB.size
          have d5 := f5 (hD 5 (by kernel_rfl))
          obtain ⟨A9, c9, rfl, own9⟩ := d5
          refine Kept.mk ?_
          simp only [Act.put, pA, pZ, pS]
          go_simp
          refine hK.out _ _ ?_
          exact ⟨sl26, sl27, sl28, sl29, sl30, (.slice A9 r.length c9), (.slice A9 r.length c9), by kernel_rfl, hB, nf f0, nf f1, nf f2, nf f3, nf f4, nf f5, fun _ => ⟨A9, c9, rfl, own9⟩⟩
        exact InvFrom.nil
      intro L a v10 hL hI
      obtain ⟨sl26, sl27, sl28, sl29, sl30, sl31, sl8, ha, hbv10, hI⟩ := hI
      subst ha
      have hfin := hI.2.2.2.2.2.2 (hL 6 (by decide))
      have hlo := hbv10.size
      obtain ⟨AgS, cgS, hsl, han⟩ := hfin.ans (by first | exact hlo | omega)
      clear hlo
      subst hsl
      clear hL hI
      refine Kept.mk ?_
      simp only [Act.put, pA, pZ, pS]
      replace HE := Lib.hid (HE.out.trans (hbv10.mono (by omega)))
      have hz11 := hbv10.size
      have HAS := Lib.hid han
      clear han hbv10
      have pe12_0 := box_cell (j := 0) ((HKE.out _ (HE.out)).2.2.1) rfl
      have pe12_1 := box_cell (j := 1) ((HKE.out _ (HE.out)).2.2.1) rfl
      have pe12_2 := box_cell (j := 2) ((HKE.out _ (HE.out)).2.2.1) rfl
      have pe12_3 := box_cell (j := 3) ((HKE.out _ (HE.out)).2.2.1) rfl
      have zE13 := ((HKE.out _ (HE.out)).1).1
      have lt15 := HAS.out.lt
      go_wp2_with fail
      refine (toProg_any ((HKE.out _ (HE.out)).2.1) (by omega) hle0).mono ?_
      rintro e v14 ⟨uv14, rfl, ownv14, hbv14⟩
      have hz16 := hbv14.size
      have see2 := layProg.seen (hi := v14.heap.size) ownv14 fun g hg => hg.2
      obtain ⟨q0A0, q0n0, q0c0, q0A2, q0n2, q0c2, q0A3, q0n3, q0c3, rfl, -⟩ := seeProg see2
      clear see2 pe12_0 pe12_1 pe12_2 pe12_3
      go_upto_region 10 with (fail)
      have hal : Below v10.heap.size v10 (v14.alloc (.cells #[.slice q0A0 q0n0 q0c0, .int .i64 x0.fMus, .slice q0A2 q0n2 q0c2, .slice q0A3 q0n3 q0c3] 38)) := hbv14.alloc hbv14.size _
      have han := Ans.mk (t := 38) ownv14 (fun g hg => hg) hbv14.size
      obtain ⟨gX0, hgX0⟩ : ∃ b, b = v14.heap.size := ⟨_, rfl⟩
      have hnm : v14.heap.size = gX0 := hgX0.symm
      replace HE := Lib.hid (HE.out.trans (hal.mono (by omega)))
      replace HAS := Lib.hid (HAS.out.below hal (by omega))
      have hz18 := hal.size
      replace han : Ans layProg 38 v10.heap.size (v14.alloc (.cells #[.slice q0A0 q0n0 q0c0, .int .i64 x0.fMus, .slice q0A2 q0n2 q0c2, .slice q0A3 q0n3 q0c3] 38)).heap.size (v14.alloc (.cells #[.slice q0A0 q0n0 q0c0, .int .i64 x0.fMus, .slice q0A2 q0n2 q0c2, .slice q0A3 q0n3 q0c3] 38)) gX0 x0 := by rw [← hnm]; exact han
      have HAX0 := Lib.hid han
      clear han hal ownv14 hbv14
      generalize (v14.alloc (.cells #[.slice q0A0 q0n0 q0c0, .int .i64 x0.fMus, .slice q0A2 q0n2 q0c2, .slice q0A3 q0n3 q0c3] 38)) = v17 at *
      simp only [hnm]
      clear hnm hgX0
      have pe19_0 := box_cell (j := 0) ((HKE.out _ (HE.out)).2.2.2.2.1) rfl
      have pe19_1 := box_cell (j := 1) ((HKE.out _ (HE.out)).2.2.2.2.1) rfl
      have pe19_2 := box_cell (j := 2) ((HKE.out _ (HE.out)).2.2.2.2.1) rfl
      have zE20 := ((HKE.out _ (HE.out)).1).1
      have lt22 := HAS.out.lt
      have lt23 := HAX0.out.lt
      go_wp2_with fail
      refine (toEng_any ((HKE.out _ (HE.out)).2.2.2.1) (by omega) hle1).mono ?_
      rintro e v21 ⟨uv21, rfl, ownv21, hbv21⟩
      have hz24 := hbv21.size
      have see2 := layEng.seen (hi := v21.heap.size) ownv21 fun g hg => hg.2
      obtain ⟨q1A0, q1n0, q1c0, q1A1, q1n1, q1c1, q1A2, q1n2, q1c2, rfl, -⟩ := seeEng see2
      clear see2 pe19_0 pe19_1 pe19_2
      go_upto_region 11 with (fail)
      have hal : Below v17.heap.size v17 (v21.alloc (.cells #[.slice q1A0 q1n0 q1c0, .slice q1A1 q1n1 q1c1, .slice q1A2 q1n2 q1c2] 44)) := hbv21.alloc hbv21.size _
      have han := Ans.mk (t := 44) ownv21 (fun g hg => hg) hbv21.size
      obtain ⟨gX1, hgX1⟩ : ∃ b, b = v21.heap.size := ⟨_, rfl⟩
      have hnm : v21.heap.size = gX1 := hgX1.symm
      replace HE := Lib.hid (HE.out.trans (hal.mono (by omega)))
      replace HAS := Lib.hid (HAS.out.below hal (by omega))
      replace HAX0 := Lib.hid (HAX0.out.below hal (by omega))
      have hz26 := hal.size
      replace han : Ans layEng 44 v17.heap.size (v21.alloc (.cells #[.slice q1A0 q1n0 q1c0, .slice q1A1 q1n1 q1c1, .slice q1A2 q1n2 q1c2] 44)).heap.size (v21.alloc (.cells #[.slice q1A0 q1n0 q1c0, .slice q1A1 q1n1 q1c1, .slice q1A2 q1n2 q1c2] 44)) gX1 x1 := by rw [← hnm]; exact han
      have HAX1 := Lib.hid han
      clear han hal ownv21 hbv21
      generalize (v21.alloc (.cells #[.slice q1A0 q1n0 q1c0, .slice q1A1 q1n1 q1c1, .slice q1A2 q1n2 q1c2] 44)) = v25 at *
      simp only [hnm]
      clear hnm hgX1
      have lt27 := HAS.out.lt
      have lt28 := HAX0.out.lt
      have lt29 := HAX1.out.lt
      obtain ⟨o1l1, o1l2, o1l3, o1v, o1F, o1b, o1w, o1f⟩ := HAX0.out
      have o1s := layProg.seen (hi := v25.heap.size) o1w fun g hg => by have := o1f g hg; omega
      obtain ⟨o1A0, o1n0, o1c0, o1A2, o1n2, o1c2, o1A3, o1n3, o1c3, rfl, -⟩ := seeProg o1s
      have o1p0 := box_cell (j := 0) o1b rfl
      have o1p1 := box_cell (j := 1) o1b rfl
      have o1p2 := box_cell (j := 2) o1b rfl
      have o1p3 := box_cell (j := 3) o1b rfl
      obtain ⟨o2l1, o2l2, o2l3, o2v, o2F, o2b, o2w, o2f⟩ := HAX1.out
      have o2s := layEng.seen (hi := v25.heap.size) o2w fun g hg => by have := o2f g hg; omega
      obtain ⟨o2A0, o2n0, o2c0, o2A1, o2n1, o2c1, o2A2, o2n2, o2c2, rfl, -⟩ := seeEng o2s
      have o2p0 := box_cell (j := 0) o2b rfl
      have o2p1 := box_cell (j := 1) o2b rfl
      have o2p2 := box_cell (j := 2) o2b rfl
      have zE30 := ((HKE.out _ (HE.out)).1).1
      go_wp2_with fail
      refine (HIM.out _ v25.heap.size _ o1s _ o2s (Nat.le_refl _) ((HKE.out _ (HE.out)).1).2).mono ?_
      rintro e v31 ⟨AgG, cgG, rfl, ownv31, hbv31⟩
      clear o1p0 o1p1 o1p2 o1p3 o1l1 o1l2 o1l3 o1b o1w o1f o1s o2p0 o2p1 o2p2 o2l1 o2l2 o2l3 o2b o2w o2f o2s
      have han := AnsR.of_own hbv31.size ownv31
      replace HE := Lib.hid (HE.out.trans (hbv31.mono (by omega)))
      replace HAS := Lib.hid (HAS.out.below hbv31 (by omega))
      replace HAX0 := Lib.hid (HAX0.out.below hbv31 (by omega))
      replace HAX1 := Lib.hid (HAX1.out.below hbv31 (by omega))
      have hz32 := hbv31.size
      have HAG := Lib.hid han
      clear han hbv31 ownv31
      have lt33 := HAS.out.lt
      have lt34 := HAX0.out.lt
      have lt35 := HAX1.out.lt
      have lt36 := HAG.out.lt
      have zE37 := ((HKE.out _ (HE.out)).1).1
      go_wp2_with fail
      refine (eqIntS_same HAG.out.see HAS.out.see hszR).mono ?_
      rintro e v38 ⟨rfl, hbv38⟩
      replace HE := Lib.hid (HE.out.trans (hbv38.mono (by omega)))
      replace HAS := Lib.hid (HAS.out.below hbv38 (by omega))
      replace HAX0 := Lib.hid (HAX0.out.below hbv38 (by omega))
      replace HAX1 := Lib.hid (HAX1.out.below hbv38 (by omega))
      replace HAG := Lib.hid (HAG.out.below hbv38 (by omega))
      have hz39 := hbv38.size
      clear hbv38
      have lt40 := HAS.out.lt
      have lt41 := HAX0.out.lt
      have lt42 := HAX1.out.lt
      have lt43 := HAG.out.lt
      have zE44 := ((HKE.out _ (HE.out)).1).1
      obtain ⟨o3l1, o3l2, o3l3, o3v, o3F, o3b, o3w, o3f⟩ := HAX0.out
      have o3s := layProg.seen (hi := v38.heap.size) o3w fun g hg => by have := o3f g hg; omega
      obtain ⟨o3A0, o3n0, o3c0, o3A2, o3n2, o3c2, o3A3, o3n3, o3c3, rfl, -⟩ := seeProg o3s
      have o3p0 := box_cell (j := 0) o3b rfl
      have o3p1 := box_cell (j := 1) o3b rfl
      have o3p2 := box_cell (j := 2) o3b rfl
      have o3p3 := box_cell (j := 3) o3b rfl
      go_upto_region 14 with (fail)
      refine wp_region_inv (fun AC0 L a W => ∃ sl44 sl45 sl46 sl47 sl48 : Value, a = (((((AC0.put (some 44) sl44).put (some 45) sl45).put (some 46) sl46).put (some 47) sl47).put (some 48) sl48) ∧ Below v38.heap.size v38 W ∧ ((L 0 → sl44 = (.agg #[.slice o3A0 o3n0 o3c0, .int .i64 x0.fMus, .slice o3A2 o3n2 o3c2, .slice o3A3 o3n3 o3c3])) ∧ (L 1 → sl45 = (.agg #[.slice p0A0 p0n0 p0c0, .int .i64 x0.fMus, .slice p0A2 p0n2 p0c2, .slice p0A3 p0n3 p0c3])) ∧ (L 2 → SeeAt layProg W x0 sl46) ∧ (L 3 → sl47 = .bool true) ∧ (L 4 → sl48 = .bool false))) (by kernel_rfl) (by kernel_rfl) ?_ ?_ ?_
      · exact ⟨undef, undef, undef, undef, undef, by kernel_rfl, Below.drew (Below.refl _ _), fun h => absurd h id, fun h => absurd h id, fun h => absurd h id, fun h => absurd h id, fun h => absurd h id⟩
      · intro Q9; refine InvFrom.cons (fun L a W hI hN hD K hK => ?_) ?_
        · obtain ⟨sl44, sl45, sl46, sl47, sl48, ha, hB, f0, f1, f2, f3, f4⟩ := hI
          subst ha
          have hz := hB.size
          have pc0 := box_cell (j := 0) (box_keep o3b hB (by omega)) rfl
          have pc1 := box_cell (j := 1) (box_keep o3b hB (by omega)) rfl
          have pc2 := box_cell (j := 2) (box_keep o3b hB (by omega)) rfl
          have pc3 := box_cell (j := 3) (box_keep o3b hB (by omega)) rfl
          refine Kept.mk ?_
          simp only [Act.put, pA, pZ, pS]
          go_simp
          refine hK.out _ _ ?_
          exact ⟨(.agg #[.slice o3A0 o3n0 o3c0, .int .i64 x0.fMus, .slice o3A2 o3n2 o3c2, .slice o3A3 o3n3 o3c3]), sl45, sl46, sl47, sl48, by kernel_rfl, hB, fun _ => rfl, nf f1, nf f2, nf f3, nf f4⟩
        refine InvFrom.cons (fun L a W hI hN hD K hK => ?_) ?_
        · obtain ⟨sl44, sl45, sl46, sl47, sl48, ha, hB, f0, f1, f2, f3, f4⟩ := hI
          subst ha
          have hz := hB.size
          have hW := (HKE.out W (HE.out.trans (hB.mono (by omega))))
          have pc0 := box_cell (j := 0) hW.2.2.1 rfl
          have pc1 := box_cell (j := 1) hW.2.2.1 rfl
          have pc2 := box_cell (j := 2) hW.2.2.1 rfl
          have pc3 := box_cell (j := 3) hW.2.2.1 rfl
          refine Kept.mk ?_
          simp only [Act.put, pA, pZ, pS]
          go_simp
          refine hK.out _ _ ?_
          exact ⟨sl44, (.agg #[.slice p0A0 p0n0 p0c0, .int .i64 x0.fMus, .slice p0A2 p0n2 p0c2, .slice p0A3 p0n3 p0c3]), sl46, sl47, sl48, by kernel_rfl, hB, nf f0, fun _ => rfl, nf f2, nf f3, nf f4⟩
        refine InvFrom.cons (fun L a W hI hN hD K hK => ?_) ?_
        · obtain ⟨sl44, sl45, sl46, sl47, sl48, ha, hB, f0, f1, f2, f3, f4⟩ := hI
          subst ha
          have hz := hB.size
          have d1 := f1 (hD 1 (by kernel_rfl))
          subst d1
          have hW := (HKE.out W (HE.out.trans (hB.mono (by omega))))
          refine kept_c1 rfl 9 _ _ rfl (fenters_of' Tryz.func9 (by kernel_rfl) (by kernel_rfl)) (.agg #[.slice p0A0 p0n0 p0c0, .int .i64 x0.fMus, .slice p0A2 p0n2 p0c2, .slice p0A3 p0n3 p0c3]) (by kernel_rfl) (toProg_any hW.2.1 (by omega) hle0) ?_
          rintro e W1 ⟨u1, rfl, own1, hb1⟩
          refine ⟨_, rfl, hK.out _ _ ?_⟩
          exact ⟨sl44, (.agg #[.slice p0A0 p0n0 p0c0, .int .i64 x0.fMus, .slice p0A2 p0n2 p0c2, .slice p0A3 p0n3 p0c3]), (.agg u1.toArray), sl47, sl48, by kernel_rfl, hB.trans (hb1.mono hz), nf f0, nf f1, fun _ => ⟨_, rfl, layProg.seen (hi := W1.heap.size) own1 (fun g hg => hg.2)⟩, nf f3, nf f4⟩
        refine InvFrom.cons (fun L a W hI hN hD K hK => ?_) ?_
        · obtain ⟨sl44, sl45, sl46, sl47, sl48, ha, hB, f0, f1, f2, f3, f4⟩ := hI
          subst ha
          have hz := hB.size
          have d0 := f0 (hD 0 (by kernel_rfl))
          subst d0
          have d2 := f2 (hD 2 (by kernel_rfl))
          obtain ⟨uy0, rfl, sy0⟩ := d2
          refine kept_c2 rfl 13 _ _ _ rfl (fenters_of' Tryz.func13 (by kernel_rfl) (by kernel_rfl)) (.agg #[.slice o3A0 o3n0 o3c0, .int .i64 x0.fMus, .slice o3A2 o3n2 o3c2, .slice o3A3 o3n3 o3c3]) (.agg uy0.toArray) (by kernel_rfl) (by kernel_rfl) (eqProg_same (layProg.more (layProg.keep o3s (fun k hk => hB.block k hk)) hz) sy0 (Nat.le_refl _) (Nat.le_refl _) (Nat.le_trans hle0 (by omega))) ?_
          rintro e W1 ⟨rfl, hb9⟩
          refine ⟨_, rfl, hK.out _ _ ?_⟩
          exact ⟨(.agg #[.slice o3A0 o3n0 o3c0, .int .i64 x0.fMus, .slice o3A2 o3n2 o3c2, .slice o3A3 o3n3 o3c3]), sl45, (.agg uy0.toArray), (.bool true), sl48, by kernel_rfl, hB.trans (hb9.mono hz), nf f0, nf f1, fun h => (f2 (nx h)).up hb9, fun _ => rfl, nf f4⟩
        refine InvFrom.cons (fun L a W hI hN hD K hK => ?_) ?_
        · obtain ⟨sl44, sl45, sl46, sl47, sl48, ha, hB, f0, f1, f2, f3, f4⟩ := hI
          subst ha
          have hz := hB.size
          have d3 := f3 (hD 3 (by kernel_rfl))
          subst d3
          refine Kept.mk ?_
          simp only [Act.put, pA, pZ, pS]
          go_simp
          refine hK.out _ _ ?_
          exact ⟨sl44, sl45, sl46, (.bool true), (.bool false), by kernel_rfl, hB, nf f0, nf f1, nf f2, nf f3, fun _ => rfl⟩
        exact InvFrom.nil
      intro L a v45 hL hI
      obtain ⟨sl44, sl45, sl46, sl47, sl48, ha, hbv45, hI⟩ := hI
      subst ha
      have hfin := hI.2.2.2.2 (hL 4 (by decide))
      subst hfin
      clear hL hI
      refine Kept.mk ?_
      simp only [Act.put, pA, pZ, pS]
      clear o3p0 o3p1 o3p2 o3p3 o3l1 o3l2 o3l3 o3b o3w o3f o3s
      replace HE := Lib.hid (HE.out.trans (hbv45.mono (by omega)))
      replace HAS := Lib.hid (HAS.out.below hbv45 (by omega))
      replace HAX0 := Lib.hid (HAX0.out.below hbv45 (by omega))
      replace HAX1 := Lib.hid (HAX1.out.below hbv45 (by omega))
      replace HAG := Lib.hid (HAG.out.below hbv45 (by omega))
      have hz46 := hbv45.size
      clear hbv45
      have lt47 := HAS.out.lt
      have lt48 := HAX0.out.lt
      have lt49 := HAX1.out.lt
      have lt50 := HAG.out.lt
      have zE51 := ((HKE.out _ (HE.out)).1).1
      obtain ⟨o4l1, o4l2, o4l3, o4v, o4F, o4b, o4w, o4f⟩ := HAX1.out
      have o4s := layEng.seen (hi := v45.heap.size) o4w fun g hg => by have := o4f g hg; omega
      obtain ⟨o4A0, o4n0, o4c0, o4A1, o4n1, o4c1, o4A2, o4n2, o4c2, rfl, -⟩ := seeEng o4s
      have o4p0 := box_cell (j := 0) o4b rfl
      have o4p1 := box_cell (j := 1) o4b rfl
      have o4p2 := box_cell (j := 2) o4b rfl
      go_upto_region 16 with (fail)
      refine wp_region_inv (fun AC0 L a W => ∃ sl49 sl50 sl51 sl52 sl53 : Value, a = (((((AC0.put (some 49) sl49).put (some 50) sl50).put (some 51) sl51).put (some 52) sl52).put (some 53) sl53) ∧ Below v45.heap.size v45 W ∧ ((L 0 → sl49 = (.agg #[.slice o4A0 o4n0 o4c0, .slice o4A1 o4n1 o4c1, .slice o4A2 o4n2 o4c2])) ∧ (L 1 → sl50 = (.agg #[.slice p1A0 p1n0 p1c0, .slice p1A1 p1n1 p1c1, .slice p1A2 p1n2 p1c2])) ∧ (L 2 → SeeAt layEng W x1 sl51) ∧ (L 3 → sl52 = .bool true) ∧ (L 4 → sl53 = .bool false))) (by kernel_rfl) (by kernel_rfl) ?_ ?_ ?_
      · exact ⟨undef, undef, undef, undef, undef, by kernel_rfl, Below.drew (Below.refl _ _), fun h => absurd h id, fun h => absurd h id, fun h => absurd h id, fun h => absurd h id, fun h => absurd h id⟩
      · intro Q9; refine InvFrom.cons (fun L a W hI hN hD K hK => ?_) ?_
        · obtain ⟨sl49, sl50, sl51, sl52, sl53, ha, hB, f0, f1, f2, f3, f4⟩ := hI
          subst ha
          have hz := hB.size
          have pc0 := box_cell (j := 0) (box_keep o4b hB (by omega)) rfl
          have pc1 := box_cell (j := 1) (box_keep o4b hB (by omega)) rfl
          have pc2 := box_cell (j := 2) (box_keep o4b hB (by omega)) rfl
          refine Kept.mk ?_
          simp only [Act.put, pA, pZ, pS]
          go_simp
          refine hK.out _ _ ?_
          exact ⟨(.agg #[.slice o4A0 o4n0 o4c0, .slice o4A1 o4n1 o4c1, .slice o4A2 o4n2 o4c2]), sl50, sl51, sl52, sl53, by kernel_rfl, hB, fun _ => rfl, nf f1, nf f2, nf f3, nf f4⟩
        refine InvFrom.cons (fun L a W hI hN hD K hK => ?_) ?_
        · obtain ⟨sl49, sl50, sl51, sl52, sl53, ha, hB, f0, f1, f2, f3, f4⟩ := hI
          subst ha
          have hz := hB.size
          have hW := (HKE.out W (HE.out.trans (hB.mono (by omega))))
          have pc0 := box_cell (j := 0) hW.2.2.2.2.1 rfl
          have pc1 := box_cell (j := 1) hW.2.2.2.2.1 rfl
          have pc2 := box_cell (j := 2) hW.2.2.2.2.1 rfl
          refine Kept.mk ?_
          simp only [Act.put, pA, pZ, pS]
          go_simp
          refine hK.out _ _ ?_
          exact ⟨sl49, (.agg #[.slice p1A0 p1n0 p1c0, .slice p1A1 p1n1 p1c1, .slice p1A2 p1n2 p1c2]), sl51, sl52, sl53, by kernel_rfl, hB, nf f0, fun _ => rfl, nf f2, nf f3, nf f4⟩
        refine InvFrom.cons (fun L a W hI hN hD K hK => ?_) ?_
        · obtain ⟨sl49, sl50, sl51, sl52, sl53, ha, hB, f0, f1, f2, f3, f4⟩ := hI
          subst ha
          have hz := hB.size
          have d1 := f1 (hD 1 (by kernel_rfl))
          subst d1
          have hW := (HKE.out W (HE.out.trans (hB.mono (by omega))))
          refine kept_c1 rfl 10 _ _ rfl (fenters_of' Tryz.func10 (by kernel_rfl) (by kernel_rfl)) (.agg #[.slice p1A0 p1n0 p1c0, .slice p1A1 p1n1 p1c1, .slice p1A2 p1n2 p1c2]) (by kernel_rfl) (toEng_any hW.2.2.2.1 (by omega) hle1) ?_
          rintro e W1 ⟨u1, rfl, own1, hb1⟩
          refine ⟨_, rfl, hK.out _ _ ?_⟩
          exact ⟨sl49, (.agg #[.slice p1A0 p1n0 p1c0, .slice p1A1 p1n1 p1c1, .slice p1A2 p1n2 p1c2]), (.agg u1.toArray), sl52, sl53, by kernel_rfl, hB.trans (hb1.mono hz), nf f0, nf f1, fun _ => ⟨_, rfl, layEng.seen (hi := W1.heap.size) own1 (fun g hg => hg.2)⟩, nf f3, nf f4⟩
        refine InvFrom.cons (fun L a W hI hN hD K hK => ?_) ?_
        · obtain ⟨sl49, sl50, sl51, sl52, sl53, ha, hB, f0, f1, f2, f3, f4⟩ := hI
          subst ha
          have hz := hB.size
          have d0 := f0 (hD 0 (by kernel_rfl))
          subst d0
          have d2 := f2 (hD 2 (by kernel_rfl))
          obtain ⟨uy1, rfl, sy1⟩ := d2
          refine kept_c2 rfl 14 _ _ _ rfl (fenters_of' Tryz.func14 (by kernel_rfl) (by kernel_rfl)) (.agg #[.slice o4A0 o4n0 o4c0, .slice o4A1 o4n1 o4c1, .slice o4A2 o4n2 o4c2]) (.agg uy1.toArray) (by kernel_rfl) (by kernel_rfl) (eqEng_same (layEng.more (layEng.keep o4s (fun k hk => hB.block k hk)) hz) sy1 (Nat.le_refl _) (Nat.le_refl _) (Nat.le_trans hle1 (by omega))) ?_
          rintro e W1 ⟨rfl, hb9⟩
          refine ⟨_, rfl, hK.out _ _ ?_⟩
          exact ⟨(.agg #[.slice o4A0 o4n0 o4c0, .slice o4A1 o4n1 o4c1, .slice o4A2 o4n2 o4c2]), sl50, (.agg uy1.toArray), (.bool true), sl53, by kernel_rfl, hB.trans (hb9.mono hz), nf f0, nf f1, fun h => (f2 (nx h)).up hb9, fun _ => rfl, nf f4⟩
        refine InvFrom.cons (fun L a W hI hN hD K hK => ?_) ?_
        · obtain ⟨sl49, sl50, sl51, sl52, sl53, ha, hB, f0, f1, f2, f3, f4⟩ := hI
          subst ha
          have hz := hB.size
          have d3 := f3 (hD 3 (by kernel_rfl))
          subst d3
          refine Kept.mk ?_
          simp only [Act.put, pA, pZ, pS]
          go_simp
          refine hK.out _ _ ?_
          exact ⟨sl49, sl50, sl51, (.bool true), (.bool false), by kernel_rfl, hB, nf f0, nf f1, nf f2, nf f3, fun _ => rfl⟩
        exact InvFrom.nil
      intro L a v52 hL hI
      obtain ⟨sl49, sl50, sl51, sl52, sl53, ha, hbv52, hI⟩ := hI
      subst ha
      have hfin := hI.2.2.2.2 (hL 4 (by decide))
      subst hfin
      clear hL hI
      refine Kept.mk ?_
      simp only [Act.put, pA, pZ, pS]
      clear o4p0 o4p1 o4p2 o4l1 o4l2 o4l3 o4b o4w o4f o4s
      replace HE := Lib.hid (HE.out.trans (hbv52.mono (by omega)))
      replace HAS := Lib.hid (HAS.out.below hbv52 (by omega))
      replace HAX0 := Lib.hid (HAX0.out.below hbv52 (by omega))
      replace HAX1 := Lib.hid (HAX1.out.below hbv52 (by omega))
      replace HAG := Lib.hid (HAG.out.below hbv52 (by omega))
      have hz53 := hbv52.size
      clear hbv52
      have lt54 := HAS.out.lt
      have lt55 := HAX0.out.lt
      have lt56 := HAX1.out.lt
      have lt57 := HAG.out.lt
      obtain ⟨o5l1, o5l2, o5l3, o5v, o5F, o5b, o5w, o5f⟩ := HAX0.out
      have o5s := layProg.seen (hi := v52.heap.size) o5w fun g hg => by have := o5f g hg; omega
      obtain ⟨o5A0, o5n0, o5c0, o5A2, o5n2, o5c2, o5A3, o5n3, o5c3, rfl, -⟩ := seeProg o5s
      have o5p0 := box_cell (j := 0) o5b rfl
      have o5p1 := box_cell (j := 1) o5b rfl
      have o5p2 := box_cell (j := 2) o5b rfl
      have o5p3 := box_cell (j := 3) o5b rfl
      have zE59 := ((HKE.out _ (HE.out)).1).1
      have hvc0 := hvcX0
      go_wp2_with fail
      refine (markProg_any (k := 1) o5w (fun g hg => by have := o5f g hg; omega) (Nat.le_trans hle0 (by omega)) (by omega) (by omega)).mono ?_
      rintro e v58 ⟨rfl, own9, ht9⟩
      have hkv58 : decide (1 + vcntProg (x0) < 0) = false := decide_eq_false (by omega)
      replace HE := Lib.hid (HE.out.trans (show Below (w.heap.size + 2) v52 v58 from ⟨ht9.os, ht9.tape, ht9.output, ht9.size, fun k hk => ht9.block k (by omega) (fun hg => by have := o5f k hg; omega)⟩))
      replace HAS := Lib.hid (HAS.out.turned ht9 (fun k hg => by have := o5f k hg; omega))
      replace HAX1 := Lib.hid (HAX1.out.turned ht9 (fun k hg => by have := o5f k hg; omega))
      replace HAG := Lib.hid (HAG.out.turned ht9 (fun k hg => by have := o5f k hg; omega))
      replace HAX0 := Lib.hid (Ans.mark o5l1 o5l2 o5l3 o5b o5f own9 ht9)
      have hz60 := ht9.size
      clear o5p0 o5p1 o5p2 o5p3 o5l1 o5l2 o5l3 o5b o5w o5f o5s own9 ht9 hvc0
      have lt61 := HAS.out.lt
      have lt62 := HAX0.out.lt
      have lt63 := HAX1.out.lt
      have lt64 := HAG.out.lt
      obtain ⟨o6l1, o6l2, o6l3, o6v, o6F, o6b, o6w, o6f⟩ := HAX1.out
      have o6s := layEng.seen (hi := v58.heap.size) o6w fun g hg => by have := o6f g hg; omega
      obtain ⟨o6A0, o6n0, o6c0, o6A1, o6n1, o6c1, o6A2, o6n2, o6c2, rfl, -⟩ := seeEng o6s
      have o6p0 := box_cell (j := 0) o6b rfl
      have o6p1 := box_cell (j := 1) o6b rfl
      have o6p2 := box_cell (j := 2) o6b rfl
      have zE66 := ((HKE.out _ (HE.out)).1).1
      have hvc0 := hvcX1
      go_wp2_with fail
      refine (markEng_any (k := 1 + vcntProg (x0)) o6w (fun g hg => by have := o6f g hg; omega) (Nat.le_trans hle1 (by omega)) (by omega) (by omega)).mono ?_
      rintro e v65 ⟨rfl, own9, ht9⟩
      have hkv65 : decide (1 + vcntProg (x0) + vcntEng (x1) < 0) = false := decide_eq_false (by omega)
      replace HE := Lib.hid (HE.out.trans (show Below (w.heap.size + 2) v58 v65 from ⟨ht9.os, ht9.tape, ht9.output, ht9.size, fun k hk => ht9.block k (by omega) (fun hg => by have := o6f k hg; omega)⟩))
      replace HAS := Lib.hid (HAS.out.turned ht9 (fun k hg => by have := o6f k hg; omega))
      replace HAX0 := Lib.hid (HAX0.out.turned ht9 (fun k hg => by have := o6f k hg; omega))
      replace HAG := Lib.hid (HAG.out.turned ht9 (fun k hg => by have := o6f k hg; omega))
      replace HAX1 := Lib.hid (Ans.mark o6l1 o6l2 o6l3 o6b o6f own9 ht9)
      have hz67 := ht9.size
      clear o6p0 o6p1 o6p2 o6l1 o6l2 o6l3 o6b o6w o6f o6s own9 ht9 hvc0
      have lt68 := HAS.out.lt
      have lt69 := HAX0.out.lt
      have lt70 := HAX1.out.lt
      have lt71 := HAG.out.lt
      have zE72 := ((HKE.out _ (HE.out)).1).1
      go_wp2_with fail
      refine (eqIntS_same HAG.out.see HAS.out.see hszR).mono ?_
      rintro e v73 ⟨rfl, hbv73⟩
      replace HE := Lib.hid (HE.out.trans (hbv73.mono (by omega)))
      replace HAS := Lib.hid (HAS.out.below hbv73 (by omega))
      replace HAX0 := Lib.hid (HAX0.out.below hbv73 (by omega))
      replace HAX1 := Lib.hid (HAX1.out.below hbv73 (by omega))
      replace HAG := Lib.hid (HAG.out.below hbv73 (by omega))
      have hz74 := hbv73.size
      clear hbv73
      have lt75 := HAS.out.lt
      have lt76 := HAX0.out.lt
      have lt77 := HAX1.out.lt
      have lt78 := HAG.out.lt
      have zE80 := ((HKE.out _ (HE.out)).1).1
      go_wp2_with fail
      refine (markIntS_any1 (k := 1) HAG.out.own hszR (by omega) (by omega)).mono ?_
      rintro e v79 ⟨rfl, own9, ht9⟩
      have hkv79 : decide (1 + (r.length : Int) < 0) = false := decide_eq_false (by omega)
      replace HE := Lib.hid (HE.out.trans (show Below (w.heap.size + 2) v73 v79 from ⟨ht9.os, ht9.tape, ht9.output, ht9.size, fun k hk => ht9.block k (by omega) (fun hg => by have h1 := hg.1; omega)⟩))
      replace HAS := Lib.hid (HAS.out.turned ht9 (fun k hg => by have h1 := hg.1; have h2 := hg.2; omega))
      replace HAX0 := Lib.hid (HAX0.out.turned ht9 (fun k hg => by have h1 := hg.1; have h2 := hg.2; omega))
      replace HAX1 := Lib.hid (HAX1.out.turned ht9 (fun k hg => by have h1 := hg.1; have h2 := hg.2; omega))
      replace HAG := Lib.hid (HAG.out.marked own9 ht9)
      have hz81 := ht9.size
      clear own9 ht9
      have hqm : ((1 + (r.length : Int)) != (1 + (r.length : Int))) = false := by simp
      have lt82 := HAS.out.lt
      have lt83 := HAX0.out.lt
      have lt84 := HAX1.out.lt
      have lt85 := HAG.out.lt
      go_wp2_with fail
      refine (heldIntS_any1 (k := 1) HAG.out.see hszR (by omega) (by omega)).mono ?_
      rintro e v86 ⟨rfl, hw9⟩
      subst hw9
      have lt87 := HAS.out.lt
      have lt88 := HAX0.out.lt
      have lt89 := HAX1.out.lt
      have lt90 := HAG.out.lt
      have zE91 := ((HKE.out _ (HE.out)).1).1
      go_upto_region 31 with (fail)
      refine wp_region_inv (fun AC0 L a W => ∃ sl79 sl80 sl81 sl82 sl83 sl84 sl15 : Value, a = (((((((AC0.put (some 79) sl79).put (some 80) sl80).put (some 81) sl81).put (some 82) sl82).put (some 83) sl83).put (some 84) sl84).put (some 15) sl15) ∧ Below v79.heap.size v79 W ∧ ((L 0 → sl79 = (.agg #[.slice p0A0 p0n0 p0c0, .int .i64 x0.fMus, .slice p0A2 p0n2 p0c2, .slice p0A3 p0n3 p0c3])) ∧ (L 1 → SeeAt layProg W x0 sl80) ∧ (L 2 → sl81 = (.agg #[.slice p1A0 p1n0 p1c0, .slice p1A1 p1n1 p1c1, .slice p1A2 p1n2 p1c2])) ∧ (L 3 → SeeAt layEng W x1 sl82) ∧ (L 4 → sl83 = (.int .i64 a2)) ∧ (L 5 → RowAt Lay.int 3 v79.heap.size W r sl84) ∧ (L 6 → RowAt Lay.int 3 v79.heap.size W r sl15))) (by kernel_rfl) (by kernel_rfl) ?_ ?_ ?_
      · exact ⟨undef, undef, undef, undef, undef, undef, undef, by kernel_rfl, Below.drew (Below.refl _ _), fun h => absurd h id, fun h => absurd h id, fun h => absurd h id, fun h => absurd h id, fun h => absurd h id, fun h => absurd h id, fun h => absurd h id⟩
      · intro Q9; refine InvFrom.cons (fun L a W hI hN hD K hK => ?_) ?_
        · obtain ⟨sl79, sl80, sl81, sl82, sl83, sl84, sl15, ha, hB, f0, f1, f2, f3, f4, f5, f6⟩ := hI
          subst ha
          have hz := hB.size
          have hW := (HKE.out W (HE.out.trans (hB.mono (by omega))))
          have pc0 := box_cell (j := 0) hW.2.2.1 rfl
          have pc1 := box_cell (j := 1) hW.2.2.1 rfl
          have pc2 := box_cell (j := 2) hW.2.2.1 rfl
          have pc3 := box_cell (j := 3) hW.2.2.1 rfl
          refine Kept.mk ?_
          simp only [Act.put, pA, pZ, pS]
          go_simp
          refine hK.out _ _ ?_
          exact ⟨(.agg #[.slice p0A0 p0n0 p0c0, .int .i64 x0.fMus, .slice p0A2 p0n2 p0c2, .slice p0A3 p0n3 p0c3]), sl80, sl81, sl82, sl83, sl84, sl15, by kernel_rfl, hB, fun _ => rfl, nf f1, nf f2, nf f3, nf f4, nf f5, nf f6⟩
        refine InvFrom.cons (fun L a W hI hN hD K hK => ?_) ?_
        · obtain ⟨sl79, sl80, sl81, sl82, sl83, sl84, sl15, ha, hB, f0, f1, f2, f3, f4, f5, f6⟩ := hI
          subst ha
          have hz := hB.size
          have d0 := f0 (hD 0 (by kernel_rfl))
          subst d0
          have hW := (HKE.out W (HE.out.trans (hB.mono (by omega))))
          refine kept_c1 rfl 9 _ _ rfl (fenters_of' Tryz.func9 (by kernel_rfl) (by kernel_rfl)) (.agg #[.slice p0A0 p0n0 p0c0, .int .i64 x0.fMus, .slice p0A2 p0n2 p0c2, .slice p0A3 p0n3 p0c3]) (by kernel_rfl) (toProg_any hW.2.1 (by omega) hle0) ?_
          rintro e W1 ⟨u1, rfl, own1, hb1⟩
          refine ⟨_, rfl, hK.out _ _ ?_⟩
          exact ⟨(.agg #[.slice p0A0 p0n0 p0c0, .int .i64 x0.fMus, .slice p0A2 p0n2 p0c2, .slice p0A3 p0n3 p0c3]), (.agg u1.toArray), sl81, sl82, sl83, sl84, sl15, by kernel_rfl, hB.trans (hb1.mono hz), nf f0, fun _ => ⟨_, rfl, layProg.seen (hi := W1.heap.size) own1 (fun g hg => hg.2)⟩, nf f2, fun h => (f3 (nx h)).up hb1, nf f4, fun h => (f5 (nx h)).up hb1, fun h => (f6 (nx h)).up hb1⟩
        refine InvFrom.cons (fun L a W hI hN hD K hK => ?_) ?_
        · obtain ⟨sl79, sl80, sl81, sl82, sl83, sl84, sl15, ha, hB, f0, f1, f2, f3, f4, f5, f6⟩ := hI
          subst ha
          have hz := hB.size
          have hW := (HKE.out W (HE.out.trans (hB.mono (by omega))))
          have pc0 := box_cell (j := 0) hW.2.2.2.2.1 rfl
          have pc1 := box_cell (j := 1) hW.2.2.2.2.1 rfl
          have pc2 := box_cell (j := 2) hW.2.2.2.2.1 rfl
          refine Kept.mk ?_
          simp only [Act.put, pA, pZ, pS]
          go_simp
          refine hK.out _ _ ?_
          exact ⟨sl79, sl80, (.agg #[.slice p1A0 p1n0 p1c0, .slice p1A1 p1n1 p1c1, .slice p1A2 p1n2 p1c2]), sl82, sl83, sl84, sl15, by kernel_rfl, hB, nf f0, nf f1, fun _ => rfl, nf f3, nf f4, nf f5, nf f6⟩
        refine InvFrom.cons (fun L a W hI hN hD K hK => ?_) ?_
        · obtain ⟨sl79, sl80, sl81, sl82, sl83, sl84, sl15, ha, hB, f0, f1, f2, f3, f4, f5, f6⟩ := hI
          subst ha
          have hz := hB.size
          have d1 := f1 (hD 1 (by kernel_rfl))
          obtain ⟨uy0, rfl, sy0⟩ := d1
          have d2 := f2 (hD 2 (by kernel_rfl))
          subst d2
          have hW := (HKE.out W (HE.out.trans (hB.mono (by omega))))
          refine kept_c1 rfl 10 _ _ rfl (fenters_of' Tryz.func10 (by kernel_rfl) (by kernel_rfl)) (.agg #[.slice p1A0 p1n0 p1c0, .slice p1A1 p1n1 p1c1, .slice p1A2 p1n2 p1c2]) (by kernel_rfl) (toEng_any hW.2.2.2.1 (by omega) hle1) ?_
          rintro e W1 ⟨u1, rfl, own1, hb1⟩
          refine ⟨_, rfl, hK.out _ _ ?_⟩
          exact ⟨sl79, (.agg uy0.toArray), (.agg #[.slice p1A0 p1n0 p1c0, .slice p1A1 p1n1 p1c1, .slice p1A2 p1n2 p1c2]), (.agg u1.toArray), sl83, sl84, sl15, by kernel_rfl, hB.trans (hb1.mono hz), nf f0, fun h => (f1 (nx h)).up hb1, nf f2, fun _ => ⟨_, rfl, layEng.seen (hi := W1.heap.size) own1 (fun g hg => hg.2)⟩, nf f4, fun h => (f5 (nx h)).up hb1, fun h => (f6 (nx h)).up hb1⟩
        refine InvFrom.cons (fun L a W hI hN hD K hK => ?_) ?_
        · obtain ⟨sl79, sl80, sl81, sl82, sl83, sl84, sl15, ha, hB, f0, f1, f2, f3, f4, f5, f6⟩ := hI
          subst ha
          have hz := hB.size
          refine Kept.mk ?_
          simp only [Act.put, pA, pZ, pS]
          go_simp
          refine hK.out _ _ ?_
          exact ⟨sl79, sl80, sl81, sl82, (.int .i64 a2), sl84, sl15, by kernel_rfl, hB, nf f0, nf f1, nf f2, nf f3, fun _ => rfl, nf f5, nf f6⟩
        refine InvFrom.cons (fun L a W hI hN hD K hK => ?_) ?_
        · obtain ⟨sl79, sl80, sl81, sl82, sl83, sl84, sl15, ha, hB, f0, f1, f2, f3, f4, f5, f6⟩ := hI
          subst ha
          have hz := hB.size
          have d1 := f1 (hD 1 (by kernel_rfl))
          obtain ⟨uy0, rfl, sy0⟩ := d1
          have d3 := f3 (hD 3 (by kernel_rfl))
          obtain ⟨uy1, rfl, sy1⟩ := d3
          have d4 := f4 (hD 4 (by kernel_rfl))
          subst d4
          have hW := (HKE.out W (HE.out.trans (hB.mono (by omega))))
          refine kept_c3 rfl 11 _ _ _ _ rfl (fenters_of' Tryz.func11 (by kernel_rfl) (by kernel_rfl)) (.agg uy0.toArray) (.agg uy1.toArray) (.int .i64 a2) (by kernel_rfl) (by kernel_rfl) (by kernel_rfl) (HIM.out W W.heap.size _ sy0 _ sy1 (Nat.le_refl _) hW.1.2) ?_
          rintro e W1 ⟨A9, c9, rfl, own9, hb9⟩
          refine ⟨_, rfl, hK.out _ _ ?_⟩
          exact ⟨sl79, (.agg uy0.toArray), sl81, (.agg uy1.toArray), (.int .i64 a2), (.slice A9 r.length c9), sl15, by kernel_rfl, hB.trans (hb9.mono hz), nf f0, fun h => (f1 (nx h)).up hb9, nf f2, fun h => (f3 (nx h)).up hb9, nf f4, fun _ => RowAt.of_own hz own9, fun h => (f6 (nx h)).up hb9⟩
        refine InvFrom.cons (fun L a W hI hN hD K hK => ?_) ?_
        · obtain ⟨sl79, sl80, sl81, sl82, sl83, sl84, sl15, ha, hB, f0, f1, f2, f3, f4, f5, f6⟩ := hI
          subst ha
          have hz := hB.size
          have d5 := f5 (hD 5 (by kernel_rfl))
          obtain ⟨A9, c9, rfl, own9⟩ := d5
          refine Kept.mk ?_
          simp only [Act.put, pA, pZ, pS]
          go_simp
          refine hK.out _ _ ?_
          exact ⟨sl79, sl80, sl81, sl82, sl83, (.slice A9 r.length c9), (.slice A9 r.length c9), by kernel_rfl, hB, nf f0, nf f1, nf f2, nf f3, nf f4, nf f5, fun _ => ⟨A9, c9, rfl, own9⟩⟩
        exact InvFrom.nil
      intro L a v92 hL hI
      obtain ⟨sl79, sl80, sl81, sl82, sl83, sl84, sl15, ha, hbv92, hI⟩ := hI
      subst ha
      have hfin := hI.2.2.2.2.2.2 (hL 6 (by decide))
      have hlo := hbv92.size
      obtain ⟨AgH, cgH, hsl, han⟩ := hfin.ans (by first | exact hlo | omega)
      clear hlo
      subst hsl
      clear hL hI
      refine Kept.mk ?_
      simp only [Act.put, pA, pZ, pS]
      replace HE := Lib.hid (HE.out.trans (hbv92.mono (by omega)))
      replace HAS := Lib.hid (HAS.out.below hbv92 (by omega))
      replace HAX0 := Lib.hid (HAX0.out.below hbv92 (by omega))
      replace HAX1 := Lib.hid (HAX1.out.below hbv92 (by omega))
      replace HAG := Lib.hid (HAG.out.below hbv92 (by omega))
      have hz93 := hbv92.size
      have HAH := Lib.hid han
      clear han hbv92
      have lt94 := HAS.out.lt
      have lt95 := HAX0.out.lt
      have lt96 := HAX1.out.lt
      have lt97 := HAG.out.lt
      have lt98 := HAH.out.lt
      have zE99 := ((HKE.out _ (HE.out)).1).1
      go_wp2_with fail
      refine (eqIntS_same HAH.out.see HAS.out.see hszR).mono ?_
      rintro e v100 ⟨rfl, hbv100⟩
      replace HE := Lib.hid (HE.out.trans (hbv100.mono (by omega)))
      replace HAS := Lib.hid (HAS.out.below hbv100 (by omega))
      replace HAX0 := Lib.hid (HAX0.out.below hbv100 (by omega))
      replace HAX1 := Lib.hid (HAX1.out.below hbv100 (by omega))
      replace HAG := Lib.hid (HAG.out.below hbv100 (by omega))
      replace HAH := Lib.hid (HAH.out.below hbv100 (by omega))
      have hz101 := hbv100.size
      clear hbv100
      have lt102 := HAS.out.lt
      have lt103 := HAX0.out.lt
      have lt104 := HAX1.out.lt
      have lt105 := HAG.out.lt
      have lt106 := HAH.out.lt
      go_wp2_with fail
      refine (heldIntS_any1 (k := 1) HAG.out.see hszR (by omega) (by omega)).mono ?_
      rintro e v107 ⟨rfl, hw9⟩
      subst hw9
      go_wp2_with fail
      go_ret
      exact ⟨rfl, ((HKE.out _ (HE.out)).1).2⟩
    · go_wp2_with fail
      go_ret
      exact ⟨rfl, ((HKE.out _ (HE.out)).1).2⟩
  · go_wp2_with fail
    go_ret
    exact ⟨rfl, ((HKE.out _ (HE.out)).1).2⟩

set_option maxRecDepth 100000 in
theorem door_met (os : Os) (args : Array Value) : laidMetH Tryz.prog Rows.fnExactReadyCasesRow.laid ((World.doorLaid Tryz.prog 400 os).forCall (fun _ _ => 0) ⟨#[], args, []⟩).memory :=
  laidMetH_of_parts3 (fuel := 8) (laidMet_of_run' 8 (by kernel_rfl) (by kernel_rfl)) (by kernel_rfl) (by kernel_rfl)

set_option maxRecDepth 100000 in
theorem lifted (os : Os) (started : os.Started) (H : Type) (enc : TypeId × Value → H) :
    ReturnsInHanded {} Tryz.checked os 3 .any (fun w args => (Rows.fnExactReadyCasesSpec.pre enc Tryz.prog Tryz.f3 [] false w args ∧ laidMetH Tryz.prog Rows.fnExactReadyCasesRow.laid w) ∧ sizedMet enc Tryz.prog Tryz.f3 (OpenSpec.ofChange Rows.fnExactReadyCasesSpec) false w args) (Rows.fnExactReadyCasesSpec.post enc Tryz.prog Tryz.f3 false true false false) := by
  refine returnsInHanded_of_change_and (C := Tryz.checked) (X := fun w _ => laidMetH Tryz.prog Rows.fnExactReadyCasesRow.laid w) (fun _ _ _ hh h => h.of_heap hh) own started (by kernel_rfl) Tryz.func3
    (ChangeSpec.witness_shaped (enc := enc) (C := Tryz.checked) (os := os) (X := fun w _ => laidMetH Tryz.prog Rows.fnExactReadyCasesRow.laid w) false (World.doorLaid Tryz.prog 400 os) #[.agg #[.slice none 0 0, .int .i64 0, .slice none 0 0, .slice none 0 0], .agg #[.slice none 0 0, .slice none 0 0, .slice none 0 0], .int .i64 0] 8 rfl (World.shaped_of_RefB (by kernel_rfl) (by kernel_rfl)) (by kernel_rfl) (by kernel_rfl) (by kernel_rfl) (door_met os _)) ?_
  intro W base args ds gs before hval0 hW _ _ hL _
  have hval : ∀ (j : Nat) t v, Tryz.f3.params[j]? = some t → args[j]? = some v → Value.okWide Tryz.prog W .any base t v := hval0
  have hW' := hW
  obtain ⟨p, q, hA0, hV, rfl, hfz, hnd⟩ := hW
  have hA : DataW.TrodAll enc Tryz.prog W 0 (fun _ => true) true Tryz.f3.params.toList args.toList ds p := hA0
  rw [Tryz.params3] at hA hval
  obtain ⟨v0, vs0, d0, ds0, p0, q0, hargs, rfl, rfl, h0, r0⟩ := trodAll_cons hA
  obtain ⟨v1, vs1, d1, ds1, p1, q1, rfl, rfl, rfl, h1, r1⟩ := trodAll_cons r0
  obtain ⟨v2, vs2, d2, ds2, p2, q2, rfl, rfl, rfl, h2, r2⟩ := trodAll_cons r1
  obtain ⟨rfl, rfl, rfl⟩ := trodAll_nil r2
  obtain rfl : args = #[v0, v1, v2] := by cases args; simp_all
  have hV' := hV
  obtain ⟨_, _, _, _, ga, _, _, _, _, _, gb, _, rfl, _⟩ := trodVars_two hV
  obtain ⟨cs0, rfl, _⟩ := okWide_struct Tryz.underlying26 (hval 0 26 v0 rfl rfl)
  obtain ⟨vc0, rfl⟩ : ∃ l : List Value, cs0 = l.toArray := ⟨cs0.toList, by simp⟩
  have k0 := h0
  have lt0 : ∀ x ∈ p0, x.block < W.heap.size := by obtain ⟨m, hm⟩ := k0; exact DataW.trod_lt m _ _ _ hm
  obtain ⟨x0, s0'⟩ := (opensProg).arg h0
  have s0 : layProg.see W W.heap.size x0 vc0 := by simpa [Value.cells] using s0'
  obtain ⟨cs1, rfl, _⟩ := okWide_struct Tryz.underlying31 (hval 1 31 v1 rfl rfl)
  obtain ⟨vc1, rfl⟩ : ∃ l : List Value, cs1 = l.toArray := ⟨cs1.toList, by simp⟩
  have k1 := h1
  have lt1 : ∀ x ∈ p1, x.block < W.heap.size := by obtain ⟨m, hm⟩ := k1; exact DataW.trod_lt m _ _ _ hm
  obtain ⟨x1, s1'⟩ := (opensEng).arg h1
  have s1 : layEng.see W W.heap.size x1 vc1 := by simpa [Value.cells] using s1'
  obtain ⟨a2, rfl, rfl, rfl, w2⟩ := open_int Tryz.underlying3 (hval 2 3 v2 rfl rfl) h2
  clear hA0 hval0
  refine (walk W x0 _ s0 x1 _ s1 a2 w2 (⟨opCells_of (opTab_of_laid hL), itemCells_of (itemTab_of_laid hL.tail)⟩)).mono fun e W' ⟨he, bel⟩ => ?_
  subst he
  exact ⟨_, rfl, _, _, _, [], _, _, hW', trodAll_mk1 (shut_bool Tryz.underlying4 _), (trodAll_cons_mk (Below.trod laidOut (by kernel_rfl) (of_decide_eq_true (by kernel_rfl)) k0 bel lt0) (trodAll_cons_mk (Below.trod laidOut (by kernel_rfl) (of_decide_eq_true (by kernel_rfl)) k1 bel lt1) (trodAll_cons_mk (shut_int Tryz.underlying3 w2) trodAll_mk0))), bel.trodVars laidOut (by kernel_rfl) hV', bel.frame _, fun h => by cases h⟩

theorem over : Rows.fnExactReadyCasesRow.holds Tryz.pinned (OpenSpec.ofChange Rows.fnExactReadyCasesSpec) :=
  OpenClaim.holds_of_wide 3 Tryz.f3 rfl rfl rfl rfl rfl rfl rfl ⟨rfl, rfl, rfl, rfl, rfl⟩ rfl rfl rfl rfl rfl (by kernel_rfl) Tryz.func3 (by kernel_rfl)
    (of_decide_eq_true (by kernel_rfl)) (by unfold Func.isWrapper; first | (rw [if_pos (by decide +kernel)]; kernel_rfl) | (rw [if_neg (by decide +kernel)]; exact ⟨rfl, rfl⟩))
    (fun os started H enc _ => lifted os started H enc)

theorem proved : Rows.FnExactReadyCasesCardSaid :=
  Claim7.holds_tied_plain_at .later [] [.data, .data] true (true, "127ccc7b3dedd35ba3f8aba58048db804333b0932bcdfc114acb82c8fe97cf82") false
    over (fun _ h => by cases h) (by kernel_rfl) (fun _ h => by cases h) fnExactReadyCases_row_tie rfl ⟨rfl, rfl⟩ (by kernel_rfl) rfl
    (fun f fn hf hfn => by
      obtain rfl : f = 3 := Option.some.inj ((show Tryz.prog.funcNamed "loop.example/g00679/laws.FnExactReadyCases" = some 3 by kernel_rfl).symm.trans hf) |>.symm
      obtain rfl : fn = Tryz.f3 := (Option.some.inj (Tryz.func3.symm.trans hfn)).symm
      exact ⟨by kernel_rfl, fun j t ht => by
        rw [Tryz.params3] at ht
        rcases j with _ | j
        · have ht' : t = 26 := by simpa using ht.symm
          subst ht'
          exact (show Tryz.prog.wantsStandIn 26 = false by kernel_rfl)
        rcases j with _ | j
        · have ht' : t = 31 := by simpa using ht.symm
          subst ht'
          exact (show Tryz.prog.wantsStandIn 31 = false by kernel_rfl)
        rcases j with _ | j
        · have ht' : t = 3 := by simpa using ht.symm
          subst ht'
          exact (show Tryz.prog.wantsStandIn 3 = false by kernel_rfl)
        simp at ht
      ⟩)
    (by kernel_rfl)
#print axioms proved
end Go.Proofs.YtghkdkagnibkgaaGreatDoor.fnExactReadyCases
