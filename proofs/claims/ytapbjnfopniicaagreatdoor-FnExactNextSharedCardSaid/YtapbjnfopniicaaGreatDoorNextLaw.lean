/- NextShared answers as its model: the shared instruction behind the local steps. -/
import Derived.Test.YtapbjnfopniicaaGreatDoorRows
import Derived.WalkKit
import Derived.Test.YtapbjnfopniicaaGreatDoorCards
import Derived.Test.YtapbjnfopniicaaGreatDoorTie
import Derived.Lib.LaidTab
import Derived.SevenTiedAt
import Derived.Stop.Joined
import Derived.LaidMore
import Derived.ChangeVars
import Derived.OpenVars
import Derived.Test.YtapbjnfopniicaaGreatDoorGBurnL
import Derived.Test.YtapbjnfopniicaaGreatDoorGM
import Derived.Test.YtapbjnfopniicaaGreatDoorItemTab
import Derived.Test.YtapbjnfopniicaaGreatDoorOpTab
import Derived.Lib.Hide
import Derived.ProofKit
import Derived.OpenShut
import Derived.ShutString
import Derived.ChangeOld
import Derived.Below
namespace Go.Proofs.YtapbjnfopniicaaGreatDoor.fnExactNextShared
open Go.ChangeShapes Go.WideShapes Go.ChangeAt Go.RowKit
open Go.ChangeMaps (open_string shut_string)
set_option linter.unusedVariables false
set_option linter.unusedSimpArgs false

theorem own : ownKnob Tryz.prog.godebug = none := by kernel_rfl
theorem laidOut : laidOutB Tryz.prog = true := by kernel_rfl

set_option maxRecDepth 100000 in
set_option maxHeartbeats 20000000 in
theorem walk (w : World) (x0 : DProg) (vs0 : List Value) (s0 : layProg.see w w.heap.size x0 vs0) (x1 : DGor) (vs1 : List Value) (s1 : layGor.see w w.heap.size x1 vs1) (hC : OpCells w ∧ ItemCells w) :
    Calls Tryz.prog 5 #[.agg vs0.toArray, .agg vs1.toArray] w fun e w' => e = .returned (.bool true) ∧ Below w.heap.size w w' := by
  obtain ⟨p0A0, p0n0, p0c0, p0A2, p0n2, p0c2, p0A3, p0n3, p0c3, rfl, -⟩ := seeProg s0
  obtain ⟨p1A2, p1n2, p1c2, p1A4, p1n4, p1c4, rfl, -⟩ := seeGor s1
  have hWE : Below w.heap.size w ((w.alloc (.cells #[.slice p0A0 p0n0 p0c0, .int .i64 x0.fMus, .slice p0A2 p0n2 p0c2, .slice p0A3 p0n3 p0c3] 26)).alloc (.cells #[.int .i64 x1.fProc, .int .i64 x1.fPc, .slice p1A2 p1n2 p1c2, .int .i64 x1.fState, .slice p1A4 p1n4 p1c4] 29)) := (((Below.refl w.heap.size w).alloc (Nat.le_refl _) _).alloc (by simp only [World.size_alloc]; omega) _)
  have hzE : w.heap.size + 2 ≤ ((w.alloc (.cells #[.slice p0A0 p0n0 p0c0, .int .i64 x0.fMus, .slice p0A2 p0n2 p0c2, .slice p0A3 p0n3 p0c3] 26)).alloc (.cells #[.int .i64 x1.fProc, .int .i64 x1.fPc, .slice p1A2 p1n2 p1c2, .int .i64 x1.fState, .slice p1A4 p1n4 p1c4] 29)).heap.size := by simp
  have hbx0 := box_new w #[.slice p0A0 p0n0 p0c0, .int .i64 x0.fMus, .slice p0A2 p0n2 p0c2, .slice p0A3 p0n3 p0c3] 26
  have hbx0 := box_keep hbx0 ((Below.refl _ _).alloc (Nat.le_refl _) (.cells #[.int .i64 x1.fProc, .int .i64 x1.fPc, .slice p1A2 p1n2 p1c2, .int .i64 x1.fState, .slice p1A4 p1n4 p1c4] 29)) (by simp only [World.size_alloc]; omega)
  have hbx1 := box_new (w.alloc (.cells #[.slice p0A0 p0n0 p0c0, .int .i64 x0.fMus, .slice p0A2 p0n2 p0c2, .slice p0A3 p0n3 p0c3] 26)) #[.int .i64 x1.fProc, .int .i64 x1.fPc, .slice p1A2 p1n2 p1c2, .int .i64 x1.fState, .slice p1A4 p1n4 p1c4] 29
  simp only [World.size_alloc, Nat.add_assoc, Nat.reduceAdd] at hbx1
  have HKE := Lib.hid (fun (W : World) (hW : Below (w.heap.size + 2) ((w.alloc (.cells #[.slice p0A0 p0n0 p0c0, .int .i64 x0.fMus, .slice p0A2 p0n2 p0c2, .slice p0A3 p0n3 p0c3] 26)).alloc (.cells #[.int .i64 x1.fProc, .int .i64 x1.fPc, .slice p1A2 p1n2 p1c2, .int .i64 x1.fState, .slice p1A4 p1n4 p1c4] 29)) W) => show (w.heap.size + 2 ≤ W.heap.size ∧ Below w.heap.size w W) ∧ layProg.see W w.heap.size x0 [.slice p0A0 p0n0 p0c0, .int .i64 x0.fMus, .slice p0A2 p0n2 p0c2, .slice p0A3 p0n3 p0c3] ∧ W.heap[w.heap.size]? = some (.cells #[.slice p0A0 p0n0 p0c0, .int .i64 x0.fMus, .slice p0A2 p0n2 p0c2, .slice p0A3 p0n3 p0c3] 26 (0, 0)) ∧ layGor.see W w.heap.size x1 [.int .i64 x1.fProc, .int .i64 x1.fPc, .slice p1A2 p1n2 p1c2, .int .i64 x1.fState, .slice p1A4 p1n4 p1c4] ∧ W.heap[w.heap.size + 1]? = some (.cells #[.int .i64 x1.fProc, .int .i64 x1.fPc, .slice p1A2 p1n2 p1c2, .int .i64 x1.fState, .slice p1A4 p1n4 p1c4] 29 (0, 0)) ∧ True from ⟨⟨Nat.le_trans hzE hW.size, hWE.trans (hW.mono (by omega))⟩, layProg.keep s0 (fun k hk => (hW.block k (by omega)).trans (hWE.block k hk)), box_keep hbx0 hW (by omega), layGor.keep s1 (fun k hk => (hW.block k (by omega)).trans (hWE.block k hk)), box_keep hbx1 hW (by omega), trivial⟩)
  have HE := Lib.hid (show Below (w.heap.size + 2) ((w.alloc (.cells #[.slice p0A0 p0n0 p0c0, .int .i64 x0.fMus, .slice p0A2 p0n2 p0c2, .slice p0A3 p0n3 p0c3] 26)).alloc (.cells #[.int .i64 x1.fProc, .int .i64 x1.fPc, .slice p1A2 p1n2 p1c2, .int .i64 x1.fState, .slice p1A4 p1n4 p1c4] 29)) ((w.alloc (.cells #[.slice p0A0 p0n0 p0c0, .int .i64 x0.fMus, .slice p0A2 p0n2 p0c2, .slice p0A3 p0n3 p0c3] 26)).alloc (.cells #[.int .i64 x1.fProc, .int .i64 x1.fPc, .slice p1A2 p1n2 p1c2, .int .i64 x1.fState, .slice p1A4 p1n4 p1c4] 29)) from Below.refl _ _)
  clear hWE hzE hbx0 hbx1 s0 s1
  go_enter Tryz.func5, Tryz.ntmps5
  have pe1_0 := box_cell (j := 0) ((HKE.out _ (HE.out)).2.2.1) rfl
  have pe1_1 := box_cell (j := 1) ((HKE.out _ (HE.out)).2.2.1) rfl
  have pe1_2 := box_cell (j := 2) ((HKE.out _ (HE.out)).2.2.1) rfl
  have pe1_3 := box_cell (j := 3) ((HKE.out _ (HE.out)).2.2.1) rfl
  have zE2 := ((HKE.out _ (HE.out)).1).1
  go_wp2_with fail
  refine (szProg_any (l := 1048576) ((HKE.out _ (HE.out)).2.1) (by omega) (Nat.le_refl _)).mono ?_
  rintro e v3 ⟨hbv3, hcase⟩
  replace HE := Lib.hid (HE.out.trans (hbv3.mono (by first | omega | (simp only [World.size_alloc]; omega))))
  have hz4 := hbv3.size
  clear hbv3 pe1_0 pe1_1 pe1_2 pe1_3
  rcases hcase with ⟨hq0, rfl⟩ | ⟨hq0, rfl⟩
  · skip
    have hle0 : szProg x0 ≤ 1048576 := by omega
    obtain ⟨l0, hl0⟩ : ∃ l, l = 1048576 - szProg x0 := ⟨_, rfl⟩
    simp only [← hl0]
    have hlm0 : l0 ≤ 1048576 := by omega
    clear hl0
    have pe5_0 := box_cell (j := 0) ((HKE.out _ (HE.out)).2.2.2.2.1) rfl
    have pe5_1 := box_cell (j := 1) ((HKE.out _ (HE.out)).2.2.2.2.1) rfl
    have pe5_2 := box_cell (j := 2) ((HKE.out _ (HE.out)).2.2.2.2.1) rfl
    have pe5_3 := box_cell (j := 3) ((HKE.out _ (HE.out)).2.2.2.2.1) rfl
    have pe5_4 := box_cell (j := 4) ((HKE.out _ (HE.out)).2.2.2.2.1) rfl
    have zE6 := ((HKE.out _ (HE.out)).1).1
    go_wp2_with fail
    refine (szGor_any (l := l0) ((HKE.out _ (HE.out)).2.2.2.1) (by omega) (by omega)).mono ?_
    rintro e v7 ⟨hbv7, hcase⟩
    replace HE := Lib.hid (HE.out.trans (hbv7.mono (by omega)))
    have hz8 := hbv7.size
    clear hbv7 pe5_0 pe5_1 pe5_2 pe5_3 pe5_4
    rcases hcase with ⟨hq1, rfl⟩ | ⟨hq1, rfl⟩
    · skip
      have hle1 : szGor x1 ≤ 1048576 := by omega
      have HSP := Lib.hid (fun (W : World) (hi : Nat) (vs0 : List Value) (h0 : layProg.see W hi x0 vs0) (vs1 : List Value) (h1 : layGor.see W hi x1 vs1) (hhi : hi ≤ W.heap.size) (hW : Below w.heap.size w W) => (specNext_any h0 h1 hhi hle0 hle1).mono fun _ _ h => next_made h0 h)
      have HIM := Lib.hid (fun (W : World) (hi : Nat) (vs0 : List Value) (h0 : layProg.see W hi x0 vs0) (vs1 : List Value) (h1 : layGor.see W hi x1 vs1) (hhi : hi ≤ W.heap.size) (hW : Below w.heap.size w W) => (implNext_any h0 h1 hhi hle0 (opCells_below hC.1 hW) (itemCells_below hC.2 hW (Nat.le_refl _)) hle1).mono fun _ _ h => next_made h0 h)
      generalize nextI x0 x1 = r at *
      generalize nextB x0 x1 = r2 at *
      have zE9 := ((HKE.out _ (HE.out)).1).1
      go_upto_region 8 with (fail)
      refine wp_region_invB (fun AC0 L a W => ∃ sl23 sl24 sl25 sl26 sl27 sl22 sl28 sl29 sl6 sl7 : Value, a = ((((((((((AC0.put (some 23) sl23).put (some 24) sl24).put (some 25) sl25).put (some 26) sl26).put (some 27) sl27).put (some 22) sl22).put (some 28) sl28).put (some 29) sl29).put (some 6) sl6).put (some 7) sl7) ∧ Below v7.heap.size v7 W ∧ ((¬ L 9 ∧ ¬ L 10 ∧ (L 0 → sl23 = (.agg #[.slice p0A0 p0n0 p0c0, .int .i64 x0.fMus, .slice p0A2 p0n2 p0c2, .slice p0A3 p0n3 p0c3])) ∧ (L 1 → SeeAt layProg W x0 sl24) ∧ (L 2 → sl25 = (.agg #[.int .i64 x1.fProc, .int .i64 x1.fPc, .slice p1A2 p1n2 p1c2, .int .i64 x1.fState, .slice p1A4 p1n4 p1c4])) ∧ (L 3 → SeeAt layGor W x1 sl26) ∧ (L 4 → OwnTup layInstr v7.heap.size W r sl6 sl27 (.bool r2)) ∧ (L 5 → OwnTup layInstr v7.heap.size W r sl6 sl22 (.bool r2)) ∧ (L 6 → OwnAt layInstr v7.heap.size W r sl6 sl28) ∧ (L 7 → sl29 = (.bool r2)) ∧ (L 8 → BoxAt 52 [.int .i64 0, .int .i64 0, .int .i64 0, .int .i64 0] v7.heap.size W sl6) ∧ BoxLt W sl6) ∨ (L 9 ∧ (L 0 ∧ L 1 ∧ L 2 ∧ L 3 ∧ L 4 ∧ L 5 ∧ L 6 ∧ L 8) ∧ (∃ g, sl6 = .pointer (some ⟨g, 0, none⟩) ∧ Ans layInstr 52 v7.heap.size W.heap.size W g r) ∧ (L 7 → sl29 = (.bool r2)) ∧ (L 10 → sl7 = (.bool r2)) ∧ (∃ u, sl22 = .tuple #[u, (.bool r2)])))) (by kernel_rfl) (by kernel_rfl) ?_ ?_ ?_
      · exact ⟨undef, undef, undef, undef, undef, undef, undef, undef, undef, undef, by simp only [Act.put, List.setIfInBounds_toArray, List.set_cons_zero, List.set_cons_succ], Below.drew (Below.refl _ _), .inl ⟨id, id, fun h => absurd h id, fun h => absurd h id, fun h => absurd h id, fun h => absurd h id, fun h => absurd h id, fun h => absurd h id, fun h => absurd h id, fun h => absurd h id, fun h => absurd h id, BoxLt.undef⟩⟩
      · intro Q9; refine InvFrom.cons (fun L a W hI hN hD K hK => ?_) ?_
        · obtain ⟨sl23, sl24, sl25, sl26, sl27, sl22, sl28, sl29, sl6, sl7, ha, hB, hI⟩ := hI
          subst ha
          have hz := hB.size
          rcases hI with hI | hI
          · skip
            obtain ⟨hn, b10, f0, f1, f2, f3, f4, f5, f6, f7, f8, fL⟩ := hI
            have hW := (HKE.out W (HE.out.trans (hB.mono (by omega))))
            have pc0 := box_cell (j := 0) hW.2.2.1 rfl
            have pc1 := box_cell (j := 1) hW.2.2.1 rfl
            have pc2 := box_cell (j := 2) hW.2.2.1 rfl
            have pc3 := box_cell (j := 3) hW.2.2.1 rfl
            refine Kept.mk ?_
            simp only [Act.put, List.setIfInBounds_toArray, List.set_cons_zero, List.set_cons_succ]
            go_simp
            refine hK.out _ _ ?_
            exact ⟨(.agg #[.slice p0A0 p0n0 p0c0, .int .i64 x0.fMus, .slice p0A2 p0n2 p0c2, .slice p0A3 p0n3 p0c3]), sl24, sl25, sl26, sl27, sl22, sl28, sl29, sl6, sl7, by simp only [Act.put, List.setIfInBounds_toArray, List.set_cons_zero, List.set_cons_succ], hB, .inl ⟨fun h => h.elim hn (by decide), fun h => h.elim b10 (by decide), fun _ => rfl, fun h => f1 (h.resolve_right (by decide)), fun h => f2 (h.resolve_right (by decide)), fun h => f3 (h.resolve_right (by decide)), fun h => f4 (h.resolve_right (by decide)), fun h => f5 (h.resolve_right (by decide)), fun h => f6 (h.resolve_right (by decide)), fun h => f7 (h.resolve_right (by decide)), fun h => f8 (h.resolve_right (by decide)), fL⟩⟩
          · obtain ⟨-, hu, -⟩ := hI
            exact absurd (hu.1) hN
        refine InvFrom.cons (fun L a W hI hN hD K hK => ?_) ?_
        · obtain ⟨sl23, sl24, sl25, sl26, sl27, sl22, sl28, sl29, sl6, sl7, ha, hB, hI⟩ := hI
          subst ha
          have hz := hB.size
          rcases hI with hI | hI
          · skip
            obtain ⟨hn, b10, f0, f1, f2, f3, f4, f5, f6, f7, f8, fL⟩ := hI
            have d0 := f0 (hD 0 (by kernel_rfl))
            subst d0
            have hW := (HKE.out W (HE.out.trans (hB.mono (by omega))))
            refine kept_c1 rfl 9 _ _ rfl (fenters_of' Tryz.func9 (by kernel_rfl) (by kernel_rfl)) (.agg #[.slice p0A0 p0n0 p0c0, .int .i64 x0.fMus, .slice p0A2 p0n2 p0c2, .slice p0A3 p0n3 p0c3]) (by kernel_rfl) (toProg_any hW.2.1 (by omega) hle0) ?_
            rintro e W1 ⟨u1, rfl, own1, hb1⟩
            refine ⟨_, rfl, hK.out _ _ ?_⟩
            exact ⟨(.agg #[.slice p0A0 p0n0 p0c0, .int .i64 x0.fMus, .slice p0A2 p0n2 p0c2, .slice p0A3 p0n3 p0c3]), (.agg u1.toArray), sl25, sl26, sl27, sl22, sl28, sl29, sl6, sl7, by simp only [Act.put, List.setIfInBounds_toArray, List.set_cons_zero, List.set_cons_succ], hB.trans (hb1.mono hz), .inl ⟨fun h => h.elim hn (by decide), fun h => h.elim b10 (by decide), fun h => f0 (h.resolve_right (by decide)), fun _ => ⟨_, rfl, layProg.seen (hi := W1.heap.size) own1 (fun g hg => hg.2)⟩, fun h => f2 (h.resolve_right (by decide)), fun h => (f3 (h.resolve_right (by decide))).up hb1, fun h => (f4 (h.resolve_right (by decide))).up hb1, fun h => (f5 (h.resolve_right (by decide))).up hb1, fun h => (f6 (h.resolve_right (by decide))).up hb1, fun h => f7 (h.resolve_right (by decide)), fun h => (f8 (h.resolve_right (by decide))).up hb1, fL.up hb1⟩⟩
          · obtain ⟨-, hu, -⟩ := hI
            exact absurd (hu.2.1) hN
        refine InvFrom.cons (fun L a W hI hN hD K hK => ?_) ?_
        · obtain ⟨sl23, sl24, sl25, sl26, sl27, sl22, sl28, sl29, sl6, sl7, ha, hB, hI⟩ := hI
          subst ha
          have hz := hB.size
          rcases hI with hI | hI
          · skip
            obtain ⟨hn, b10, f0, f1, f2, f3, f4, f5, f6, f7, f8, fL⟩ := hI
            have hW := (HKE.out W (HE.out.trans (hB.mono (by omega))))
            have pc0 := box_cell (j := 0) hW.2.2.2.2.1 rfl
            have pc1 := box_cell (j := 1) hW.2.2.2.2.1 rfl
            have pc2 := box_cell (j := 2) hW.2.2.2.2.1 rfl
            have pc3 := box_cell (j := 3) hW.2.2.2.2.1 rfl
            have pc4 := box_cell (j := 4) hW.2.2.2.2.1 rfl
            refine Kept.mk ?_
            simp only [Act.put, List.setIfInBounds_toArray, List.set_cons_zero, List.set_cons_succ]
            go_simp
            refine hK.out _ _ ?_
            exact ⟨sl23, sl24, (.agg #[.int .i64 x1.fProc, .int .i64 x1.fPc, .slice p1A2 p1n2 p1c2, .int .i64 x1.fState, .slice p1A4 p1n4 p1c4]), sl26, sl27, sl22, sl28, sl29, sl6, sl7, by simp only [Act.put, List.setIfInBounds_toArray, List.set_cons_zero, List.set_cons_succ], hB, .inl ⟨fun h => h.elim hn (by decide), fun h => h.elim b10 (by decide), fun h => f0 (h.resolve_right (by decide)), fun h => f1 (h.resolve_right (by decide)), fun _ => rfl, fun h => f3 (h.resolve_right (by decide)), fun h => f4 (h.resolve_right (by decide)), fun h => f5 (h.resolve_right (by decide)), fun h => f6 (h.resolve_right (by decide)), fun h => f7 (h.resolve_right (by decide)), fun h => f8 (h.resolve_right (by decide)), fL⟩⟩
          · obtain ⟨-, hu, -⟩ := hI
            exact absurd (hu.2.2.1) hN
        refine InvFrom.cons (fun L a W hI hN hD K hK => ?_) ?_
        · obtain ⟨sl23, sl24, sl25, sl26, sl27, sl22, sl28, sl29, sl6, sl7, ha, hB, hI⟩ := hI
          subst ha
          have hz := hB.size
          rcases hI with hI | hI
          · skip
            obtain ⟨hn, b10, f0, f1, f2, f3, f4, f5, f6, f7, f8, fL⟩ := hI
            have d1 := f1 (hD 1 (by kernel_rfl))
            obtain ⟨uy0, rfl, sy0⟩ := d1
            have d2 := f2 (hD 2 (by kernel_rfl))
            subst d2
            have hW := (HKE.out W (HE.out.trans (hB.mono (by omega))))
            refine kept_c1 rfl 10 _ _ rfl (fenters_of' Tryz.func10 (by kernel_rfl) (by kernel_rfl)) (.agg #[.int .i64 x1.fProc, .int .i64 x1.fPc, .slice p1A2 p1n2 p1c2, .int .i64 x1.fState, .slice p1A4 p1n4 p1c4]) (by kernel_rfl) (toGor_any hW.2.2.2.1 (by omega) hle1) ?_
            rintro e W1 ⟨u1, rfl, own1, hb1⟩
            refine ⟨_, rfl, hK.out _ _ ?_⟩
            exact ⟨sl23, (.agg uy0.toArray), (.agg #[.int .i64 x1.fProc, .int .i64 x1.fPc, .slice p1A2 p1n2 p1c2, .int .i64 x1.fState, .slice p1A4 p1n4 p1c4]), (.agg u1.toArray), sl27, sl22, sl28, sl29, sl6, sl7, by simp only [Act.put, List.setIfInBounds_toArray, List.set_cons_zero, List.set_cons_succ], hB.trans (hb1.mono hz), .inl ⟨fun h => h.elim hn (by decide), fun h => h.elim b10 (by decide), fun h => f0 (h.resolve_right (by decide)), fun h => (f1 (h.resolve_right (by decide))).up hb1, fun h => f2 (h.resolve_right (by decide)), fun _ => ⟨_, rfl, layGor.seen (hi := W1.heap.size) own1 (fun g hg => hg.2)⟩, fun h => (f4 (h.resolve_right (by decide))).up hb1, fun h => (f5 (h.resolve_right (by decide))).up hb1, fun h => (f6 (h.resolve_right (by decide))).up hb1, fun h => f7 (h.resolve_right (by decide)), fun h => (f8 (h.resolve_right (by decide))).up hb1, fL.up hb1⟩⟩
          · obtain ⟨-, hu, -⟩ := hI
            exact absurd (hu.2.2.2.1) hN
        refine InvFrom.cons (fun L a W hI hN hD K hK => ?_) ?_
        · obtain ⟨sl23, sl24, sl25, sl26, sl27, sl22, sl28, sl29, sl6, sl7, ha, hB, hI⟩ := hI
          subst ha
          have hz := hB.size
          rcases hI with hI | hI
          · skip
            obtain ⟨hn, b10, f0, f1, f2, f3, f4, f5, f6, f7, f8, fL⟩ := hI
            have d1 := f1 (hD 1 (by kernel_rfl))
            obtain ⟨uy0, rfl, sy0⟩ := d1
            have d3 := f3 (hD 3 (by kernel_rfl))
            obtain ⟨uy1, rfl, sy1⟩ := d3
            have hW := (HKE.out W (HE.out.trans (hB.mono (by omega))))
            refine kept_c2 rfl 19 _ _ _ rfl (fenters_of' Tryz.func19 (by kernel_rfl) (by kernel_rfl)) (.agg uy0.toArray) (.agg uy1.toArray) (by kernel_rfl) (by kernel_rfl) (HSP.out W W.heap.size _ sy0 _ sy1 (Nat.le_refl _) hW.1.2) ?_
            rintro e W1 ⟨u9, F9, rfl, own9, hF9, hb9⟩
            refine ⟨_, rfl, hK.out _ _ ?_⟩
            exact ⟨sl23, (.agg uy0.toArray), sl25, (.agg uy1.toArray), (.tuple #[.agg u9.toArray, (.bool r2)]), sl22, sl28, sl29, sl6, sl7, by simp only [Act.put, List.setIfInBounds_toArray, List.set_cons_zero, List.set_cons_succ], hB.trans (hb9.mono hz), .inl ⟨fun h => h.elim hn (by decide), fun h => h.elim b10 (by decide), fun h => f0 (h.resolve_right (by decide)), fun h => (f1 (h.resolve_right (by decide))).up hb9, fun h => f2 (h.resolve_right (by decide)), fun h => (f3 (h.resolve_right (by decide))).up hb9, fun _ => OwnTup.of_made fL hz own9 hF9, fun h => (f5 (h.resolve_right (by decide))).up hb9, fun h => (f6 (h.resolve_right (by decide))).up hb9, fun h => f7 (h.resolve_right (by decide)), fun h => (f8 (h.resolve_right (by decide))).up hb9, fL.up hb9⟩⟩
          · obtain ⟨-, hu, -⟩ := hI
            exact absurd (hu.2.2.2.2.1) hN
        refine InvFrom.cons (fun L a W hI hN hD K hK => ?_) ?_
        · obtain ⟨sl23, sl24, sl25, sl26, sl27, sl22, sl28, sl29, sl6, sl7, ha, hB, hI⟩ := hI
          subst ha
          have hz := hB.size
          rcases hI with hI | hI
          · skip
            obtain ⟨hn, b10, f0, f1, f2, f3, f4, f5, f6, f7, f8, fL⟩ := hI
            have d4 := f4 (hD 4 (by kernel_rfl))
            obtain ⟨_, rfl, u9, F9, rfl, own9, hF9, hnF⟩ := d4
            refine Kept.mk ?_
            simp only [Act.put, List.setIfInBounds_toArray, List.set_cons_zero, List.set_cons_succ]
            go_simp
            refine hK.out _ _ ?_
            exact ⟨sl23, sl24, sl25, sl26, (.tuple #[.agg u9.toArray, (.bool r2)]), (.tuple #[.agg u9.toArray, (.bool r2)]), sl28, sl29, sl6, sl7, by simp only [Act.put, List.setIfInBounds_toArray, List.set_cons_zero, List.set_cons_succ], hB, .inl ⟨fun h => h.elim hn (by decide), fun h => h.elim b10 (by decide), fun h => f0 (h.resolve_right (by decide)), fun h => f1 (h.resolve_right (by decide)), fun h => f2 (h.resolve_right (by decide)), fun h => f3 (h.resolve_right (by decide)), fun h => f4 (h.resolve_right (by decide)), fun _ => ⟨_, rfl, u9, F9, rfl, own9, hF9, hnF⟩, fun h => f6 (h.resolve_right (by decide)), fun h => f7 (h.resolve_right (by decide)), fun h => f8 (h.resolve_right (by decide)), fL⟩⟩
          · obtain ⟨-, hu, -⟩ := hI
            exact absurd (hu.2.2.2.2.2.1) hN
        refine InvFrom.cons (fun L a W hI hN hD K hK => ?_) ?_
        · obtain ⟨sl23, sl24, sl25, sl26, sl27, sl22, sl28, sl29, sl6, sl7, ha, hB, hI⟩ := hI
          subst ha
          have hz := hB.size
          rcases hI with hI | hI
          · skip
            obtain ⟨hn, b10, f0, f1, f2, f3, f4, f5, f6, f7, f8, fL⟩ := hI
            have d5 := f5 (hD 5 (by kernel_rfl))
            obtain ⟨_, rfl, u9, F9, rfl, own9, hF9, hnF⟩ := d5
            refine Kept.mk ?_
            simp only [Act.put, List.setIfInBounds_toArray, List.set_cons_zero, List.set_cons_succ]
            go_simp
            refine hK.out _ _ ?_
            exact ⟨sl23, sl24, sl25, sl26, sl27, (.tuple #[.agg u9.toArray, (.bool r2)]), (.agg u9.toArray), sl29, sl6, sl7, by simp only [Act.put, List.setIfInBounds_toArray, List.set_cons_zero, List.set_cons_succ], hB, .inl ⟨fun h => h.elim hn (by decide), fun h => h.elim b10 (by decide), fun h => f0 (h.resolve_right (by decide)), fun h => f1 (h.resolve_right (by decide)), fun h => f2 (h.resolve_right (by decide)), fun h => f3 (h.resolve_right (by decide)), fun h => f4 (h.resolve_right (by decide)), fun h => f5 (h.resolve_right (by decide)), fun _ => ⟨u9, F9, rfl, own9, hF9, hnF⟩, fun h => f7 (h.resolve_right (by decide)), fun h => f8 (h.resolve_right (by decide)), fL⟩⟩
          · obtain ⟨-, hu, -⟩ := hI
            exact absurd (hu.2.2.2.2.2.2.1) hN
        refine InvFrom.cons (fun L a W hI hN hD K hK => ?_) ?_
        · obtain ⟨sl23, sl24, sl25, sl26, sl27, sl22, sl28, sl29, sl6, sl7, ha, hB, hI⟩ := hI
          subst ha
          have hz := hB.size
          rcases hI with hI | hI
          · skip
            obtain ⟨hn, b10, f0, f1, f2, f3, f4, f5, f6, f7, f8, fL⟩ := hI
            have d5 := f5 (hD 5 (by kernel_rfl))
            obtain ⟨_, rfl, u9, F9, rfl, own9, hF9, hnF⟩ := d5
            refine Kept.mk ?_
            simp only [Act.put, List.setIfInBounds_toArray, List.set_cons_zero, List.set_cons_succ]
            go_simp
            refine hK.out _ _ ?_
            exact ⟨sl23, sl24, sl25, sl26, sl27, (.tuple #[.agg u9.toArray, (.bool r2)]), sl28, (.bool r2), sl6, sl7, by simp only [Act.put, List.setIfInBounds_toArray, List.set_cons_zero, List.set_cons_succ], hB, .inl ⟨fun h => h.elim hn (by decide), fun h => h.elim b10 (by decide), fun h => f0 (h.resolve_right (by decide)), fun h => f1 (h.resolve_right (by decide)), fun h => f2 (h.resolve_right (by decide)), fun h => f3 (h.resolve_right (by decide)), fun h => f4 (h.resolve_right (by decide)), fun h => f5 (h.resolve_right (by decide)), fun h => f6 (h.resolve_right (by decide)), fun _ => rfl, fun h => f8 (h.resolve_right (by decide)), fL⟩⟩
          · skip
            obtain ⟨hs, hu, hfi, g7, g10, k5⟩ := hI
            obtain ⟨u6, rfl⟩ := k5
            refine Kept.mk ?_
            simp only [Act.put, List.setIfInBounds_toArray, List.set_cons_zero, List.set_cons_succ]
            go_simp
            refine hK.out _ _ ?_
            exact ⟨sl23, sl24, sl25, sl26, sl27, (.tuple #[u6, (.bool r2)]), sl28, (.bool r2), sl6, sl7, by simp only [Act.put, List.setIfInBounds_toArray, List.set_cons_zero, List.set_cons_succ], hB, .inr ⟨.inl hs, ⟨.inl (hu.1), .inl (hu.2.1), .inl (hu.2.2.1), .inl (hu.2.2.2.1), .inl (hu.2.2.2.2.1), .inl (hu.2.2.2.2.2.1), .inl (hu.2.2.2.2.2.2.1), .inl (hu.2.2.2.2.2.2.2)⟩, hfi, fun _ => rfl, fun h => g10 (h.resolve_right (by decide)), ⟨_, rfl⟩⟩⟩
        refine InvFrom.cons (fun L a W hI hN hD K hK => ?_) ?_
        · obtain ⟨sl23, sl24, sl25, sl26, sl27, sl22, sl28, sl29, sl6, sl7, ha, hB, hI⟩ := hI
          subst ha
          have hz := hB.size
          rcases hI with hI | hI
          · skip
            obtain ⟨hn, b10, f0, f1, f2, f3, f4, f5, f6, f7, f8, fL⟩ := hI
            refine Kept.mk ?_
            simp only [Act.put, List.setIfInBounds_toArray, List.set_cons_zero, List.set_cons_succ]
            go_simp
            refine hK.out _ _ ?_
            have hb1 : Below W.heap.size W (W.alloc (.cells #[.int .i64 0, .int .i64 0, .int .i64 0, .int .i64 0] 52)) := (Below.refl _ _).alloc (Nat.le_refl _) _
            exact ⟨sl23, sl24, sl25, sl26, sl27, sl22, sl28, sl29, (.pointer (some ⟨W.heap.size, 0, none⟩)), sl7, by simp only [Act.put, List.setIfInBounds_toArray, List.set_cons_zero, List.set_cons_succ], hB.trans (hb1.mono hz), .inl ⟨fun h => h.elim hn (by decide), fun h => h.elim b10 (by decide), fun h => f0 (h.resolve_right (by decide)), fun h => (f1 (h.resolve_right (by decide))).up hb1, fun h => f2 (h.resolve_right (by decide)), fun h => (f3 (h.resolve_right (by decide))).up hb1, fun h => (f4 (h.resolve_right (by decide))).boxed hb1, fun h => (f5 (h.resolve_right (by decide))).boxed hb1, fun h => (f6 (h.resolve_right (by decide))).boxed hb1, fun h => f7 (h.resolve_right (by decide)), fun _ => BoxAt.new hz, BoxLt.new⟩⟩
          · obtain ⟨-, hu, -⟩ := hI
            exact absurd (hu.2.2.2.2.2.2.2) hN
        refine InvFrom.cons (fun L a W hI hN hD K hK => ?_) ?_
        · obtain ⟨sl23, sl24, sl25, sl26, sl27, sl22, sl28, sl29, sl6, sl7, ha, hB, hI⟩ := hI
          subst ha
          have hz := hB.size
          rcases hI with hI | hI
          · skip
            obtain ⟨hn, b10, f0, f1, f2, f3, f4, f5, f6, f7, f8, fL⟩ := hI
            have d6 := f6 (hD 6 (by kernel_rfl))
            obtain ⟨u9, F9, rfl, own9, hF9, hnF⟩ := d6; have see9 := layInstr.seen (hi := W.heap.size) own9 (fun g hg => (hF9 g hg).2); obtain ⟨rfl, -⟩ := see9
            have d8 := f8 (hD 8 (by kernel_rfl))
            obtain ⟨b5, rfl, hb51, hb52, hbz⟩ := d8
            have d5 := f5 (hD 5 (by kernel_rfl))
            obtain ⟨u6, rfl, -⟩ := d5
            have zcc0 := box_cell (j := 0) hbz rfl
            have zcc1 := box_cell (j := 1) hbz rfl
            have zcc2 := box_cell (j := 2) hbz rfl
            have zcc3 := box_cell (j := 3) hbz rfl
            have zdd0 := box_free hbz 0
            have zdd1 := box_free hbz 1
            have zdd2 := box_free hbz 2
            have zdd3 := box_free hbz 3
            refine Kept.mk ?_
            simp only [Act.put, List.setIfInBounds_toArray, List.set_cons_zero, List.set_cons_succ]
            go_simp
            have hpw : putCells W b5 0 [.int .i64 r.fOp, .int .i64 r.fA, .int .i64 r.fB, .int .i64 r.fC] = ((((W.setCell ⟨b5, 0, none⟩ (.int .i64 r.fOp)).setCell ⟨b5, 1, none⟩ (.int .i64 r.fA)).setCell ⟨b5, 2, none⟩ (.int .i64 r.fB)).setCell ⟨b5, 3, none⟩ (.int .i64 r.fC)) := rfl
            have hA9 := Ans.mkPut (L := layInstr) (t := 52) (lo := v7.heap.size) (Z := [.int .i64 0, .int .i64 0, .int .i64 0, .int .i64 0]) (vs := [.int .i64 r.fOp, .int .i64 r.fA, .int .i64 r.fB, .int .i64 r.fC]) hbz rfl own9 (fun k hk => ⟨(hF9 k hk).1, (hF9 k hk).2, fun he => hnF _ rfl (he ▸ hk)⟩) hb51
            have hB9 : Below v7.heap.size v7 (putCells W b5 0 [.int .i64 r.fOp, .int .i64 r.fA, .int .i64 r.fB, .int .i64 r.fC]) := putCells_below _ _ _ _ hB hb51
            rw [← hpw]
            clear hpw
            generalize putCells W b5 0 [.int .i64 r.fOp, .int .i64 r.fA, .int .i64 r.fB, .int .i64 r.fC] = W9 at hA9 hB9 ⊢
            refine hK.out _ _ ?_
            exact ⟨sl23, sl24, sl25, sl26, sl27, (.tuple #[u6, (.bool r2)]), (.agg #[.int .i64 r.fOp, .int .i64 r.fA, .int .i64 r.fB, .int .i64 r.fC]), sl29, (.pointer (some ⟨b5, 0, none⟩)), sl7, by simp only [Act.put, List.setIfInBounds_toArray, List.set_cons_zero, List.set_cons_succ], hB9, .inr ⟨.inr rfl, ⟨.inl (hD 0 (by kernel_rfl)), .inl (hD 1 (by kernel_rfl)), .inl (hD 2 (by kernel_rfl)), .inl (hD 3 (by kernel_rfl)), .inl (hD 4 (by kernel_rfl)), .inl (hD 5 (by kernel_rfl)), .inl (hD 6 (by kernel_rfl)), .inl (hD 8 (by kernel_rfl))⟩, ⟨b5, rfl, hA9⟩, fun h => f7 (h.resolve_right (by decide)), fun h => absurd (h.resolve_right (by decide)) b10, ⟨_, rfl⟩⟩⟩
          · exact absurd hI.1 hN
        refine InvFrom.cons (fun L a W hI hN hD K hK => ?_) ?_
        · obtain ⟨sl23, sl24, sl25, sl26, sl27, sl22, sl28, sl29, sl6, sl7, ha, hB, hI⟩ := hI
          subst ha
          have hz := hB.size
          rcases hI with hI | hI
          · exact absurd (hD 9 (by kernel_rfl)) hI.1
          · skip
            obtain ⟨hs, hu, hfi, g7, g10, k5⟩ := hI
            obtain ⟨u6, rfl⟩ := k5
            have d7 := g7 (hD 7 (by kernel_rfl))
            subst d7
            refine Kept.mk ?_
            simp only [Act.put, List.setIfInBounds_toArray, List.set_cons_zero, List.set_cons_succ]
            go_simp
            refine hK.out _ _ ?_
            exact ⟨sl23, sl24, sl25, sl26, sl27, (.tuple #[u6, (.bool r2)]), sl28, (.bool r2), sl6, (.bool r2), by simp only [Act.put, List.setIfInBounds_toArray, List.set_cons_zero, List.set_cons_succ], hB, .inr ⟨.inl hs, ⟨.inl (hu.1), .inl (hu.2.1), .inl (hu.2.2.1), .inl (hu.2.2.2.1), .inl (hu.2.2.2.2.1), .inl (hu.2.2.2.2.2.1), .inl (hu.2.2.2.2.2.2.1), .inl (hu.2.2.2.2.2.2.2)⟩, hfi, fun h => g7 (h.resolve_right (by decide)), fun _ => rfl, ⟨_, rfl⟩⟩⟩
        exact InvFrom.nil
      intro L a v10 hL hI
      obtain ⟨sl23, sl24, sl25, sl26, sl27, sl22, sl28, sl29, sl6, sl7, ha, hbv10, hI⟩ := hI
      subst ha
      have hI := hI.resolve_left (fun h => h.1 (hL 9 (by decide)))
      obtain ⟨-, -, hfin, g7, g10, k5⟩ := hI
      have hl7 := g7 (hL 7 (by decide))
      have hl10 := g10 (hL 10 (by decide))
      obtain ⟨gS, hsl, han⟩ := hfin
      subst hsl
      subst hl10
      clear hL
      refine Kept.mk ?_
      simp only [Act.put, List.setIfInBounds_toArray, List.set_cons_zero, List.set_cons_succ]
      replace HE := Lib.hid (HE.out.trans (hbv10.mono (by omega)))
      have hz11 := hbv10.size
      have HAS := Lib.hid han
      clear han hbv10
      have pe12_0 := box_cell (j := 0) ((HKE.out _ (HE.out)).2.2.1) rfl
      have pe12_1 := box_cell (j := 1) ((HKE.out _ (HE.out)).2.2.1) rfl
      have pe12_2 := box_cell (j := 2) ((HKE.out _ (HE.out)).2.2.1) rfl
      have pe12_3 := box_cell (j := 3) ((HKE.out _ (HE.out)).2.2.1) rfl
      have zE13 := ((HKE.out _ (HE.out)).1).1
      have lt15 := HAS.out.lt
      go_wp2_with fail
      refine (toProg_any ((HKE.out _ (HE.out)).2.1) (by omega) hle0).mono ?_
      rintro e v14 ⟨uv14, rfl, ownv14, hbv14⟩
      have hz16 := hbv14.size
      have see2 := layProg.seen (hi := v14.heap.size) ownv14 fun g hg => hg.2
      obtain ⟨q0A0, q0n0, q0c0, q0A2, q0n2, q0c2, q0A3, q0n3, q0c3, rfl, -⟩ := seeProg see2
      clear see2 pe12_0 pe12_1 pe12_2 pe12_3
      go_upto_region 10 with (fail)
      have hal : Below v10.heap.size v10 (v14.alloc (.cells #[.slice q0A0 q0n0 q0c0, .int .i64 x0.fMus, .slice q0A2 q0n2 q0c2, .slice q0A3 q0n3 q0c3] 40)) := hbv14.alloc hbv14.size _
      have han := Ans.mk (t := 40) ownv14 (fun g hg => hg) hbv14.size
      obtain ⟨gX0, hgX0⟩ : ∃ b, b = v14.heap.size := ⟨_, rfl⟩
      have hnm : v14.heap.size = gX0 := hgX0.symm
      replace HE := Lib.hid (HE.out.trans (hal.mono (by omega)))
      replace HAS := Lib.hid (HAS.out.below hal (by omega))
      have hz18 := hal.size
      replace han : Ans layProg 40 v10.heap.size (v14.alloc (.cells #[.slice q0A0 q0n0 q0c0, .int .i64 x0.fMus, .slice q0A2 q0n2 q0c2, .slice q0A3 q0n3 q0c3] 40)).heap.size (v14.alloc (.cells #[.slice q0A0 q0n0 q0c0, .int .i64 x0.fMus, .slice q0A2 q0n2 q0c2, .slice q0A3 q0n3 q0c3] 40)) gX0 x0 := by rw [← hnm]; exact han
      have HAX0 := Lib.hid han
      clear han hal ownv14 hbv14
      generalize (v14.alloc (.cells #[.slice q0A0 q0n0 q0c0, .int .i64 x0.fMus, .slice q0A2 q0n2 q0c2, .slice q0A3 q0n3 q0c3] 40)) = v17 at *
      simp only [hnm]
      clear hnm hgX0
      have pe19_0 := box_cell (j := 0) ((HKE.out _ (HE.out)).2.2.2.2.1) rfl
      have pe19_1 := box_cell (j := 1) ((HKE.out _ (HE.out)).2.2.2.2.1) rfl
      have pe19_2 := box_cell (j := 2) ((HKE.out _ (HE.out)).2.2.2.2.1) rfl
      have pe19_3 := box_cell (j := 3) ((HKE.out _ (HE.out)).2.2.2.2.1) rfl
      have pe19_4 := box_cell (j := 4) ((HKE.out _ (HE.out)).2.2.2.2.1) rfl
      have zE20 := ((HKE.out _ (HE.out)).1).1
      have lt22 := HAS.out.lt
      have lt23 := HAX0.out.lt
      go_wp2_with fail
      refine (toGor_any ((HKE.out _ (HE.out)).2.2.2.1) (by omega) hle1).mono ?_
      rintro e v21 ⟨uv21, rfl, ownv21, hbv21⟩
      have hz24 := hbv21.size
      have see2 := layGor.seen (hi := v21.heap.size) ownv21 fun g hg => hg.2
      obtain ⟨q1A2, q1n2, q1c2, q1A4, q1n4, q1c4, rfl, -⟩ := seeGor see2
      clear see2 pe19_0 pe19_1 pe19_2 pe19_3 pe19_4
      go_upto_region 11 with (fail)
      have hal : Below v17.heap.size v17 (v21.alloc (.cells #[.int .i64 x1.fProc, .int .i64 x1.fPc, .slice q1A2 q1n2 q1c2, .int .i64 x1.fState, .slice q1A4 q1n4 q1c4] 34)) := hbv21.alloc hbv21.size _
      have han := Ans.mk (t := 34) ownv21 (fun g hg => hg) hbv21.size
      obtain ⟨gX1, hgX1⟩ : ∃ b, b = v21.heap.size := ⟨_, rfl⟩
      have hnm : v21.heap.size = gX1 := hgX1.symm
      replace HE := Lib.hid (HE.out.trans (hal.mono (by omega)))
      replace HAS := Lib.hid (HAS.out.below hal (by omega))
      replace HAX0 := Lib.hid (HAX0.out.below hal (by omega))
      have hz26 := hal.size
      replace han : Ans layGor 34 v17.heap.size (v21.alloc (.cells #[.int .i64 x1.fProc, .int .i64 x1.fPc, .slice q1A2 q1n2 q1c2, .int .i64 x1.fState, .slice q1A4 q1n4 q1c4] 34)).heap.size (v21.alloc (.cells #[.int .i64 x1.fProc, .int .i64 x1.fPc, .slice q1A2 q1n2 q1c2, .int .i64 x1.fState, .slice q1A4 q1n4 q1c4] 34)) gX1 x1 := by rw [← hnm]; exact han
      have HAX1 := Lib.hid han
      clear han hal ownv21 hbv21
      generalize (v21.alloc (.cells #[.int .i64 x1.fProc, .int .i64 x1.fPc, .slice q1A2 q1n2 q1c2, .int .i64 x1.fState, .slice q1A4 q1n4 q1c4] 34)) = v25 at *
      simp only [hnm]
      clear hnm hgX1
      have lt27 := HAS.out.lt
      have lt28 := HAX0.out.lt
      have lt29 := HAX1.out.lt
      obtain ⟨o1l1, o1l2, o1l3, o1v, o1F, o1b, o1w, o1f⟩ := HAX0.out
      have o1s := layProg.seen (hi := v25.heap.size) o1w fun g hg => by have := o1f g hg; omega
      obtain ⟨o1A0, o1n0, o1c0, o1A2, o1n2, o1c2, o1A3, o1n3, o1c3, rfl, -⟩ := seeProg o1s
      have o1p0 := box_cell (j := 0) o1b rfl
      have o1p1 := box_cell (j := 1) o1b rfl
      have o1p2 := box_cell (j := 2) o1b rfl
      have o1p3 := box_cell (j := 3) o1b rfl
      obtain ⟨o2l1, o2l2, o2l3, o2v, o2F, o2b, o2w, o2f⟩ := HAX1.out
      have o2s := layGor.seen (hi := v25.heap.size) o2w fun g hg => by have := o2f g hg; omega
      obtain ⟨o2A2, o2n2, o2c2, o2A4, o2n4, o2c4, rfl, -⟩ := seeGor o2s
      have o2p0 := box_cell (j := 0) o2b rfl
      have o2p1 := box_cell (j := 1) o2b rfl
      have o2p2 := box_cell (j := 2) o2b rfl
      have o2p3 := box_cell (j := 3) o2b rfl
      have o2p4 := box_cell (j := 4) o2b rfl
      have zE30 := ((HKE.out _ (HE.out)).1).1
      go_wp2_with fail
      refine (HIM.out _ v25.heap.size _ o1s _ o2s (Nat.le_refl _) ((HKE.out _ (HE.out)).1).2).mono ?_
      rintro e v31 ⟨uv31, Fv31, rfl, ownv31, hFv31, hbv31⟩
      have hz32 := hbv31.size
      clear o1p0 o1p1 o1p2 o1p3 o1l1 o1l2 o1l3 o1b o1w o1f o1s o2p0 o2p1 o2p2 o2p3 o2p4 o2l1 o2l2 o2l3 o2b o2w o2f o2s
      have see2 := layInstr.seen (hi := v31.heap.size) ownv31 fun g hg => (hFv31 g hg).2
      obtain ⟨rfl, -⟩ := id see2
      go_upto_region 12 with (fail)
      have hal : Below v25.heap.size v25 (v31.alloc (.cells #[.int .i64 r.fOp, .int .i64 r.fA, .int .i64 r.fB, .int .i64 r.fC] 52)) := hbv31.alloc hbv31.size _
      have han := Ans.mk (t := 52) ownv31 hFv31 hbv31.size
      obtain ⟨gG, hgG⟩ : ∃ b, b = v31.heap.size := ⟨_, rfl⟩
      have hnm : v31.heap.size = gG := hgG.symm
      replace HE := Lib.hid (HE.out.trans (hal.mono (by omega)))
      replace HAS := Lib.hid (HAS.out.below hal (by omega))
      replace HAX0 := Lib.hid (HAX0.out.below hal (by omega))
      replace HAX1 := Lib.hid (HAX1.out.below hal (by omega))
      have hz34 := hal.size
      replace han : Ans layInstr 52 v25.heap.size (v31.alloc (.cells #[.int .i64 r.fOp, .int .i64 r.fA, .int .i64 r.fB, .int .i64 r.fC] 52)).heap.size (v31.alloc (.cells #[.int .i64 r.fOp, .int .i64 r.fA, .int .i64 r.fB, .int .i64 r.fC] 52)) gG r := by rw [← hnm]; exact han
      have HAG := Lib.hid han
      clear han hal ownv31 hFv31 hbv31 see2
      generalize (v31.alloc (.cells #[.int .i64 r.fOp, .int .i64 r.fA, .int .i64 r.fB, .int .i64 r.fC] 52)) = v33 at *
      simp only [hnm]
      clear hnm hgG
      have lt35 := HAS.out.lt
      have lt36 := HAX0.out.lt
      have lt37 := HAX1.out.lt
      have lt38 := HAG.out.lt
      obtain ⟨o3l1, o3l2, o3l3, o3v, o3F, o3b, o3w, o3f⟩ := HAG.out
      have o3s := layInstr.seen (hi := v33.heap.size) o3w fun g hg => by have := o3f g hg; omega
      obtain ⟨rfl, -⟩ := id o3s
      have o3p0 := box_cell (j := 0) o3b rfl
      have o3p1 := box_cell (j := 1) o3b rfl
      have o3p2 := box_cell (j := 2) o3b rfl
      have o3p3 := box_cell (j := 3) o3b rfl
      obtain ⟨o4l1, o4l2, o4l3, o4v, o4F, o4b, o4w, o4f⟩ := HAS.out
      have o4s := layInstr.seen (hi := v33.heap.size) o4w fun g hg => by have := o4f g hg; omega
      obtain ⟨rfl, -⟩ := id o4s
      have o4p0 := box_cell (j := 0) o4b rfl
      have o4p1 := box_cell (j := 1) o4b rfl
      have o4p2 := box_cell (j := 2) o4b rfl
      have o4p3 := box_cell (j := 3) o4b rfl
      go_wp2_with fail
      refine (eqInstr_same r).mono ?_
      rintro e v39 ⟨rfl, hbv39⟩
      clear o3p0 o3p1 o3p2 o3p3 o3l1 o3l2 o3l3 o3b o3w o3f o3s o4p0 o4p1 o4p2 o4p3 o4l1 o4l2 o4l3 o4b o4w o4f o4s
      replace HE := Lib.hid (HE.out.trans (hbv39.mono (by omega)))
      replace HAS := Lib.hid (HAS.out.below hbv39 (by omega))
      replace HAX0 := Lib.hid (HAX0.out.below hbv39 (by omega))
      replace HAX1 := Lib.hid (HAX1.out.below hbv39 (by omega))
      replace HAG := Lib.hid (HAG.out.below hbv39 (by omega))
      have hz40 := hbv39.size
      clear hbv39
      have lt41 := HAS.out.lt
      have lt42 := HAX0.out.lt
      have lt43 := HAX1.out.lt
      have lt44 := HAG.out.lt
      have zE45 := ((HKE.out _ (HE.out)).1).1
      obtain ⟨o5l1, o5l2, o5l3, o5v, o5F, o5b, o5w, o5f⟩ := HAX0.out
      have o5s := layProg.seen (hi := v39.heap.size) o5w fun g hg => by have := o5f g hg; omega
      obtain ⟨o5A0, o5n0, o5c0, o5A2, o5n2, o5c2, o5A3, o5n3, o5c3, rfl, -⟩ := seeProg o5s
      have o5p0 := box_cell (j := 0) o5b rfl
      have o5p1 := box_cell (j := 1) o5b rfl
      have o5p2 := box_cell (j := 2) o5b rfl
      have o5p3 := box_cell (j := 3) o5b rfl
      go_upto_region 14 with (fail)
      refine wp_region_inv (fun AC0 L a W => ∃ sl49 sl50 sl51 sl52 sl53 : Value, a = (((((AC0.put (some 49) sl49).put (some 50) sl50).put (some 51) sl51).put (some 52) sl52).put (some 53) sl53) ∧ Below v39.heap.size v39 W ∧ ((L 0 → sl49 = (.agg #[.slice o5A0 o5n0 o5c0, .int .i64 x0.fMus, .slice o5A2 o5n2 o5c2, .slice o5A3 o5n3 o5c3])) ∧ (L 1 → sl50 = (.agg #[.slice p0A0 p0n0 p0c0, .int .i64 x0.fMus, .slice p0A2 p0n2 p0c2, .slice p0A3 p0n3 p0c3])) ∧ (L 2 → SeeAt layProg W x0 sl51) ∧ (L 3 → sl52 = .bool true) ∧ (L 4 → sl53 = .bool false))) (by kernel_rfl) (by kernel_rfl) ?_ ?_ ?_
      · exact ⟨undef, undef, undef, undef, undef, by simp only [Act.put, List.setIfInBounds_toArray, List.set_cons_zero, List.set_cons_succ], Below.drew (Below.refl _ _), fun h => absurd h id, fun h => absurd h id, fun h => absurd h id, fun h => absurd h id, fun h => absurd h id⟩
      · intro Q9; refine InvFrom.cons (fun L a W hI hN hD K hK => ?_) ?_
        · obtain ⟨sl49, sl50, sl51, sl52, sl53, ha, hB, f0, f1, f2, f3, f4⟩ := hI
          subst ha
          have hz := hB.size
          have pc0 := box_cell (j := 0) (box_keep o5b hB (by omega)) rfl
          have pc1 := box_cell (j := 1) (box_keep o5b hB (by omega)) rfl
          have pc2 := box_cell (j := 2) (box_keep o5b hB (by omega)) rfl
          have pc3 := box_cell (j := 3) (box_keep o5b hB (by omega)) rfl
          refine Kept.mk ?_
          simp only [Act.put, List.setIfInBounds_toArray, List.set_cons_zero, List.set_cons_succ]
          go_simp
          refine hK.out _ _ ?_
          exact ⟨(.agg #[.slice o5A0 o5n0 o5c0, .int .i64 x0.fMus, .slice o5A2 o5n2 o5c2, .slice o5A3 o5n3 o5c3]), sl50, sl51, sl52, sl53, by simp only [Act.put, List.setIfInBounds_toArray, List.set_cons_zero, List.set_cons_succ], hB, fun _ => rfl, fun h => f1 (h.resolve_right (by decide)), fun h => f2 (h.resolve_right (by decide)), fun h => f3 (h.resolve_right (by decide)), fun h => f4 (h.resolve_right (by decide))⟩
        refine InvFrom.cons (fun L a W hI hN hD K hK => ?_) ?_
        · obtain ⟨sl49, sl50, sl51, sl52, sl53, ha, hB, f0, f1, f2, f3, f4⟩ := hI
          subst ha
          have hz := hB.size
          have hW := (HKE.out W (HE.out.trans (hB.mono (by omega))))
          have pc0 := box_cell (j := 0) hW.2.2.1 rfl
          have pc1 := box_cell (j := 1) hW.2.2.1 rfl
          have pc2 := box_cell (j := 2) hW.2.2.1 rfl
          have pc3 := box_cell (j := 3) hW.2.2.1 rfl
          refine Kept.mk ?_
          simp only [Act.put, List.setIfInBounds_toArray, List.set_cons_zero, List.set_cons_succ]
          go_simp
          refine hK.out _ _ ?_
          exact ⟨sl49, (.agg #[.slice p0A0 p0n0 p0c0, .int .i64 x0.fMus, .slice p0A2 p0n2 p0c2, .slice p0A3 p0n3 p0c3]), sl51, sl52, sl53, by simp only [Act.put, List.setIfInBounds_toArray, List.set_cons_zero, List.set_cons_succ], hB, fun h => f0 (h.resolve_right (by decide)), fun _ => rfl, fun h => f2 (h.resolve_right (by decide)), fun h => f3 (h.resolve_right (by decide)), fun h => f4 (h.resolve_right (by decide))⟩
        refine InvFrom.cons (fun L a W hI hN hD K hK => ?_) ?_
        · obtain ⟨sl49, sl50, sl51, sl52, sl53, ha, hB, f0, f1, f2, f3, f4⟩ := hI
          subst ha
          have hz := hB.size
          have d1 := f1 (hD 1 (by kernel_rfl))
          subst d1
          have hW := (HKE.out W (HE.out.trans (hB.mono (by omega))))
          refine kept_c1 rfl 9 _ _ rfl (fenters_of' Tryz.func9 (by kernel_rfl) (by kernel_rfl)) (.agg #[.slice p0A0 p0n0 p0c0, .int .i64 x0.fMus, .slice p0A2 p0n2 p0c2, .slice p0A3 p0n3 p0c3]) (by kernel_rfl) (toProg_any hW.2.1 (by omega) hle0) ?_
          rintro e W1 ⟨u1, rfl, own1, hb1⟩
          refine ⟨_, rfl, hK.out _ _ ?_⟩
          exact ⟨sl49, (.agg #[.slice p0A0 p0n0 p0c0, .int .i64 x0.fMus, .slice p0A2 p0n2 p0c2, .slice p0A3 p0n3 p0c3]), (.agg u1.toArray), sl52, sl53, by simp only [Act.put, List.setIfInBounds_toArray, List.set_cons_zero, List.set_cons_succ], hB.trans (hb1.mono hz), fun h => f0 (h.resolve_right (by decide)), fun h => f1 (h.resolve_right (by decide)), fun _ => ⟨_, rfl, layProg.seen (hi := W1.heap.size) own1 (fun g hg => hg.2)⟩, fun h => f3 (h.resolve_right (by decide)), fun h => f4 (h.resolve_right (by decide))⟩
        refine InvFrom.cons (fun L a W hI hN hD K hK => ?_) ?_
        · obtain ⟨sl49, sl50, sl51, sl52, sl53, ha, hB, f0, f1, f2, f3, f4⟩ := hI
          subst ha
          have hz := hB.size
          have d0 := f0 (hD 0 (by kernel_rfl))
          subst d0
          have d2 := f2 (hD 2 (by kernel_rfl))
          obtain ⟨uy0, rfl, sy0⟩ := d2
          refine kept_c2 rfl 13 _ _ _ rfl (fenters_of' Tryz.func13 (by kernel_rfl) (by kernel_rfl)) (.agg #[.slice o5A0 o5n0 o5c0, .int .i64 x0.fMus, .slice o5A2 o5n2 o5c2, .slice o5A3 o5n3 o5c3]) (.agg uy0.toArray) (by kernel_rfl) (by kernel_rfl) (eqProg_same (layProg.more (layProg.keep o5s (fun k hk => hB.block k hk)) hz) sy0 (Nat.le_refl _) (Nat.le_refl _) (Nat.le_trans hle0 (by omega))) ?_
          rintro e W1 ⟨rfl, hb9⟩
          refine ⟨_, rfl, hK.out _ _ ?_⟩
          exact ⟨(.agg #[.slice o5A0 o5n0 o5c0, .int .i64 x0.fMus, .slice o5A2 o5n2 o5c2, .slice o5A3 o5n3 o5c3]), sl50, (.agg uy0.toArray), (.bool true), sl53, by simp only [Act.put, List.setIfInBounds_toArray, List.set_cons_zero, List.set_cons_succ], hB.trans (hb9.mono hz), fun h => f0 (h.resolve_right (by decide)), fun h => f1 (h.resolve_right (by decide)), fun h => (f2 (h.resolve_right (by decide))).up hb9, fun _ => rfl, fun h => f4 (h.resolve_right (by decide))⟩
        refine InvFrom.cons (fun L a W hI hN hD K hK => ?_) ?_
        · obtain ⟨sl49, sl50, sl51, sl52, sl53, ha, hB, f0, f1, f2, f3, f4⟩ := hI
          subst ha
          have hz := hB.size
          have d3 := f3 (hD 3 (by kernel_rfl))
          subst d3
          refine Kept.mk ?_
          simp only [Act.put, List.setIfInBounds_toArray, List.set_cons_zero, List.set_cons_succ]
          go_simp
          refine hK.out _ _ ?_
          exact ⟨sl49, sl50, sl51, (.bool true), (.bool false), by simp only [Act.put, List.setIfInBounds_toArray, List.set_cons_zero, List.set_cons_succ], hB, fun h => f0 (h.resolve_right (by decide)), fun h => f1 (h.resolve_right (by decide)), fun h => f2 (h.resolve_right (by decide)), fun h => f3 (h.resolve_right (by decide)), fun _ => rfl⟩
        exact InvFrom.nil
      intro L a v46 hL hI
      obtain ⟨sl49, sl50, sl51, sl52, sl53, ha, hbv46, hI⟩ := hI
      subst ha
      have hfin := hI.2.2.2.2 (hL 4 (by decide))
      subst hfin
      clear hL hI
      refine Kept.mk ?_
      simp only [Act.put, List.setIfInBounds_toArray, List.set_cons_zero, List.set_cons_succ]
      clear o5p0 o5p1 o5p2 o5p3 o5l1 o5l2 o5l3 o5b o5w o5f o5s
      replace HE := Lib.hid (HE.out.trans (hbv46.mono (by omega)))
      replace HAS := Lib.hid (HAS.out.below hbv46 (by omega))
      replace HAX0 := Lib.hid (HAX0.out.below hbv46 (by omega))
      replace HAX1 := Lib.hid (HAX1.out.below hbv46 (by omega))
      replace HAG := Lib.hid (HAG.out.below hbv46 (by omega))
      have hz47 := hbv46.size
      clear hbv46
      have lt48 := HAS.out.lt
      have lt49 := HAX0.out.lt
      have lt50 := HAX1.out.lt
      have lt51 := HAG.out.lt
      have zE52 := ((HKE.out _ (HE.out)).1).1
      obtain ⟨o6l1, o6l2, o6l3, o6v, o6F, o6b, o6w, o6f⟩ := HAX1.out
      have o6s := layGor.seen (hi := v46.heap.size) o6w fun g hg => by have := o6f g hg; omega
      obtain ⟨o6A2, o6n2, o6c2, o6A4, o6n4, o6c4, rfl, -⟩ := seeGor o6s
      have o6p0 := box_cell (j := 0) o6b rfl
      have o6p1 := box_cell (j := 1) o6b rfl
      have o6p2 := box_cell (j := 2) o6b rfl
      have o6p3 := box_cell (j := 3) o6b rfl
      have o6p4 := box_cell (j := 4) o6b rfl
      go_upto_region 16 with (fail)
      refine wp_region_inv (fun AC0 L a W => ∃ sl54 sl55 sl56 sl57 sl58 : Value, a = (((((AC0.put (some 54) sl54).put (some 55) sl55).put (some 56) sl56).put (some 57) sl57).put (some 58) sl58) ∧ Below v46.heap.size v46 W ∧ ((L 0 → sl54 = (.agg #[.int .i64 x1.fProc, .int .i64 x1.fPc, .slice o6A2 o6n2 o6c2, .int .i64 x1.fState, .slice o6A4 o6n4 o6c4])) ∧ (L 1 → sl55 = (.agg #[.int .i64 x1.fProc, .int .i64 x1.fPc, .slice p1A2 p1n2 p1c2, .int .i64 x1.fState, .slice p1A4 p1n4 p1c4])) ∧ (L 2 → SeeAt layGor W x1 sl56) ∧ (L 3 → sl57 = .bool true) ∧ (L 4 → sl58 = .bool false))) (by kernel_rfl) (by kernel_rfl) ?_ ?_ ?_
      · exact ⟨undef, undef, undef, undef, undef, by simp only [Act.put, List.setIfInBounds_toArray, List.set_cons_zero, List.set_cons_succ], Below.drew (Below.refl _ _), fun h => absurd h id, fun h => absurd h id, fun h => absurd h id, fun h => absurd h id, fun h => absurd h id⟩
      · intro Q9; refine InvFrom.cons (fun L a W hI hN hD K hK => ?_) ?_
        · obtain ⟨sl54, sl55, sl56, sl57, sl58, ha, hB, f0, f1, f2, f3, f4⟩ := hI
          subst ha
          have hz := hB.size
          have pc0 := box_cell (j := 0) (box_keep o6b hB (by omega)) rfl
          have pc1 := box_cell (j := 1) (box_keep o6b hB (by omega)) rfl
          have pc2 := box_cell (j := 2) (box_keep o6b hB (by omega)) rfl
          have pc3 := box_cell (j := 3) (box_keep o6b hB (by omega)) rfl
          have pc4 := box_cell (j := 4) (box_keep o6b hB (by omega)) rfl
          refine Kept.mk ?_
          simp only [Act.put, List.setIfInBounds_toArray, List.set_cons_zero, List.set_cons_succ]
          go_simp
          refine hK.out _ _ ?_
          exact ⟨(.agg #[.int .i64 x1.fProc, .int .i64 x1.fPc, .slice o6A2 o6n2 o6c2, .int .i64 x1.fState, .slice o6A4 o6n4 o6c4]), sl55, sl56, sl57, sl58, by simp only [Act.put, List.setIfInBounds_toArray, List.set_cons_zero, List.set_cons_succ], hB, fun _ => rfl, fun h => f1 (h.resolve_right (by decide)), fun h => f2 (h.resolve_right (by decide)), fun h => f3 (h.resolve_right (by decide)), fun h => f4 (h.resolve_right (by decide))⟩
        refine InvFrom.cons (fun L a W hI hN hD K hK => ?_) ?_
        · obtain ⟨sl54, sl55, sl56, sl57, sl58, ha, hB, f0, f1, f2, f3, f4⟩ := hI
          subst ha
          have hz := hB.size
          have hW := (HKE.out W (HE.out.trans (hB.mono (by omega))))
          have pc0 := box_cell (j := 0) hW.2.2.2.2.1 rfl
          have pc1 := box_cell (j := 1) hW.2.2.2.2.1 rfl
          have pc2 := box_cell (j := 2) hW.2.2.2.2.1 rfl
          have pc3 := box_cell (j := 3) hW.2.2.2.2.1 rfl
          have pc4 := box_cell (j := 4) hW.2.2.2.2.1 rfl
          refine Kept.mk ?_
          simp only [Act.put, List.setIfInBounds_toArray, List.set_cons_zero, List.set_cons_succ]
          go_simp
          refine hK.out _ _ ?_
          exact ⟨sl54, (.agg #[.int .i64 x1.fProc, .int .i64 x1.fPc, .slice p1A2 p1n2 p1c2, .int .i64 x1.fState, .slice p1A4 p1n4 p1c4]), sl56, sl57, sl58, by simp only [Act.put, List.setIfInBounds_toArray, List.set_cons_zero, List.set_cons_succ], hB, fun h => f0 (h.resolve_right (by decide)), fun _ => rfl, fun h => f2 (h.resolve_right (by decide)), fun h => f3 (h.resolve_right (by decide)), fun h => f4 (h.resolve_right (by decide))⟩
        refine InvFrom.cons (fun L a W hI hN hD K hK => ?_) ?_
        · obtain ⟨sl54, sl55, sl56, sl57, sl58, ha, hB, f0, f1, f2, f3, f4⟩ := hI
          subst ha
          have hz := hB.size
          have d1 := f1 (hD 1 (by kernel_rfl))
          subst d1
          have hW := (HKE.out W (HE.out.trans (hB.mono (by omega))))
          refine kept_c1 rfl 10 _ _ rfl (fenters_of' Tryz.func10 (by kernel_rfl) (by kernel_rfl)) (.agg #[.int .i64 x1.fProc, .int .i64 x1.fPc, .slice p1A2 p1n2 p1c2, .int .i64 x1.fState, .slice p1A4 p1n4 p1c4]) (by kernel_rfl) (toGor_any hW.2.2.2.1 (by omega) hle1) ?_
          rintro e W1 ⟨u1, rfl, own1, hb1⟩
          refine ⟨_, rfl, hK.out _ _ ?_⟩
          exact ⟨sl54, (.agg #[.int .i64 x1.fProc, .int .i64 x1.fPc, .slice p1A2 p1n2 p1c2, .int .i64 x1.fState, .slice p1A4 p1n4 p1c4]), (.agg u1.toArray), sl57, sl58, by simp only [Act.put, List.setIfInBounds_toArray, List.set_cons_zero, List.set_cons_succ], hB.trans (hb1.mono hz), fun h => f0 (h.resolve_right (by decide)), fun h => f1 (h.resolve_right (by decide)), fun _ => ⟨_, rfl, layGor.seen (hi := W1.heap.size) own1 (fun g hg => hg.2)⟩, fun h => f3 (h.resolve_right (by decide)), fun h => f4 (h.resolve_right (by decide))⟩
        refine InvFrom.cons (fun L a W hI hN hD K hK => ?_) ?_
        · obtain ⟨sl54, sl55, sl56, sl57, sl58, ha, hB, f0, f1, f2, f3, f4⟩ := hI
          subst ha
          have hz := hB.size
          have d0 := f0 (hD 0 (by kernel_rfl))
          subst d0
          have d2 := f2 (hD 2 (by kernel_rfl))
          obtain ⟨uy1, rfl, sy1⟩ := d2
          refine kept_c2 rfl 12 _ _ _ rfl (fenters_of' Tryz.func12 (by kernel_rfl) (by kernel_rfl)) (.agg #[.int .i64 x1.fProc, .int .i64 x1.fPc, .slice o6A2 o6n2 o6c2, .int .i64 x1.fState, .slice o6A4 o6n4 o6c4]) (.agg uy1.toArray) (by kernel_rfl) (by kernel_rfl) (eqGor_same (layGor.more (layGor.keep o6s (fun k hk => hB.block k hk)) hz) sy1 (Nat.le_refl _) (Nat.le_refl _) (Nat.le_trans hle1 (by omega))) ?_
          rintro e W1 ⟨rfl, hb9⟩
          refine ⟨_, rfl, hK.out _ _ ?_⟩
          exact ⟨(.agg #[.int .i64 x1.fProc, .int .i64 x1.fPc, .slice o6A2 o6n2 o6c2, .int .i64 x1.fState, .slice o6A4 o6n4 o6c4]), sl55, (.agg uy1.toArray), (.bool true), sl58, by simp only [Act.put, List.setIfInBounds_toArray, List.set_cons_zero, List.set_cons_succ], hB.trans (hb9.mono hz), fun h => f0 (h.resolve_right (by decide)), fun h => f1 (h.resolve_right (by decide)), fun h => (f2 (h.resolve_right (by decide))).up hb9, fun _ => rfl, fun h => f4 (h.resolve_right (by decide))⟩
        refine InvFrom.cons (fun L a W hI hN hD K hK => ?_) ?_
        · obtain ⟨sl54, sl55, sl56, sl57, sl58, ha, hB, f0, f1, f2, f3, f4⟩ := hI
          subst ha
          have hz := hB.size
          have d3 := f3 (hD 3 (by kernel_rfl))
          subst d3
          refine Kept.mk ?_
          simp only [Act.put, List.setIfInBounds_toArray, List.set_cons_zero, List.set_cons_succ]
          go_simp
          refine hK.out _ _ ?_
          exact ⟨sl54, sl55, sl56, (.bool true), (.bool false), by simp only [Act.put, List.setIfInBounds_toArray, List.set_cons_zero, List.set_cons_succ], hB, fun h => f0 (h.resolve_right (by decide)), fun h => f1 (h.resolve_right (by decide)), fun h => f2 (h.resolve_right (by decide)), fun h => f3 (h.resolve_right (by decide)), fun _ => rfl⟩
        exact InvFrom.nil
      intro L a v53 hL hI
      obtain ⟨sl54, sl55, sl56, sl57, sl58, ha, hbv53, hI⟩ := hI
      subst ha
      have hfin := hI.2.2.2.2 (hL 4 (by decide))
      subst hfin
      clear hL hI
      refine Kept.mk ?_
      simp only [Act.put, List.setIfInBounds_toArray, List.set_cons_zero, List.set_cons_succ]
      clear o6p0 o6p1 o6p2 o6p3 o6p4 o6l1 o6l2 o6l3 o6b o6w o6f o6s
      replace HE := Lib.hid (HE.out.trans (hbv53.mono (by omega)))
      replace HAS := Lib.hid (HAS.out.below hbv53 (by omega))
      replace HAX0 := Lib.hid (HAX0.out.below hbv53 (by omega))
      replace HAX1 := Lib.hid (HAX1.out.below hbv53 (by omega))
      replace HAG := Lib.hid (HAG.out.below hbv53 (by omega))
      have hz54 := hbv53.size
      clear hbv53
      go_wp2_with fail
      go_ret
      exact ⟨rfl, ((HKE.out _ (HE.out)).1).2⟩
    · go_wp2_with fail
      go_ret
      exact ⟨rfl, ((HKE.out _ (HE.out)).1).2⟩
  · go_wp2_with fail
    go_ret
    exact ⟨rfl, ((HKE.out _ (HE.out)).1).2⟩

set_option maxRecDepth 100000 in
theorem door_met (os : Os) (args : Array Value) : laidMetH Tryz.prog Rows.fnExactNextSharedRow.laid ((World.doorLaid Tryz.prog 400 os).forCall (fun _ _ => 0) ⟨#[], args, []⟩).memory :=
  laidMetH_of_parts3 (fuel := 8) (laidMet_of_run' 8 (by kernel_rfl) (by kernel_rfl)) (by kernel_rfl) (by kernel_rfl)

set_option maxRecDepth 100000 in
theorem lifted (os : Os) (started : os.Started) (H : Type) (enc : TypeId × Value → H) :
    ReturnsInHanded {} Tryz.checked os 5 .any (fun w args => (Rows.fnExactNextSharedSpec.pre enc Tryz.prog Tryz.f5 [] false w args ∧ laidMetH Tryz.prog Rows.fnExactNextSharedRow.laid w) ∧ sizedMet enc Tryz.prog Tryz.f5 (OpenSpec.ofChange Rows.fnExactNextSharedSpec) false w args) (Rows.fnExactNextSharedSpec.post enc Tryz.prog Tryz.f5 false true false false) := by
  refine returnsInHanded_of_change_and (C := Tryz.checked) (X := fun w _ => laidMetH Tryz.prog Rows.fnExactNextSharedRow.laid w) (fun _ _ _ hh h => h.of_heap hh) own started (by kernel_rfl) Tryz.func5
    (ChangeSpec.witness_shaped (enc := enc) (C := Tryz.checked) (os := os) (X := fun w _ => laidMetH Tryz.prog Rows.fnExactNextSharedRow.laid w) false (World.doorLaid Tryz.prog 400 os) #[.agg #[.slice none 0 0, .int .i64 0, .slice none 0 0, .slice none 0 0], .agg #[.int .i64 0, .int .i64 0, .slice none 0 0, .int .i64 0, .slice none 0 0]] 8 rfl (World.shaped_of_RefB (by kernel_rfl) (by kernel_rfl)) (by kernel_rfl) (by kernel_rfl) (by kernel_rfl) (door_met os _)) ?_
  intro W base args ds gs before hval0 hW _ _ hL _
  have hval : ∀ (j : Nat) t v, Tryz.f5.params[j]? = some t → args[j]? = some v → Value.okWide Tryz.prog W .any base t v := hval0
  have hW' := hW
  obtain ⟨p, q, hA0, hV, rfl, hfz, hnd⟩ := hW
  have hA : DataW.TrodAll enc Tryz.prog W 0 (fun _ => true) true Tryz.f5.params.toList args.toList ds p := hA0
  rw [Tryz.params5] at hA hval
  obtain ⟨v0, vs0, d0, ds0, p0, q0, hargs, rfl, rfl, h0, r0⟩ := trodAll_cons hA
  obtain ⟨v1, vs1, d1, ds1, p1, q1, rfl, rfl, rfl, h1, r1⟩ := trodAll_cons r0
  obtain ⟨rfl, rfl, rfl⟩ := trodAll_nil r1
  obtain rfl : args = #[v0, v1] := by cases args; simp_all
  have hV' := hV
  obtain ⟨_, _, _, _, ga, _, _, _, _, _, gb, _, rfl, _⟩ := trodVars_two hV
  obtain ⟨cs0, rfl, _⟩ := okWide_struct Tryz.underlying26 (hval 0 26 v0 rfl rfl)
  obtain ⟨vc0, rfl⟩ : ∃ l : List Value, cs0 = l.toArray := ⟨cs0.toList, by simp⟩
  have k0 := h0
  have lt0 : ∀ x ∈ p0, x.block < W.heap.size := by obtain ⟨m, hm⟩ := k0; exact DataW.trod_lt m _ _ _ hm
  obtain ⟨x0, s0'⟩ := (opensProg).arg h0
  have s0 : layProg.see W W.heap.size x0 vc0 := by simpa [Value.cells] using s0'
  obtain ⟨cs1, rfl, _⟩ := okWide_struct Tryz.underlying29 (hval 1 29 v1 rfl rfl)
  obtain ⟨vc1, rfl⟩ : ∃ l : List Value, cs1 = l.toArray := ⟨cs1.toList, by simp⟩
  have k1 := h1
  have lt1 : ∀ x ∈ p1, x.block < W.heap.size := by obtain ⟨m, hm⟩ := k1; exact DataW.trod_lt m _ _ _ hm
  obtain ⟨x1, s1'⟩ := (opensGor).arg h1
  have s1 : layGor.see W W.heap.size x1 vc1 := by simpa [Value.cells] using s1'
  clear hA0 hval0
  refine (walk W x0 _ s0 x1 _ s1 (⟨opCells_of (opTab_of_laid hL), itemCells_of (itemTab_of_laid hL.tail)⟩)).mono fun e W' ⟨he, bel⟩ => ?_
  subst he
  exact ⟨_, rfl, _, _, _, [], _, _, hW', trodAll_mk1 (shut_bool Tryz.underlying4 _), (trodAll_cons_mk (Below.trod laidOut (by kernel_rfl) (of_decide_eq_true (by kernel_rfl)) k0 bel lt0) (trodAll_cons_mk (Below.trod laidOut (by kernel_rfl) (of_decide_eq_true (by kernel_rfl)) k1 bel lt1) trodAll_mk0)), bel.trodVars laidOut (by kernel_rfl) hV', bel.frame _, fun h => by cases h⟩

theorem over : Rows.fnExactNextSharedRow.holds Tryz.pinned (OpenSpec.ofChange Rows.fnExactNextSharedSpec) :=
  OpenClaim.holds_of_wide 5 Tryz.f5 rfl rfl rfl rfl rfl rfl rfl ⟨rfl, rfl, rfl, rfl, rfl⟩ rfl rfl rfl rfl rfl (by kernel_rfl) Tryz.func5 (by kernel_rfl)
    (of_decide_eq_true (by kernel_rfl)) (by unfold Func.isWrapper; first | (rw [if_pos (by decide +kernel)]; kernel_rfl) | (rw [if_neg (by decide +kernel)]; exact ⟨rfl, rfl⟩))
    (fun os started H enc _ => lifted os started H enc)

theorem proved : Rows.FnExactNextSharedCardSaid :=
  Claim7.holds_tied_plain_at .later [] [.data, .data] true (true, "56c66e7282f158e492f1d8c6262b26001faae9f080e996b78e09f3549f88e190") false
    over (fun _ h => by cases h) (by kernel_rfl) (fun _ h => by cases h) fnExactNextShared_row_tie rfl ⟨rfl, rfl⟩ (by kernel_rfl) rfl
    (fun f fn hf hfn => by
      obtain rfl : f = 5 := Option.some.inj ((show Tryz.prog.funcNamed "loop.example/g00679/laws.FnExactNextShared" = some 5 by kernel_rfl).symm.trans hf) |>.symm
      obtain rfl : fn = Tryz.f5 := (Option.some.inj (Tryz.func5.symm.trans hfn)).symm
      exact ⟨by kernel_rfl, fun j t ht => by
        rw [Tryz.params5] at ht
        rcases j with _ | j
        · have ht' : t = 26 := by simpa using ht.symm
          subst ht'
          exact (show Tryz.prog.wantsStandIn 26 = false by kernel_rfl)
        rcases j with _ | j
        · have ht' : t = 29 := by simpa using ht.symm
          subst ht'
          exact (show Tryz.prog.wantsStandIn 29 = false by kernel_rfl)
        simp at ht
      ⟩)
    (by kernel_rfl)
#print axioms proved
end Go.Proofs.YtapbjnfopniicaaGreatDoor.fnExactNextShared
