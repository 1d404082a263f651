/- Burn answers as its model: local steps, one behind the other. -/
import Derived.Test.YtapbjnfopniicaaGreatDoorRows
import Derived.WalkKit
import Derived.Test.YtapbjnfopniicaaGreatDoorCards
import Derived.Test.YtapbjnfopniicaaGreatDoorTie
import Derived.Lib.LaidTab
import Derived.SevenTiedAt
import Derived.Stop.Joined
import Derived.LaidMore
import Derived.ChangeVars
import Derived.OpenVars
import Derived.Test.YtapbjnfopniicaaGreatDoorGBurnL
import Derived.Test.YtapbjnfopniicaaGreatDoorGM
import Derived.Test.YtapbjnfopniicaaGreatDoorItemTab
import Derived.Test.YtapbjnfopniicaaGreatDoorOpTab
import Derived.Lib.Hide
import Derived.ProofKit
import Derived.OpenShut
import Derived.ShutString
import Derived.ChangeOld
import Derived.Below
namespace Go.Proofs.YtapbjnfopniicaaGreatDoor.fnExactBurn
open Go.ChangeShapes Go.WideShapes Go.ChangeAt Go.RowKit
open Go.ChangeMaps (open_string shut_string)
set_option linter.unusedVariables false
set_option linter.unusedSimpArgs false

theorem own : ownKnob Tryz.prog.godebug = none := by kernel_rfl
theorem laidOut : laidOutB Tryz.prog = true := by kernel_rfl

set_option maxRecDepth 100000 in
set_option maxHeartbeats 20000000 in
theorem walk (w : World) (x0 : DProg) (vs0 : List Value) (s0 : layProg.see w w.heap.size x0 vs0) (x1 : DGor) (vs1 : List Value) (s1 : layGor.see w w.heap.size x1 vs1) (a2 : Int) (w2 : (Lit.int .i64 a2).wf = true) (hC : OpCells w ∧ ItemCells w) :
    Calls Tryz.prog 4 #[.agg vs0.toArray, .agg vs1.toArray, .int .i64 a2] w fun e w' => e = .returned (.bool true) ∧ Below w.heap.size w w' := by
  obtain ⟨p0A0, p0n0, p0c0, p0A2, p0n2, p0c2, p0A3, p0n3, p0c3, rfl, -⟩ := seeProg s0
  obtain ⟨p1A2, p1n2, p1c2, p1A4, p1n4, p1c4, rfl, -⟩ := seeGor s1
  have HV2 := Lib.hid w2
  clear w2
  have hWE : Below w.heap.size w ((w.alloc (.cells #[.slice p0A0 p0n0 p0c0, .int .i64 x0.fMus, .slice p0A2 p0n2 p0c2, .slice p0A3 p0n3 p0c3] 26)).alloc (.cells #[.int .i64 x1.fProc, .int .i64 x1.fPc, .slice p1A2 p1n2 p1c2, .int .i64 x1.fState, .slice p1A4 p1n4 p1c4] 29)) := (((Below.refl w.heap.size w).alloc (Nat.le_refl _) _).alloc (by simp only [World.size_alloc]; omega) _)
  have hzE : w.heap.size + 2 ≤ ((w.alloc (.cells #[.slice p0A0 p0n0 p0c0, .int .i64 x0.fMus, .slice p0A2 p0n2 p0c2, .slice p0A3 p0n3 p0c3] 26)).alloc (.cells #[.int .i64 x1.fProc, .int .i64 x1.fPc, .slice p1A2 p1n2 p1c2, .int .i64 x1.fState, .slice p1A4 p1n4 p1c4] 29)).heap.size := by simp
  have hbx0 := box_new w #[.slice p0A0 p0n0 p0c0, .int .i64 x0.fMus, .slice p0A2 p0n2 p0c2, .slice p0A3 p0n3 p0c3] 26
  have hbx0 := box_keep hbx0 ((Below.refl _ _).alloc (Nat.le_refl _) (.cells #[.int .i64 x1.fProc, .int .i64 x1.fPc, .slice p1A2 p1n2 p1c2, .int .i64 x1.fState, .slice p1A4 p1n4 p1c4] 29)) (by simp only [World.size_alloc]; omega)
  have hbx1 := box_new (w.alloc (.cells #[.slice p0A0 p0n0 p0c0, .int .i64 x0.fMus, .slice p0A2 p0n2 p0c2, .slice p0A3 p0n3 p0c3] 26)) #[.int .i64 x1.fProc, .int .i64 x1.fPc, .slice p1A2 p1n2 p1c2, .int .i64 x1.fState, .slice p1A4 p1n4 p1c4] 29
  simp only [World.size_alloc, Nat.add_assoc, Nat.reduceAdd] at hbx1
  have HKE := Lib.hid (fun (W : World) (hW : Below (w.heap.size + 2) ((w.alloc (.cells #[.slice p0A0 p0n0 p0c0, .int .i64 x0.fMus, .slice p0A2 p0n2 p0c2, .slice p0A3 p0n3 p0c3] 26)).alloc (.cells #[.int .i64 x1.fProc, .int .i64 x1.fPc, .slice p1A2 p1n2 p1c2, .int .i64 x1.fState, .slice p1A4 p1n4 p1c4] 29)) W) => show (w.heap.size + 2 ≤ W.heap.size ∧ Below w.heap.size w W) ∧ layProg.see W w.heap.size x0 [.slice p0A0 p0n0 p0c0, .int .i64 x0.fMus, .slice p0A2 p0n2 p0c2, .slice p0A3 p0n3 p0c3] ∧ W.heap[w.heap.size]? = some (.cells #[.slice p0A0 p0n0 p0c0, .int .i64 x0.fMus, .slice p0A2 p0n2 p0c2, .slice p0A3 p0n3 p0c3] 26 (0, 0)) ∧ layGor.see W w.heap.size x1 [.int .i64 x1.fProc, .int .i64 x1.fPc, .slice p1A2 p1n2 p1c2, .int .i64 x1.fState, .slice p1A4 p1n4 p1c4] ∧ W.heap[w.heap.size + 1]? = some (.cells #[.int .i64 x1.fProc, .int .i64 x1.fPc, .slice p1A2 p1n2 p1c2, .int .i64 x1.fState, .slice p1A4 p1n4 p1c4] 29 (0, 0)) ∧ True from ⟨⟨Nat.le_trans hzE hW.size, hWE.trans (hW.mono (by omega))⟩, layProg.keep s0 (fun k hk => (hW.block k (by omega)).trans (hWE.block k hk)), box_keep hbx0 hW (by omega), layGor.keep s1 (fun k hk => (hW.block k (by omega)).trans (hWE.block k hk)), box_keep hbx1 hW (by omega), trivial⟩)
  have HE := Lib.hid (show Below (w.heap.size + 2) ((w.alloc (.cells #[.slice p0A0 p0n0 p0c0, .int .i64 x0.fMus, .slice p0A2 p0n2 p0c2, .slice p0A3 p0n3 p0c3] 26)).alloc (.cells #[.int .i64 x1.fProc, .int .i64 x1.fPc, .slice p1A2 p1n2 p1c2, .int .i64 x1.fState, .slice p1A4 p1n4 p1c4] 29)) ((w.alloc (.cells #[.slice p0A0 p0n0 p0c0, .int .i64 x0.fMus, .slice p0A2 p0n2 p0c2, .slice p0A3 p0n3 p0c3] 26)).alloc (.cells #[.int .i64 x1.fProc, .int .i64 x1.fPc, .slice p1A2 p1n2 p1c2, .int .i64 x1.fState, .slice p1A4 p1n4 p1c4] 29)) from Below.refl _ _)
  clear hWE hzE hbx0 hbx1 s0 s1
  go_enter Tryz.func4, Tryz.ntmps4
  have pe1_0 := box_cell (j := 0) ((HKE.out _ (HE.out)).2.2.1) rfl
  have pe1_1 := box_cell (j := 1) ((HKE.out _ (HE.out)).2.2.1) rfl
  have pe1_2 := box_cell (j := 2) ((HKE.out _ (HE.out)).2.2.1) rfl
  have pe1_3 := box_cell (j := 3) ((HKE.out _ (HE.out)).2.2.1) rfl
  have zE2 := ((HKE.out _ (HE.out)).1).1
  go_wp2_with fail
  refine (szProg_any (l := 1048576) ((HKE.out _ (HE.out)).2.1) (by omega) (Nat.le_refl _)).mono ?_
  rintro e v3 ⟨hbv3, hcase⟩
  replace HE := Lib.hid (HE.out.trans (hbv3.mono (by first | omega | (simp only [World.size_alloc]; omega))))
  have hz4 := hbv3.size
  clear hbv3 pe1_0 pe1_1 pe1_2 pe1_3
  rcases hcase with ⟨hq0, rfl⟩ | ⟨hq0, rfl⟩
  · skip
    have hle0 : szProg x0 ≤ 1048576 := by omega
    obtain ⟨l0, hl0⟩ : ∃ l, l = 1048576 - szProg x0 := ⟨_, rfl⟩
    simp only [← hl0]
    have hlm0 : l0 ≤ 1048576 := by omega
    clear hl0
    have pe5_0 := box_cell (j := 0) ((HKE.out _ (HE.out)).2.2.2.2.1) rfl
    have pe5_1 := box_cell (j := 1) ((HKE.out _ (HE.out)).2.2.2.2.1) rfl
    have pe5_2 := box_cell (j := 2) ((HKE.out _ (HE.out)).2.2.2.2.1) rfl
    have pe5_3 := box_cell (j := 3) ((HKE.out _ (HE.out)).2.2.2.2.1) rfl
    have pe5_4 := box_cell (j := 4) ((HKE.out _ (HE.out)).2.2.2.2.1) rfl
    have zE6 := ((HKE.out _ (HE.out)).1).1
    go_wp2_with fail
    refine (szGor_any (l := l0) ((HKE.out _ (HE.out)).2.2.2.1) (by omega) (by omega)).mono ?_
    rintro e v7 ⟨hbv7, hcase⟩
    replace HE := Lib.hid (HE.out.trans (hbv7.mono (by omega)))
    have hz8 := hbv7.size
    clear hbv7 pe5_0 pe5_1 pe5_2 pe5_3 pe5_4
    rcases hcase with ⟨hq1, rfl⟩ | ⟨hq1, rfl⟩
    · skip
      have hle1 : szGor x1 ≤ 1048576 := by omega
      have hszR : szGor (burnRes x0 x1 a2) ≤ 1048580 := burnRes_sz hle1
      have hvcR := vcntG9_le hszR
      have hvcX0 := vcntP9_le (Nat.le_trans hle0 (by omega))
      have hvcX1 := vcntG9_le (Nat.le_trans hle1 (by omega))
      have HSP := Lib.hid (fun (W : World) (hi : Nat) (vs0 : List Value) (h0 : layProg.see W hi x0 vs0) (vs1 : List Value) (h1 : layGor.see W hi x1 vs1) (hhi : hi ≤ W.heap.size) (hW : Below w.heap.size w W) => (specBurn_any (most := a2) h0 h1 hhi hle0 hle1 HV2.out).mono fun _ _ h => burn_made h)
      have HIM := Lib.hid (fun (W : World) (hi : Nat) (vs0 : List Value) (h0 : layProg.see W hi x0 vs0) (vs1 : List Value) (h1 : layGor.see W hi x1 vs1) (hhi : hi ≤ W.heap.size) (hW : Below w.heap.size w W) => (implBurn_any (most := a2) h0 h1 hhi hle0 (opCells_below hC.1 hW) (itemCells_below hC.2 hW (Nat.le_refl _)) hle1 HV2.out).mono fun _ _ h => burn_made h)
      generalize burnRes x0 x1 a2 = r at *
      generalize burnCnt x0 x1 a2 = r2 at *
      have zE9 := ((HKE.out _ (HE.out)).1).1
      go_upto_region 8 with (fail)
      refine wp_region_invB (fun AC0 L a W => ∃ sl30 sl31 sl32 sl33 sl34 sl35 sl29 sl36 sl37 sl8 sl9 : Value, a = (((((((((((AC0.put (some 30) sl30).put (some 31) sl31).put (some 32) sl32).put (some 33) sl33).put (some 34) sl34).put (some 35) sl35).put (some 29) sl29).put (some 36) sl36).put (some 37) sl37).put (some 8) sl8).put (some 9) sl9) ∧ Below v7.heap.size v7 W ∧ ((¬ L 10 ∧ ¬ L 11 ∧ (L 0 → sl30 = (.agg #[.slice p0A0 p0n0 p0c0, .int .i64 x0.fMus, .slice p0A2 p0n2 p0c2, .slice p0A3 p0n3 p0c3])) ∧ (L 1 → SeeAt layProg W x0 sl31) ∧ (L 2 → sl32 = (.agg #[.int .i64 x1.fProc, .int .i64 x1.fPc, .slice p1A2 p1n2 p1c2, .int .i64 x1.fState, .slice p1A4 p1n4 p1c4])) ∧ (L 3 → SeeAt layGor W x1 sl33) ∧ (L 4 → sl34 = (.int .i64 a2)) ∧ (L 5 → OwnTup layGor v7.heap.size W r sl8 sl35 (.int .i64 r2)) ∧ (L 6 → OwnTup layGor v7.heap.size W r sl8 sl29 (.int .i64 r2)) ∧ (L 7 → OwnAt layGor v7.heap.size W r sl8 sl36) ∧ (L 8 → sl37 = (.int .i64 r2)) ∧ (L 9 → BoxAt 34 [.int .i64 0, .int .i64 0, .slice none 0 0, .int .i64 0, .slice none 0 0] v7.heap.size W sl8) ∧ BoxLt W sl8) ∨ (L 10 ∧ (L 0 ∧ L 1 ∧ L 2 ∧ L 3 ∧ L 4 ∧ L 5 ∧ L 6 ∧ L 7 ∧ L 9) ∧ (∃ g, sl8 = .pointer (some ⟨g, 0, none⟩) ∧ Ans layGor 34 v7.heap.size W.heap.size W g r) ∧ (L 8 → sl37 = (.int .i64 r2)) ∧ (L 11 → sl9 = (.int .i64 r2)) ∧ (∃ u, sl29 = .tuple #[u, (.int .i64 r2)])))) (by kernel_rfl) (by kernel_rfl) ?_ ?_ ?_
      · exact ⟨undef, undef, undef, undef, undef, undef, undef, undef, undef, undef, undef, by simp only [Act.put, List.setIfInBounds_toArray, List.set_cons_zero, List.set_cons_succ], Below.drew (Below.refl _ _), .inl ⟨id, id, fun h => absurd h id, fun h => absurd h id, fun h => absurd h id, fun h => absurd h id, fun h => absurd h id, fun h => absurd h id, fun h => absurd h id, fun h => absurd h id, fun h => absurd h id, fun h => absurd h id, BoxLt.undef⟩⟩
      · intro Q9; refine InvFrom.cons (fun L a W hI hN hD K hK => ?_) ?_
        · obtain ⟨sl30, sl31, sl32, sl33, sl34, sl35, sl29, sl36, sl37, sl8, sl9, ha, hB, hI⟩ := hI
          subst ha
          have hz := hB.size
          rcases hI with hI | hI
          · skip
            obtain ⟨hn, b11, f0, f1, f2, f3, f4, f5, f6, f7, f8, f9, fL⟩ := hI
            have hW := (HKE.out W (HE.out.trans (hB.mono (by omega))))
            have pc0 := box_cell (j := 0) hW.2.2.1 rfl
            have pc1 := box_cell (j := 1) hW.2.2.1 rfl
            have pc2 := box_cell (j := 2) hW.2.2.1 rfl
            have pc3 := box_cell (j := 3) hW.2.2.1 rfl
            refine Kept.mk ?_
            simp only [Act.put, List.setIfInBounds_toArray, List.set_cons_zero, List.set_cons_succ]
            go_simp
            refine hK.out _ _ ?_
            exact ⟨(.agg #[.slice p0A0 p0n0 p0c0, .int .i64 x0.fMus, .slice p0A2 p0n2 p0c2, .slice p0A3 p0n3 p0c3]), sl31, sl32, sl33, sl34, sl35, sl29, sl36, sl37, sl8, sl9, by simp only [Act.put, List.setIfInBounds_toArray, List.set_cons_zero, List.set_cons_succ], hB, .inl ⟨fun h => h.elim hn (by decide), fun h => h.elim b11 (by decide), fun _ => rfl, fun h => f1 (h.resolve_right (by decide)), fun h => f2 (h.resolve_right (by decide)), fun h => f3 (h.resolve_right (by decide)), fun h => f4 (h.resolve_right (by decide)), fun h => f5 (h.resolve_right (by decide)), fun h => f6 (h.resolve_right (by decide)), fun h => f7 (h.resolve_right (by decide)), fun h => f8 (h.resolve_right (by decide)), fun h => f9 (h.resolve_right (by decide)), fL⟩⟩
          · obtain ⟨-, hu, -⟩ := hI
            exact absurd (hu.1) hN
        refine InvFrom.cons (fun L a W hI hN hD K hK => ?_) ?_
        · obtain ⟨sl30, sl31, sl32, sl33, sl34, sl35, sl29, sl36, sl37, sl8, sl9, ha, hB, hI⟩ := hI
          subst ha
          have hz := hB.size
          rcases hI with hI | hI
          · skip
            obtain ⟨hn, b11, f0, f1, f2, f3, f4, f5, f6, f7, f8, f9, fL⟩ := hI
            have d0 := f0 (hD 0 (by kernel_rfl))
            subst d0
            have hW := (HKE.out W (HE.out.trans (hB.mono (by omega))))
            refine kept_c1 rfl 9 _ _ rfl (fenters_of' Tryz.func9 (by kernel_rfl) (by kernel_rfl)) (.agg #[.slice p0A0 p0n0 p0c0, .int .i64 x0.fMus, .slice p0A2 p0n2 p0c2, .slice p0A3 p0n3 p0c3]) (by kernel_rfl) (toProg_any hW.2.1 (by omega) hle0) ?_
            rintro e W1 ⟨u1, rfl, own1, hb1⟩
            refine ⟨_, rfl, hK.out _ _ ?_⟩
            exact ⟨(.agg #[.slice p0A0 p0n0 p0c0, .int .i64 x0.fMus, .slice p0A2 p0n2 p0c2, .slice p0A3 p0n3 p0c3]), (.agg u1.toArray), sl32, sl33, sl34, sl35, sl29, sl36, sl37, sl8, sl9, by simp only [Act.put, List.setIfInBounds_toArray, List.set_cons_zero, List.set_cons_succ], hB.trans (hb1.mono hz), .inl ⟨fun h => h.elim hn (by decide), fun h => h.elim b11 (by decide), fun h => f0 (h.resolve_right (by decide)), fun _ => ⟨_, rfl, layProg.seen (hi := W1.heap.size) own1 (fun g hg => hg.2)⟩, fun h => f2 (h.resolve_right (by decide)), fun h => (f3 (h.resolve_right (by decide))).up hb1, fun h => f4 (h.resolve_right (by decide)), fun h => (f5 (h.resolve_right (by decide))).up hb1, fun h => (f6 (h.resolve_right (by decide))).up hb1, fun h => (f7 (h.resolve_right (by decide))).up hb1, fun h => f8 (h.resolve_right (by decide)), fun h => (f9 (h.resolve_right (by decide))).up hb1, fL.up hb1⟩⟩
          · obtain ⟨-, hu, -⟩ := hI
            exact absurd (hu.2.1) hN
        refine InvFrom.cons (fun L a W hI hN hD K hK => ?_) ?_
        · obtain ⟨sl30, sl31, sl32, sl33, sl34, sl35, sl29, sl36, sl37, sl8, sl9, ha, hB, hI⟩ := hI
          subst ha
          have hz := hB.size
          rcases hI with hI | hI
          · skip
            obtain ⟨hn, b11, f0, f1, f2, f3, f4, f5, f6, f7, f8, f9, fL⟩ := hI
            have hW := (HKE.out W (HE.out.trans (hB.mono (by omega))))
            have pc0 := box_cell (j := 0) hW.2.2.2.2.1 rfl
            have pc1 := box_cell (j := 1) hW.2.2.2.2.1 rfl
            have pc2 := box_cell (j := 2) hW.2.2.2.2.1 rfl
            have pc3 := box_cell (j := 3) hW.2.2.2.2.1 rfl
            have pc4 := box_cell (j := 4) hW.2.2.2.2.1 rfl
            refine Kept.mk ?_
            simp only [Act.put, List.setIfInBounds_toArray, List.set_cons_zero, List.set_cons_succ]
            go_simp
            refine hK.out _ _ ?_
            exact ⟨sl30, sl31, (.agg #[.int .i64 x1.fProc, .int .i64 x1.fPc, .slice p1A2 p1n2 p1c2, .int .i64 x1.fState, .slice p1A4 p1n4 p1c4]), sl33, sl34, sl35, sl29, sl36, sl37, sl8, sl9, by simp only [Act.put, List.setIfInBounds_toArray, List.set_cons_zero, List.set_cons_succ], hB, .inl ⟨fun h => h.elim hn (by decide), fun h => h.elim b11 (by decide), fun h => f0 (h.resolve_right (by decide)), fun h => f1 (h.resolve_right (by decide)), fun _ => rfl, fun h => f3 (h.resolve_right (by decide)), fun h => f4 (h.resolve_right (by decide)), fun h => f5 (h.resolve_right (by decide)), fun h => f6 (h.resolve_right (by decide)), fun h => f7 (h.resolve_right (by decide)), fun h => f8 (h.resolve_right (by decide)), fun h => f9 (h.resolve_right (by decide)), fL⟩⟩
          · obtain ⟨-, hu, -⟩ := hI
            exact absurd (hu.2.2.1) hN
        refine InvFrom.cons (fun L a W hI hN hD K hK => ?_) ?_
        · obtain ⟨sl30, sl31, sl32, sl33, sl34, sl35, sl29, sl36, sl37, sl8, sl9, ha, hB, hI⟩ := hI
          subst ha
          have hz := hB.size
          rcases hI with hI | hI
          · skip
            obtain ⟨hn, b11, f0, f1, f2, f3, f4, f5, f6, f7, f8, f9, fL⟩ := hI
            have d1 := f1 (hD 1 (by kernel_rfl))
            obtain ⟨uy0, rfl, sy0⟩ := d1
            have d2 := f2 (hD 2 (by kernel_rfl))
            subst d2
            have hW := (HKE.out W (HE.out.trans (hB.mono (by omega))))
            refine kept_c1 rfl 10 _ _ rfl (fenters_of' Tryz.func10 (by kernel_rfl) (by kernel_rfl)) (.agg #[.int .i64 x1.fProc, .int .i64 x1.fPc, .slice p1A2 p1n2 p1c2, .int .i64 x1.fState, .slice p1A4 p1n4 p1c4]) (by kernel_rfl) (toGor_any hW.2.2.2.1 (by omega) hle1) ?_
            rintro e W1 ⟨u1, rfl, own1, hb1⟩
            refine ⟨_, rfl, hK.out _ _ ?_⟩
            exact ⟨sl30, (.agg uy0.toArray), (.agg #[.int .i64 x1.fProc, .int .i64 x1.fPc, .slice p1A2 p1n2 p1c2, .int .i64 x1.fState, .slice p1A4 p1n4 p1c4]), (.agg u1.toArray), sl34, sl35, sl29, sl36, sl37, sl8, sl9, by simp only [Act.put, List.setIfInBounds_toArray, List.set_cons_zero, List.set_cons_succ], hB.trans (hb1.mono hz), .inl ⟨fun h => h.elim hn (by decide), fun h => h.elim b11 (by decide), fun h => f0 (h.resolve_right (by decide)), fun h => (f1 (h.resolve_right (by decide))).up hb1, fun h => f2 (h.resolve_right (by decide)), fun _ => ⟨_, rfl, layGor.seen (hi := W1.heap.size) own1 (fun g hg => hg.2)⟩, fun h => f4 (h.resolve_right (by decide)), fun h => (f5 (h.resolve_right (by decide))).up hb1, fun h => (f6 (h.resolve_right (by decide))).up hb1, fun h => (f7 (h.resolve_right (by decide))).up hb1, fun h => f8 (h.resolve_right (by decide)), fun h => (f9 (h.resolve_right (by decide))).up hb1, fL.up hb1⟩⟩
          · obtain ⟨-, hu, -⟩ := hI
            exact absurd (hu.2.2.2.1) hN
        refine InvFrom.cons (fun L a W hI hN hD K hK => ?_) ?_
        · obtain ⟨sl30, sl31, sl32, sl33, sl34, sl35, sl29, sl36, sl37, sl8, sl9, ha, hB, hI⟩ := hI
          subst ha
          have hz := hB.size
          rcases hI with hI | hI
          · skip
            obtain ⟨hn, b11, f0, f1, f2, f3, f4, f5, f6, f7, f8, f9, fL⟩ := hI
            refine Kept.mk ?_
            simp only [Act.put, List.setIfInBounds_toArray, List.set_cons_zero, List.set_cons_succ]
            go_simp
            refine hK.out _ _ ?_
            exact ⟨sl30, sl31, sl32, sl33, (.int .i64 a2), sl35, sl29, sl36, sl37, sl8, sl9, by simp only [Act.put, List.setIfInBounds_toArray, List.set_cons_zero, List.set_cons_succ], hB, .inl ⟨fun h => h.elim hn (by decide), fun h => h.elim b11 (by decide), fun h => f0 (h.resolve_right (by decide)), fun h => f1 (h.resolve_right (by decide)), fun h => f2 (h.resolve_right (by decide)), fun h => f3 (h.resolve_right (by decide)), fun _ => rfl, fun h => f5 (h.resolve_right (by decide)), fun h => f6 (h.resolve_right (by decide)), fun h => f7 (h.resolve_right (by decide)), fun h => f8 (h.resolve_right (by decide)), fun h => f9 (h.resolve_right (by decide)), fL⟩⟩
          · obtain ⟨-, hu, -⟩ := hI
            exact absurd (hu.2.2.2.2.1) hN
        refine InvFrom.cons (fun L a W hI hN hD K hK => ?_) ?_
        · obtain ⟨sl30, sl31, sl32, sl33, sl34, sl35, sl29, sl36, sl37, sl8, sl9, ha, hB, hI⟩ := hI
          subst ha
          have hz := hB.size
          rcases hI with hI | hI
          · skip
            obtain ⟨hn, b11, f0, f1, f2, f3, f4, f5, f6, f7, f8, f9, fL⟩ := hI
            have d1 := f1 (hD 1 (by kernel_rfl))
            obtain ⟨uy0, rfl, sy0⟩ := d1
            have d3 := f3 (hD 3 (by kernel_rfl))
            obtain ⟨uy1, rfl, sy1⟩ := d3
            have d4 := f4 (hD 4 (by kernel_rfl))
            subst d4
            have hW := (HKE.out W (HE.out.trans (hB.mono (by omega))))
            refine kept_c3 rfl 17 _ _ _ _ rfl (fenters_of' Tryz.func17 (by kernel_rfl) (by kernel_rfl)) (.agg uy0.toArray) (.agg uy1.toArray) (.int .i64 a2) (by kernel_rfl) (by kernel_rfl) (by kernel_rfl) (HSP.out W W.heap.size _ sy0 _ sy1 (Nat.le_refl _) hW.1.2) ?_
            rintro e W1 ⟨u9, F9, rfl, own9, hF9, hb9⟩
            refine ⟨_, rfl, hK.out _ _ ?_⟩
            exact ⟨sl30, (.agg uy0.toArray), sl32, (.agg uy1.toArray), (.int .i64 a2), (.tuple #[.agg u9.toArray, (.int .i64 r2)]), sl29, sl36, sl37, sl8, sl9, by simp only [Act.put, List.setIfInBounds_toArray, List.set_cons_zero, List.set_cons_succ], hB.trans (hb9.mono hz), .inl ⟨fun h => h.elim hn (by decide), fun h => h.elim b11 (by decide), fun h => f0 (h.resolve_right (by decide)), fun h => (f1 (h.resolve_right (by decide))).up hb9, fun h => f2 (h.resolve_right (by decide)), fun h => (f3 (h.resolve_right (by decide))).up hb9, fun h => f4 (h.resolve_right (by decide)), fun _ => OwnTup.of_made fL hz own9 hF9, fun h => (f6 (h.resolve_right (by decide))).up hb9, fun h => (f7 (h.resolve_right (by decide))).up hb9, fun h => f8 (h.resolve_right (by decide)), fun h => (f9 (h.resolve_right (by decide))).up hb9, fL.up hb9⟩⟩
          · obtain ⟨-, hu, -⟩ := hI
            exact absurd (hu.2.2.2.2.2.1) hN
        refine InvFrom.cons (fun L a W hI hN hD K hK => ?_) ?_
        · obtain ⟨sl30, sl31, sl32, sl33, sl34, sl35, sl29, sl36, sl37, sl8, sl9, ha, hB, hI⟩ := hI
          subst ha
          have hz := hB.size
          rcases hI with hI | hI
          · skip
            obtain ⟨hn, b11, f0, f1, f2, f3, f4, f5, f6, f7, f8, f9, fL⟩ := hI
            have d5 := f5 (hD 5 (by kernel_rfl))
            obtain ⟨_, rfl, u9, F9, rfl, own9, hF9, hnF⟩ := d5
            refine Kept.mk ?_
            simp only [Act.put, List.setIfInBounds_toArray, List.set_cons_zero, List.set_cons_succ]
            go_simp
            refine hK.out _ _ ?_
            exact ⟨sl30, sl31, sl32, sl33, sl34, (.tuple #[.agg u9.toArray, (.int .i64 r2)]), (.tuple #[.agg u9.toArray, (.int .i64 r2)]), sl36, sl37, sl8, sl9, by simp only [Act.put, List.setIfInBounds_toArray, List.set_cons_zero, List.set_cons_succ], hB, .inl ⟨fun h => h.elim hn (by decide), fun h => h.elim b11 (by decide), fun h => f0 (h.resolve_right (by decide)), fun h => f1 (h.resolve_right (by decide)), fun h => f2 (h.resolve_right (by decide)), fun h => f3 (h.resolve_right (by decide)), fun h => f4 (h.resolve_right (by decide)), fun h => f5 (h.resolve_right (by decide)), fun _ => ⟨_, rfl, u9, F9, rfl, own9, hF9, hnF⟩, fun h => f7 (h.resolve_right (by decide)), fun h => f8 (h.resolve_right (by decide)), fun h => f9 (h.resolve_right (by decide)), fL⟩⟩
          · obtain ⟨-, hu, -⟩ := hI
            exact absurd (hu.2.2.2.2.2.2.1) hN
        refine InvFrom.cons (fun L a W hI hN hD K hK => ?_) ?_
        · obtain ⟨sl30, sl31, sl32, sl33, sl34, sl35, sl29, sl36, sl37, sl8, sl9, ha, hB, hI⟩ := hI
          subst ha
          have hz := hB.size
          rcases hI with hI | hI
          · skip
            obtain ⟨hn, b11, f0, f1, f2, f3, f4, f5, f6, f7, f8, f9, fL⟩ := hI
            have d6 := f6 (hD 6 (by kernel_rfl))
            obtain ⟨_, rfl, u9, F9, rfl, own9, hF9, hnF⟩ := d6
            refine Kept.mk ?_
            simp only [Act.put, List.setIfInBounds_toArray, List.set_cons_zero, List.set_cons_succ]
            go_simp
            refine hK.out _ _ ?_
            exact ⟨sl30, sl31, sl32, sl33, sl34, sl35, (.tuple #[.agg u9.toArray, (.int .i64 r2)]), (.agg u9.toArray), sl37, sl8, sl9, by simp only [Act.put, List.setIfInBounds_toArray, List.set_cons_zero, List.set_cons_succ], hB, .inl ⟨fun h => h.elim hn (by decide), fun h => h.elim b11 (by decide), fun h => f0 (h.resolve_right (by decide)), fun h => f1 (h.resolve_right (by decide)), fun h => f2 (h.resolve_right (by decide)), fun h => f3 (h.resolve_right (by decide)), fun h => f4 (h.resolve_right (by decide)), fun h => f5 (h.resolve_right (by decide)), fun h => f6 (h.resolve_right (by decide)), fun _ => ⟨u9, F9, rfl, own9, hF9, hnF⟩, fun h => f8 (h.resolve_right (by decide)), fun h => f9 (h.resolve_right (by decide)), fL⟩⟩
          · obtain ⟨-, hu, -⟩ := hI
            exact absurd (hu.2.2.2.2.2.2.2.1) hN
        refine InvFrom.cons (fun L a W hI hN hD K hK => ?_) ?_
        · obtain ⟨sl30, sl31, sl32, sl33, sl34, sl35, sl29, sl36, sl37, sl8, sl9, ha, hB, hI⟩ := hI
          subst ha
          have hz := hB.size
          rcases hI with hI | hI
          · skip
            obtain ⟨hn, b11, f0, f1, f2, f3, f4, f5, f6, f7, f8, f9, fL⟩ := hI
            have d6 := f6 (hD 6 (by kernel_rfl))
            obtain ⟨_, rfl, u9, F9, rfl, own9, hF9, hnF⟩ := d6
            refine Kept.mk ?_
            simp only [Act.put, List.setIfInBounds_toArray, List.set_cons_zero, List.set_cons_succ]
            go_simp
            refine hK.out _ _ ?_
            exact ⟨sl30, sl31, sl32, sl33, sl34, sl35, (.tuple #[.agg u9.toArray, (.int .i64 r2)]), sl36, (.int .i64 r2), sl8, sl9, by simp only [Act.put, List.setIfInBounds_toArray, List.set_cons_zero, List.set_cons_succ], hB, .inl ⟨fun h => h.elim hn (by decide), fun h => h.elim b11 (by decide), fun h => f0 (h.resolve_right (by decide)), fun h => f1 (h.resolve_right (by decide)), fun h => f2 (h.resolve_right (by decide)), fun h => f3 (h.resolve_right (by decide)), fun h => f4 (h.resolve_right (by decide)), fun h => f5 (h.resolve_right (by decide)), fun h => f6 (h.resolve_right (by decide)), fun h => f7 (h.resolve_right (by decide)), fun _ => rfl, fun h => f9 (h.resolve_right (by decide)), fL⟩⟩
          · skip
            obtain ⟨hs, hu, hfi, g8, g11, k6⟩ := hI
            obtain ⟨u6, rfl⟩ := k6
            refine Kept.mk ?_
            simp only [Act.put, List.setIfInBounds_toArray, List.set_cons_zero, List.set_cons_succ]
            go_simp
            refine hK.out _ _ ?_
            exact ⟨sl30, sl31, sl32, sl33, sl34, sl35, (.tuple #[u6, (.int .i64 r2)]), sl36, (.int .i64 r2), sl8, sl9, by simp only [Act.put, List.setIfInBounds_toArray, List.set_cons_zero, List.set_cons_succ], hB, .inr ⟨.inl hs, ⟨.inl (hu.1), .inl (hu.2.1), .inl (hu.2.2.1), .inl (hu.2.2.2.1), .inl (hu.2.2.2.2.1), .inl (hu.2.2.2.2.2.1), .inl (hu.2.2.2.2.2.2.1), .inl (hu.2.2.2.2.2.2.2.1), .inl (hu.2.2.2.2.2.2.2.2)⟩, hfi, fun _ => rfl, fun h => g11 (h.resolve_right (by decide)), ⟨_, rfl⟩⟩⟩
        refine InvFrom.cons (fun L a W hI hN hD K hK => ?_) ?_
        · obtain ⟨sl30, sl31, sl32, sl33, sl34, sl35, sl29, sl36, sl37, sl8, sl9, ha, hB, hI⟩ := hI
          subst ha
          have hz := hB.size
          rcases hI with hI | hI
          · skip
            obtain ⟨hn, b11, f0, f1, f2, f3, f4, f5, f6, f7, f8, f9, fL⟩ := hI
            refine Kept.mk ?_
            simp only [Act.put, List.setIfInBounds_toArray, List.set_cons_zero, List.set_cons_succ]
            go_simp
            refine hK.out _ _ ?_
            have hb1 : Below W.heap.size W (W.alloc (.cells #[.int .i64 0, .int .i64 0, .slice none 0 0, .int .i64 0, .slice none 0 0] 34)) := (Below.refl _ _).alloc (Nat.le_refl _) _
            exact ⟨sl30, sl31, sl32, sl33, sl34, sl35, sl29, sl36, sl37, (.pointer (some ⟨W.heap.size, 0, none⟩)), sl9, by simp only [Act.put, List.setIfInBounds_toArray, List.set_cons_zero, List.set_cons_succ], hB.trans (hb1.mono hz), .inl ⟨fun h => h.elim hn (by decide), fun h => h.elim b11 (by decide), fun h => f0 (h.resolve_right (by decide)), fun h => (f1 (h.resolve_right (by decide))).up hb1, fun h => f2 (h.resolve_right (by decide)), fun h => (f3 (h.resolve_right (by decide))).up hb1, fun h => f4 (h.resolve_right (by decide)), fun h => (f5 (h.resolve_right (by decide))).boxed hb1, fun h => (f6 (h.resolve_right (by decide))).boxed hb1, fun h => (f7 (h.resolve_right (by decide))).boxed hb1, fun h => f8 (h.resolve_right (by decide)), fun _ => BoxAt.new hz, BoxLt.new⟩⟩
          · obtain ⟨-, hu, -⟩ := hI
            exact absurd (hu.2.2.2.2.2.2.2.2) hN
        refine InvFrom.cons (fun L a W hI hN hD K hK => ?_) ?_
        · obtain ⟨sl30, sl31, sl32, sl33, sl34, sl35, sl29, sl36, sl37, sl8, sl9, ha, hB, hI⟩ := hI
          subst ha
          have hz := hB.size
          rcases hI with hI | hI
          · skip
            obtain ⟨hn, b11, f0, f1, f2, f3, f4, f5, f6, f7, f8, f9, fL⟩ := hI
            have d7 := f7 (hD 7 (by kernel_rfl))
            obtain ⟨u9, F9, rfl, own9, hF9, hnF⟩ := d7; have see9 := layGor.seen (hi := W.heap.size) own9 (fun g hg => (hF9 g hg).2); obtain ⟨zA2, zn2, zc2, zA4, zn4, zc4, rfl, -⟩ := seeGor see9
            have d9 := f9 (hD 9 (by kernel_rfl))
            obtain ⟨b5, rfl, hb51, hb52, hbz⟩ := d9
            have d6 := f6 (hD 6 (by kernel_rfl))
            obtain ⟨u6, rfl, -⟩ := d6
            have zcc0 := box_cell (j := 0) hbz rfl
            have zcc1 := box_cell (j := 1) hbz rfl
            have zcc2 := box_cell (j := 2) hbz rfl
            have zcc3 := box_cell (j := 3) hbz rfl
            have zcc4 := box_cell (j := 4) hbz rfl
            have zdd0 := box_free hbz 0
            have zdd1 := box_free hbz 1
            have zdd2 := box_free hbz 2
            have zdd3 := box_free hbz 3
            have zdd4 := box_free hbz 4
            refine Kept.mk ?_
            simp only [Act.put, List.setIfInBounds_toArray, List.set_cons_zero, List.set_cons_succ]
            go_simp
            have hpw : putCells W b5 0 [.int .i64 r.fProc, .int .i64 r.fPc, .slice zA2 zn2 zc2, .int .i64 r.fState, .slice zA4 zn4 zc4] = (((((W.setCell ⟨b5, 0, none⟩ (.int .i64 r.fProc)).setCell ⟨b5, 1, none⟩ (.int .i64 r.fPc)).setCell ⟨b5, 2, none⟩ (.slice zA2 zn2 zc2)).setCell ⟨b5, 3, none⟩ (.int .i64 r.fState)).setCell ⟨b5, 4, none⟩ (.slice zA4 zn4 zc4)) := rfl
            have hA9 := Ans.mkPut (L := layGor) (t := 34) (lo := v7.heap.size) (Z := [.int .i64 0, .int .i64 0, .slice none 0 0, .int .i64 0, .slice none 0 0]) (vs := [.int .i64 r.fProc, .int .i64 r.fPc, .slice zA2 zn2 zc2, .int .i64 r.fState, .slice zA4 zn4 zc4]) hbz rfl own9 (fun k hk => ⟨(hF9 k hk).1, (hF9 k hk).2, fun he => hnF _ rfl (he ▸ hk)⟩) hb51
            have hB9 : Below v7.heap.size v7 (putCells W b5 0 [.int .i64 r.fProc, .int .i64 r.fPc, .slice zA2 zn2 zc2, .int .i64 r.fState, .slice zA4 zn4 zc4]) := putCells_below _ _ _ _ hB hb51
            rw [← hpw]
            clear hpw
            generalize putCells W b5 0 [.int .i64 r.fProc, .int .i64 r.fPc, .slice zA2 zn2 zc2, .int .i64 r.fState, .slice zA4 zn4 zc4] = W9 at hA9 hB9 ⊢
            refine hK.out _ _ ?_
            exact ⟨sl30, sl31, sl32, sl33, sl34, sl35, (.tuple #[u6, (.int .i64 r2)]), (.agg #[.int .i64 r.fProc, .int .i64 r.fPc, .slice zA2 zn2 zc2, .int .i64 r.fState, .slice zA4 zn4 zc4]), sl37, (.pointer (some ⟨b5, 0, none⟩)), sl9, by simp only [Act.put, List.setIfInBounds_toArray, List.set_cons_zero, List.set_cons_succ], hB9, .inr ⟨.inr rfl, ⟨.inl (hD 0 (by kernel_rfl)), .inl (hD 1 (by kernel_rfl)), .inl (hD 2 (by kernel_rfl)), .inl (hD 3 (by kernel_rfl)), .inl (hD 4 (by kernel_rfl)), .inl (hD 5 (by kernel_rfl)), .inl (hD 6 (by kernel_rfl)), .inl (hD 7 (by kernel_rfl)), .inl (hD 9 (by kernel_rfl))⟩, ⟨b5, rfl, hA9⟩, fun h => f8 (h.resolve_right (by decide)), fun h => absurd (h.resolve_right (by decide)) b11, ⟨_, rfl⟩⟩⟩
          · exact absurd hI.1 hN
        refine InvFrom.cons (fun L a W hI hN hD K hK => ?_) ?_
        · obtain ⟨sl30, sl31, sl32, sl33, sl34, sl35, sl29, sl36, sl37, sl8, sl9, ha, hB, hI⟩ := hI
          subst ha
          have hz := hB.size
          rcases hI with hI | hI
          · exact absurd (hD 10 (by kernel_rfl)) hI.1
          · skip
            obtain ⟨hs, hu, hfi, g8, g11, k6⟩ := hI
            obtain ⟨u6, rfl⟩ := k6
            have d8 := g8 (hD 8 (by kernel_rfl))
            subst d8
            refine Kept.mk ?_
            simp only [Act.put, List.setIfInBounds_toArray, List.set_cons_zero, List.set_cons_succ]
            go_simp
            refine hK.out _ _ ?_
            exact ⟨sl30, sl31, sl32, sl33, sl34, sl35, (.tuple #[u6, (.int .i64 r2)]), sl36, (.int .i64 r2), sl8, (.int .i64 r2), by simp only [Act.put, List.setIfInBounds_toArray, List.set_cons_zero, List.set_cons_succ], hB, .inr ⟨.inl hs, ⟨.inl (hu.1), .inl (hu.2.1), .inl (hu.2.2.1), .inl (hu.2.2.2.1), .inl (hu.2.2.2.2.1), .inl (hu.2.2.2.2.2.1), .inl (hu.2.2.2.2.2.2.1), .inl (hu.2.2.2.2.2.2.2.1), .inl (hu.2.2.2.2.2.2.2.2)⟩, hfi, fun h => g8 (h.resolve_right (by decide)), fun _ => rfl, ⟨_, rfl⟩⟩⟩
        exact InvFrom.nil
      intro L a v10 hL hI
      obtain ⟨sl30, sl31, sl32, sl33, sl34, sl35, sl29, sl36, sl37, sl8, sl9, ha, hbv10, hI⟩ := hI
      subst ha
      have hI := hI.resolve_left (fun h => h.1 (hL 10 (by decide)))
      obtain ⟨-, -, hfin, g8, g11, k6⟩ := hI
      have hl8 := g8 (hL 8 (by decide))
      have hl11 := g11 (hL 11 (by decide))
      obtain ⟨gS, hsl, han⟩ := hfin
      subst hsl
      subst hl11
      clear hL
      refine Kept.mk ?_
      simp only [Act.put, List.setIfInBounds_toArray, List.set_cons_zero, List.set_cons_succ]
      replace HE := Lib.hid (HE.out.trans (hbv10.mono (by omega)))
      have hz11 := hbv10.size
      have HAS := Lib.hid han
      clear han hbv10
      have pe12_0 := box_cell (j := 0) ((HKE.out _ (HE.out)).2.2.1) rfl
      have pe12_1 := box_cell (j := 1) ((HKE.out _ (HE.out)).2.2.1) rfl
      have pe12_2 := box_cell (j := 2) ((HKE.out _ (HE.out)).2.2.1) rfl
      have pe12_3 := box_cell (j := 3) ((HKE.out _ (HE.out)).2.2.1) rfl
      have zE13 := ((HKE.out _ (HE.out)).1).1
      have lt15 := HAS.out.lt
      go_wp2_with fail
      refine (toProg_any ((HKE.out _ (HE.out)).2.1) (by omega) hle0).mono ?_
      rintro e v14 ⟨uv14, rfl, ownv14, hbv14⟩
      have hz16 := hbv14.size
      have see2 := layProg.seen (hi := v14.heap.size) ownv14 fun g hg => hg.2
      obtain ⟨q0A0, q0n0, q0c0, q0A2, q0n2, q0c2, q0A3, q0n3, q0c3, rfl, -⟩ := seeProg see2
      clear see2 pe12_0 pe12_1 pe12_2 pe12_3
      go_upto_region 10 with (fail)
      have hal : Below v10.heap.size v10 (v14.alloc (.cells #[.slice q0A0 q0n0 q0c0, .int .i64 x0.fMus, .slice q0A2 q0n2 q0c2, .slice q0A3 q0n3 q0c3] 40)) := hbv14.alloc hbv14.size _
      have han := Ans.mk (t := 40) ownv14 (fun g hg => hg) hbv14.size
      obtain ⟨gX0, hgX0⟩ : ∃ b, b = v14.heap.size := ⟨_, rfl⟩
      have hnm : v14.heap.size = gX0 := hgX0.symm
      replace HE := Lib.hid (HE.out.trans (hal.mono (by omega)))
      replace HAS := Lib.hid (HAS.out.below hal (by omega))
      have hz18 := hal.size
      replace han : Ans layProg 40 v10.heap.size (v14.alloc (.cells #[.slice q0A0 q0n0 q0c0, .int .i64 x0.fMus, .slice q0A2 q0n2 q0c2, .slice q0A3 q0n3 q0c3] 40)).heap.size (v14.alloc (.cells #[.slice q0A0 q0n0 q0c0, .int .i64 x0.fMus, .slice q0A2 q0n2 q0c2, .slice q0A3 q0n3 q0c3] 40)) gX0 x0 := by rw [← hnm]; exact han
      have HAX0 := Lib.hid han
      clear han hal ownv14 hbv14
      generalize (v14.alloc (.cells #[.slice q0A0 q0n0 q0c0, .int .i64 x0.fMus, .slice q0A2 q0n2 q0c2, .slice q0A3 q0n3 q0c3] 40)) = v17 at *
      simp only [hnm]
      clear hnm hgX0
      have pe19_0 := box_cell (j := 0) ((HKE.out _ (HE.out)).2.2.2.2.1) rfl
      have pe19_1 := box_cell (j := 1) ((HKE.out _ (HE.out)).2.2.2.2.1) rfl
      have pe19_2 := box_cell (j := 2) ((HKE.out _ (HE.out)).2.2.2.2.1) rfl
      have pe19_3 := box_cell (j := 3) ((HKE.out _ (HE.out)).2.2.2.2.1) rfl
      have pe19_4 := box_cell (j := 4) ((HKE.out _ (HE.out)).2.2.2.2.1) rfl
      have zE20 := ((HKE.out _ (HE.out)).1).1
      have lt22 := HAS.out.lt
      have lt23 := HAX0.out.lt
      go_wp2_with fail
      refine (toGor_any ((HKE.out _ (HE.out)).2.2.2.1) (by omega) hle1).mono ?_
      rintro e v21 ⟨uv21, rfl, ownv21, hbv21⟩
      have hz24 := hbv21.size
      have see2 := layGor.seen (hi := v21.heap.size) ownv21 fun g hg => hg.2
      obtain ⟨q1A2, q1n2, q1c2, q1A4, q1n4, q1c4, rfl, -⟩ := seeGor see2
      clear see2 pe19_0 pe19_1 pe19_2 pe19_3 pe19_4
      go_upto_region 11 with (fail)
      have hal : Below v17.heap.size v17 (v21.alloc (.cells #[.int .i64 x1.fProc, .int .i64 x1.fPc, .slice q1A2 q1n2 q1c2, .int .i64 x1.fState, .slice q1A4 q1n4 q1c4] 34)) := hbv21.alloc hbv21.size _
      have han := Ans.mk (t := 34) ownv21 (fun g hg => hg) hbv21.size
      obtain ⟨gX1, hgX1⟩ : ∃ b, b = v21.heap.size := ⟨_, rfl⟩
      have hnm : v21.heap.size = gX1 := hgX1.symm
      replace HE := Lib.hid (HE.out.trans (hal.mono (by omega)))
      replace HAS := Lib.hid (HAS.out.below hal (by omega))
      replace HAX0 := Lib.hid (HAX0.out.below hal (by omega))
      have hz26 := hal.size
      replace han : Ans layGor 34 v17.heap.size (v21.alloc (.cells #[.int .i64 x1.fProc, .int .i64 x1.fPc, .slice q1A2 q1n2 q1c2, .int .i64 x1.fState, .slice q1A4 q1n4 q1c4] 34)).heap.size (v21.alloc (.cells #[.int .i64 x1.fProc, .int .i64 x1.fPc, .slice q1A2 q1n2 q1c2, .int .i64 x1.fState, .slice q1A4 q1n4 q1c4] 34)) gX1 x1 := by rw [← hnm]; exact han
      have HAX1 := Lib.hid han
      clear han hal ownv21 hbv21
      generalize (v21.alloc (.cells #[.int .i64 x1.fProc, .int .i64 x1.fPc, .slice q1A2 q1n2 q1c2, .int .i64 x1.fState, .slice q1A4 q1n4 q1c4] 34)) = v25 at *
      simp only [hnm]
      clear hnm hgX1
      have lt27 := HAS.out.lt
      have lt28 := HAX0.out.lt
      have lt29 := HAX1.out.lt
      obtain ⟨o1l1, o1l2, o1l3, o1v, o1F, o1b, o1w, o1f⟩ := HAX0.out
      have o1s := layProg.seen (hi := v25.heap.size) o1w fun g hg => by have := o1f g hg; omega
      obtain ⟨o1A0, o1n0, o1c0, o1A2, o1n2, o1c2, o1A3, o1n3, o1c3, rfl, -⟩ := seeProg o1s
      have o1p0 := box_cell (j := 0) o1b rfl
      have o1p1 := box_cell (j := 1) o1b rfl
      have o1p2 := box_cell (j := 2) o1b rfl
      have o1p3 := box_cell (j := 3) o1b rfl
      obtain ⟨o2l1, o2l2, o2l3, o2v, o2F, o2b, o2w, o2f⟩ := HAX1.out
      have o2s := layGor.seen (hi := v25.heap.size) o2w fun g hg => by have := o2f g hg; omega
      obtain ⟨o2A2, o2n2, o2c2, o2A4, o2n4, o2c4, rfl, -⟩ := seeGor o2s
      have o2p0 := box_cell (j := 0) o2b rfl
      have o2p1 := box_cell (j := 1) o2b rfl
      have o2p2 := box_cell (j := 2) o2b rfl
      have o2p3 := box_cell (j := 3) o2b rfl
      have o2p4 := box_cell (j := 4) o2b rfl
      have zE30 := ((HKE.out _ (HE.out)).1).1
      go_wp2_with fail
      refine (HIM.out _ v25.heap.size _ o1s _ o2s (Nat.le_refl _) ((HKE.out _ (HE.out)).1).2).mono ?_
      rintro e v31 ⟨uv31, Fv31, rfl, ownv31, hFv31, hbv31⟩
      have hz32 := hbv31.size
      clear o1p0 o1p1 o1p2 o1p3 o1l1 o1l2 o1l3 o1b o1w o1f o1s o2p0 o2p1 o2p2 o2p3 o2p4 o2l1 o2l2 o2l3 o2b o2w o2f o2s
      have see2 := layGor.seen (hi := v31.heap.size) ownv31 fun g hg => (hFv31 g hg).2
      obtain ⟨rv31A2, rv31n2, rv31c2, rv31A4, rv31n4, rv31c4, rfl, -⟩ := seeGor see2
      go_upto_region 12 with (fail)
      have hal : Below v25.heap.size v25 (v31.alloc (.cells #[.int .i64 r.fProc, .int .i64 r.fPc, .slice rv31A2 rv31n2 rv31c2, .int .i64 r.fState, .slice rv31A4 rv31n4 rv31c4] 34)) := hbv31.alloc hbv31.size _
      have han := Ans.mk (t := 34) ownv31 hFv31 hbv31.size
      obtain ⟨gG, hgG⟩ : ∃ b, b = v31.heap.size := ⟨_, rfl⟩
      have hnm : v31.heap.size = gG := hgG.symm
      replace HE := Lib.hid (HE.out.trans (hal.mono (by omega)))
      replace HAS := Lib.hid (HAS.out.below hal (by omega))
      replace HAX0 := Lib.hid (HAX0.out.below hal (by omega))
      replace HAX1 := Lib.hid (HAX1.out.below hal (by omega))
      have hz34 := hal.size
      replace han : Ans layGor 34 v25.heap.size (v31.alloc (.cells #[.int .i64 r.fProc, .int .i64 r.fPc, .slice rv31A2 rv31n2 rv31c2, .int .i64 r.fState, .slice rv31A4 rv31n4 rv31c4] 34)).heap.size (v31.alloc (.cells #[.int .i64 r.fProc, .int .i64 r.fPc, .slice rv31A2 rv31n2 rv31c2, .int .i64 r.fState, .slice rv31A4 rv31n4 rv31c4] 34)) gG r := by rw [← hnm]; exact han
      have HAG := Lib.hid han
      clear han hal ownv31 hFv31 hbv31 see2
      generalize (v31.alloc (.cells #[.int .i64 r.fProc, .int .i64 r.fPc, .slice rv31A2 rv31n2 rv31c2, .int .i64 r.fState, .slice rv31A4 rv31n4 rv31c4] 34)) = v33 at *
      simp only [hnm]
      clear hnm hgG
      have lt35 := HAS.out.lt
      have lt36 := HAX0.out.lt
      have lt37 := HAX1.out.lt
      have lt38 := HAG.out.lt
      obtain ⟨o3l1, o3l2, o3l3, o3v, o3F, o3b, o3w, o3f⟩ := HAG.out
      have o3s := layGor.seen (hi := v33.heap.size) o3w fun g hg => by have := o3f g hg; omega
      obtain ⟨o3A2, o3n2, o3c2, o3A4, o3n4, o3c4, rfl, -⟩ := seeGor o3s
      have o3p0 := box_cell (j := 0) o3b rfl
      have o3p1 := box_cell (j := 1) o3b rfl
      have o3p2 := box_cell (j := 2) o3b rfl
      have o3p3 := box_cell (j := 3) o3b rfl
      have o3p4 := box_cell (j := 4) o3b rfl
      obtain ⟨o4l1, o4l2, o4l3, o4v, o4F, o4b, o4w, o4f⟩ := HAS.out
      have o4s := layGor.seen (hi := v33.heap.size) o4w fun g hg => by have := o4f g hg; omega
      obtain ⟨o4A2, o4n2, o4c2, o4A4, o4n4, o4c4, rfl, -⟩ := seeGor o4s
      have o4p0 := box_cell (j := 0) o4b rfl
      have o4p1 := box_cell (j := 1) o4b rfl
      have o4p2 := box_cell (j := 2) o4b rfl
      have o4p3 := box_cell (j := 3) o4b rfl
      have o4p4 := box_cell (j := 4) o4b rfl
      go_wp2_with fail
      refine (eqGor_same o3s o4s (Nat.le_refl _) (Nat.le_refl _) hszR).mono ?_
      rintro e v39 ⟨rfl, hbv39⟩
      clear o3p0 o3p1 o3p2 o3p3 o3p4 o3l1 o3l2 o3l3 o3b o3w o3f o3s o4p0 o4p1 o4p2 o4p3 o4p4 o4l1 o4l2 o4l3 o4b o4w o4f o4s
      replace HE := Lib.hid (HE.out.trans (hbv39.mono (by omega)))
      replace HAS := Lib.hid (HAS.out.below hbv39 (by omega))
      replace HAX0 := Lib.hid (HAX0.out.below hbv39 (by omega))
      replace HAX1 := Lib.hid (HAX1.out.below hbv39 (by omega))
      replace HAG := Lib.hid (HAG.out.below hbv39 (by omega))
      have hz40 := hbv39.size
      clear hbv39
      have lt41 := HAS.out.lt
      have lt42 := HAX0.out.lt
      have lt43 := HAX1.out.lt
      have lt44 := HAG.out.lt
      have zE45 := ((HKE.out _ (HE.out)).1).1
      obtain ⟨o5l1, o5l2, o5l3, o5v, o5F, o5b, o5w, o5f⟩ := HAX0.out
      have o5s := layProg.seen (hi := v39.heap.size) o5w fun g hg => by have := o5f g hg; omega
      obtain ⟨o5A0, o5n0, o5c0, o5A2, o5n2, o5c2, o5A3, o5n3, o5c3, rfl, -⟩ := seeProg o5s
      have o5p0 := box_cell (j := 0) o5b rfl
      have o5p1 := box_cell (j := 1) o5b rfl
      have o5p2 := box_cell (j := 2) o5b rfl
      have o5p3 := box_cell (j := 3) o5b rfl
      go_upto_region 14 with (fail)
      refine wp_region_inv (fun AC0 L a W => ∃ sl58 sl59 sl60 sl61 sl62 : Value, a = (((((AC0.put (some 58) sl58).put (some 59) sl59).put (some 60) sl60).put (some 61) sl61).put (some 62) sl62) ∧ Below v39.heap.size v39 W ∧ ((L 0 → sl58 = (.agg #[.slice o5A0 o5n0 o5c0, .int .i64 x0.fMus, .slice o5A2 o5n2 o5c2, .slice o5A3 o5n3 o5c3])) ∧ (L 1 → sl59 = (.agg #[.slice p0A0 p0n0 p0c0, .int .i64 x0.fMus, .slice p0A2 p0n2 p0c2, .slice p0A3 p0n3 p0c3])) ∧ (L 2 → SeeAt layProg W x0 sl60) ∧ (L 3 → sl61 = .bool true) ∧ (L 4 → sl62 = .bool false))) (by kernel_rfl) (by kernel_rfl) ?_ ?_ ?_
      · exact ⟨undef, undef, undef, undef, undef, by simp only [Act.put, List.setIfInBounds_toArray, List.set_cons_zero, List.set_cons_succ], Below.drew (Below.refl _ _), fun h => absurd h id, fun h => absurd h id, fun h => absurd h id, fun h => absurd h id, fun h => absurd h id⟩
      · intro Q9; refine InvFrom.cons (fun L a W hI hN hD K hK => ?_) ?_
        · obtain ⟨sl58, sl59, sl60, sl61, sl62, ha, hB, f0, f1, f2, f3, f4⟩ := hI
          subst ha
          have hz := hB.size
          have pc0 := box_cell (j := 0) (box_keep o5b hB (by omega)) rfl
          have pc1 := box_cell (j := 1) (box_keep o5b hB (by omega)) rfl
          have pc2 := box_cell (j := 2) (box_keep o5b hB (by omega)) rfl
          have pc3 := box_cell (j := 3) (box_keep o5b hB (by omega)) rfl
          refine Kept.mk ?_
          simp only [Act.put, List.setIfInBounds_toArray, List.set_cons_zero, List.set_cons_succ]
          go_simp
          refine hK.out _ _ ?_
          exact ⟨(.agg #[.slice o5A0 o5n0 o5c0, .int .i64 x0.fMus, .slice o5A2 o5n2 o5c2, .slice o5A3 o5n3 o5c3]), sl59, sl60, sl61, sl62, by simp only [Act.put, List.setIfInBounds_toArray, List.set_cons_zero, List.set_cons_succ], hB, fun _ => rfl, fun h => f1 (h.resolve_right (by decide)), fun h => f2 (h.resolve_right (by decide)), fun h => f3 (h.resolve_right (by decide)), fun h => f4 (h.resolve_right (by decide))⟩
        refine InvFrom.cons (fun L a W hI hN hD K hK => ?_) ?_
        · obtain ⟨sl58, sl59, sl60, sl61, sl62, ha, hB, f0, f1, f2, f3, f4⟩ := hI
          subst ha
          have hz := hB.size
          have hW := (HKE.out W (HE.out.trans (hB.mono (by omega))))
          have pc0 := box_cell (j := 0) hW.2.2.1 rfl
          have pc1 := box_cell (j := 1) hW.2.2.1 rfl
          have pc2 := box_cell (j := 2) hW.2.2.1 rfl
          have pc3 := box_cell (j := 3) hW.2.2.1 rfl
          refine Kept.mk ?_
          simp only [Act.put, List.setIfInBounds_toArray, List.set_cons_zero, List.set_cons_succ]
          go_simp
          refine hK.out _ _ ?_
          exact ⟨sl58, (.agg #[.slice p0A0 p0n0 p0c0, .int .i64 x0.fMus, .slice p0A2 p0n2 p0c2, .slice p0A3 p0n3 p0c3]), sl60, sl61, sl62, by simp only [Act.put, List.setIfInBounds_toArray, List.set_cons_zero, List.set_cons_succ], hB, fun h => f0 (h.resolve_right (by decide)), fun _ => rfl, fun h => f2 (h.resolve_right (by decide)), fun h => f3 (h.resolve_right (by decide)), fun h => f4 (h.resolve_right (by decide))⟩
        refine InvFrom.cons (fun L a W hI hN hD K hK => ?_) ?_
        · obtain ⟨sl58, sl59, sl60, sl61, sl62, ha, hB, f0, f1, f2, f3, f4⟩ := hI
          subst ha
          have hz := hB.size
          have d1 := f1 (hD 1 (by kernel_rfl))
          subst d1
          have hW := (HKE.out W (HE.out.trans (hB.mono (by omega))))
          refine kept_c1 rfl 9 _ _ rfl (fenters_of' Tryz.func9 (by kernel_rfl) (by kernel_rfl)) (.agg #[.slice p0A0 p0n0 p0c0, .int .i64 x0.fMus, .slice p0A2 p0n2 p0c2, .slice p0A3 p0n3 p0c3]) (by kernel_rfl) (toProg_any hW.2.1 (by omega) hle0) ?_
          rintro e W1 ⟨u1, rfl, own1, hb1⟩
          refine ⟨_, rfl, hK.out _ _ ?_⟩
          exact ⟨sl58, (.agg #[.slice p0A0 p0n0 p0c0, .int .i64 x0.fMus, .slice p0A2 p0n2 p0c2, .slice p0A3 p0n3 p0c3]), (.agg u1.toArray), sl61, sl62, by simp only [Act.put, List.setIfInBounds_toArray, List.set_cons_zero, List.set_cons_succ], hB.trans (hb1.mono hz), fun h => f0 (h.resolve_right (by decide)), fun h => f1 (h.resolve_right (by decide)), fun _ => ⟨_, rfl, layProg.seen (hi := W1.heap.size) own1 (fun g hg => hg.2)⟩, fun h => f3 (h.resolve_right (by decide)), fun h => f4 (h.resolve_right (by decide))⟩
        refine InvFrom.cons (fun L a W hI hN hD K hK => ?_) ?_
        · obtain ⟨sl58, sl59, sl60, sl61, sl62, ha, hB, f0, f1, f2, f3, f4⟩ := hI
          subst ha
          have hz := hB.size
          have d0 := f0 (hD 0 (by kernel_rfl))
          subst d0
          have d2 := f2 (hD 2 (by kernel_rfl))
          obtain ⟨uy0, rfl, sy0⟩ := d2
          refine kept_c2 rfl 13 _ _ _ rfl (fenters_of' Tryz.func13 (by kernel_rfl) (by kernel_rfl)) (.agg #[.slice o5A0 o5n0 o5c0, .int .i64 x0.fMus, .slice o5A2 o5n2 o5c2, .slice o5A3 o5n3 o5c3]) (.agg uy0.toArray) (by kernel_rfl) (by kernel_rfl) (eqProg_same (layProg.more (layProg.keep o5s (fun k hk => hB.block k hk)) hz) sy0 (Nat.le_refl _) (Nat.le_refl _) (Nat.le_trans hle0 (by omega))) ?_
          rintro e W1 ⟨rfl, hb9⟩
          refine ⟨_, rfl, hK.out _ _ ?_⟩
          exact ⟨(.agg #[.slice o5A0 o5n0 o5c0, .int .i64 x0.fMus, .slice o5A2 o5n2 o5c2, .slice o5A3 o5n3 o5c3]), sl59, (.agg uy0.toArray), (.bool true), sl62, by simp only [Act.put, List.setIfInBounds_toArray, List.set_cons_zero, List.set_cons_succ], hB.trans (hb9.mono hz), fun h => f0 (h.resolve_right (by decide)), fun h => f1 (h.resolve_right (by decide)), fun h => (f2 (h.resolve_right (by decide))).up hb9, fun _ => rfl, fun h => f4 (h.resolve_right (by decide))⟩
        refine InvFrom.cons (fun L a W hI hN hD K hK => ?_) ?_
        · obtain ⟨sl58, sl59, sl60, sl61, sl62, ha, hB, f0, f1, f2, f3, f4⟩ := hI
          subst ha
          have hz := hB.size
          have d3 := f3 (hD 3 (by kernel_rfl))
          subst d3
          refine Kept.mk ?_
          simp only [Act.put, List.setIfInBounds_toArray, List.set_cons_zero, List.set_cons_succ]
          go_simp
          refine hK.out _ _ ?_
          exact ⟨sl58, sl59, sl60, (.bool true), (.bool false), by simp only [Act.put, List.setIfInBounds_toArray, List.set_cons_zero, List.set_cons_succ], hB, fun h => f0 (h.resolve_right (by decide)), fun h => f1 (h.resolve_right (by decide)), fun h => f2 (h.resolve_right (by decide)), fun h => f3 (h.resolve_right (by decide)), fun _ => rfl⟩
        exact InvFrom.nil
      intro L a v46 hL hI
      obtain ⟨sl58, sl59, sl60, sl61, sl62, ha, hbv46, hI⟩ := hI
      subst ha
      have hfin := hI.2.2.2.2 (hL 4 (by decide))
      subst hfin
      clear hL hI
      refine Kept.mk ?_
      simp only [Act.put, List.setIfInBounds_toArray, List.set_cons_zero, List.set_cons_succ]
      clear o5p0 o5p1 o5p2 o5p3 o5l1 o5l2 o5l3 o5b o5w o5f o5s
      replace HE := Lib.hid (HE.out.trans (hbv46.mono (by omega)))
      replace HAS := Lib.hid (HAS.out.below hbv46 (by omega))
      replace HAX0 := Lib.hid (HAX0.out.below hbv46 (by omega))
      replace HAX1 := Lib.hid (HAX1.out.below hbv46 (by omega))
      replace HAG := Lib.hid (HAG.out.below hbv46 (by omega))
      have hz47 := hbv46.size
      clear hbv46
      have lt48 := HAS.out.lt
      have lt49 := HAX0.out.lt
      have lt50 := HAX1.out.lt
      have lt51 := HAG.out.lt
      have zE52 := ((HKE.out _ (HE.out)).1).1
      obtain ⟨o6l1, o6l2, o6l3, o6v, o6F, o6b, o6w, o6f⟩ := HAX1.out
      have o6s := layGor.seen (hi := v46.heap.size) o6w fun g hg => by have := o6f g hg; omega
      obtain ⟨o6A2, o6n2, o6c2, o6A4, o6n4, o6c4, rfl, -⟩ := seeGor o6s
      have o6p0 := box_cell (j := 0) o6b rfl
      have o6p1 := box_cell (j := 1) o6b rfl
      have o6p2 := box_cell (j := 2) o6b rfl
      have o6p3 := box_cell (j := 3) o6b rfl
      have o6p4 := box_cell (j := 4) o6b rfl
      go_upto_region 16 with (fail)
      refine wp_region_inv (fun AC0 L a W => ∃ sl63 sl64 sl65 sl66 sl67 : Value, a = (((((AC0.put (some 63) sl63).put (some 64) sl64).put (some 65) sl65).put (some 66) sl66).put (some 67) sl67) ∧ Below v46.heap.size v46 W ∧ ((L 0 → sl63 = (.agg #[.int .i64 x1.fProc, .int .i64 x1.fPc, .slice o6A2 o6n2 o6c2, .int .i64 x1.fState, .slice o6A4 o6n4 o6c4])) ∧ (L 1 → sl64 = (.agg #[.int .i64 x1.fProc, .int .i64 x1.fPc, .slice p1A2 p1n2 p1c2, .int .i64 x1.fState, .slice p1A4 p1n4 p1c4])) ∧ (L 2 → SeeAt layGor W x1 sl65) ∧ (L 3 → sl66 = .bool true) ∧ (L 4 → sl67 = .bool false))) (by kernel_rfl) (by kernel_rfl) ?_ ?_ ?_
      · exact ⟨undef, undef, undef, undef, undef, by simp only [Act.put, List.setIfInBounds_toArray, List.set_cons_zero, List.set_cons_succ], Below.drew (Below.refl _ _), fun h => absurd h id, fun h => absurd h id, fun h => absurd h id, fun h => absurd h id, fun h => absurd h id⟩
      · intro Q9; refine InvFrom.cons (fun L a W hI hN hD K hK => ?_) ?_
        · obtain ⟨sl63, sl64, sl65, sl66, sl67, ha, hB, f0, f1, f2, f3, f4⟩ := hI
          subst ha
          have hz := hB.size
          have pc0 := box_cell (j := 0) (box_keep o6b hB (by omega)) rfl
          have pc1 := box_cell (j := 1) (box_keep o6b hB (by omega)) rfl
          have pc2 := box_cell (j := 2) (box_keep o6b hB (by omega)) rfl
          have pc3 := box_cell (j := 3) (box_keep o6b hB (by omega)) rfl
          have pc4 := box_cell (j := 4) (box_keep o6b hB (by omega)) rfl
          refine Kept.mk ?_
          simp only [Act.put, List.setIfInBounds_toArray, List.set_cons_zero, List.set_cons_succ]
          go_simp
          refine hK.out _ _ ?_
          exact ⟨(.agg #[.int .i64 x1.fProc, .int .i64 x1.fPc, .slice o6A2 o6n2 o6c2, .int .i64 x1.fState, .slice o6A4 o6n4 o6c4]), sl64, sl65, sl66, sl67, by simp only [Act.put, List.setIfInBounds_toArray, List.set_cons_zero, List.set_cons_succ], hB, fun _ => rfl, fun h => f1 (h.resolve_right (by decide)), fun h => f2 (h.resolve_right (by decide)), fun h => f3 (h.resolve_right (by decide)), fun h => f4 (h.resolve_right (by decide))⟩
        refine InvFrom.cons (fun L a W hI hN hD K hK => ?_) ?_
        · obtain ⟨sl63, sl64, sl65, sl66, sl67, ha, hB, f0, f1, f2, f3, f4⟩ := hI
          subst ha
          have hz := hB.size
          have hW := (HKE.out W (HE.out.trans (hB.mono (by omega))))
          have pc0 := box_cell (j := 0) hW.2.2.2.2.1 rfl
          have pc1 := box_cell (j := 1) hW.2.2.2.2.1 rfl
          have pc2 := box_cell (j := 2) hW.2.2.2.2.1 rfl
          have pc3 := box_cell (j := 3) hW.2.2.2.2.1 rfl
          have pc4 := box_cell (j := 4) hW.2.2.2.2.1 rfl
          refine Kept.mk ?_
          simp only [Act.put, List.setIfInBounds_toArray, List.set_cons_zero, List.set_cons_succ]
          go_simp
          refine hK.out _ _ ?_
          exact ⟨sl63, (.agg #[.int .i64 x1.fProc, .int .i64 x1.fPc, .slice p1A2 p1n2 p1c2, .int .i64 x1.fState, .slice p1A4 p1n4 p1c4]), sl65, sl66, sl67, by simp only [Act.put, List.setIfInBounds_toArray, List.set_cons_zero, List.set_cons_succ], hB, fun h => f0 (h.resolve_right (by decide)), fun _ => rfl, fun h => f2 (h.resolve_right (by decide)), fun h => f3 (h.resolve_right (by decide)), fun h => f4 (h.resolve_right (by decide))⟩
        refine InvFrom.cons (fun L a W hI hN hD K hK => ?_) ?_
        · obtain ⟨sl63, sl64, sl65, sl66, sl67, ha, hB, f0, f1, f2, f3, f4⟩ := hI
          subst ha
          have hz := hB.size
          have d1 := f1 (hD 1 (by kernel_rfl))
          subst d1
          have hW := (HKE.out W (HE.out.trans (hB.mono (by omega))))
          refine kept_c1 rfl 10 _ _ rfl (fenters_of' Tryz.func10 (by kernel_rfl) (by kernel_rfl)) (.agg #[.int .i64 x1.fProc, .int .i64 x1.fPc, .slice p1A2 p1n2 p1c2, .int .i64 x1.fState, .slice p1A4 p1n4 p1c4]) (by kernel_rfl) (toGor_any hW.2.2.2.1 (by omega) hle1) ?_
          rintro e W1 ⟨u1, rfl, own1, hb1⟩
          refine ⟨_, rfl, hK.out _ _ ?_⟩
          exact ⟨sl63, (.agg #[.int .i64 x1.fProc, .int .i64 x1.fPc, .slice p1A2 p1n2 p1c2, .int .i64 x1.fState, .slice p1A4 p1n4 p1c4]), (.agg u1.toArray), sl66, sl67, by simp only [Act.put, List.setIfInBounds_toArray, List.set_cons_zero, List.set_cons_succ], hB.trans (hb1.mono hz), fun h => f0 (h.resolve_right (by decide)), fun h => f1 (h.resolve_right (by decide)), fun _ => ⟨_, rfl, layGor.seen (hi := W1.heap.size) own1 (fun g hg => hg.2)⟩, fun h => f3 (h.resolve_right (by decide)), fun h => f4 (h.resolve_right (by decide))⟩
        refine InvFrom.cons (fun L a W hI hN hD K hK => ?_) ?_
        · obtain ⟨sl63, sl64, sl65, sl66, sl67, ha, hB, f0, f1, f2, f3, f4⟩ := hI
          subst ha
          have hz := hB.size
          have d0 := f0 (hD 0 (by kernel_rfl))
          subst d0
          have d2 := f2 (hD 2 (by kernel_rfl))
          obtain ⟨uy1, rfl, sy1⟩ := d2
          refine kept_c2 rfl 12 _ _ _ rfl (fenters_of' Tryz.func12 (by kernel_rfl) (by kernel_rfl)) (.agg #[.int .i64 x1.fProc, .int .i64 x1.fPc, .slice o6A2 o6n2 o6c2, .int .i64 x1.fState, .slice o6A4 o6n4 o6c4]) (.agg uy1.toArray) (by kernel_rfl) (by kernel_rfl) (eqGor_same (layGor.more (layGor.keep o6s (fun k hk => hB.block k hk)) hz) sy1 (Nat.le_refl _) (Nat.le_refl _) (Nat.le_trans hle1 (by omega))) ?_
          rintro e W1 ⟨rfl, hb9⟩
          refine ⟨_, rfl, hK.out _ _ ?_⟩
          exact ⟨(.agg #[.int .i64 x1.fProc, .int .i64 x1.fPc, .slice o6A2 o6n2 o6c2, .int .i64 x1.fState, .slice o6A4 o6n4 o6c4]), sl64, (.agg uy1.toArray), (.bool true), sl67, by simp only [Act.put, List.setIfInBounds_toArray, List.set_cons_zero, List.set_cons_succ], hB.trans (hb9.mono hz), fun h => f0 (h.resolve_right (by decide)), fun h => f1 (h.resolve_right (by decide)), fun h => (f2 (h.resolve_right (by decide))).up hb9, fun _ => rfl, fun h => f4 (h.resolve_right (by decide))⟩
        refine InvFrom.cons (fun L a W hI hN hD K hK => ?_) ?_
        · obtain ⟨sl63, sl64, sl65, sl66, sl67, ha, hB, f0, f1, f2, f3, f4⟩ := hI
          subst ha
          have hz := hB.size
          have d3 := f3 (hD 3 (by kernel_rfl))
          subst d3
          refine Kept.mk ?_
          simp only [Act.put, List.setIfInBounds_toArray, List.set_cons_zero, List.set_cons_succ]
          go_simp
          refine hK.out _ _ ?_
          exact ⟨sl63, sl64, sl65, (.bool true), (.bool false), by simp only [Act.put, List.setIfInBounds_toArray, List.set_cons_zero, List.set_cons_succ], hB, fun h => f0 (h.resolve_right (by decide)), fun h => f1 (h.resolve_right (by decide)), fun h => f2 (h.resolve_right (by decide)), fun h => f3 (h.resolve_right (by decide)), fun _ => rfl⟩
        exact InvFrom.nil
      intro L a v53 hL hI
      obtain ⟨sl63, sl64, sl65, sl66, sl67, ha, hbv53, hI⟩ := hI
      subst ha
      have hfin := hI.2.2.2.2 (hL 4 (by decide))
      subst hfin
      clear hL hI
      refine Kept.mk ?_
      simp only [Act.put, List.setIfInBounds_toArray, List.set_cons_zero, List.set_cons_succ]
      clear o6p0 o6p1 o6p2 o6p3 o6p4 o6l1 o6l2 o6l3 o6b o6w o6f o6s
      replace HE := Lib.hid (HE.out.trans (hbv53.mono (by omega)))
      replace HAS := Lib.hid (HAS.out.below hbv53 (by omega))
      replace HAX0 := Lib.hid (HAX0.out.below hbv53 (by omega))
      replace HAX1 := Lib.hid (HAX1.out.below hbv53 (by omega))
      replace HAG := Lib.hid (HAG.out.below hbv53 (by omega))
      have hz54 := hbv53.size
      clear hbv53
      have lt55 := HAS.out.lt
      have lt56 := HAX0.out.lt
      have lt57 := HAX1.out.lt
      have lt58 := HAG.out.lt
      obtain ⟨o7l1, o7l2, o7l3, o7v, o7F, o7b, o7w, o7f⟩ := HAX0.out
      have o7s := layProg.seen (hi := v53.heap.size) o7w fun g hg => by have := o7f g hg; omega
      obtain ⟨o7A0, o7n0, o7c0, o7A2, o7n2, o7c2, o7A3, o7n3, o7c3, rfl, -⟩ := seeProg o7s
      have o7p0 := box_cell (j := 0) o7b rfl
      have o7p1 := box_cell (j := 1) o7b rfl
      have o7p2 := box_cell (j := 2) o7b rfl
      have o7p3 := box_cell (j := 3) o7b rfl
      have zE60 := ((HKE.out _ (HE.out)).1).1
      have hvc0 := hvcX0
      go_wp2_with fail
      refine (markProg_any (k := 1) o7w (fun g hg => by have := o7f g hg; omega) (Nat.le_trans hle0 (by omega)) (by omega) (by omega)).mono ?_
      rintro e v59 ⟨rfl, own9, ht9⟩
      have hkv59 : decide (1 + vcntProg (x0) < 0) = false := decide_eq_false (by omega)
      replace HE := Lib.hid (HE.out.trans (show Below (w.heap.size + 2) v53 v59 from ⟨ht9.os, ht9.tape, ht9.output, ht9.size, fun k hk => ht9.block k (by omega) (fun hg => by have := o7f k hg; omega)⟩))
      replace HAS := Lib.hid (HAS.out.turned ht9 (fun k hg => by have := o7f k hg; omega))
      replace HAX1 := Lib.hid (HAX1.out.turned ht9 (fun k hg => by have := o7f k hg; omega))
      replace HAG := Lib.hid (HAG.out.turned ht9 (fun k hg => by have := o7f k hg; omega))
      replace HAX0 := Lib.hid (Ans.mark o7l1 o7l2 o7l3 o7b o7f own9 ht9)
      have hz61 := ht9.size
      clear o7p0 o7p1 o7p2 o7p3 o7l1 o7l2 o7l3 o7b o7w o7f o7s own9 ht9 hvc0
      have lt62 := HAS.out.lt
      have lt63 := HAX0.out.lt
      have lt64 := HAX1.out.lt
      have lt65 := HAG.out.lt
      obtain ⟨o8l1, o8l2, o8l3, o8v, o8F, o8b, o8w, o8f⟩ := HAX1.out
      have o8s := layGor.seen (hi := v59.heap.size) o8w fun g hg => by have := o8f g hg; omega
      obtain ⟨o8A2, o8n2, o8c2, o8A4, o8n4, o8c4, rfl, -⟩ := seeGor o8s
      have o8p0 := box_cell (j := 0) o8b rfl
      have o8p1 := box_cell (j := 1) o8b rfl
      have o8p2 := box_cell (j := 2) o8b rfl
      have o8p3 := box_cell (j := 3) o8b rfl
      have o8p4 := box_cell (j := 4) o8b rfl
      have zE67 := ((HKE.out _ (HE.out)).1).1
      have hvc0 := hvcX1
      go_wp2_with fail
      refine (markGor_any (k := 1 + vcntProg (x0)) o8w (fun g hg => by have := o8f g hg; omega) (Nat.le_trans hle1 (by omega)) (by omega) (by omega)).mono ?_
      rintro e v66 ⟨rfl, own9, ht9⟩
      have hkv66 : decide (1 + vcntProg (x0) + vcntGor (x1) < 0) = false := decide_eq_false (by omega)
      replace HE := Lib.hid (HE.out.trans (show Below (w.heap.size + 2) v59 v66 from ⟨ht9.os, ht9.tape, ht9.output, ht9.size, fun k hk => ht9.block k (by omega) (fun hg => by have := o8f k hg; omega)⟩))
      replace HAS := Lib.hid (HAS.out.turned ht9 (fun k hg => by have := o8f k hg; omega))
      replace HAX0 := Lib.hid (HAX0.out.turned ht9 (fun k hg => by have := o8f k hg; omega))
      replace HAG := Lib.hid (HAG.out.turned ht9 (fun k hg => by have := o8f k hg; omega))
      replace HAX1 := Lib.hid (Ans.mark o8l1 o8l2 o8l3 o8b o8f own9 ht9)
      have hz68 := ht9.size
      clear o8p0 o8p1 o8p2 o8p3 o8p4 o8l1 o8l2 o8l3 o8b o8w o8f o8s own9 ht9 hvc0
      have lt69 := HAS.out.lt
      have lt70 := HAX0.out.lt
      have lt71 := HAX1.out.lt
      have lt72 := HAG.out.lt
      obtain ⟨o9l1, o9l2, o9l3, o9v, o9F, o9b, o9w, o9f⟩ := HAG.out
      have o9s := layGor.seen (hi := v66.heap.size) o9w fun g hg => by have := o9f g hg; omega
      obtain ⟨o9A2, o9n2, o9c2, o9A4, o9n4, o9c4, rfl, -⟩ := seeGor o9s
      have o9p0 := box_cell (j := 0) o9b rfl
      have o9p1 := box_cell (j := 1) o9b rfl
      have o9p2 := box_cell (j := 2) o9b rfl
      have o9p3 := box_cell (j := 3) o9b rfl
      have o9p4 := box_cell (j := 4) o9b rfl
      obtain ⟨o10l1, o10l2, o10l3, o10v, o10F, o10b, o10w, o10f⟩ := HAS.out
      have o10s := layGor.seen (hi := v66.heap.size) o10w fun g hg => by have := o10f g hg; omega
      obtain ⟨o10A2, o10n2, o10c2, o10A4, o10n4, o10c4, rfl, -⟩ := seeGor o10s
      have o10p0 := box_cell (j := 0) o10b rfl
      have o10p1 := box_cell (j := 1) o10b rfl
      have o10p2 := box_cell (j := 2) o10b rfl
      have o10p3 := box_cell (j := 3) o10b rfl
      have o10p4 := box_cell (j := 4) o10b rfl
      go_wp2_with fail
      refine (eqGor_same o9s o10s (Nat.le_refl _) (Nat.le_refl _) hszR).mono ?_
      rintro e v73 ⟨rfl, hbv73⟩
      clear o9p0 o9p1 o9p2 o9p3 o9p4 o9l1 o9l2 o9l3 o9b o9w o9f o9s o10p0 o10p1 o10p2 o10p3 o10p4 o10l1 o10l2 o10l3 o10b o10w o10f o10s
      replace HE := Lib.hid (HE.out.trans (hbv73.mono (by omega)))
      replace HAS := Lib.hid (HAS.out.below hbv73 (by omega))
      replace HAX0 := Lib.hid (HAX0.out.below hbv73 (by omega))
      replace HAX1 := Lib.hid (HAX1.out.below hbv73 (by omega))
      replace HAG := Lib.hid (HAG.out.below hbv73 (by omega))
      have hz74 := hbv73.size
      clear hbv73
      have lt75 := HAS.out.lt
      have lt76 := HAX0.out.lt
      have lt77 := HAX1.out.lt
      have lt78 := HAG.out.lt
      obtain ⟨o11l1, o11l2, o11l3, o11v, o11F, o11b, o11w, o11f⟩ := HAG.out
      have o11s := layGor.seen (hi := v73.heap.size) o11w fun g hg => by have := o11f g hg; omega
      obtain ⟨o11A2, o11n2, o11c2, o11A4, o11n4, o11c4, rfl, -⟩ := seeGor o11s
      have o11p0 := box_cell (j := 0) o11b rfl
      have o11p1 := box_cell (j := 1) o11b rfl
      have o11p2 := box_cell (j := 2) o11b rfl
      have o11p3 := box_cell (j := 3) o11b rfl
      have o11p4 := box_cell (j := 4) o11b rfl
      have zE80 := ((HKE.out _ (HE.out)).1).1
      have hvc0 := hvcR
      go_wp2_with fail
      refine (markGor_any (k := 1) o11w (fun g hg => by have := o11f g hg; omega) hszR (by omega) (by omega)).mono ?_
      rintro e v79 ⟨rfl, own9, ht9⟩
      have hkv79 : decide (1 + vcntGor (r) < 0) = false := decide_eq_false (by omega)
      replace HE := Lib.hid (HE.out.trans (show Below (w.heap.size + 2) v73 v79 from ⟨ht9.os, ht9.tape, ht9.output, ht9.size, fun k hk => ht9.block k (by omega) (fun hg => by have := o11f k hg; omega)⟩))
      replace HAS := Lib.hid (HAS.out.turned ht9 (fun k hg => by have := o11f k hg; omega))
      replace HAX0 := Lib.hid (HAX0.out.turned ht9 (fun k hg => by have := o11f k hg; omega))
      replace HAX1 := Lib.hid (HAX1.out.turned ht9 (fun k hg => by have := o11f k hg; omega))
      replace HAG := Lib.hid (Ans.mark o11l1 o11l2 o11l3 o11b o11f own9 ht9)
      have hz81 := ht9.size
      clear o11p0 o11p1 o11p2 o11p3 o11p4 o11l1 o11l2 o11l3 o11b o11w o11f o11s own9 ht9 hvc0
      have hqm : ((1 + vcntGor (r)) != (1 + vcntGor (r))) = false := by simp
      have lt82 := HAS.out.lt
      have lt83 := HAX0.out.lt
      have lt84 := HAX1.out.lt
      have lt85 := HAG.out.lt
      obtain ⟨o12l1, o12l2, o12l3, o12v, o12F, o12b, o12w, o12f⟩ := HAG.out
      have o12s := layGor.seen (hi := v79.heap.size) o12w fun g hg => by have := o12f g hg; omega
      obtain ⟨o12A2, o12n2, o12c2, o12A4, o12n4, o12c4, rfl, -⟩ := seeGor o12s
      have o12p0 := box_cell (j := 0) o12b rfl
      have o12p1 := box_cell (j := 1) o12b rfl
      have o12p2 := box_cell (j := 2) o12b rfl
      have o12p3 := box_cell (j := 3) o12b rfl
      have o12p4 := box_cell (j := 4) o12b rfl
      have hvc0 := hvcR
      go_wp2_with fail
      refine (heldGor_any (k := 1) o12s (Nat.le_refl _) hszR (by omega) (by omega)).mono ?_
      rintro e v86 ⟨rfl, hbv86⟩
      clear o12p0 o12p1 o12p2 o12p3 o12p4 o12l1 o12l2 o12l3 o12b o12w o12f o12s hvc0
      replace HE := Lib.hid (HE.out.trans (hbv86.mono (by omega)))
      replace HAS := Lib.hid (HAS.out.below hbv86 (by omega))
      replace HAX0 := Lib.hid (HAX0.out.below hbv86 (by omega))
      replace HAX1 := Lib.hid (HAX1.out.below hbv86 (by omega))
      replace HAG := Lib.hid (HAG.out.below hbv86 (by omega))
      have hz87 := hbv86.size
      clear hbv86
      have lt88 := HAS.out.lt
      have lt89 := HAX0.out.lt
      have lt90 := HAX1.out.lt
      have lt91 := HAG.out.lt
      have zE92 := ((HKE.out _ (HE.out)).1).1
      go_upto_region 31 with (fail)
      refine wp_region_invB (fun AC0 L a W => ∃ sl99 sl100 sl101 sl102 sl103 sl104 sl98 sl105 sl106 sl17 sl18 : Value, a = (((((((((((AC0.put (some 99) sl99).put (some 100) sl100).put (some 101) sl101).put (some 102) sl102).put (some 103) sl103).put (some 104) sl104).put (some 98) sl98).put (some 105) sl105).put (some 106) sl106).put (some 17) sl17).put (some 18) sl18) ∧ Below v86.heap.size v86 W ∧ ((¬ L 10 ∧ ¬ L 11 ∧ (L 0 → sl99 = (.agg #[.slice p0A0 p0n0 p0c0, .int .i64 x0.fMus, .slice p0A2 p0n2 p0c2, .slice p0A3 p0n3 p0c3])) ∧ (L 1 → SeeAt layProg W x0 sl100) ∧ (L 2 → sl101 = (.agg #[.int .i64 x1.fProc, .int .i64 x1.fPc, .slice p1A2 p1n2 p1c2, .int .i64 x1.fState, .slice p1A4 p1n4 p1c4])) ∧ (L 3 → SeeAt layGor W x1 sl102) ∧ (L 4 → sl103 = (.int .i64 a2)) ∧ (L 5 → OwnTup layGor v86.heap.size W r sl17 sl104 (.int .i64 r2)) ∧ (L 6 → OwnTup layGor v86.heap.size W r sl17 sl98 (.int .i64 r2)) ∧ (L 7 → OwnAt layGor v86.heap.size W r sl17 sl105) ∧ (L 8 → sl106 = (.int .i64 r2)) ∧ (L 9 → BoxAt 34 [.int .i64 0, .int .i64 0, .slice none 0 0, .int .i64 0, .slice none 0 0] v86.heap.size W sl17) ∧ BoxLt W sl17) ∨ (L 10 ∧ (L 0 ∧ L 1 ∧ L 2 ∧ L 3 ∧ L 4 ∧ L 5 ∧ L 6 ∧ L 7 ∧ L 9) ∧ (∃ g, sl17 = .pointer (some ⟨g, 0, none⟩) ∧ Ans layGor 34 v86.heap.size W.heap.size W g r) ∧ (L 8 → sl106 = (.int .i64 r2)) ∧ (L 11 → sl18 = (.int .i64 r2)) ∧ (∃ u, sl98 = .tuple #[u, (.int .i64 r2)])))) (by kernel_rfl) (by kernel_rfl) ?_ ?_ ?_
      · exact ⟨undef, undef, undef, undef, undef, undef, undef, undef, undef, undef, undef, by simp only [Act.put, List.setIfInBounds_toArray, List.set_cons_zero, List.set_cons_succ], Below.drew (Below.refl _ _), .inl ⟨id, id, fun h => absurd h id, fun h => absurd h id, fun h => absurd h id, fun h => absurd h id, fun h => absurd h id, fun h => absurd h id, fun h => absurd h id, fun h => absurd h id, fun h => absurd h id, fun h => absurd h id, BoxLt.undef⟩⟩
      · intro Q9; refine InvFrom.cons (fun L a W hI hN hD K hK => ?_) ?_
        · obtain ⟨sl99, sl100, sl101, sl102, sl103, sl104, sl98, sl105, sl106, sl17, sl18, ha, hB, hI⟩ := hI
          subst ha
          have hz := hB.size
          rcases hI with hI | hI
          · skip
            obtain ⟨hn, b11, f0, f1, f2, f3, f4, f5, f6, f7, f8, f9, fL⟩ := hI
            have hW := (HKE.out W (HE.out.trans (hB.mono (by omega))))
            have pc0 := box_cell (j := 0) hW.2.2.1 rfl
            have pc1 := box_cell (j := 1) hW.2.2.1 rfl
            have pc2 := box_cell (j := 2) hW.2.2.1 rfl
            have pc3 := box_cell (j := 3) hW.2.2.1 rfl
            refine Kept.mk ?_
            simp only [Act.put, List.setIfInBounds_toArray, List.set_cons_zero, List.set_cons_succ]
            go_simp
            refine hK.out _ _ ?_
            exact ⟨(.agg #[.slice p0A0 p0n0 p0c0, .int .i64 x0.fMus, .slice p0A2 p0n2 p0c2, .slice p0A3 p0n3 p0c3]), sl100, sl101, sl102, sl103, sl104, sl98, sl105, sl106, sl17, sl18, by simp only [Act.put, List.setIfInBounds_toArray, List.set_cons_zero, List.set_cons_succ], hB, .inl ⟨fun h => h.elim hn (by decide), fun h => h.elim b11 (by decide), fun _ => rfl, fun h => f1 (h.resolve_right (by decide)), fun h => f2 (h.resolve_right (by decide)), fun h => f3 (h.resolve_right (by decide)), fun h => f4 (h.resolve_right (by decide)), fun h => f5 (h.resolve_right (by decide)), fun h => f6 (h.resolve_right (by decide)), fun h => f7 (h.resolve_right (by decide)), fun h => f8 (h.resolve_right (by decide)), fun h => f9 (h.resolve_right (by decide)), fL⟩⟩
          · obtain ⟨-, hu, -⟩ := hI
            exact absurd (hu.1) hN
        refine InvFrom.cons (fun L a W hI hN hD K hK => ?_) ?_
        · obtain ⟨sl99, sl100, sl101, sl102, sl103, sl104, sl98, sl105, sl106, sl17, sl18, ha, hB, hI⟩ := hI
          subst ha
          have hz := hB.size
          rcases hI with hI | hI
          · skip
            obtain ⟨hn, b11, f0, f1, f2, f3, f4, f5, f6, f7, f8, f9, fL⟩ := hI
            have d0 := f0 (hD 0 (by kernel_rfl))
            subst d0
            have hW := (HKE.out W (HE.out.trans (hB.mono (by omega))))
            refine kept_c1 rfl 9 _ _ rfl (fenters_of' Tryz.func9 (by kernel_rfl) (by kernel_rfl)) (.agg #[.slice p0A0 p0n0 p0c0, .int .i64 x0.fMus, .slice p0A2 p0n2 p0c2, .slice p0A3 p0n3 p0c3]) (by kernel_rfl) (toProg_any hW.2.1 (by omega) hle0) ?_
            rintro e W1 ⟨u1, rfl, own1, hb1⟩
            refine ⟨_, rfl, hK.out _ _ ?_⟩
            exact ⟨(.agg #[.slice p0A0 p0n0 p0c0, .int .i64 x0.fMus, .slice p0A2 p0n2 p0c2, .slice p0A3 p0n3 p0c3]), (.agg u1.toArray), sl101, sl102, sl103, sl104, sl98, sl105, sl106, sl17, sl18, by simp only [Act.put, List.setIfInBounds_toArray, List.set_cons_zero, List.set_cons_succ], hB.trans (hb1.mono hz), .inl ⟨fun h => h.elim hn (by decide), fun h => h.elim b11 (by decide), fun h => f0 (h.resolve_right (by decide)), fun _ => ⟨_, rfl, layProg.seen (hi := W1.heap.size) own1 (fun g hg => hg.2)⟩, fun h => f2 (h.resolve_right (by decide)), fun h => (f3 (h.resolve_right (by decide))).up hb1, fun h => f4 (h.resolve_right (by decide)), fun h => (f5 (h.resolve_right (by decide))).up hb1, fun h => (f6 (h.resolve_right (by decide))).up hb1, fun h => (f7 (h.resolve_right (by decide))).up hb1, fun h => f8 (h.resolve_right (by decide)), fun h => (f9 (h.resolve_right (by decide))).up hb1, fL.up hb1⟩⟩
          · obtain ⟨-, hu, -⟩ := hI
            exact absurd (hu.2.1) hN
        refine InvFrom.cons (fun L a W hI hN hD K hK => ?_) ?_
        · obtain ⟨sl99, sl100, sl101, sl102, sl103, sl104, sl98, sl105, sl106, sl17, sl18, ha, hB, hI⟩ := hI
          subst ha
          have hz := hB.size
          rcases hI with hI | hI
          · skip
            obtain ⟨hn, b11, f0, f1, f2, f3, f4, f5, f6, f7, f8, f9, fL⟩ := hI
            have hW := (HKE.out W (HE.out.trans (hB.mono (by omega))))
            have pc0 := box_cell (j := 0) hW.2.2.2.2.1 rfl
            have pc1 := box_cell (j := 1) hW.2.2.2.2.1 rfl
            have pc2 := box_cell (j := 2) hW.2.2.2.2.1 rfl
            have pc3 := box_cell (j := 3) hW.2.2.2.2.1 rfl
            have pc4 := box_cell (j := 4) hW.2.2.2.2.1 rfl
            refine Kept.mk ?_
            simp only [Act.put, List.setIfInBounds_toArray, List.set_cons_zero, List.set_cons_succ]
            go_simp
            refine hK.out _ _ ?_
            exact ⟨sl99, sl100, (.agg #[.int .i64 x1.fProc, .int .i64 x1.fPc, .slice p1A2 p1n2 p1c2, .int .i64 x1.fState, .slice p1A4 p1n4 p1c4]), sl102, sl103, sl104, sl98, sl105, sl106, sl17, sl18, by simp only [Act.put, List.setIfInBounds_toArray, List.set_cons_zero, List.set_cons_succ], hB, .inl ⟨fun h => h.elim hn (by decide), fun h => h.elim b11 (by decide), fun h => f0 (h.resolve_right (by decide)), fun h => f1 (h.resolve_right (by decide)), fun _ => rfl, fun h => f3 (h.resolve_right (by decide)), fun h => f4 (h.resolve_right (by decide)), fun h => f5 (h.resolve_right (by decide)), fun h => f6 (h.resolve_right (by decide)), fun h => f7 (h.resolve_right (by decide)), fun h => f8 (h.resolve_right (by decide)), fun h => f9 (h.resolve_right (by decide)), fL⟩⟩
          · obtain ⟨-, hu, -⟩ := hI
            exact absurd (hu.2.2.1) hN
        refine InvFrom.cons (fun L a W hI hN hD K hK => ?_) ?_
        · obtain ⟨sl99, sl100, sl101, sl102, sl103, sl104, sl98, sl105, sl106, sl17, sl18, ha, hB, hI⟩ := hI
          subst ha
          have hz := hB.size
          rcases hI with hI | hI
          · skip
            obtain ⟨hn, b11, f0, f1, f2, f3, f4, f5, f6, f7, f8, f9, fL⟩ := hI
            have d1 := f1 (hD 1 (by kernel_rfl))
            obtain ⟨uy0, rfl, sy0⟩ := d1
            have d2 := f2 (hD 2 (by kernel_rfl))
            subst d2
            have hW := (HKE.out W (HE.out.trans (hB.mono (by omega))))
            refine kept_c1 rfl 10 _ _ rfl (fenters_of' Tryz.func10 (by kernel_rfl) (by kernel_rfl)) (.agg #[.int .i64 x1.fProc, .int .i64 x1.fPc, .slice p1A2 p1n2 p1c2, .int .i64 x1.fState, .slice p1A4 p1n4 p1c4]) (by kernel_rfl) (toGor_any hW.2.2.2.1 (by omega) hle1) ?_
            rintro e W1 ⟨u1, rfl, own1, hb1⟩
            refine ⟨_, rfl, hK.out _ _ ?_⟩
            exact ⟨sl99, (.agg uy0.toArray), (.agg #[.int .i64 x1.fProc, .int .i64 x1.fPc, .slice p1A2 p1n2 p1c2, .int .i64 x1.fState, .slice p1A4 p1n4 p1c4]), (.agg u1.toArray), sl103, sl104, sl98, sl105, sl106, sl17, sl18, by simp only [Act.put, List.setIfInBounds_toArray, List.set_cons_zero, List.set_cons_succ], hB.trans (hb1.mono hz), .inl ⟨fun h => h.elim hn (by decide), fun h => h.elim b11 (by decide), fun h => f0 (h.resolve_right (by decide)), fun h => (f1 (h.resolve_right (by decide))).up hb1, fun h => f2 (h.resolve_right (by decide)), fun _ => ⟨_, rfl, layGor.seen (hi := W1.heap.size) own1 (fun g hg => hg.2)⟩, fun h => f4 (h.resolve_right (by decide)), fun h => (f5 (h.resolve_right (by decide))).up hb1, fun h => (f6 (h.resolve_right (by decide))).up hb1, fun h => (f7 (h.resolve_right (by decide))).up hb1, fun h => f8 (h.resolve_right (by decide)), fun h => (f9 (h.resolve_right (by decide))).up hb1, fL.up hb1⟩⟩
          · obtain ⟨-, hu, -⟩ := hI
            exact absurd (hu.2.2.2.1) hN
        refine InvFrom.cons (fun L a W hI hN hD K hK => ?_) ?_
        · obtain ⟨sl99, sl100, sl101, sl102, sl103, sl104, sl98, sl105, sl106, sl17, sl18, ha, hB, hI⟩ := hI
          subst ha
          have hz := hB.size
          rcases hI with hI | hI
          · skip
            obtain ⟨hn, b11, f0, f1, f2, f3, f4, f5, f6, f7, f8, f9, fL⟩ := hI
            refine Kept.mk ?_
            simp only [Act.put, List.setIfInBounds_toArray, List.set_cons_zero, List.set_cons_succ]
            go_simp
            refine hK.out _ _ ?_
            exact ⟨sl99, sl100, sl101, sl102, (.int .i64 a2), sl104, sl98, sl105, sl106, sl17, sl18, by simp only [Act.put, List.setIfInBounds_toArray, List.set_cons_zero, List.set_cons_succ], hB, .inl ⟨fun h => h.elim hn (by decide), fun h => h.elim b11 (by decide), fun h => f0 (h.resolve_right (by decide)), fun h => f1 (h.resolve_right (by decide)), fun h => f2 (h.resolve_right (by decide)), fun h => f3 (h.resolve_right (by decide)), fun _ => rfl, fun h => f5 (h.resolve_right (by decide)), fun h => f6 (h.resolve_right (by decide)), fun h => f7 (h.resolve_right (by decide)), fun h => f8 (h.resolve_right (by decide)), fun h => f9 (h.resolve_right (by decide)), fL⟩⟩
          · obtain ⟨-, hu, -⟩ := hI
            exact absurd (hu.2.2.2.2.1) hN
        refine InvFrom.cons (fun L a W hI hN hD K hK => ?_) ?_
        · obtain ⟨sl99, sl100, sl101, sl102, sl103, sl104, sl98, sl105, sl106, sl17, sl18, ha, hB, hI⟩ := hI
          subst ha
          have hz := hB.size
          rcases hI with hI | hI
          · skip
            obtain ⟨hn, b11, f0, f1, f2, f3, f4, f5, f6, f7, f8, f9, fL⟩ := hI
            have d1 := f1 (hD 1 (by kernel_rfl))
            obtain ⟨uy0, rfl, sy0⟩ := d1
            have d3 := f3 (hD 3 (by kernel_rfl))
            obtain ⟨uy1, rfl, sy1⟩ := d3
            have d4 := f4 (hD 4 (by kernel_rfl))
            subst d4
            have hW := (HKE.out W (HE.out.trans (hB.mono (by omega))))
            refine kept_c3 rfl 18 _ _ _ _ rfl (fenters_of' Tryz.func18 (by kernel_rfl) (by kernel_rfl)) (.agg uy0.toArray) (.agg uy1.toArray) (.int .i64 a2) (by kernel_rfl) (by kernel_rfl) (by kernel_rfl) (HIM.out W W.heap.size _ sy0 _ sy1 (Nat.le_refl _) hW.1.2) ?_
            rintro e W1 ⟨u9, F9, rfl, own9, hF9, hb9⟩
            refine ⟨_, rfl, hK.out _ _ ?_⟩
            exact ⟨sl99, (.agg uy0.toArray), sl101, (.agg uy1.toArray), (.int .i64 a2), (.tuple #[.agg u9.toArray, (.int .i64 r2)]), sl98, sl105, sl106, sl17, sl18, by simp only [Act.put, List.setIfInBounds_toArray, List.set_cons_zero, List.set_cons_succ], hB.trans (hb9.mono hz), .inl ⟨fun h => h.elim hn (by decide), fun h => h.elim b11 (by decide), fun h => f0 (h.resolve_right (by decide)), fun h => (f1 (h.resolve_right (by decide))).up hb9, fun h => f2 (h.resolve_right (by decide)), fun h => (f3 (h.resolve_right (by decide))).up hb9, fun h => f4 (h.resolve_right (by decide)), fun _ => OwnTup.of_made fL hz own9 hF9, fun h => (f6 (h.resolve_right (by decide))).up hb9, fun h => (f7 (h.resolve_right (by decide))).up hb9, fun h => f8 (h.resolve_right (by decide)), fun h => (f9 (h.resolve_right (by decide))).up hb9, fL.up hb9⟩⟩
          · obtain ⟨-, hu, -⟩ := hI
            exact absurd (hu.2.2.2.2.2.1) hN
        refine InvFrom.cons (fun L a W hI hN hD K hK => ?_) ?_
        · obtain ⟨sl99, sl100, sl101, sl102, sl103, sl104, sl98, sl105, sl106, sl17, sl18, ha, hB, hI⟩ := hI
          subst ha
          have hz := hB.size
          rcases hI with hI | hI
          · skip
            obtain ⟨hn, b11, f0, f1, f2, f3, f4, f5, f6, f7, f8, f9, fL⟩ := hI
            have d5 := f5 (hD 5 (by kernel_rfl))
            obtain ⟨_, rfl, u9, F9, rfl, own9, hF9, hnF⟩ := d5
            refine Kept.mk ?_
            simp only [Act.put, List.setIfInBounds_toArray, List.set_cons_zero, List.set_cons_succ]
            go_simp
            refine hK.out _ _ ?_
            exact ⟨sl99, sl100, sl101, sl102, sl103, (.tuple #[.agg u9.toArray, (.int .i64 r2)]), (.tuple #[.agg u9.toArray, (.int .i64 r2)]), sl105, sl106, sl17, sl18, by simp only [Act.put, List.setIfInBounds_toArray, List.set_cons_zero, List.set_cons_succ], hB, .inl ⟨fun h => h.elim hn (by decide), fun h => h.elim b11 (by decide), fun h => f0 (h.resolve_right (by decide)), fun h => f1 (h.resolve_right (by decide)), fun h => f2 (h.resolve_right (by decide)), fun h => f3 (h.resolve_right (by decide)), fun h => f4 (h.resolve_right (by decide)), fun h => f5 (h.resolve_right (by decide)), fun _ => ⟨_, rfl, u9, F9, rfl, own9, hF9, hnF⟩, fun h => f7 (h.resolve_right (by decide)), fun h => f8 (h.resolve_right (by decide)), fun h => f9 (h.resolve_right (by decide)), fL⟩⟩
          · obtain ⟨-, hu, -⟩ := hI
            exact absurd (hu.2.2.2.2.2.2.1) hN
        refine InvFrom.cons (fun L a W hI hN hD K hK => ?_) ?_
        · obtain ⟨sl99, sl100, sl101, sl102, sl103, sl104, sl98, sl105, sl106, sl17, sl18, ha, hB, hI⟩ := hI
          subst ha
          have hz := hB.size
          rcases hI with hI | hI
          · skip
            obtain ⟨hn, b11, f0, f1, f2, f3, f4, f5, f6, f7, f8, f9, fL⟩ := hI
            have d6 := f6 (hD 6 (by kernel_rfl))
            obtain ⟨_, rfl, u9, F9, rfl, own9, hF9, hnF⟩ := d6
            refine Kept.mk ?_
            simp only [Act.put, List.setIfInBounds_toArray, List.set_cons_zero, List.set_cons_succ]
            go_simp
            refine hK.out _ _ ?_
            exact ⟨sl99, sl100, sl101, sl102, sl103, sl104, (.tuple #[.agg u9.toArray, (.int .i64 r2)]), (.agg u9.toArray), sl106, sl17, sl18, by simp only [Act.put, List.setIfInBounds_toArray, List.set_cons_zero, List.set_cons_succ], hB, .inl ⟨fun h => h.elim hn (by decide), fun h => h.elim b11 (by decide), fun h => f0 (h.resolve_right (by decide)), fun h => f1 (h.resolve_right (by decide)), fun h => f2 (h.resolve_right (by decide)), fun h => f3 (h.resolve_right (by decide)), fun h => f4 (h.resolve_right (by decide)), fun h => f5 (h.resolve_right (by decide)), fun h => f6 (h.resolve_right (by decide)), fun _ => ⟨u9, F9, rfl, own9, hF9, hnF⟩, fun h => f8 (h.resolve_right (by decide)), fun h => f9 (h.resolve_right (by decide)), fL⟩⟩
          · obtain ⟨-, hu, -⟩ := hI
            exact absurd (hu.2.2.2.2.2.2.2.1) hN
        refine InvFrom.cons (fun L a W hI hN hD K hK => ?_) ?_
        · obtain ⟨sl99, sl100, sl101, sl102, sl103, sl104, sl98, sl105, sl106, sl17, sl18, ha, hB, hI⟩ := hI
          subst ha
          have hz := hB.size
          rcases hI with hI | hI
          · skip
            obtain ⟨hn, b11, f0, f1, f2, f3, f4, f5, f6, f7, f8, f9, fL⟩ := hI
            have d6 := f6 (hD 6 (by kernel_rfl))
            obtain ⟨_, rfl, u9, F9, rfl, own9, hF9, hnF⟩ := d6
            refine Kept.mk ?_
            simp only [Act.put, List.setIfInBounds_toArray, List.set_cons_zero, List.set_cons_succ]
            go_simp
            refine hK.out _ _ ?_
            exact ⟨sl99, sl100, sl101, sl102, sl103, sl104, (.tuple #[.agg u9.toArray, (.int .i64 r2)]), sl105, (.int .i64 r2), sl17, sl18, by simp only [Act.put, List.setIfInBounds_toArray, List.set_cons_zero, List.set_cons_succ], hB, .inl ⟨fun h => h.elim hn (by decide), fun h => h.elim b11 (by decide), fun h => f0 (h.resolve_right (by decide)), fun h => f1 (h.resolve_right (by decide)), fun h => f2 (h.resolve_right (by decide)), fun h => f3 (h.resolve_right (by decide)), fun h => f4 (h.resolve_right (by decide)), fun h => f5 (h.resolve_right (by decide)), fun h => f6 (h.resolve_right (by decide)), fun h => f7 (h.resolve_right (by decide)), fun _ => rfl, fun h => f9 (h.resolve_right (by decide)), fL⟩⟩
          · skip
            obtain ⟨hs, hu, hfi, g8, g11, k6⟩ := hI
            obtain ⟨u6, rfl⟩ := k6
            refine Kept.mk ?_
            simp only [Act.put, List.setIfInBounds_toArray, List.set_cons_zero, List.set_cons_succ]
            go_simp
            refine hK.out _ _ ?_
            exact ⟨sl99, sl100, sl101, sl102, sl103, sl104, (.tuple #[u6, (.int .i64 r2)]), sl105, (.int .i64 r2), sl17, sl18, by simp only [Act.put, List.setIfInBounds_toArray, List.set_cons_zero, List.set_cons_succ], hB, .inr ⟨.inl hs, ⟨.inl (hu.1), .inl (hu.2.1), .inl (hu.2.2.1), .inl (hu.2.2.2.1), .inl (hu.2.2.2.2.1), .inl (hu.2.2.2.2.2.1), .inl (hu.2.2.2.2.2.2.1), .inl (hu.2.2.2.2.2.2.2.1), .inl (hu.2.2.2.2.2.2.2.2)⟩, hfi, fun _ => rfl, fun h => g11 (h.resolve_right (by decide)), ⟨_, rfl⟩⟩⟩
        refine InvFrom.cons (fun L a W hI hN hD K hK => ?_) ?_
        · obtain ⟨sl99, sl100, sl101, sl102, sl103, sl104, sl98, sl105, sl106, sl17, sl18, ha, hB, hI⟩ := hI
          subst ha
          have hz := hB.size
          rcases hI with hI | hI
          · skip
            obtain ⟨hn, b11, f0, f1, f2, f3, f4, f5, f6, f7, f8, f9, fL⟩ := hI
            refine Kept.mk ?_
            simp only [Act.put, List.setIfInBounds_toArray, List.set_cons_zero, List.set_cons_succ]
            go_simp
            refine hK.out _ _ ?_
            have hb1 : Below W.heap.size W (W.alloc (.cells #[.int .i64 0, .int .i64 0, .slice none 0 0, .int .i64 0, .slice none 0 0] 34)) := (Below.refl _ _).alloc (Nat.le_refl _) _
            exact ⟨sl99, sl100, sl101, sl102, sl103, sl104, sl98, sl105, sl106, (.pointer (some ⟨W.heap.size, 0, none⟩)), sl18, by simp only [Act.put, List.setIfInBounds_toArray, List.set_cons_zero, List.set_cons_succ], hB.trans (hb1.mono hz), .inl ⟨fun h => h.elim hn (by decide), fun h => h.elim b11 (by decide), fun h => f0 (h.resolve_right (by decide)), fun h => (f1 (h.resolve_right (by decide))).up hb1, fun h => f2 (h.resolve_right (by decide)), fun h => (f3 (h.resolve_right (by decide))).up hb1, fun h => f4 (h.resolve_right (by decide)), fun h => (f5 (h.resolve_right (by decide))).boxed hb1, fun h => (f6 (h.resolve_right (by decide))).boxed hb1, fun h => (f7 (h.resolve_right (by decide))).boxed hb1, fun h => f8 (h.resolve_right (by decide)), fun _ => BoxAt.new hz, BoxLt.new⟩⟩
          · obtain ⟨-, hu, -⟩ := hI
            exact absurd (hu.2.2.2.2.2.2.2.2) hN
        refine InvFrom.cons (fun L a W hI hN hD K hK => ?_) ?_
        · obtain ⟨sl99, sl100, sl101, sl102, sl103, sl104, sl98, sl105, sl106, sl17, sl18, ha, hB, hI⟩ := hI
          subst ha
          have hz := hB.size
          rcases hI with hI | hI
          · skip
            obtain ⟨hn, b11, f0, f1, f2, f3, f4, f5, f6, f7, f8, f9, fL⟩ := hI
            have d7 := f7 (hD 7 (by kernel_rfl))
            obtain ⟨u9, F9, rfl, own9, hF9, hnF⟩ := d7; have see9 := layGor.seen (hi := W.heap.size) own9 (fun g hg => (hF9 g hg).2); obtain ⟨zA2, zn2, zc2, zA4, zn4, zc4, rfl, -⟩ := seeGor see9
            have d9 := f9 (hD 9 (by kernel_rfl))
            obtain ⟨b5, rfl, hb51, hb52, hbz⟩ := d9
            have d6 := f6 (hD 6 (by kernel_rfl))
            obtain ⟨u6, rfl, -⟩ := d6
            have zcc0 := box_cell (j := 0) hbz rfl
            have zcc1 := box_cell (j := 1) hbz rfl
            have zcc2 := box_cell (j := 2) hbz rfl
            have zcc3 := box_cell (j := 3) hbz rfl
            have zcc4 := box_cell (j := 4) hbz rfl
            have zdd0 := box_free hbz 0
            have zdd1 := box_free hbz 1
            have zdd2 := box_free hbz 2
            have zdd3 := box_free hbz 3
            have zdd4 := box_free hbz 4
            refine Kept.mk ?_
            simp only [Act.put, List.setIfInBounds_toArray, List.set_cons_zero, List.set_cons_succ]
            go_simp
            have hpw : putCells W b5 0 [.int .i64 r.fProc, .int .i64 r.fPc, .slice zA2 zn2 zc2, .int .i64 r.fState, .slice zA4 zn4 zc4] = (((((W.setCell ⟨b5, 0, none⟩ (.int .i64 r.fProc)).setCell ⟨b5, 1, none⟩ (.int .i64 r.fPc)).setCell ⟨b5, 2, none⟩ (.slice zA2 zn2 zc2)).setCell ⟨b5, 3, none⟩ (.int .i64 r.fState)).setCell ⟨b5, 4, none⟩ (.slice zA4 zn4 zc4)) := rfl
            have hA9 := Ans.mkPut (L := layGor) (t := 34) (lo := v86.heap.size) (Z := [.int .i64 0, .int .i64 0, .slice none 0 0, .int .i64 0, .slice none 0 0]) (vs := [.int .i64 r.fProc, .int .i64 r.fPc, .slice zA2 zn2 zc2, .int .i64 r.fState, .slice zA4 zn4 zc4]) hbz rfl own9 (fun k hk => ⟨(hF9 k hk).1, (hF9 k hk).2, fun he => hnF _ rfl (he ▸ hk)⟩) hb51
            have hB9 : Below v86.heap.size v86 (putCells W b5 0 [.int .i64 r.fProc, .int .i64 r.fPc, .slice zA2 zn2 zc2, .int .i64 r.fState, .slice zA4 zn4 zc4]) := putCells_below _ _ _ _ hB hb51
            rw [← hpw]
            clear hpw
            generalize putCells W b5 0 [.int .i64 r.fProc, .int .i64 r.fPc, .slice zA2 zn2 zc2, .int .i64 r.fState, .slice zA4 zn4 zc4] = W9 at hA9 hB9 ⊢
            refine hK.out _ _ ?_
            exact ⟨sl99, sl100, sl101, sl102, sl103, sl104, (.tuple #[u6, (.int .i64 r2)]), (.agg #[.int .i64 r.fProc, .int .i64 r.fPc, .slice zA2 zn2 zc2, .int .i64 r.fState, .slice zA4 zn4 zc4]), sl106, (.pointer (some ⟨b5, 0, none⟩)), sl18, by simp only [Act.put, List.setIfInBounds_toArray, List.set_cons_zero, List.set_cons_succ], hB9, .inr ⟨.inr rfl, ⟨.inl (hD 0 (by kernel_rfl)), .inl (hD 1 (by kernel_rfl)), .inl (hD 2 (by kernel_rfl)), .inl (hD 3 (by kernel_rfl)), .inl (hD 4 (by kernel_rfl)), .inl (hD 5 (by kernel_rfl)), .inl (hD 6 (by kernel_rfl)), .inl (hD 7 (by kernel_rfl)), .inl (hD 9 (by kernel_rfl))⟩, ⟨b5, rfl, hA9⟩, fun h => f8 (h.resolve_right (by decide)), fun h => absurd (h.resolve_right (by decide)) b11, ⟨_, rfl⟩⟩⟩
          · exact absurd hI.1 hN
        refine InvFrom.cons (fun L a W hI hN hD K hK => ?_) ?_
        · obtain ⟨sl99, sl100, sl101, sl102, sl103, sl104, sl98, sl105, sl106, sl17, sl18, ha, hB, hI⟩ := hI
          subst ha
          have hz := hB.size
          rcases hI with hI | hI
          · exact absurd (hD 10 (by kernel_rfl)) hI.1
          · skip
            obtain ⟨hs, hu, hfi, g8, g11, k6⟩ := hI
            obtain ⟨u6, rfl⟩ := k6
            have d8 := g8 (hD 8 (by kernel_rfl))
            subst d8
            refine Kept.mk ?_
            simp only [Act.put, List.setIfInBounds_toArray, List.set_cons_zero, List.set_cons_succ]
            go_simp
            refine hK.out _ _ ?_
            exact ⟨sl99, sl100, sl101, sl102, sl103, sl104, (.tuple #[u6, (.int .i64 r2)]), sl105, (.int .i64 r2), sl17, (.int .i64 r2), by simp only [Act.put, List.setIfInBounds_toArray, List.set_cons_zero, List.set_cons_succ], hB, .inr ⟨.inl hs, ⟨.inl (hu.1), .inl (hu.2.1), .inl (hu.2.2.1), .inl (hu.2.2.2.1), .inl (hu.2.2.2.2.1), .inl (hu.2.2.2.2.2.1), .inl (hu.2.2.2.2.2.2.1), .inl (hu.2.2.2.2.2.2.2.1), .inl (hu.2.2.2.2.2.2.2.2)⟩, hfi, fun h => g8 (h.resolve_right (by decide)), fun _ => rfl, ⟨_, rfl⟩⟩⟩
        exact InvFrom.nil
      intro L a v93 hL hI
      obtain ⟨sl99, sl100, sl101, sl102, sl103, sl104, sl98, sl105, sl106, sl17, sl18, ha, hbv93, hI⟩ := hI
      subst ha
      have hI := hI.resolve_left (fun h => h.1 (hL 10 (by decide)))
      obtain ⟨-, -, hfin, g8, g11, k6⟩ := hI
      have hl8 := g8 (hL 8 (by decide))
      have hl11 := g11 (hL 11 (by decide))
      obtain ⟨gH, hsl, han⟩ := hfin
      subst hsl
      subst hl11
      clear hL
      refine Kept.mk ?_
      simp only [Act.put, List.setIfInBounds_toArray, List.set_cons_zero, List.set_cons_succ]
      replace HE := Lib.hid (HE.out.trans (hbv93.mono (by omega)))
      replace HAS := Lib.hid (HAS.out.below hbv93 (by omega))
      replace HAX0 := Lib.hid (HAX0.out.below hbv93 (by omega))
      replace HAX1 := Lib.hid (HAX1.out.below hbv93 (by omega))
      replace HAG := Lib.hid (HAG.out.below hbv93 (by omega))
      have hz94 := hbv93.size
      have HAH := Lib.hid han
      clear han hbv93
      have lt95 := HAS.out.lt
      have lt96 := HAX0.out.lt
      have lt97 := HAX1.out.lt
      have lt98 := HAG.out.lt
      have lt99 := HAH.out.lt
      obtain ⟨o13l1, o13l2, o13l3, o13v, o13F, o13b, o13w, o13f⟩ := HAH.out
      have o13s := layGor.seen (hi := v93.heap.size) o13w fun g hg => by have := o13f g hg; omega
      obtain ⟨o13A2, o13n2, o13c2, o13A4, o13n4, o13c4, rfl, -⟩ := seeGor o13s
      have o13p0 := box_cell (j := 0) o13b rfl
      have o13p1 := box_cell (j := 1) o13b rfl
      have o13p2 := box_cell (j := 2) o13b rfl
      have o13p3 := box_cell (j := 3) o13b rfl
      have o13p4 := box_cell (j := 4) o13b rfl
      obtain ⟨o14l1, o14l2, o14l3, o14v, o14F, o14b, o14w, o14f⟩ := HAS.out
      have o14s := layGor.seen (hi := v93.heap.size) o14w fun g hg => by have := o14f g hg; omega
      obtain ⟨o14A2, o14n2, o14c2, o14A4, o14n4, o14c4, rfl, -⟩ := seeGor o14s
      have o14p0 := box_cell (j := 0) o14b rfl
      have o14p1 := box_cell (j := 1) o14b rfl
      have o14p2 := box_cell (j := 2) o14b rfl
      have o14p3 := box_cell (j := 3) o14b rfl
      have o14p4 := box_cell (j := 4) o14b rfl
      go_wp2_with fail
      refine (eqGor_same o13s o14s (Nat.le_refl _) (Nat.le_refl _) hszR).mono ?_
      rintro e v100 ⟨rfl, hbv100⟩
      clear o13p0 o13p1 o13p2 o13p3 o13p4 o13l1 o13l2 o13l3 o13b o13w o13f o13s o14p0 o14p1 o14p2 o14p3 o14p4 o14l1 o14l2 o14l3 o14b o14w o14f o14s
      replace HE := Lib.hid (HE.out.trans (hbv100.mono (by omega)))
      replace HAS := Lib.hid (HAS.out.below hbv100 (by omega))
      replace HAX0 := Lib.hid (HAX0.out.below hbv100 (by omega))
      replace HAX1 := Lib.hid (HAX1.out.below hbv100 (by omega))
      replace HAG := Lib.hid (HAG.out.below hbv100 (by omega))
      replace HAH := Lib.hid (HAH.out.below hbv100 (by omega))
      have hz101 := hbv100.size
      clear hbv100
      have lt102 := HAS.out.lt
      have lt103 := HAX0.out.lt
      have lt104 := HAX1.out.lt
      have lt105 := HAG.out.lt
      have lt106 := HAH.out.lt
      obtain ⟨o15l1, o15l2, o15l3, o15v, o15F, o15b, o15w, o15f⟩ := HAG.out
      have o15s := layGor.seen (hi := v100.heap.size) o15w fun g hg => by have := o15f g hg; omega
      obtain ⟨o15A2, o15n2, o15c2, o15A4, o15n4, o15c4, rfl, -⟩ := seeGor o15s
      have o15p0 := box_cell (j := 0) o15b rfl
      have o15p1 := box_cell (j := 1) o15b rfl
      have o15p2 := box_cell (j := 2) o15b rfl
      have o15p3 := box_cell (j := 3) o15b rfl
      have o15p4 := box_cell (j := 4) o15b rfl
      have hvc0 := hvcR
      go_wp2_with fail
      refine (heldGor_any (k := 1) o15s (Nat.le_refl _) hszR (by omega) (by omega)).mono ?_
      rintro e v107 ⟨rfl, hbv107⟩
      clear o15p0 o15p1 o15p2 o15p3 o15p4 o15l1 o15l2 o15l3 o15b o15w o15f o15s hvc0
      replace HE := Lib.hid (HE.out.trans (hbv107.mono (by omega)))
      replace HAS := Lib.hid (HAS.out.below hbv107 (by omega))
      replace HAX0 := Lib.hid (HAX0.out.below hbv107 (by omega))
      replace HAX1 := Lib.hid (HAX1.out.below hbv107 (by omega))
      replace HAG := Lib.hid (HAG.out.below hbv107 (by omega))
      replace HAH := Lib.hid (HAH.out.below hbv107 (by omega))
      have hz108 := hbv107.size
      clear hbv107
      go_wp2_with fail
      go_ret
      exact ⟨rfl, ((HKE.out _ (HE.out)).1).2⟩
    · go_wp2_with fail
      go_ret
      exact ⟨rfl, ((HKE.out _ (HE.out)).1).2⟩
  · go_wp2_with fail
    go_ret
    exact ⟨rfl, ((HKE.out _ (HE.out)).1).2⟩

set_option maxRecDepth 100000 in
theorem door_met (os : Os) (args : Array Value) : laidMetH Tryz.prog Rows.fnExactBurnRow.laid ((World.doorLaid Tryz.prog 400 os).forCall (fun _ _ => 0) ⟨#[], args, []⟩).memory :=
  laidMetH_of_parts3 (fuel := 8) (laidMet_of_run' 8 (by kernel_rfl) (by kernel_rfl)) (by kernel_rfl) (by kernel_rfl)

set_option maxRecDepth 100000 in
theorem lifted (os : Os) (started : os.Started) (H : Type) (enc : TypeId × Value → H) :
    ReturnsInHanded {} Tryz.checked os 4 .any (fun w args => (Rows.fnExactBurnSpec.pre enc Tryz.prog Tryz.f4 [] false w args ∧ laidMetH Tryz.prog Rows.fnExactBurnRow.laid w) ∧ sizedMet enc Tryz.prog Tryz.f4 (OpenSpec.ofChange Rows.fnExactBurnSpec) false w args) (Rows.fnExactBurnSpec.post enc Tryz.prog Tryz.f4 false true false false) := by
  refine returnsInHanded_of_change_and (C := Tryz.checked) (X := fun w _ => laidMetH Tryz.prog Rows.fnExactBurnRow.laid w) (fun _ _ _ hh h => h.of_heap hh) own started (by kernel_rfl) Tryz.func4
    (ChangeSpec.witness_shaped (enc := enc) (C := Tryz.checked) (os := os) (X := fun w _ => laidMetH Tryz.prog Rows.fnExactBurnRow.laid w) false (World.doorLaid Tryz.prog 400 os) #[.agg #[.slice none 0 0, .int .i64 0, .slice none 0 0, .slice none 0 0], .agg #[.int .i64 0, .int .i64 0, .slice none 0 0, .int .i64 0, .slice none 0 0], .int .i64 0] 8 rfl (World.shaped_of_RefB (by kernel_rfl) (by kernel_rfl)) (by kernel_rfl) (by kernel_rfl) (by kernel_rfl) (door_met os _)) ?_
  intro W base args ds gs before hval0 hW _ _ hL _
  have hval : ∀ (j : Nat) t v, Tryz.f4.params[j]? = some t → args[j]? = some v → Value.okWide Tryz.prog W .any base t v := hval0
  have hW' := hW
  obtain ⟨p, q, hA0, hV, rfl, hfz, hnd⟩ := hW
  have hA : DataW.TrodAll enc Tryz.prog W 0 (fun _ => true) true Tryz.f4.params.toList args.toList ds p := hA0
  rw [Tryz.params4] at hA hval
  obtain ⟨v0, vs0, d0, ds0, p0, q0, hargs, rfl, rfl, h0, r0⟩ := trodAll_cons hA
  obtain ⟨v1, vs1, d1, ds1, p1, q1, rfl, rfl, rfl, h1, r1⟩ := trodAll_cons r0
  obtain ⟨v2, vs2, d2, ds2, p2, q2, rfl, rfl, rfl, h2, r2⟩ := trodAll_cons r1
  obtain ⟨rfl, rfl, rfl⟩ := trodAll_nil r2
  obtain rfl : args = #[v0, v1, v2] := by cases args; simp_all
  have hV' := hV
  obtain ⟨_, _, _, _, ga, _, _, _, _, _, gb, _, rfl, _⟩ := trodVars_two hV
  obtain ⟨cs0, rfl, _⟩ := okWide_struct Tryz.underlying26 (hval 0 26 v0 rfl rfl)
  obtain ⟨vc0, rfl⟩ : ∃ l : List Value, cs0 = l.toArray := ⟨cs0.toList, by simp⟩
  have k0 := h0
  have lt0 : ∀ x ∈ p0, x.block < W.heap.size := by obtain ⟨m, hm⟩ := k0; exact DataW.trod_lt m _ _ _ hm
  obtain ⟨x0, s0'⟩ := (opensProg).arg h0
  have s0 : layProg.see W W.heap.size x0 vc0 := by simpa [Value.cells] using s0'
  obtain ⟨cs1, rfl, _⟩ := okWide_struct Tryz.underlying29 (hval 1 29 v1 rfl rfl)
  obtain ⟨vc1, rfl⟩ : ∃ l : List Value, cs1 = l.toArray := ⟨cs1.toList, by simp⟩
  have k1 := h1
  have lt1 : ∀ x ∈ p1, x.block < W.heap.size := by obtain ⟨m, hm⟩ := k1; exact DataW.trod_lt m _ _ _ hm
  obtain ⟨x1, s1'⟩ := (opensGor).arg h1
  have s1 : layGor.see W W.heap.size x1 vc1 := by simpa [Value.cells] using s1'
  obtain ⟨a2, rfl, rfl, rfl, w2⟩ := open_int Tryz.underlying3 (hval 2 3 v2 rfl rfl) h2
  clear hA0 hval0
  refine (walk W x0 _ s0 x1 _ s1 a2 w2 (⟨opCells_of (opTab_of_laid hL), itemCells_of (itemTab_of_laid hL.tail)⟩)).mono fun e W' ⟨he, bel⟩ => ?_
  subst he
  exact ⟨_, rfl, _, _, _, [], _, _, hW', trodAll_mk1 (shut_bool Tryz.underlying4 _), (trodAll_cons_mk (Below.trod laidOut (by kernel_rfl) (of_decide_eq_true (by kernel_rfl)) k0 bel lt0) (trodAll_cons_mk (Below.trod laidOut (by kernel_rfl) (of_decide_eq_true (by kernel_rfl)) k1 bel lt1) (trodAll_cons_mk (shut_int Tryz.underlying3 w2) trodAll_mk0))), bel.trodVars laidOut (by kernel_rfl) hV', bel.frame _, fun h => by cases h⟩

theorem over : Rows.fnExactBurnRow.holds Tryz.pinned (OpenSpec.ofChange Rows.fnExactBurnSpec) :=
  OpenClaim.holds_of_wide 4 Tryz.f4 rfl rfl rfl rfl rfl rfl rfl ⟨rfl, rfl, rfl, rfl, rfl⟩ rfl rfl rfl rfl rfl (by kernel_rfl) Tryz.func4 (by kernel_rfl)
    (of_decide_eq_true (by kernel_rfl)) (by unfold Func.isWrapper; first | (rw [if_pos (by decide +kernel)]; kernel_rfl) | (rw [if_neg (by decide +kernel)]; exact ⟨rfl, rfl⟩))
    (fun os started H enc _ => lifted os started H enc)

theorem proved : Rows.FnExactBurnCardSaid :=
  Claim7.holds_tied_plain_at .later [] [.data, .data] true (true, "56c66e7282f158e492f1d8c6262b26001faae9f080e996b78e09f3549f88e190") false
    over (fun _ h => by cases h) (by kernel_rfl) (fun _ h => by cases h) fnExactBurn_row_tie rfl ⟨rfl, rfl⟩ (by kernel_rfl) rfl
    (fun f fn hf hfn => by
      obtain rfl : f = 4 := Option.some.inj ((show Tryz.prog.funcNamed "loop.example/g00679/laws.FnExactBurn" = some 4 by kernel_rfl).symm.trans hf) |>.symm
      obtain rfl : fn = Tryz.f4 := (Option.some.inj (Tryz.func4.symm.trans hfn)).symm
      exact ⟨by kernel_rfl, fun j t ht => by
        rw [Tryz.params4] at ht
        rcases j with _ | j
        · have ht' : t = 26 := by simpa using ht.symm
          subst ht'
          exact (show Tryz.prog.wantsStandIn 26 = false by kernel_rfl)
        rcases j with _ | j
        · have ht' : t = 29 := by simpa using ht.symm
          subst ht'
          exact (show Tryz.prog.wantsStandIn 29 = false by kernel_rfl)
        rcases j with _ | j
        · have ht' : t = 3 := by simpa using ht.symm
          subst ht'
          exact (show Tryz.prog.wantsStandIn 3 = false by kernel_rfl)
        simp at ht
      ⟩)
    (by kernel_rfl)
#print axioms proved
end Go.Proofs.YtapbjnfopniicaaGreatDoor.fnExactBurn
