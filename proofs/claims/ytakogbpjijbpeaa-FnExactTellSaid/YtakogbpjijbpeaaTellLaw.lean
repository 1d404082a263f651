/- Tell: the program answers as the model, whatever it is asked. -/
import Derived.Test.YtakogbpjijbpeaaRows
import Derived.WalkKit
import Derived.Test.YtakogbpjijbpeaaGorLaw
import Derived.Test.YtakogbpjijbpeaaInv
import Derived.Lib.Hide
import Derived.ProofKit
import Derived.OpenShut
import Derived.ShutString
import Derived.ChangeOld
import Derived.Below
namespace Go.Proofs.Ytakogbpjijbpeaa.fnExactTell
open Go.ChangeShapes Go.WideShapes Go.ChangeAt Go.RowKit
open Go.ChangeMaps (open_string shut_string)
set_option linter.unusedVariables false
set_option linter.unusedSimpArgs false

theorem own : ownKnob Try.prog.godebug = none := by kernel_rfl
theorem laidOut : laidOutB Try.prog = true := by kernel_rfl

set_option maxRecDepth 100000 in
set_option maxHeartbeats 20000000 in
theorem walk (w : World) (x0 : DGor) (vs0 : List Value) (s0 : layGor.see w w.heap.size x0 vs0) (x1 : DItem) (vs1 : List Value) (s1 : layItem.see w w.heap.size x1 vs1) :
    Calls Try.prog 6 #[.agg vs0.toArray, .agg vs1.toArray] w fun e w' => e = .returned (.bool true) ∧ Below w.heap.size w w' := by
  obtain ⟨p0A2, p0n2, p0c2, p0A4, p0n4, p0c4, rfl, -⟩ := seeGor s0
  obtain ⟨rfl, hwf1⟩ := s1
  have HV1 := Lib.hid hwf1
  clear hwf1
  have hWE : Below w.heap.size w ((w.alloc (.cells #[.int .i64 x0.fProc, .int .i64 x0.fPc, .slice p0A2 p0n2 p0c2, .int .i64 x0.fState, .slice p0A4 p0n4 p0c4] 32)).alloc (.cells #[.int .i64 x1.fKind, .int .i64 x1.fObj, .int .i64 x1.fVal, .bool x1.fOk] 39)) := (((Below.refl w.heap.size w).alloc (Nat.le_refl _) _).alloc (by simp only [World.size_alloc]; omega) _)
  have hzE : w.heap.size + 2 ≤ ((w.alloc (.cells #[.int .i64 x0.fProc, .int .i64 x0.fPc, .slice p0A2 p0n2 p0c2, .int .i64 x0.fState, .slice p0A4 p0n4 p0c4] 32)).alloc (.cells #[.int .i64 x1.fKind, .int .i64 x1.fObj, .int .i64 x1.fVal, .bool x1.fOk] 39)).heap.size := by simp
  have hbx0 := box_new w #[.int .i64 x0.fProc, .int .i64 x0.fPc, .slice p0A2 p0n2 p0c2, .int .i64 x0.fState, .slice p0A4 p0n4 p0c4] 32
  have hbx0 := box_keep hbx0 ((Below.refl _ _).alloc (Nat.le_refl _) (.cells #[.int .i64 x1.fKind, .int .i64 x1.fObj, .int .i64 x1.fVal, .bool x1.fOk] 39)) (by simp only [World.size_alloc]; omega)
  have hbx1 := box_new (w.alloc (.cells #[.int .i64 x0.fProc, .int .i64 x0.fPc, .slice p0A2 p0n2 p0c2, .int .i64 x0.fState, .slice p0A4 p0n4 p0c4] 32)) #[.int .i64 x1.fKind, .int .i64 x1.fObj, .int .i64 x1.fVal, .bool x1.fOk] 39
  simp only [World.size_alloc, Nat.add_assoc, Nat.reduceAdd] at hbx1
  have HKE := Lib.hid (fun (W : World) (hW : Below (w.heap.size + 2) ((w.alloc (.cells #[.int .i64 x0.fProc, .int .i64 x0.fPc, .slice p0A2 p0n2 p0c2, .int .i64 x0.fState, .slice p0A4 p0n4 p0c4] 32)).alloc (.cells #[.int .i64 x1.fKind, .int .i64 x1.fObj, .int .i64 x1.fVal, .bool x1.fOk] 39)) W) => show (w.heap.size + 2 ≤ W.heap.size ∧ Below w.heap.size w W) ∧ layGor.see W w.heap.size x0 [.int .i64 x0.fProc, .int .i64 x0.fPc, .slice p0A2 p0n2 p0c2, .int .i64 x0.fState, .slice p0A4 p0n4 p0c4] ∧ W.heap[w.heap.size]? = some (.cells #[.int .i64 x0.fProc, .int .i64 x0.fPc, .slice p0A2 p0n2 p0c2, .int .i64 x0.fState, .slice p0A4 p0n4 p0c4] 32 (0, 0)) ∧ W.heap[w.heap.size + 1]? = some (.cells #[.int .i64 x1.fKind, .int .i64 x1.fObj, .int .i64 x1.fVal, .bool x1.fOk] 39 (0, 0)) ∧ True from ⟨⟨Nat.le_trans hzE hW.size, hWE.trans (hW.mono (by omega))⟩, layGor.keep s0 (fun k hk => (hW.block k (by omega)).trans (hWE.block k hk)), box_keep hbx0 hW (by omega), box_keep hbx1 hW (by omega), trivial⟩)
  have HE := Lib.hid (show Below (w.heap.size + 2) ((w.alloc (.cells #[.int .i64 x0.fProc, .int .i64 x0.fPc, .slice p0A2 p0n2 p0c2, .int .i64 x0.fState, .slice p0A4 p0n4 p0c4] 32)).alloc (.cells #[.int .i64 x1.fKind, .int .i64 x1.fObj, .int .i64 x1.fVal, .bool x1.fOk] 39)) ((w.alloc (.cells #[.int .i64 x0.fProc, .int .i64 x0.fPc, .slice p0A2 p0n2 p0c2, .int .i64 x0.fState, .slice p0A4 p0n4 p0c4] 32)).alloc (.cells #[.int .i64 x1.fKind, .int .i64 x1.fObj, .int .i64 x1.fVal, .bool x1.fOk] 39)) from Below.refl _ _)
  clear hWE hzE hbx0 hbx1 s0
  go_enter Try.func6, Try.ntmps6
  have pe1_0 := box_cell (j := 0) ((HKE.out _ (HE.out)).2.2.1) rfl
  have pe1_1 := box_cell (j := 1) ((HKE.out _ (HE.out)).2.2.1) rfl
  have pe1_2 := box_cell (j := 2) ((HKE.out _ (HE.out)).2.2.1) rfl
  have pe1_3 := box_cell (j := 3) ((HKE.out _ (HE.out)).2.2.1) rfl
  have pe1_4 := box_cell (j := 4) ((HKE.out _ (HE.out)).2.2.1) rfl
  have zE2 := ((HKE.out _ (HE.out)).1).1
  go_wp2_with fail
  refine (szGor_any (l := 1048576) ((HKE.out _ (HE.out)).2.1) (by omega) (Nat.le_refl _)).mono ?_
  rintro e v3 ⟨hbv3, hcase⟩
  replace HE := Lib.hid (HE.out.trans (hbv3.mono (by first | omega | (simp only [World.size_alloc]; omega))))
  have hz4 := hbv3.size
  clear hbv3 pe1_0 pe1_1 pe1_2 pe1_3 pe1_4
  rcases hcase with ⟨hq0, rfl⟩ | ⟨hq0, rfl⟩
  · skip
    have hle0 : szGor x0 ≤ 1048576 := by omega
    have hszR : szGor (tellR x0 x1) ≤ 1048580 := tellR_sz hle0
    have hvcR := vcntGor_le hszR
    have hvcX0 := vcntGor_le (Nat.le_trans hle0 (by omega))
    have HSP := Lib.hid (fun (W : World) (hi : Nat) (vs0 : List Value) (h0 : layGor.see W hi x0 vs0) (hhi : hi ≤ W.heap.size) (hW : Below w.heap.size w W) => specTell_law h0 hhi hle0 HV1.out)
    have HIM := Lib.hid (fun (W : World) (hi : Nat) (vs0 : List Value) (h0 : layGor.see W hi x0 vs0) (hhi : hi ≤ W.heap.size) (hW : Below w.heap.size w W) => implTell_law h0 hhi hle0 HV1.out)
    generalize tellR x0 x1 = r at *
    have zE5 := ((HKE.out _ (HE.out)).1).1
    go_upto_region 5 with (fail)
    refine wp_region_inv (fun A0 L a W => ∃ sl18 sl19 sl20 sl21 sl22 sl6 : Value, a = ((((((A0.put (some 18) sl18).put (some 19) sl19).put (some 20) sl20).put (some 21) sl21).put (some 22) sl22).put (some 6) sl6) ∧ Below v3.heap.size v3 W ∧ ((¬ L 6 ∧ (L 0 → sl18 = (.agg #[.int .i64 x0.fProc, .int .i64 x0.fPc, .slice p0A2 p0n2 p0c2, .int .i64 x0.fState, .slice p0A4 p0n4 p0c4])) ∧ (L 1 → SeeAt layGor W x0 sl19) ∧ (L 2 → sl20 = (.agg #[.int .i64 x1.fKind, .int .i64 x1.fObj, .int .i64 x1.fVal, .bool x1.fOk])) ∧ (L 3 → sl21 = (.agg #[.int .i64 x1.fKind, .int .i64 x1.fObj, .int .i64 x1.fVal, .bool x1.fOk])) ∧ (L 4 → OwnAt layGor v3.heap.size W r sl6 sl22) ∧ (L 5 → BoxAt 25 [.int .i64 0, .int .i64 0, .slice none 0 0, .int .i64 0, .slice none 0 0] v3.heap.size W sl6) ∧ BoxLt W sl6) ∨ ((∀ j, j < 7 → L j) ∧ ∃ g, sl6 = .pointer (some ⟨g, 0, none⟩) ∧ Ans layGor 25 v3.heap.size W.heap.size W g r))) (by kernel_rfl) (by kernel_rfl) ?_ ?_ ?_
    · exact ⟨undef, undef, undef, undef, undef, undef, by simp only [Act.put, List.setIfInBounds_toArray, List.set_cons_zero, List.set_cons_succ], Below.drew (Below.refl _ _), .inl ⟨id, fun h => absurd h id, fun h => absurd h id, fun h => absurd h id, fun h => absurd h id, fun h => absurd h id, fun h => absurd h id, BoxLt.undef⟩⟩
    · intro Q9; refine InvFrom.cons (fun L a W hI hN hD K hK => ?_) ?_
      · obtain ⟨sl18, sl19, sl20, sl21, sl22, sl6, ha, hB, hI⟩ := hI
        subst ha
        have hI := hI.resolve_right (fun h => hN (h.1 0 (by decide)))
        obtain ⟨hn, f0, f1, f2, f3, f4, f5, fL⟩ := hI
        have hz := hB.size
        have hW := (HKE.out W (HE.out.trans (hB.mono (by omega))))
        have pc0 := box_cell (j := 0) hW.2.2.1 rfl
        have pc1 := box_cell (j := 1) hW.2.2.1 rfl
        have pc2 := box_cell (j := 2) hW.2.2.1 rfl
        have pc3 := box_cell (j := 3) hW.2.2.1 rfl
        have pc4 := box_cell (j := 4) hW.2.2.1 rfl
        refine Kept.mk ?_
        simp only [Act.put, List.setIfInBounds_toArray, List.set_cons_zero, List.set_cons_succ]
        go_simp
        refine hK.out _ _ ?_
        exact ⟨(.agg #[.int .i64 x0.fProc, .int .i64 x0.fPc, .slice p0A2 p0n2 p0c2, .int .i64 x0.fState, .slice p0A4 p0n4 p0c4]), sl19, sl20, sl21, sl22, sl6, by simp only [Act.put, List.setIfInBounds_toArray, List.set_cons_zero, List.set_cons_succ], hB, .inl ⟨fun h => h.elim hn (by decide), fun _ => rfl, fun h => f1 (h.resolve_right (by decide)), fun h => f2 (h.resolve_right (by decide)), fun h => f3 (h.resolve_right (by decide)), fun h => f4 (h.resolve_right (by decide)), fun h => f5 (h.resolve_right (by decide)), fL⟩⟩
      refine InvFrom.cons (fun L a W hI hN hD K hK => ?_) ?_
      · obtain ⟨sl18, sl19, sl20, sl21, sl22, sl6, ha, hB, hI⟩ := hI
        subst ha
        have hI := hI.resolve_right (fun h => hN (h.1 1 (by decide)))
        obtain ⟨hn, f0, f1, f2, f3, f4, f5, fL⟩ := hI
        have hz := hB.size
        have d0 := f0 (hD 0 (by kernel_rfl))
        subst d0
        have hW := (HKE.out W (HE.out.trans (hB.mono (by omega))))
        refine Kept.mk (step_c1 rfl 15 _ _ rfl (fenters_of' Try.func15 (by kernel_rfl) (by kernel_rfl)) (.agg #[.int .i64 x0.fProc, .int .i64 x0.fPc, .slice p0A2 p0n2 p0c2, .int .i64 x0.fState, .slice p0A4 p0n4 p0c4]) (by simp only [Act.put, List.setIfInBounds_toArray, List.set_cons_zero, List.set_cons_succ]; rfl) (toGor_any hW.2.1 (by omega) hle0) ?_)
        rintro e W1 ⟨u1, rfl, own1, hb1⟩
        refine ⟨_, rfl, hK.out _ _ ?_⟩
        exact ⟨(.agg #[.int .i64 x0.fProc, .int .i64 x0.fPc, .slice p0A2 p0n2 p0c2, .int .i64 x0.fState, .slice p0A4 p0n4 p0c4]), (.agg u1.toArray), sl20, sl21, sl22, sl6, by simp only [Act.put, List.setIfInBounds_toArray, List.set_cons_zero, List.set_cons_succ], hB.trans (hb1.mono hz), .inl ⟨fun h => h.elim hn (by decide), fun h => f0 (h.resolve_right (by decide)), fun _ => ⟨_, rfl, layGor.seen (hi := W1.heap.size) own1 (fun g hg => hg.2)⟩, fun h => f2 (h.resolve_right (by decide)), fun h => f3 (h.resolve_right (by decide)), fun h => (f4 (h.resolve_right (by decide))).up hb1, fun h => (f5 (h.resolve_right (by decide))).up hb1, fL.up hb1⟩⟩
      refine InvFrom.cons (fun L a W hI hN hD K hK => ?_) ?_
      · obtain ⟨sl18, sl19, sl20, sl21, sl22, sl6, ha, hB, hI⟩ := hI
        subst ha
        have hI := hI.resolve_right (fun h => hN (h.1 2 (by decide)))
        obtain ⟨hn, f0, f1, f2, f3, f4, f5, fL⟩ := hI
        have hz := hB.size
        have hW := (HKE.out W (HE.out.trans (hB.mono (by omega))))
        have pc0 := box_cell (j := 0) hW.2.2.2.1 rfl
        have pc1 := box_cell (j := 1) hW.2.2.2.1 rfl
        have pc2 := box_cell (j := 2) hW.2.2.2.1 rfl
        have pc3 := box_cell (j := 3) hW.2.2.2.1 rfl
        refine Kept.mk ?_
        simp only [Act.put, List.setIfInBounds_toArray, List.set_cons_zero, List.set_cons_succ]
        go_simp
        refine hK.out _ _ ?_
        exact ⟨sl18, sl19, (.agg #[.int .i64 x1.fKind, .int .i64 x1.fObj, .int .i64 x1.fVal, .bool x1.fOk]), sl21, sl22, sl6, by simp only [Act.put, List.setIfInBounds_toArray, List.set_cons_zero, List.set_cons_succ], hB, .inl ⟨fun h => h.elim hn (by decide), fun h => f0 (h.resolve_right (by decide)), fun h => f1 (h.resolve_right (by decide)), fun _ => rfl, fun h => f3 (h.resolve_right (by decide)), fun h => f4 (h.resolve_right (by decide)), fun h => f5 (h.resolve_right (by decide)), fL⟩⟩
      refine InvFrom.cons (fun L a W hI hN hD K hK => ?_) ?_
      · obtain ⟨sl18, sl19, sl20, sl21, sl22, sl6, ha, hB, hI⟩ := hI
        subst ha
        have hI := hI.resolve_right (fun h => hN (h.1 3 (by decide)))
        obtain ⟨hn, f0, f1, f2, f3, f4, f5, fL⟩ := hI
        have hz := hB.size
        have d1 := f1 (hD 1 (by kernel_rfl))
        obtain ⟨uy0, rfl, sy0⟩ := d1
        have d2 := f2 (hD 2 (by kernel_rfl))
        subst d2
        refine Kept.mk (step_c1 rfl 20 _ _ rfl (fenters_of' Try.func20 (by kernel_rfl) (by kernel_rfl)) (.agg #[.int .i64 x1.fKind, .int .i64 x1.fObj, .int .i64 x1.fVal, .bool x1.fOk]) (by simp only [Act.put, List.setIfInBounds_toArray, List.set_cons_zero, List.set_cons_succ]; rfl) (toItem_any (hi := 0) (x := x1) ⟨rfl, HV1.out⟩) ?_)
        rintro e W1 ⟨_, rfl, ⟨rfl, -⟩, hb1⟩
        refine ⟨_, rfl, hK.out _ _ ?_⟩
        exact ⟨sl18, (.agg uy0.toArray), (.agg #[.int .i64 x1.fKind, .int .i64 x1.fObj, .int .i64 x1.fVal, .bool x1.fOk]), (.agg #[.int .i64 x1.fKind, .int .i64 x1.fObj, .int .i64 x1.fVal, .bool x1.fOk]), sl22, sl6, by simp only [Act.put, List.setIfInBounds_toArray, List.set_cons_zero, List.set_cons_succ], hB.trans (hb1.mono hz), .inl ⟨fun h => h.elim hn (by decide), fun h => f0 (h.resolve_right (by decide)), fun h => (f1 (h.resolve_right (by decide))).up hb1, fun h => f2 (h.resolve_right (by decide)), fun _ => rfl, fun h => (f4 (h.resolve_right (by decide))).up hb1, fun h => (f5 (h.resolve_right (by decide))).up hb1, fL.up hb1⟩⟩
      refine InvFrom.cons (fun L a W hI hN hD K hK => ?_) ?_
      · obtain ⟨sl18, sl19, sl20, sl21, sl22, sl6, ha, hB, hI⟩ := hI
        subst ha
        have hI := hI.resolve_right (fun h => hN (h.1 4 (by decide)))
        obtain ⟨hn, f0, f1, f2, f3, f4, f5, fL⟩ := hI
        have hz := hB.size
        have d1 := f1 (hD 1 (by kernel_rfl))
        obtain ⟨uy0, rfl, sy0⟩ := d1
        have d3 := f3 (hD 3 (by kernel_rfl))
        subst d3
        have hW := (HKE.out W (HE.out.trans (hB.mono (by omega))))
        refine Kept.mk (step_c2 rfl 19 _ _ _ rfl (fenters_of' Try.func19 (by kernel_rfl) (by kernel_rfl)) (.agg uy0.toArray) (.agg #[.int .i64 x1.fKind, .int .i64 x1.fObj, .int .i64 x1.fVal, .bool x1.fOk]) (by simp only [Act.put, List.setIfInBounds_toArray, List.set_cons_zero, List.set_cons_succ]; rfl) (by simp only [Act.put, List.setIfInBounds_toArray, List.set_cons_zero, List.set_cons_succ]; rfl) (HSP.out W W.heap.size _ sy0 (Nat.le_refl _) hW.1.2) ?_)
        rintro e W1 ⟨u9, F9, rfl, own9, hF9, hb9⟩
        refine ⟨_, rfl, hK.out _ _ ?_⟩
        exact ⟨sl18, (.agg uy0.toArray), sl20, (.agg #[.int .i64 x1.fKind, .int .i64 x1.fObj, .int .i64 x1.fVal, .bool x1.fOk]), (.agg u9.toArray), sl6, by simp only [Act.put, List.setIfInBounds_toArray, List.set_cons_zero, List.set_cons_succ], hB.trans (hb9.mono hz), .inl ⟨fun h => h.elim hn (by decide), fun h => f0 (h.resolve_right (by decide)), fun h => (f1 (h.resolve_right (by decide))).up hb9, fun h => f2 (h.resolve_right (by decide)), fun h => f3 (h.resolve_right (by decide)), fun _ => OwnAt.of_made fL hz own9 hF9, fun h => (f5 (h.resolve_right (by decide))).up hb9, fL.up hb9⟩⟩
      refine InvFrom.cons (fun L a W hI hN hD K hK => ?_) ?_
      · obtain ⟨sl18, sl19, sl20, sl21, sl22, sl6, ha, hB, hI⟩ := hI
        subst ha
        have hI := hI.resolve_right (fun h => hN (h.1 5 (by decide)))
        obtain ⟨hn, f0, f1, f2, f3, f4, f5, fL⟩ := hI
        have hz := hB.size
        refine Kept.mk ?_
        simp only [Act.put, List.setIfInBounds_toArray, List.set_cons_zero, List.set_cons_succ]
        go_simp
        refine hK.out _ _ ?_
        have hb1 : Below W.heap.size W (W.alloc (.cells #[.int .i64 0, .int .i64 0, .slice none 0 0, .int .i64 0, .slice none 0 0] 25)) := (Below.refl _ _).alloc (Nat.le_refl _) _
        exact ⟨sl18, sl19, sl20, sl21, sl22, (.pointer (some ⟨W.heap.size, 0, none⟩)), by simp only [Act.put, List.setIfInBounds_toArray, List.set_cons_zero, List.set_cons_succ], hB.trans (hb1.mono hz), .inl ⟨fun h => h.elim hn (by decide), fun h => f0 (h.resolve_right (by decide)), fun h => (f1 (h.resolve_right (by decide))).up hb1, fun h => f2 (h.resolve_right (by decide)), fun h => f3 (h.resolve_right (by decide)), fun h => (f4 (h.resolve_right (by decide))).boxed hb1, fun _ => BoxAt.new hz, BoxLt.new⟩⟩
      refine InvFrom.cons (fun L a W hI hN hD K hK => ?_) ?_
      · obtain ⟨sl18, sl19, sl20, sl21, sl22, sl6, ha, hB, hI⟩ := hI
        subst ha
        have hI := hI.resolve_right (fun h => hN (h.1 6 (by decide)))
        obtain ⟨hn, f0, f1, f2, f3, f4, f5, fL⟩ := hI
        have hz := hB.size
        have d4 := f4 (hD 4 (by kernel_rfl))
        obtain ⟨u9, F9, rfl, own9, hF9, hnF⟩ := d4; have see9 := layGor.seen (hi := W.heap.size) own9 (fun g hg => (hF9 g hg).2); obtain ⟨zA2, zn2, zc2, zA4, zn4, zc4, rfl, -⟩ := seeGor see9
        have d5 := f5 (hD 5 (by kernel_rfl))
        obtain ⟨b5, rfl, hb51, hb52, hbz⟩ := d5
        have zcc0 := box_cell (j := 0) hbz rfl
        have zcc1 := box_cell (j := 1) hbz rfl
        have zcc2 := box_cell (j := 2) hbz rfl
        have zcc3 := box_cell (j := 3) hbz rfl
        have zcc4 := box_cell (j := 4) hbz rfl
        have zdd0 := box_free hbz 0
        have zdd1 := box_free hbz 1
        have zdd2 := box_free hbz 2
        have zdd3 := box_free hbz 3
        have zdd4 := box_free hbz 4
        refine Kept.mk ?_
        simp only [Act.put, List.setIfInBounds_toArray, List.set_cons_zero, List.set_cons_succ]
        go_simp
        have hall : ∀ j, j < 7 → (L j ∨ j = 6) := by
          intro j hj
          have hj2 : j = 0 ∨ j = 1 ∨ j = 2 ∨ j = 3 ∨ j = 4 ∨ j = 5 ∨ j = 6 := by omega
          rcases hj2 with rfl | rfl | rfl | rfl | rfl | rfl | rfl
          all_goals first | exact .inr rfl | exact .inl (hD _ (by kernel_rfl))
        have hpw : putCells W b5 0 [.int .i64 r.fProc, .int .i64 r.fPc, .slice zA2 zn2 zc2, .int .i64 r.fState, .slice zA4 zn4 zc4] = (((((W.setCell ⟨b5, 0, none⟩ (.int .i64 r.fProc)).setCell ⟨b5, 1, none⟩ (.int .i64 r.fPc)).setCell ⟨b5, 2, none⟩ (.slice zA2 zn2 zc2)).setCell ⟨b5, 3, none⟩ (.int .i64 r.fState)).setCell ⟨b5, 4, none⟩ (.slice zA4 zn4 zc4)) := rfl
        have hA9 := Ans.mkPut (L := layGor) (t := 25) (lo := v3.heap.size) (Z := [.int .i64 0, .int .i64 0, .slice none 0 0, .int .i64 0, .slice none 0 0]) (vs := [.int .i64 r.fProc, .int .i64 r.fPc, .slice zA2 zn2 zc2, .int .i64 r.fState, .slice zA4 zn4 zc4]) hbz rfl own9 (fun k hk => ⟨(hF9 k hk).1, (hF9 k hk).2, fun he => hnF _ rfl (he ▸ hk)⟩) hb51
        have hB9 : Below v3.heap.size v3 (putCells W b5 0 [.int .i64 r.fProc, .int .i64 r.fPc, .slice zA2 zn2 zc2, .int .i64 r.fState, .slice zA4 zn4 zc4]) := putCells_below _ _ _ _ hB hb51
        rw [← hpw]
        clear hpw
        generalize putCells W b5 0 [.int .i64 r.fProc, .int .i64 r.fPc, .slice zA2 zn2 zc2, .int .i64 r.fState, .slice zA4 zn4 zc4] = W9 at hA9 hB9 ⊢
        refine hK.out _ _ ?_
        exact ⟨sl18, sl19, sl20, sl21, (.agg #[.int .i64 r.fProc, .int .i64 r.fPc, .slice zA2 zn2 zc2, .int .i64 r.fState, .slice zA4 zn4 zc4]), (.pointer (some ⟨b5, 0, none⟩)), by simp only [Act.put, List.setIfInBounds_toArray, List.set_cons_zero, List.set_cons_succ], hB9, .inr ⟨hall, b5, rfl, hA9⟩⟩
      exact InvFrom.nil
    intro L a v6 hL hI
    obtain ⟨sl18, sl19, sl20, sl21, sl22, sl6, ha, hbv6, hI⟩ := hI
    subst ha
    have hfin := (hI.resolve_left (fun h => h.1 (hL 6 (by decide)))).2
    obtain ⟨gS, hsl, han⟩ := hfin
    subst hsl
    clear hL hI
    refine Kept.mk ?_
    simp only [Act.put, List.setIfInBounds_toArray, List.set_cons_zero, List.set_cons_succ]
    replace HE := Lib.hid (HE.out.trans (hbv6.mono (by omega)))
    have hz7 := hbv6.size
    have HAS := Lib.hid han
    clear han hbv6
    have pe8_0 := box_cell (j := 0) ((HKE.out _ (HE.out)).2.2.1) rfl
    have pe8_1 := box_cell (j := 1) ((HKE.out _ (HE.out)).2.2.1) rfl
    have pe8_2 := box_cell (j := 2) ((HKE.out _ (HE.out)).2.2.1) rfl
    have pe8_3 := box_cell (j := 3) ((HKE.out _ (HE.out)).2.2.1) rfl
    have pe8_4 := box_cell (j := 4) ((HKE.out _ (HE.out)).2.2.1) rfl
    have zE9 := ((HKE.out _ (HE.out)).1).1
    have lt11 := HAS.out.lt
    go_wp2_with fail
    refine (toGor_any ((HKE.out _ (HE.out)).2.1) (by omega) hle0).mono ?_
    rintro e v10 ⟨uv10, rfl, ownv10, hbv10⟩
    have hz12 := hbv10.size
    have see2 := layGor.seen (hi := v10.heap.size) ownv10 fun g hg => hg.2
    obtain ⟨q0A2, q0n2, q0c2, q0A4, q0n4, q0c4, rfl, -⟩ := seeGor see2
    clear see2 pe8_0 pe8_1 pe8_2 pe8_3 pe8_4
    go_upto_region 7 with (fail)
    have hal : Below v6.heap.size v6 (v10.alloc (.cells #[.int .i64 x0.fProc, .int .i64 x0.fPc, .slice q0A2 q0n2 q0c2, .int .i64 x0.fState, .slice q0A4 q0n4 q0c4] 25)) := hbv10.alloc hbv10.size _
    have han := Ans.mk (t := 25) ownv10 (fun g hg => hg) hbv10.size
    obtain ⟨gX0, hgX0⟩ : ∃ b, b = v10.heap.size := ⟨_, rfl⟩
    have hnm : v10.heap.size = gX0 := hgX0.symm
    replace HE := Lib.hid (HE.out.trans (hal.mono (by omega)))
    replace HAS := Lib.hid (HAS.out.below hal (by omega))
    have hz14 := hal.size
    replace han : Ans layGor 25 v6.heap.size (v10.alloc (.cells #[.int .i64 x0.fProc, .int .i64 x0.fPc, .slice q0A2 q0n2 q0c2, .int .i64 x0.fState, .slice q0A4 q0n4 q0c4] 25)).heap.size (v10.alloc (.cells #[.int .i64 x0.fProc, .int .i64 x0.fPc, .slice q0A2 q0n2 q0c2, .int .i64 x0.fState, .slice q0A4 q0n4 q0c4] 25)) gX0 x0 := by rw [← hnm]; exact han
    have HAX0 := Lib.hid han
    clear han hal ownv10 hbv10
    generalize (v10.alloc (.cells #[.int .i64 x0.fProc, .int .i64 x0.fPc, .slice q0A2 q0n2 q0c2, .int .i64 x0.fState, .slice q0A4 q0n4 q0c4] 25)) = v13 at *
    simp only [hnm]
    clear hnm hgX0
    have lt15 := HAS.out.lt
    have lt16 := HAX0.out.lt
    obtain ⟨o1l1, o1l2, o1l3, o1v, o1F, o1b, o1w, o1f⟩ := HAX0.out
    have o1s := layGor.seen (hi := v13.heap.size) o1w fun g hg => by have := o1f g hg; omega
    obtain ⟨o1A2, o1n2, o1c2, o1A4, o1n4, o1c4, rfl, -⟩ := seeGor o1s
    have o1p0 := box_cell (j := 0) o1b rfl
    have o1p1 := box_cell (j := 1) o1b rfl
    have o1p2 := box_cell (j := 2) o1b rfl
    have o1p3 := box_cell (j := 3) o1b rfl
    have o1p4 := box_cell (j := 4) o1b rfl
    have zE17 := ((HKE.out _ (HE.out)).1).1
    go_upto_region 7 with (fail)
    refine wp_region_inv (fun A0 L a W => ∃ sl25 sl26 sl27 sl28 sl8 : Value, a = (((((A0.put (some 25) sl25).put (some 26) sl26).put (some 27) sl27).put (some 28) sl28).put (some 8) sl8) ∧ Below v13.heap.size v13 W ∧ ((¬ L 5 ∧ (L 0 → sl25 = (.agg #[.int .i64 x0.fProc, .int .i64 x0.fPc, .slice o1A2 o1n2 o1c2, .int .i64 x0.fState, .slice o1A4 o1n4 o1c4])) ∧ (L 1 → sl26 = (.agg #[.int .i64 x1.fKind, .int .i64 x1.fObj, .int .i64 x1.fVal, .bool x1.fOk])) ∧ (L 2 → sl27 = (.agg #[.int .i64 x1.fKind, .int .i64 x1.fObj, .int .i64 x1.fVal, .bool x1.fOk])) ∧ (L 3 → OwnAt layGor v13.heap.size W r sl8 sl28) ∧ (L 4 → BoxAt 25 [.int .i64 0, .int .i64 0, .slice none 0 0, .int .i64 0, .slice none 0 0] v13.heap.size W sl8) ∧ BoxLt W sl8) ∨ ((∀ j, j < 6 → L j) ∧ ∃ g, sl8 = .pointer (some ⟨g, 0, none⟩) ∧ Ans layGor 25 v13.heap.size W.heap.size W g r))) (by kernel_rfl) (by kernel_rfl) ?_ ?_ ?_
    · exact ⟨undef, undef, undef, undef, undef, by simp only [Act.put, List.setIfInBounds_toArray, List.set_cons_zero, List.set_cons_succ], Below.drew (Below.refl _ _), .inl ⟨id, fun h => absurd h id, fun h => absurd h id, fun h => absurd h id, fun h => absurd h id, fun h => absurd h id, BoxLt.undef⟩⟩
    · intro Q9; refine InvFrom.cons (fun L a W hI hN hD K hK => ?_) ?_
      · obtain ⟨sl25, sl26, sl27, sl28, sl8, ha, hB, hI⟩ := hI
        subst ha
        have hI := hI.resolve_right (fun h => hN (h.1 0 (by decide)))
        obtain ⟨hn, f0, f1, f2, f3, f4, fL⟩ := hI
        have hz := hB.size
        have pc0 := box_cell (j := 0) (box_keep o1b hB (by omega)) rfl
        have pc1 := box_cell (j := 1) (box_keep o1b hB (by omega)) rfl
        have pc2 := box_cell (j := 2) (box_keep o1b hB (by omega)) rfl
        have pc3 := box_cell (j := 3) (box_keep o1b hB (by omega)) rfl
        have pc4 := box_cell (j := 4) (box_keep o1b hB (by omega)) rfl
        refine Kept.mk ?_
        simp only [Act.put, List.setIfInBounds_toArray, List.set_cons_zero, List.set_cons_succ]
        go_simp
        refine hK.out _ _ ?_
        exact ⟨(.agg #[.int .i64 x0.fProc, .int .i64 x0.fPc, .slice o1A2 o1n2 o1c2, .int .i64 x0.fState, .slice o1A4 o1n4 o1c4]), sl26, sl27, sl28, sl8, by simp only [Act.put, List.setIfInBounds_toArray, List.set_cons_zero, List.set_cons_succ], hB, .inl ⟨fun h => h.elim hn (by decide), fun _ => rfl, fun h => f1 (h.resolve_right (by decide)), fun h => f2 (h.resolve_right (by decide)), fun h => f3 (h.resolve_right (by decide)), fun h => f4 (h.resolve_right (by decide)), fL⟩⟩
      refine InvFrom.cons (fun L a W hI hN hD K hK => ?_) ?_
      · obtain ⟨sl25, sl26, sl27, sl28, sl8, ha, hB, hI⟩ := hI
        subst ha
        have hI := hI.resolve_right (fun h => hN (h.1 1 (by decide)))
        obtain ⟨hn, f0, f1, f2, f3, f4, fL⟩ := hI
        have hz := hB.size
        have hW := (HKE.out W (HE.out.trans (hB.mono (by omega))))
        have pc0 := box_cell (j := 0) hW.2.2.2.1 rfl
        have pc1 := box_cell (j := 1) hW.2.2.2.1 rfl
        have pc2 := box_cell (j := 2) hW.2.2.2.1 rfl
        have pc3 := box_cell (j := 3) hW.2.2.2.1 rfl
        refine Kept.mk ?_
        simp only [Act.put, List.setIfInBounds_toArray, List.set_cons_zero, List.set_cons_succ]
        go_simp
        refine hK.out _ _ ?_
        exact ⟨sl25, (.agg #[.int .i64 x1.fKind, .int .i64 x1.fObj, .int .i64 x1.fVal, .bool x1.fOk]), sl27, sl28, sl8, by simp only [Act.put, List.setIfInBounds_toArray, List.set_cons_zero, List.set_cons_succ], hB, .inl ⟨fun h => h.elim hn (by decide), fun h => f0 (h.resolve_right (by decide)), fun _ => rfl, fun h => f2 (h.resolve_right (by decide)), fun h => f3 (h.resolve_right (by decide)), fun h => f4 (h.resolve_right (by decide)), fL⟩⟩
      refine InvFrom.cons (fun L a W hI hN hD K hK => ?_) ?_
      · obtain ⟨sl25, sl26, sl27, sl28, sl8, ha, hB, hI⟩ := hI
        subst ha
        have hI := hI.resolve_right (fun h => hN (h.1 2 (by decide)))
        obtain ⟨hn, f0, f1, f2, f3, f4, fL⟩ := hI
        have hz := hB.size
        have d1 := f1 (hD 1 (by kernel_rfl))
        subst d1
        refine Kept.mk (step_c1 rfl 20 _ _ rfl (fenters_of' Try.func20 (by kernel_rfl) (by kernel_rfl)) (.agg #[.int .i64 x1.fKind, .int .i64 x1.fObj, .int .i64 x1.fVal, .bool x1.fOk]) (by simp only [Act.put, List.setIfInBounds_toArray, List.set_cons_zero, List.set_cons_succ]; rfl) (toItem_any (hi := 0) (x := x1) ⟨rfl, HV1.out⟩) ?_)
        rintro e W1 ⟨_, rfl, ⟨rfl, -⟩, hb1⟩
        refine ⟨_, rfl, hK.out _ _ ?_⟩
        exact ⟨sl25, (.agg #[.int .i64 x1.fKind, .int .i64 x1.fObj, .int .i64 x1.fVal, .bool x1.fOk]), (.agg #[.int .i64 x1.fKind, .int .i64 x1.fObj, .int .i64 x1.fVal, .bool x1.fOk]), sl28, sl8, by simp only [Act.put, List.setIfInBounds_toArray, List.set_cons_zero, List.set_cons_succ], hB.trans (hb1.mono hz), .inl ⟨fun h => h.elim hn (by decide), fun h => f0 (h.resolve_right (by decide)), fun h => f1 (h.resolve_right (by decide)), fun _ => rfl, fun h => (f3 (h.resolve_right (by decide))).up hb1, fun h => (f4 (h.resolve_right (by decide))).up hb1, fL.up hb1⟩⟩
      refine InvFrom.cons (fun L a W hI hN hD K hK => ?_) ?_
      · obtain ⟨sl25, sl26, sl27, sl28, sl8, ha, hB, hI⟩ := hI
        subst ha
        have hI := hI.resolve_right (fun h => hN (h.1 3 (by decide)))
        obtain ⟨hn, f0, f1, f2, f3, f4, fL⟩ := hI
        have hz := hB.size
        have d0 := f0 (hD 0 (by kernel_rfl))
        subst d0
        have d2 := f2 (hD 2 (by kernel_rfl))
        subst d2
        have hW := (HKE.out W (HE.out.trans (hB.mono (by omega))))
        refine Kept.mk (step_c2 rfl 21 _ _ _ rfl (fenters_of' Try.func21 (by kernel_rfl) (by kernel_rfl)) (.agg #[.int .i64 x0.fProc, .int .i64 x0.fPc, .slice o1A2 o1n2 o1c2, .int .i64 x0.fState, .slice o1A4 o1n4 o1c4]) (.agg #[.int .i64 x1.fKind, .int .i64 x1.fObj, .int .i64 x1.fVal, .bool x1.fOk]) (by simp only [Act.put, List.setIfInBounds_toArray, List.set_cons_zero, List.set_cons_succ]; rfl) (by simp only [Act.put, List.setIfInBounds_toArray, List.set_cons_zero, List.set_cons_succ]; rfl) (HIM.out W W.heap.size _ (layGor.more (layGor.keep o1s (fun k hk => hB.block k hk)) hz) (Nat.le_refl _) hW.1.2) ?_)
        rintro e W1 ⟨u9, F9, rfl, own9, hF9, hb9⟩
        refine ⟨_, rfl, hK.out _ _ ?_⟩
        exact ⟨(.agg #[.int .i64 x0.fProc, .int .i64 x0.fPc, .slice o1A2 o1n2 o1c2, .int .i64 x0.fState, .slice o1A4 o1n4 o1c4]), sl26, (.agg #[.int .i64 x1.fKind, .int .i64 x1.fObj, .int .i64 x1.fVal, .bool x1.fOk]), (.agg u9.toArray), sl8, by simp only [Act.put, List.setIfInBounds_toArray, List.set_cons_zero, List.set_cons_succ], hB.trans (hb9.mono hz), .inl ⟨fun h => h.elim hn (by decide), fun h => f0 (h.resolve_right (by decide)), fun h => f1 (h.resolve_right (by decide)), fun h => f2 (h.resolve_right (by decide)), fun _ => OwnAt.of_made fL hz own9 hF9, fun h => (f4 (h.resolve_right (by decide))).up hb9, fL.up hb9⟩⟩
      refine InvFrom.cons (fun L a W hI hN hD K hK => ?_) ?_
      · obtain ⟨sl25, sl26, sl27, sl28, sl8, ha, hB, hI⟩ := hI
        subst ha
        have hI := hI.resolve_right (fun h => hN (h.1 4 (by decide)))
        obtain ⟨hn, f0, f1, f2, f3, f4, fL⟩ := hI
        have hz := hB.size
        refine Kept.mk ?_
        simp only [Act.put, List.setIfInBounds_toArray, List.set_cons_zero, List.set_cons_succ]
        go_simp
        refine hK.out _ _ ?_
        have hb1 : Below W.heap.size W (W.alloc (.cells #[.int .i64 0, .int .i64 0, .slice none 0 0, .int .i64 0, .slice none 0 0] 25)) := (Below.refl _ _).alloc (Nat.le_refl _) _
        exact ⟨sl25, sl26, sl27, sl28, (.pointer (some ⟨W.heap.size, 0, none⟩)), by simp only [Act.put, List.setIfInBounds_toArray, List.set_cons_zero, List.set_cons_succ], hB.trans (hb1.mono hz), .inl ⟨fun h => h.elim hn (by decide), fun h => f0 (h.resolve_right (by decide)), fun h => f1 (h.resolve_right (by decide)), fun h => f2 (h.resolve_right (by decide)), fun h => (f3 (h.resolve_right (by decide))).boxed hb1, fun _ => BoxAt.new hz, BoxLt.new⟩⟩
      refine InvFrom.cons (fun L a W hI hN hD K hK => ?_) ?_
      · obtain ⟨sl25, sl26, sl27, sl28, sl8, ha, hB, hI⟩ := hI
        subst ha
        have hI := hI.resolve_right (fun h => hN (h.1 5 (by decide)))
        obtain ⟨hn, f0, f1, f2, f3, f4, fL⟩ := hI
        have hz := hB.size
        have d3 := f3 (hD 3 (by kernel_rfl))
        obtain ⟨u9, F9, rfl, own9, hF9, hnF⟩ := d3; have see9 := layGor.seen (hi := W.heap.size) own9 (fun g hg => (hF9 g hg).2); obtain ⟨zA2, zn2, zc2, zA4, zn4, zc4, rfl, -⟩ := seeGor see9
        have d4 := f4 (hD 4 (by kernel_rfl))
        obtain ⟨b5, rfl, hb51, hb52, hbz⟩ := d4
        have zcc0 := box_cell (j := 0) hbz rfl
        have zcc1 := box_cell (j := 1) hbz rfl
        have zcc2 := box_cell (j := 2) hbz rfl
        have zcc3 := box_cell (j := 3) hbz rfl
        have zcc4 := box_cell (j := 4) hbz rfl
        have zdd0 := box_free hbz 0
        have zdd1 := box_free hbz 1
        have zdd2 := box_free hbz 2
        have zdd3 := box_free hbz 3
        have zdd4 := box_free hbz 4
        refine Kept.mk ?_
        simp only [Act.put, List.setIfInBounds_toArray, List.set_cons_zero, List.set_cons_succ]
        go_simp
        have hall : ∀ j, j < 6 → (L j ∨ j = 5) := by
          intro j hj
          have hj2 : j = 0 ∨ j = 1 ∨ j = 2 ∨ j = 3 ∨ j = 4 ∨ j = 5 := by omega
          rcases hj2 with rfl | rfl | rfl | rfl | rfl | rfl
          all_goals first | exact .inr rfl | exact .inl (hD _ (by kernel_rfl))
        have hpw : putCells W b5 0 [.int .i64 r.fProc, .int .i64 r.fPc, .slice zA2 zn2 zc2, .int .i64 r.fState, .slice zA4 zn4 zc4] = (((((W.setCell ⟨b5, 0, none⟩ (.int .i64 r.fProc)).setCell ⟨b5, 1, none⟩ (.int .i64 r.fPc)).setCell ⟨b5, 2, none⟩ (.slice zA2 zn2 zc2)).setCell ⟨b5, 3, none⟩ (.int .i64 r.fState)).setCell ⟨b5, 4, none⟩ (.slice zA4 zn4 zc4)) := rfl
        have hA9 := Ans.mkPut (L := layGor) (t := 25) (lo := v13.heap.size) (Z := [.int .i64 0, .int .i64 0, .slice none 0 0, .int .i64 0, .slice none 0 0]) (vs := [.int .i64 r.fProc, .int .i64 r.fPc, .slice zA2 zn2 zc2, .int .i64 r.fState, .slice zA4 zn4 zc4]) hbz rfl own9 (fun k hk => ⟨(hF9 k hk).1, (hF9 k hk).2, fun he => hnF _ rfl (he ▸ hk)⟩) hb51
        have hB9 : Below v13.heap.size v13 (putCells W b5 0 [.int .i64 r.fProc, .int .i64 r.fPc, .slice zA2 zn2 zc2, .int .i64 r.fState, .slice zA4 zn4 zc4]) := putCells_below _ _ _ _ hB hb51
        rw [← hpw]
        clear hpw
        generalize putCells W b5 0 [.int .i64 r.fProc, .int .i64 r.fPc, .slice zA2 zn2 zc2, .int .i64 r.fState, .slice zA4 zn4 zc4] = W9 at hA9 hB9 ⊢
        refine hK.out _ _ ?_
        exact ⟨sl25, sl26, sl27, (.agg #[.int .i64 r.fProc, .int .i64 r.fPc, .slice zA2 zn2 zc2, .int .i64 r.fState, .slice zA4 zn4 zc4]), (.pointer (some ⟨b5, 0, none⟩)), by simp only [Act.put, List.setIfInBounds_toArray, List.set_cons_zero, List.set_cons_succ], hB9, .inr ⟨hall, b5, rfl, hA9⟩⟩
      exact InvFrom.nil
    intro L a v18 hL hI
    obtain ⟨sl25, sl26, sl27, sl28, sl8, ha, hbv18, hI⟩ := hI
    subst ha
    have hfin := (hI.resolve_left (fun h => h.1 (hL 5 (by decide)))).2
    obtain ⟨gG, hsl, han⟩ := hfin
    subst hsl
    clear hL hI
    refine Kept.mk ?_
    simp only [Act.put, List.setIfInBounds_toArray, List.set_cons_zero, List.set_cons_succ]
    clear o1p0 o1p1 o1p2 o1p3 o1p4 o1l1 o1l2 o1l3 o1b o1w o1f o1s
    replace HE := Lib.hid (HE.out.trans (hbv18.mono (by omega)))
    replace HAS := Lib.hid (HAS.out.below hbv18 (by omega))
    replace HAX0 := Lib.hid (HAX0.out.below hbv18 (by omega))
    have hz19 := hbv18.size
    have HAG := Lib.hid han
    clear han hbv18
    have lt20 := HAS.out.lt
    have lt21 := HAX0.out.lt
    have lt22 := HAG.out.lt
    obtain ⟨o2l1, o2l2, o2l3, o2v, o2F, o2b, o2w, o2f⟩ := HAG.out
    have o2s := layGor.seen (hi := v18.heap.size) o2w fun g hg => by have := o2f g hg; omega
    obtain ⟨o2A2, o2n2, o2c2, o2A4, o2n4, o2c4, rfl, -⟩ := seeGor o2s
    have o2p0 := box_cell (j := 0) o2b rfl
    have o2p1 := box_cell (j := 1) o2b rfl
    have o2p2 := box_cell (j := 2) o2b rfl
    have o2p3 := box_cell (j := 3) o2b rfl
    have o2p4 := box_cell (j := 4) o2b rfl
    obtain ⟨o3l1, o3l2, o3l3, o3v, o3F, o3b, o3w, o3f⟩ := HAS.out
    have o3s := layGor.seen (hi := v18.heap.size) o3w fun g hg => by have := o3f g hg; omega
    obtain ⟨o3A2, o3n2, o3c2, o3A4, o3n4, o3c4, rfl, -⟩ := seeGor o3s
    have o3p0 := box_cell (j := 0) o3b rfl
    have o3p1 := box_cell (j := 1) o3b rfl
    have o3p2 := box_cell (j := 2) o3b rfl
    have o3p3 := box_cell (j := 3) o3b rfl
    have o3p4 := box_cell (j := 4) o3b rfl
    go_wp2_with fail
    refine (eqGor_same o2s o3s (Nat.le_refl _) (Nat.le_refl _) hszR).mono ?_
    rintro e v23 ⟨rfl, hbv23⟩
    clear o2p0 o2p1 o2p2 o2p3 o2p4 o2l1 o2l2 o2l3 o2b o2w o2f o2s o3p0 o3p1 o3p2 o3p3 o3p4 o3l1 o3l2 o3l3 o3b o3w o3f o3s
    replace HE := Lib.hid (HE.out.trans (hbv23.mono (by omega)))
    replace HAS := Lib.hid (HAS.out.below hbv23 (by omega))
    replace HAX0 := Lib.hid (HAX0.out.below hbv23 (by omega))
    replace HAG := Lib.hid (HAG.out.below hbv23 (by omega))
    have hz24 := hbv23.size
    clear hbv23
    have lt25 := HAS.out.lt
    have lt26 := HAX0.out.lt
    have lt27 := HAG.out.lt
    have zE28 := ((HKE.out _ (HE.out)).1).1
    obtain ⟨o4l1, o4l2, o4l3, o4v, o4F, o4b, o4w, o4f⟩ := HAX0.out
    have o4s := layGor.seen (hi := v23.heap.size) o4w fun g hg => by have := o4f g hg; omega
    obtain ⟨o4A2, o4n2, o4c2, o4A4, o4n4, o4c4, rfl, -⟩ := seeGor o4s
    have o4p0 := box_cell (j := 0) o4b rfl
    have o4p1 := box_cell (j := 1) o4b rfl
    have o4p2 := box_cell (j := 2) o4b rfl
    have o4p3 := box_cell (j := 3) o4b rfl
    have o4p4 := box_cell (j := 4) o4b rfl
    go_upto_region 10 with (fail)
    refine wp_region_inv (fun A0 L a W => ∃ sl33 sl34 sl35 sl36 sl37 : Value, a = (((((A0.put (some 33) sl33).put (some 34) sl34).put (some 35) sl35).put (some 36) sl36).put (some 37) sl37) ∧ Below v23.heap.size v23 W ∧ ((L 0 → sl33 = (.agg #[.int .i64 x0.fProc, .int .i64 x0.fPc, .slice o4A2 o4n2 o4c2, .int .i64 x0.fState, .slice o4A4 o4n4 o4c4])) ∧ (L 1 → sl34 = (.agg #[.int .i64 x0.fProc, .int .i64 x0.fPc, .slice p0A2 p0n2 p0c2, .int .i64 x0.fState, .slice p0A4 p0n4 p0c4])) ∧ (L 2 → SeeAt layGor W x0 sl35) ∧ (L 3 → sl36 = .bool true) ∧ (L 4 → sl37 = .bool false))) (by kernel_rfl) (by kernel_rfl) ?_ ?_ ?_
    · exact ⟨undef, undef, undef, undef, undef, by simp only [Act.put, List.setIfInBounds_toArray, List.set_cons_zero, List.set_cons_succ], Below.drew (Below.refl _ _), fun h => absurd h id, fun h => absurd h id, fun h => absurd h id, fun h => absurd h id, fun h => absurd h id⟩
    · intro Q9; refine InvFrom.cons (fun L a W hI hN hD K hK => ?_) ?_
      · obtain ⟨sl33, sl34, sl35, sl36, sl37, ha, hB, f0, f1, f2, f3, f4⟩ := hI
        subst ha
        have hz := hB.size
        have pc0 := box_cell (j := 0) (box_keep o4b hB (by omega)) rfl
        have pc1 := box_cell (j := 1) (box_keep o4b hB (by omega)) rfl
        have pc2 := box_cell (j := 2) (box_keep o4b hB (by omega)) rfl
        have pc3 := box_cell (j := 3) (box_keep o4b hB (by omega)) rfl
        have pc4 := box_cell (j := 4) (box_keep o4b hB (by omega)) rfl
        refine Kept.mk ?_
        simp only [Act.put, List.setIfInBounds_toArray, List.set_cons_zero, List.set_cons_succ]
        go_simp
        refine hK.out _ _ ?_
        exact ⟨(.agg #[.int .i64 x0.fProc, .int .i64 x0.fPc, .slice o4A2 o4n2 o4c2, .int .i64 x0.fState, .slice o4A4 o4n4 o4c4]), sl34, sl35, sl36, sl37, by simp only [Act.put, List.setIfInBounds_toArray, List.set_cons_zero, List.set_cons_succ], hB, fun _ => rfl, fun h => f1 (h.resolve_right (by decide)), fun h => f2 (h.resolve_right (by decide)), fun h => f3 (h.resolve_right (by decide)), fun h => f4 (h.resolve_right (by decide))⟩
      refine InvFrom.cons (fun L a W hI hN hD K hK => ?_) ?_
      · obtain ⟨sl33, sl34, sl35, sl36, sl37, ha, hB, f0, f1, f2, f3, f4⟩ := hI
        subst ha
        have hz := hB.size
        have hW := (HKE.out W (HE.out.trans (hB.mono (by omega))))
        have pc0 := box_cell (j := 0) hW.2.2.1 rfl
        have pc1 := box_cell (j := 1) hW.2.2.1 rfl
        have pc2 := box_cell (j := 2) hW.2.2.1 rfl
        have pc3 := box_cell (j := 3) hW.2.2.1 rfl
        have pc4 := box_cell (j := 4) hW.2.2.1 rfl
        refine Kept.mk ?_
        simp only [Act.put, List.setIfInBounds_toArray, List.set_cons_zero, List.set_cons_succ]
        go_simp
        refine hK.out _ _ ?_
        exact ⟨sl33, (.agg #[.int .i64 x0.fProc, .int .i64 x0.fPc, .slice p0A2 p0n2 p0c2, .int .i64 x0.fState, .slice p0A4 p0n4 p0c4]), sl35, sl36, sl37, by simp only [Act.put, List.setIfInBounds_toArray, List.set_cons_zero, List.set_cons_succ], hB, fun h => f0 (h.resolve_right (by decide)), fun _ => rfl, fun h => f2 (h.resolve_right (by decide)), fun h => f3 (h.resolve_right (by decide)), fun h => f4 (h.resolve_right (by decide))⟩
      refine InvFrom.cons (fun L a W hI hN hD K hK => ?_) ?_
      · obtain ⟨sl33, sl34, sl35, sl36, sl37, ha, hB, f0, f1, f2, f3, f4⟩ := hI
        subst ha
        have hz := hB.size
        have d1 := f1 (hD 1 (by kernel_rfl))
        subst d1
        have hW := (HKE.out W (HE.out.trans (hB.mono (by omega))))
        refine Kept.mk (step_c1 rfl 15 _ _ rfl (fenters_of' Try.func15 (by kernel_rfl) (by kernel_rfl)) (.agg #[.int .i64 x0.fProc, .int .i64 x0.fPc, .slice p0A2 p0n2 p0c2, .int .i64 x0.fState, .slice p0A4 p0n4 p0c4]) (by simp only [Act.put, List.setIfInBounds_toArray, List.set_cons_zero, List.set_cons_succ]; rfl) (toGor_any hW.2.1 (by omega) hle0) ?_)
        rintro e W1 ⟨u1, rfl, own1, hb1⟩
        refine ⟨_, rfl, hK.out _ _ ?_⟩
        exact ⟨sl33, (.agg #[.int .i64 x0.fProc, .int .i64 x0.fPc, .slice p0A2 p0n2 p0c2, .int .i64 x0.fState, .slice p0A4 p0n4 p0c4]), (.agg u1.toArray), sl36, sl37, by simp only [Act.put, List.setIfInBounds_toArray, List.set_cons_zero, List.set_cons_succ], hB.trans (hb1.mono hz), fun h => f0 (h.resolve_right (by decide)), fun h => f1 (h.resolve_right (by decide)), fun _ => ⟨_, rfl, layGor.seen (hi := W1.heap.size) own1 (fun g hg => hg.2)⟩, fun h => f3 (h.resolve_right (by decide)), fun h => f4 (h.resolve_right (by decide))⟩
      refine InvFrom.cons (fun L a W hI hN hD K hK => ?_) ?_
      · obtain ⟨sl33, sl34, sl35, sl36, sl37, ha, hB, f0, f1, f2, f3, f4⟩ := hI
        subst ha
        have hz := hB.size
        have d0 := f0 (hD 0 (by kernel_rfl))
        subst d0
        have d2 := f2 (hD 2 (by kernel_rfl))
        obtain ⟨uy0, rfl, sy0⟩ := d2
        refine Kept.mk (step_c2 rfl 10 _ _ _ rfl (fenters_of' Try.func10 (by kernel_rfl) (by kernel_rfl)) (.agg #[.int .i64 x0.fProc, .int .i64 x0.fPc, .slice o4A2 o4n2 o4c2, .int .i64 x0.fState, .slice o4A4 o4n4 o4c4]) (.agg uy0.toArray) (by simp only [Act.put, List.setIfInBounds_toArray, List.set_cons_zero, List.set_cons_succ]; rfl) (by simp only [Act.put, List.setIfInBounds_toArray, List.set_cons_zero, List.set_cons_succ]; rfl) (eqGor_same (layGor.more (layGor.keep o4s (fun k hk => hB.block k hk)) hz) sy0 (Nat.le_refl _) (Nat.le_refl _) (Nat.le_trans hle0 (by omega))) ?_)
        rintro e W1 ⟨rfl, hb9⟩
        refine ⟨_, rfl, hK.out _ _ ?_⟩
        exact ⟨(.agg #[.int .i64 x0.fProc, .int .i64 x0.fPc, .slice o4A2 o4n2 o4c2, .int .i64 x0.fState, .slice o4A4 o4n4 o4c4]), sl34, (.agg uy0.toArray), (.bool true), sl37, by simp only [Act.put, List.setIfInBounds_toArray, List.set_cons_zero, List.set_cons_succ], hB.trans (hb9.mono hz), fun h => f0 (h.resolve_right (by decide)), fun h => f1 (h.resolve_right (by decide)), fun h => (f2 (h.resolve_right (by decide))).up hb9, fun _ => rfl, fun h => f4 (h.resolve_right (by decide))⟩
      refine InvFrom.cons (fun L a W hI hN hD K hK => ?_) ?_
      · obtain ⟨sl33, sl34, sl35, sl36, sl37, ha, hB, f0, f1, f2, f3, f4⟩ := hI
        subst ha
        have hz := hB.size
        have d3 := f3 (hD 3 (by kernel_rfl))
        subst d3
        refine Kept.mk ?_
        simp only [Act.put, List.setIfInBounds_toArray, List.set_cons_zero, List.set_cons_succ]
        go_simp
        refine hK.out _ _ ?_
        exact ⟨sl33, sl34, sl35, (.bool true), (.bool false), by simp only [Act.put, List.setIfInBounds_toArray, List.set_cons_zero, List.set_cons_succ], hB, fun h => f0 (h.resolve_right (by decide)), fun h => f1 (h.resolve_right (by decide)), fun h => f2 (h.resolve_right (by decide)), fun h => f3 (h.resolve_right (by decide)), fun _ => rfl⟩
      exact InvFrom.nil
    intro L a v29 hL hI
    obtain ⟨sl33, sl34, sl35, sl36, sl37, ha, hbv29, hI⟩ := hI
    subst ha
    have hfin := hI.2.2.2.2 (hL 4 (by decide))
    subst hfin
    clear hL hI
    refine Kept.mk ?_
    simp only [Act.put, List.setIfInBounds_toArray, List.set_cons_zero, List.set_cons_succ]
    clear o4p0 o4p1 o4p2 o4p3 o4p4 o4l1 o4l2 o4l3 o4b o4w o4f o4s
    replace HE := Lib.hid (HE.out.trans (hbv29.mono (by omega)))
    replace HAS := Lib.hid (HAS.out.below hbv29 (by omega))
    replace HAX0 := Lib.hid (HAX0.out.below hbv29 (by omega))
    replace HAG := Lib.hid (HAG.out.below hbv29 (by omega))
    have hz30 := hbv29.size
    clear hbv29
    have lt31 := HAS.out.lt
    have lt32 := HAX0.out.lt
    have lt33 := HAG.out.lt
    obtain ⟨o5l1, o5l2, o5l3, o5v, o5F, o5b, o5w, o5f⟩ := HAX0.out
    have o5s := layGor.seen (hi := v29.heap.size) o5w fun g hg => by have := o5f g hg; omega
    obtain ⟨o5A2, o5n2, o5c2, o5A4, o5n4, o5c4, rfl, -⟩ := seeGor o5s
    have o5p0 := box_cell (j := 0) o5b rfl
    have o5p1 := box_cell (j := 1) o5b rfl
    have o5p2 := box_cell (j := 2) o5b rfl
    have o5p3 := box_cell (j := 3) o5b rfl
    have o5p4 := box_cell (j := 4) o5b rfl
    have zE35 := ((HKE.out _ (HE.out)).1).1
    have hvc0 := hvcX0
    go_wp2_with fail
    refine (markGor_any (k := 1) o5w (fun g hg => by have := o5f g hg; omega) (Nat.le_trans hle0 (by omega)) (by omega) (by omega)).mono ?_
    rintro e v34 ⟨rfl, own9, ht9⟩
    have hkv34 : decide (1 + vcntGor (x0) < 0) = false := decide_eq_false (by omega)
    replace HE := Lib.hid (HE.out.trans (show Below (w.heap.size + 2) v29 v34 from ⟨ht9.os, ht9.tape, ht9.output, ht9.size, fun k hk => ht9.block k (by omega) (fun hg => by have := o5f k hg; omega)⟩))
    replace HAS := Lib.hid (HAS.out.turned ht9 (fun k hg => by have := o5f k hg; omega))
    replace HAG := Lib.hid (HAG.out.turned ht9 (fun k hg => by have := o5f k hg; omega))
    replace HAX0 := Lib.hid (Ans.mark o5l1 o5l2 o5l3 o5b o5f own9 ht9)
    have hz36 := ht9.size
    clear o5p0 o5p1 o5p2 o5p3 o5p4 o5l1 o5l2 o5l3 o5b o5w o5f o5s own9 ht9 hvc0
    have lt37 := HAS.out.lt
    have lt38 := HAX0.out.lt
    have lt39 := HAG.out.lt
    obtain ⟨o6l1, o6l2, o6l3, o6v, o6F, o6b, o6w, o6f⟩ := HAG.out
    have o6s := layGor.seen (hi := v34.heap.size) o6w fun g hg => by have := o6f g hg; omega
    obtain ⟨o6A2, o6n2, o6c2, o6A4, o6n4, o6c4, rfl, -⟩ := seeGor o6s
    have o6p0 := box_cell (j := 0) o6b rfl
    have o6p1 := box_cell (j := 1) o6b rfl
    have o6p2 := box_cell (j := 2) o6b rfl
    have o6p3 := box_cell (j := 3) o6b rfl
    have o6p4 := box_cell (j := 4) o6b rfl
    obtain ⟨o7l1, o7l2, o7l3, o7v, o7F, o7b, o7w, o7f⟩ := HAS.out
    have o7s := layGor.seen (hi := v34.heap.size) o7w fun g hg => by have := o7f g hg; omega
    obtain ⟨o7A2, o7n2, o7c2, o7A4, o7n4, o7c4, rfl, -⟩ := seeGor o7s
    have o7p0 := box_cell (j := 0) o7b rfl
    have o7p1 := box_cell (j := 1) o7b rfl
    have o7p2 := box_cell (j := 2) o7b rfl
    have o7p3 := box_cell (j := 3) o7b rfl
    have o7p4 := box_cell (j := 4) o7b rfl
    go_wp2_with fail
    refine (eqGor_same o6s o7s (Nat.le_refl _) (Nat.le_refl _) hszR).mono ?_
    rintro e v40 ⟨rfl, hbv40⟩
    clear o6p0 o6p1 o6p2 o6p3 o6p4 o6l1 o6l2 o6l3 o6b o6w o6f o6s o7p0 o7p1 o7p2 o7p3 o7p4 o7l1 o7l2 o7l3 o7b o7w o7f o7s
    replace HE := Lib.hid (HE.out.trans (hbv40.mono (by omega)))
    replace HAS := Lib.hid (HAS.out.below hbv40 (by omega))
    replace HAX0 := Lib.hid (HAX0.out.below hbv40 (by omega))
    replace HAG := Lib.hid (HAG.out.below hbv40 (by omega))
    have hz41 := hbv40.size
    clear hbv40
    have lt42 := HAS.out.lt
    have lt43 := HAX0.out.lt
    have lt44 := HAG.out.lt
    obtain ⟨o8l1, o8l2, o8l3, o8v, o8F, o8b, o8w, o8f⟩ := HAG.out
    have o8s := layGor.seen (hi := v40.heap.size) o8w fun g hg => by have := o8f g hg; omega
    obtain ⟨o8A2, o8n2, o8c2, o8A4, o8n4, o8c4, rfl, -⟩ := seeGor o8s
    have o8p0 := box_cell (j := 0) o8b rfl
    have o8p1 := box_cell (j := 1) o8b rfl
    have o8p2 := box_cell (j := 2) o8b rfl
    have o8p3 := box_cell (j := 3) o8b rfl
    have o8p4 := box_cell (j := 4) o8b rfl
    have zE46 := ((HKE.out _ (HE.out)).1).1
    have hvc0 := hvcR
    go_wp2_with fail
    refine (markGor_any (k := 1) o8w (fun g hg => by have := o8f g hg; omega) hszR (by omega) (by omega)).mono ?_
    rintro e v45 ⟨rfl, own9, ht9⟩
    have hkv45 : decide (1 + vcntGor (r) < 0) = false := decide_eq_false (by omega)
    replace HE := Lib.hid (HE.out.trans (show Below (w.heap.size + 2) v40 v45 from ⟨ht9.os, ht9.tape, ht9.output, ht9.size, fun k hk => ht9.block k (by omega) (fun hg => by have := o8f k hg; omega)⟩))
    replace HAS := Lib.hid (HAS.out.turned ht9 (fun k hg => by have := o8f k hg; omega))
    replace HAX0 := Lib.hid (HAX0.out.turned ht9 (fun k hg => by have := o8f k hg; omega))
    replace HAG := Lib.hid (Ans.mark o8l1 o8l2 o8l3 o8b o8f own9 ht9)
    have hz47 := ht9.size
    clear o8p0 o8p1 o8p2 o8p3 o8p4 o8l1 o8l2 o8l3 o8b o8w o8f o8s own9 ht9 hvc0
    have hqm : ((1 + vcntGor (r)) != (1 + vcntGor (r))) = false := by simp
    have lt48 := HAS.out.lt
    have lt49 := HAX0.out.lt
    have lt50 := HAG.out.lt
    obtain ⟨o9l1, o9l2, o9l3, o9v, o9F, o9b, o9w, o9f⟩ := HAG.out
    have o9s := layGor.seen (hi := v45.heap.size) o9w fun g hg => by have := o9f g hg; omega
    obtain ⟨o9A2, o9n2, o9c2, o9A4, o9n4, o9c4, rfl, -⟩ := seeGor o9s
    have o9p0 := box_cell (j := 0) o9b rfl
    have o9p1 := box_cell (j := 1) o9b rfl
    have o9p2 := box_cell (j := 2) o9b rfl
    have o9p3 := box_cell (j := 3) o9b rfl
    have o9p4 := box_cell (j := 4) o9b rfl
    have hvc0 := hvcR
    go_wp2_with fail
    refine (heldGor_any (k := 1) o9s (Nat.le_refl _) hszR (by omega) (by omega)).mono ?_
    rintro e v51 ⟨rfl, hbv51⟩
    clear o9p0 o9p1 o9p2 o9p3 o9p4 o9l1 o9l2 o9l3 o9b o9w o9f o9s hvc0
    replace HE := Lib.hid (HE.out.trans (hbv51.mono (by omega)))
    replace HAS := Lib.hid (HAS.out.below hbv51 (by omega))
    replace HAX0 := Lib.hid (HAX0.out.below hbv51 (by omega))
    replace HAG := Lib.hid (HAG.out.below hbv51 (by omega))
    have hz52 := hbv51.size
    clear hbv51
    have lt53 := HAS.out.lt
    have lt54 := HAX0.out.lt
    have lt55 := HAG.out.lt
    have zE56 := ((HKE.out _ (HE.out)).1).1
    go_upto_region 24 with (fail)
    refine wp_region_inv (fun A0 L a W => ∃ sl60 sl61 sl62 sl63 sl64 sl12 : Value, a = ((((((A0.put (some 60) sl60).put (some 61) sl61).put (some 62) sl62).put (some 63) sl63).put (some 64) sl64).put (some 12) sl12) ∧ Below v51.heap.size v51 W ∧ ((¬ L 6 ∧ (L 0 → sl60 = (.agg #[.int .i64 x0.fProc, .int .i64 x0.fPc, .slice p0A2 p0n2 p0c2, .int .i64 x0.fState, .slice p0A4 p0n4 p0c4])) ∧ (L 1 → SeeAt layGor W x0 sl61) ∧ (L 2 → sl62 = (.agg #[.int .i64 x1.fKind, .int .i64 x1.fObj, .int .i64 x1.fVal, .bool x1.fOk])) ∧ (L 3 → sl63 = (.agg #[.int .i64 x1.fKind, .int .i64 x1.fObj, .int .i64 x1.fVal, .bool x1.fOk])) ∧ (L 4 → OwnAt layGor v51.heap.size W r sl12 sl64) ∧ (L 5 → BoxAt 25 [.int .i64 0, .int .i64 0, .slice none 0 0, .int .i64 0, .slice none 0 0] v51.heap.size W sl12) ∧ BoxLt W sl12) ∨ ((∀ j, j < 7 → L j) ∧ ∃ g, sl12 = .pointer (some ⟨g, 0, none⟩) ∧ Ans layGor 25 v51.heap.size W.heap.size W g r))) (by kernel_rfl) (by kernel_rfl) ?_ ?_ ?_
    · exact ⟨undef, undef, undef, undef, undef, undef, by simp only [Act.put, List.setIfInBounds_toArray, List.set_cons_zero, List.set_cons_succ], Below.drew (Below.refl _ _), .inl ⟨id, fun h => absurd h id, fun h => absurd h id, fun h => absurd h id, fun h => absurd h id, fun h => absurd h id, fun h => absurd h id, BoxLt.undef⟩⟩
    · intro Q9; refine InvFrom.cons (fun L a W hI hN hD K hK => ?_) ?_
      · obtain ⟨sl60, sl61, sl62, sl63, sl64, sl12, ha, hB, hI⟩ := hI
        subst ha
        have hI := hI.resolve_right (fun h => hN (h.1 0 (by decide)))
        obtain ⟨hn, f0, f1, f2, f3, f4, f5, fL⟩ := hI
        have hz := hB.size
        have hW := (HKE.out W (HE.out.trans (hB.mono (by omega))))
        have pc0 := box_cell (j := 0) hW.2.2.1 rfl
        have pc1 := box_cell (j := 1) hW.2.2.1 rfl
        have pc2 := box_cell (j := 2) hW.2.2.1 rfl
        have pc3 := box_cell (j := 3) hW.2.2.1 rfl
        have pc4 := box_cell (j := 4) hW.2.2.1 rfl
        refine Kept.mk ?_
        simp only [Act.put, List.setIfInBounds_toArray, List.set_cons_zero, List.set_cons_succ]
        go_simp
        refine hK.out _ _ ?_
        exact ⟨(.agg #[.int .i64 x0.fProc, .int .i64 x0.fPc, .slice p0A2 p0n2 p0c2, .int .i64 x0.fState, .slice p0A4 p0n4 p0c4]), sl61, sl62, sl63, sl64, sl12, by simp only [Act.put, List.setIfInBounds_toArray, List.set_cons_zero, List.set_cons_succ], hB, .inl ⟨fun h => h.elim hn (by decide), fun _ => rfl, fun h => f1 (h.resolve_right (by decide)), fun h => f2 (h.resolve_right (by decide)), fun h => f3 (h.resolve_right (by decide)), fun h => f4 (h.resolve_right (by decide)), fun h => f5 (h.resolve_right (by decide)), fL⟩⟩
      refine InvFrom.cons (fun L a W hI hN hD K hK => ?_) ?_
      · obtain ⟨sl60, sl61, sl62, sl63, sl64, sl12, ha, hB, hI⟩ := hI
        subst ha
        have hI := hI.resolve_right (fun h => hN (h.1 1 (by decide)))
        obtain ⟨hn, f0, f1, f2, f3, f4, f5, fL⟩ := hI
        have hz := hB.size
        have d0 := f0 (hD 0 (by kernel_rfl))
        subst d0
        have hW := (HKE.out W (HE.out.trans (hB.mono (by omega))))
        refine Kept.mk (step_c1 rfl 15 _ _ rfl (fenters_of' Try.func15 (by kernel_rfl) (by kernel_rfl)) (.agg #[.int .i64 x0.fProc, .int .i64 x0.fPc, .slice p0A2 p0n2 p0c2, .int .i64 x0.fState, .slice p0A4 p0n4 p0c4]) (by simp only [Act.put, List.setIfInBounds_toArray, List.set_cons_zero, List.set_cons_succ]; rfl) (toGor_any hW.2.1 (by omega) hle0) ?_)
        rintro e W1 ⟨u1, rfl, own1, hb1⟩
        refine ⟨_, rfl, hK.out _ _ ?_⟩
        exact ⟨(.agg #[.int .i64 x0.fProc, .int .i64 x0.fPc, .slice p0A2 p0n2 p0c2, .int .i64 x0.fState, .slice p0A4 p0n4 p0c4]), (.agg u1.toArray), sl62, sl63, sl64, sl12, by simp only [Act.put, List.setIfInBounds_toArray, List.set_cons_zero, List.set_cons_succ], hB.trans (hb1.mono hz), .inl ⟨fun h => h.elim hn (by decide), fun h => f0 (h.resolve_right (by decide)), fun _ => ⟨_, rfl, layGor.seen (hi := W1.heap.size) own1 (fun g hg => hg.2)⟩, fun h => f2 (h.resolve_right (by decide)), fun h => f3 (h.resolve_right (by decide)), fun h => (f4 (h.resolve_right (by decide))).up hb1, fun h => (f5 (h.resolve_right (by decide))).up hb1, fL.up hb1⟩⟩
      refine InvFrom.cons (fun L a W hI hN hD K hK => ?_) ?_
      · obtain ⟨sl60, sl61, sl62, sl63, sl64, sl12, ha, hB, hI⟩ := hI
        subst ha
        have hI := hI.resolve_right (fun h => hN (h.1 2 (by decide)))
        obtain ⟨hn, f0, f1, f2, f3, f4, f5, fL⟩ := hI
        have hz := hB.size
        have hW := (HKE.out W (HE.out.trans (hB.mono (by omega))))
        have pc0 := box_cell (j := 0) hW.2.2.2.1 rfl
        have pc1 := box_cell (j := 1) hW.2.2.2.1 rfl
        have pc2 := box_cell (j := 2) hW.2.2.2.1 rfl
        have pc3 := box_cell (j := 3) hW.2.2.2.1 rfl
        refine Kept.mk ?_
        simp only [Act.put, List.setIfInBounds_toArray, List.set_cons_zero, List.set_cons_succ]
        go_simp
        refine hK.out _ _ ?_
        exact ⟨sl60, sl61, (.agg #[.int .i64 x1.fKind, .int .i64 x1.fObj, .int .i64 x1.fVal, .bool x1.fOk]), sl63, sl64, sl12, by simp only [Act.put, List.setIfInBounds_toArray, List.set_cons_zero, List.set_cons_succ], hB, .inl ⟨fun h => h.elim hn (by decide), fun h => f0 (h.resolve_right (by decide)), fun h => f1 (h.resolve_right (by decide)), fun _ => rfl, fun h => f3 (h.resolve_right (by decide)), fun h => f4 (h.resolve_right (by decide)), fun h => f5 (h.resolve_right (by decide)), fL⟩⟩
      refine InvFrom.cons (fun L a W hI hN hD K hK => ?_) ?_
      · obtain ⟨sl60, sl61, sl62, sl63, sl64, sl12, ha, hB, hI⟩ := hI
        subst ha
        have hI := hI.resolve_right (fun h => hN (h.1 3 (by decide)))
        obtain ⟨hn, f0, f1, f2, f3, f4, f5, fL⟩ := hI
        have hz := hB.size
        have d1 := f1 (hD 1 (by kernel_rfl))
        obtain ⟨uy0, rfl, sy0⟩ := d1
        have d2 := f2 (hD 2 (by kernel_rfl))
        subst d2
        refine Kept.mk (step_c1 rfl 20 _ _ rfl (fenters_of' Try.func20 (by kernel_rfl) (by kernel_rfl)) (.agg #[.int .i64 x1.fKind, .int .i64 x1.fObj, .int .i64 x1.fVal, .bool x1.fOk]) (by simp only [Act.put, List.setIfInBounds_toArray, List.set_cons_zero, List.set_cons_succ]; rfl) (toItem_any (hi := 0) (x := x1) ⟨rfl, HV1.out⟩) ?_)
        rintro e W1 ⟨_, rfl, ⟨rfl, -⟩, hb1⟩
        refine ⟨_, rfl, hK.out _ _ ?_⟩
        exact ⟨sl60, (.agg uy0.toArray), (.agg #[.int .i64 x1.fKind, .int .i64 x1.fObj, .int .i64 x1.fVal, .bool x1.fOk]), (.agg #[.int .i64 x1.fKind, .int .i64 x1.fObj, .int .i64 x1.fVal, .bool x1.fOk]), sl64, sl12, by simp only [Act.put, List.setIfInBounds_toArray, List.set_cons_zero, List.set_cons_succ], hB.trans (hb1.mono hz), .inl ⟨fun h => h.elim hn (by decide), fun h => f0 (h.resolve_right (by decide)), fun h => (f1 (h.resolve_right (by decide))).up hb1, fun h => f2 (h.resolve_right (by decide)), fun _ => rfl, fun h => (f4 (h.resolve_right (by decide))).up hb1, fun h => (f5 (h.resolve_right (by decide))).up hb1, fL.up hb1⟩⟩
      refine InvFrom.cons (fun L a W hI hN hD K hK => ?_) ?_
      · obtain ⟨sl60, sl61, sl62, sl63, sl64, sl12, ha, hB, hI⟩ := hI
        subst ha
        have hI := hI.resolve_right (fun h => hN (h.1 4 (by decide)))
        obtain ⟨hn, f0, f1, f2, f3, f4, f5, fL⟩ := hI
        have hz := hB.size
        have d1 := f1 (hD 1 (by kernel_rfl))
        obtain ⟨uy0, rfl, sy0⟩ := d1
        have d3 := f3 (hD 3 (by kernel_rfl))
        subst d3
        have hW := (HKE.out W (HE.out.trans (hB.mono (by omega))))
        refine Kept.mk (step_c2 rfl 21 _ _ _ rfl (fenters_of' Try.func21 (by kernel_rfl) (by kernel_rfl)) (.agg uy0.toArray) (.agg #[.int .i64 x1.fKind, .int .i64 x1.fObj, .int .i64 x1.fVal, .bool x1.fOk]) (by simp only [Act.put, List.setIfInBounds_toArray, List.set_cons_zero, List.set_cons_succ]; rfl) (by simp only [Act.put, List.setIfInBounds_toArray, List.set_cons_zero, List.set_cons_succ]; rfl) (HIM.out W W.heap.size _ sy0 (Nat.le_refl _) hW.1.2) ?_)
        rintro e W1 ⟨u9, F9, rfl, own9, hF9, hb9⟩
        refine ⟨_, rfl, hK.out _ _ ?_⟩
        exact ⟨sl60, (.agg uy0.toArray), sl62, (.agg #[.int .i64 x1.fKind, .int .i64 x1.fObj, .int .i64 x1.fVal, .bool x1.fOk]), (.agg u9.toArray), sl12, by simp only [Act.put, List.setIfInBounds_toArray, List.set_cons_zero, List.set_cons_succ], hB.trans (hb9.mono hz), .inl ⟨fun h => h.elim hn (by decide), fun h => f0 (h.resolve_right (by decide)), fun h => (f1 (h.resolve_right (by decide))).up hb9, fun h => f2 (h.resolve_right (by decide)), fun h => f3 (h.resolve_right (by decide)), fun _ => OwnAt.of_made fL hz own9 hF9, fun h => (f5 (h.resolve_right (by decide))).up hb9, fL.up hb9⟩⟩
      refine InvFrom.cons (fun L a W hI hN hD K hK => ?_) ?_
      · obtain ⟨sl60, sl61, sl62, sl63, sl64, sl12, ha, hB, hI⟩ := hI
        subst ha
        have hI := hI.resolve_right (fun h => hN (h.1 5 (by decide)))
        obtain ⟨hn, f0, f1, f2, f3, f4, f5, fL⟩ := hI
        have hz := hB.size
        refine Kept.mk ?_
        simp only [Act.put, List.setIfInBounds_toArray, List.set_cons_zero, List.set_cons_succ]
        go_simp
        refine hK.out _ _ ?_
        have hb1 : Below W.heap.size W (W.alloc (.cells #[.int .i64 0, .int .i64 0, .slice none 0 0, .int .i64 0, .slice none 0 0] 25)) := (Below.refl _ _).alloc (Nat.le_refl _) _
        exact ⟨sl60, sl61, sl62, sl63, sl64, (.pointer (some ⟨W.heap.size, 0, none⟩)), by simp only [Act.put, List.setIfInBounds_toArray, List.set_cons_zero, List.set_cons_succ], hB.trans (hb1.mono hz), .inl ⟨fun h => h.elim hn (by decide), fun h => f0 (h.resolve_right (by decide)), fun h => (f1 (h.resolve_right (by decide))).up hb1, fun h => f2 (h.resolve_right (by decide)), fun h => f3 (h.resolve_right (by decide)), fun h => (f4 (h.resolve_right (by decide))).boxed hb1, fun _ => BoxAt.new hz, BoxLt.new⟩⟩
      refine InvFrom.cons (fun L a W hI hN hD K hK => ?_) ?_
      · obtain ⟨sl60, sl61, sl62, sl63, sl64, sl12, ha, hB, hI⟩ := hI
        subst ha
        have hI := hI.resolve_right (fun h => hN (h.1 6 (by decide)))
        obtain ⟨hn, f0, f1, f2, f3, f4, f5, fL⟩ := hI
        have hz := hB.size
        have d4 := f4 (hD 4 (by kernel_rfl))
        obtain ⟨u9, F9, rfl, own9, hF9, hnF⟩ := d4; have see9 := layGor.seen (hi := W.heap.size) own9 (fun g hg => (hF9 g hg).2); obtain ⟨zA2, zn2, zc2, zA4, zn4, zc4, rfl, -⟩ := seeGor see9
        have d5 := f5 (hD 5 (by kernel_rfl))
        obtain ⟨b5, rfl, hb51, hb52, hbz⟩ := d5
        have zcc0 := box_cell (j := 0) hbz rfl
        have zcc1 := box_cell (j := 1) hbz rfl
        have zcc2 := box_cell (j := 2) hbz rfl
        have zcc3 := box_cell (j := 3) hbz rfl
        have zcc4 := box_cell (j := 4) hbz rfl
        have zdd0 := box_free hbz 0
        have zdd1 := box_free hbz 1
        have zdd2 := box_free hbz 2
        have zdd3 := box_free hbz 3
        have zdd4 := box_free hbz 4
        refine Kept.mk ?_
        simp only [Act.put, List.setIfInBounds_toArray, List.set_cons_zero, List.set_cons_succ]
        go_simp
        have hall : ∀ j, j < 7 → (L j ∨ j = 6) := by
          intro j hj
          have hj2 : j = 0 ∨ j = 1 ∨ j = 2 ∨ j = 3 ∨ j = 4 ∨ j = 5 ∨ j = 6 := by omega
          rcases hj2 with rfl | rfl | rfl | rfl | rfl | rfl | rfl
          all_goals first | exact .inr rfl | exact .inl (hD _ (by kernel_rfl))
        have hpw : putCells W b5 0 [.int .i64 r.fProc, .int .i64 r.fPc, .slice zA2 zn2 zc2, .int .i64 r.fState, .slice zA4 zn4 zc4] = (((((W.setCell ⟨b5, 0, none⟩ (.int .i64 r.fProc)).setCell ⟨b5, 1, none⟩ (.int .i64 r.fPc)).setCell ⟨b5, 2, none⟩ (.slice zA2 zn2 zc2)).setCell ⟨b5, 3, none⟩ (.int .i64 r.fState)).setCell ⟨b5, 4, none⟩ (.slice zA4 zn4 zc4)) := rfl
        have hA9 := Ans.mkPut (L := layGor) (t := 25) (lo := v51.heap.size) (Z := [.int .i64 0, .int .i64 0, .slice none 0 0, .int .i64 0, .slice none 0 0]) (vs := [.int .i64 r.fProc, .int .i64 r.fPc, .slice zA2 zn2 zc2, .int .i64 r.fState, .slice zA4 zn4 zc4]) hbz rfl own9 (fun k hk => ⟨(hF9 k hk).1, (hF9 k hk).2, fun he => hnF _ rfl (he ▸ hk)⟩) hb51
        have hB9 : Below v51.heap.size v51 (putCells W b5 0 [.int .i64 r.fProc, .int .i64 r.fPc, .slice zA2 zn2 zc2, .int .i64 r.fState, .slice zA4 zn4 zc4]) := putCells_below _ _ _ _ hB hb51
        rw [← hpw]
        clear hpw
        generalize putCells W b5 0 [.int .i64 r.fProc, .int .i64 r.fPc, .slice zA2 zn2 zc2, .int .i64 r.fState, .slice zA4 zn4 zc4] = W9 at hA9 hB9 ⊢
        refine hK.out _ _ ?_
        exact ⟨sl60, sl61, sl62, sl63, (.agg #[.int .i64 r.fProc, .int .i64 r.fPc, .slice zA2 zn2 zc2, .int .i64 r.fState, .slice zA4 zn4 zc4]), (.pointer (some ⟨b5, 0, none⟩)), by simp only [Act.put, List.setIfInBounds_toArray, List.set_cons_zero, List.set_cons_succ], hB9, .inr ⟨hall, b5, rfl, hA9⟩⟩
      exact InvFrom.nil
    intro L a v57 hL hI
    obtain ⟨sl60, sl61, sl62, sl63, sl64, sl12, ha, hbv57, hI⟩ := hI
    subst ha
    have hfin := (hI.resolve_left (fun h => h.1 (hL 6 (by decide)))).2
    obtain ⟨gH, hsl, han⟩ := hfin
    subst hsl
    clear hL hI
    refine Kept.mk ?_
    simp only [Act.put, List.setIfInBounds_toArray, List.set_cons_zero, List.set_cons_succ]
    replace HE := Lib.hid (HE.out.trans (hbv57.mono (by omega)))
    replace HAS := Lib.hid (HAS.out.below hbv57 (by omega))
    replace HAX0 := Lib.hid (HAX0.out.below hbv57 (by omega))
    replace HAG := Lib.hid (HAG.out.below hbv57 (by omega))
    have hz58 := hbv57.size
    have HAH := Lib.hid han
    clear han hbv57
    have lt59 := HAS.out.lt
    have lt60 := HAX0.out.lt
    have lt61 := HAG.out.lt
    have lt62 := HAH.out.lt
    obtain ⟨o10l1, o10l2, o10l3, o10v, o10F, o10b, o10w, o10f⟩ := HAH.out
    have o10s := layGor.seen (hi := v57.heap.size) o10w fun g hg => by have := o10f g hg; omega
    obtain ⟨o10A2, o10n2, o10c2, o10A4, o10n4, o10c4, rfl, -⟩ := seeGor o10s
    have o10p0 := box_cell (j := 0) o10b rfl
    have o10p1 := box_cell (j := 1) o10b rfl
    have o10p2 := box_cell (j := 2) o10b rfl
    have o10p3 := box_cell (j := 3) o10b rfl
    have o10p4 := box_cell (j := 4) o10b rfl
    obtain ⟨o11l1, o11l2, o11l3, o11v, o11F, o11b, o11w, o11f⟩ := HAS.out
    have o11s := layGor.seen (hi := v57.heap.size) o11w fun g hg => by have := o11f g hg; omega
    obtain ⟨o11A2, o11n2, o11c2, o11A4, o11n4, o11c4, rfl, -⟩ := seeGor o11s
    have o11p0 := box_cell (j := 0) o11b rfl
    have o11p1 := box_cell (j := 1) o11b rfl
    have o11p2 := box_cell (j := 2) o11b rfl
    have o11p3 := box_cell (j := 3) o11b rfl
    have o11p4 := box_cell (j := 4) o11b rfl
    go_wp2_with fail
    refine (eqGor_same o10s o11s (Nat.le_refl _) (Nat.le_refl _) hszR).mono ?_
    rintro e v63 ⟨rfl, hbv63⟩
    clear o10p0 o10p1 o10p2 o10p3 o10p4 o10l1 o10l2 o10l3 o10b o10w o10f o10s o11p0 o11p1 o11p2 o11p3 o11p4 o11l1 o11l2 o11l3 o11b o11w o11f o11s
    replace HE := Lib.hid (HE.out.trans (hbv63.mono (by omega)))
    replace HAS := Lib.hid (HAS.out.below hbv63 (by omega))
    replace HAX0 := Lib.hid (HAX0.out.below hbv63 (by omega))
    replace HAG := Lib.hid (HAG.out.below hbv63 (by omega))
    replace HAH := Lib.hid (HAH.out.below hbv63 (by omega))
    have hz64 := hbv63.size
    clear hbv63
    have lt65 := HAS.out.lt
    have lt66 := HAX0.out.lt
    have lt67 := HAG.out.lt
    have lt68 := HAH.out.lt
    obtain ⟨o12l1, o12l2, o12l3, o12v, o12F, o12b, o12w, o12f⟩ := HAG.out
    have o12s := layGor.seen (hi := v63.heap.size) o12w fun g hg => by have := o12f g hg; omega
    obtain ⟨o12A2, o12n2, o12c2, o12A4, o12n4, o12c4, rfl, -⟩ := seeGor o12s
    have o12p0 := box_cell (j := 0) o12b rfl
    have o12p1 := box_cell (j := 1) o12b rfl
    have o12p2 := box_cell (j := 2) o12b rfl
    have o12p3 := box_cell (j := 3) o12b rfl
    have o12p4 := box_cell (j := 4) o12b rfl
    have hvc0 := hvcR
    go_wp2_with fail
    refine (heldGor_any (k := 1) o12s (Nat.le_refl _) hszR (by omega) (by omega)).mono ?_
    rintro e v69 ⟨rfl, hbv69⟩
    clear o12p0 o12p1 o12p2 o12p3 o12p4 o12l1 o12l2 o12l3 o12b o12w o12f o12s hvc0
    replace HE := Lib.hid (HE.out.trans (hbv69.mono (by omega)))
    replace HAS := Lib.hid (HAS.out.below hbv69 (by omega))
    replace HAX0 := Lib.hid (HAX0.out.below hbv69 (by omega))
    replace HAG := Lib.hid (HAG.out.below hbv69 (by omega))
    replace HAH := Lib.hid (HAH.out.below hbv69 (by omega))
    have hz70 := hbv69.size
    clear hbv69
    go_wp2_with fail
    go_ret
    exact ⟨rfl, ((HKE.out _ (HE.out)).1).2⟩
  · go_wp2_with fail
    go_ret
    exact ⟨rfl, ((HKE.out _ (HE.out)).1).2⟩

set_option maxRecDepth 100000 in
theorem lifted (os : Os) (started : os.Started) (H : Type) (enc : TypeId × Value → H) :
    ReturnsInHanded {} Try.checked os 6 .any (Rows.fnExactTellSpec.pre6 enc Try.prog Try.f6 Rows.fnExactTellRow.domain false) (Rows.fnExactTellSpec.post enc Try.prog Try.f6 false true false false) := by
  refine returnsInHanded_of_change (C := Try.checked) own started (by kernel_rfl) Try.func6
    (ChangeSpec.witness6 (enc := enc) (C := Try.checked) false ⟨#[], #[.agg #[.int .i64 0, .int .i64 0, .slice none 0 0, .int .i64 0, .slice none 0 0], .agg #[.int .i64 0, .int .i64 0, .int .i64 0, .bool false]], []⟩ 8 (by kernel_rfl) (by kernel_rfl) (by kernel_rfl) (by kernel_rfl)) ?_
  intro W base args ds gs before hval0 hW hcnd _
  have hval : ∀ (j : Nat) t v, Try.f6.params[j]? = some t → args[j]? = some v → Value.okWide Try.prog W .any base t v := hval0
  have hW' := hW
  obtain ⟨p, q, hA0, hV, rfl, hfz, hnd⟩ := hW
  have hA : DataW.TrodAll enc Try.prog W 0 (fun _ => true) true Try.f6.params.toList args.toList ds p := hA0
  rw [Try.params6] at hA hval
  obtain ⟨v0, vs0, d0, ds0, p0, q0, hargs, rfl, rfl, h0, r0⟩ := trodAll_cons hA
  obtain ⟨v1, vs1, d1, ds1, p1, q1, rfl, rfl, rfl, h1, r1⟩ := trodAll_cons r0
  obtain ⟨rfl, rfl, rfl⟩ := trodAll_nil r1
  obtain rfl : args = #[v0, v1] := by cases args; simp_all
  obtain ⟨rfl, rfl⟩ := trodVars_none hV
  obtain ⟨cs0, rfl, _⟩ := okWide_struct Try.underlying32 (hval 0 32 v0 rfl rfl)
  obtain ⟨vc0, rfl⟩ : ∃ l : List Value, cs0 = l.toArray := ⟨cs0.toList, by simp⟩
  have k0 := h0
  have lt0 : ∀ x ∈ p0, x.block < W.heap.size := by obtain ⟨m, hm⟩ := k0; exact DataW.trod_lt m _ _ _ hm
  obtain ⟨x0, s0'⟩ := (opensGor).arg h0
  have s0 : layGor.see W W.heap.size x0 vc0 := by simpa [Value.cells] using s0'
  obtain ⟨cs1, rfl, _⟩ := okWide_struct Try.underlying39 (hval 1 39 v1 rfl rfl)
  obtain ⟨vc1, rfl⟩ : ∃ l : List Value, cs1 = l.toArray := ⟨cs1.toList, by simp⟩
  have k1 := h1
  have lt1 : ∀ x ∈ p1, x.block < W.heap.size := by obtain ⟨m, hm⟩ := k1; exact DataW.trod_lt m _ _ _ hm
  obtain ⟨x1, s1'⟩ := (opensItem).arg h1
  have s1 : layItem.see W W.heap.size x1 vc1 := by simpa [Value.cells] using s1'
  clear hA0 hval0
  refine (walk W x0 _ s0 x1 _ s1).mono fun e W' ⟨he, bel⟩ => ?_
  subst he
  exact ⟨_, rfl, _, _, _, [], _, [], hW', trodAll_mk1 (shut_bool Try.underlying4 _), (trodAll_cons_mk (Below.trod laidOut (by kernel_rfl) (of_decide_eq_true (by kernel_rfl)) k0 bel lt0) (trodAll_cons_mk (Below.trod laidOut (by kernel_rfl) (of_decide_eq_true (by kernel_rfl)) k1 bel lt1) trodAll_mk0)), rfl, bel.frame _, fun h => by cases h⟩

theorem over : Rows.fnExactTellRow.holds Try.pinned (OpenSpec.ofChange Rows.fnExactTellSpec) :=
  OpenClaim.holds_of_wide 6 Try.f6 rfl rfl rfl rfl rfl rfl rfl ⟨rfl, rfl, rfl, rfl, rfl⟩ rfl rfl rfl rfl rfl (by kernel_rfl) Try.func6 (by kernel_rfl)
    (of_decide_eq_true (by kernel_rfl)) (by unfold Func.isWrapper; first | (rw [if_pos (by decide +kernel)]; kernel_rfl) | (rw [if_neg (by decide +kernel)]; exact ⟨rfl, rfl⟩))
    (fun os started H enc _ => lifted os started H enc)

theorem proved : Rows.FnExactTellSaid := over
#print axioms proved
end Go.Proofs.Ytakogbpjijbpeaa.fnExactTell
