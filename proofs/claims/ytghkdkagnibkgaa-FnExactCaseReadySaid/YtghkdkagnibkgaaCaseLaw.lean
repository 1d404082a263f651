/- CaseReady answers as its model at every engine and case, writes into no argument, and ends. -/
import Derived.Test.YtghkdkagnibkgaaRows
import Derived.WalkKit
import Derived.Test.YtghkdkagnibkgaaCaseL
import Derived.Test.YtghkdkagnibkgaaCaseS
import Derived.Test.YtghkdkagnibkgaaGM
import Derived.Lib.Hide
import Derived.ProofKit
import Derived.OpenShut
import Derived.ShutString
import Derived.ChangeOld
import Derived.Below
namespace Go.Proofs.Ytghkdkagnibkgaa.fnExactCaseReady
open Go.ChangeShapes Go.WideShapes Go.ChangeAt Go.RowKit
open Go.ChangeMaps (open_string shut_string)
set_option linter.unusedVariables false
set_option linter.unusedSimpArgs false

theorem own : ownKnob Try.prog.godebug = none := by kernel_rfl
theorem laidOut : laidOutB Try.prog = true := by kernel_rfl

set_option maxRecDepth 100000 in
set_option maxHeartbeats 20000000 in
theorem walk (w : World) (x0 : DEng) (vs0 : List Value) (s0 : layEng.see w w.heap.size x0 vs0) (x1 : DCase) (vs1 : List Value) (s1 : layCase.see w w.heap.size x1 vs1) :
    Calls Try.prog 3 #[.agg vs0.toArray, .agg vs1.toArray] w fun e w' => e = .returned (.bool true) ∧ Below w.heap.size w w' := by
  obtain ⟨p0A0, p0n0, p0c0, p0A1, p0n1, p0c1, p0A2, p0n2, p0c2, rfl, -⟩ := seeEng s0
  obtain ⟨rfl, hwf1⟩ := s1
  have HV1 := Lib.hid hwf1
  clear hwf1
  have hWE : Below w.heap.size w ((w.alloc (.cells #[.slice p0A0 p0n0 p0c0, .slice p0A1 p0n1 p0c1, .slice p0A2 p0n2 p0c2] 26)).alloc (.cells #[.bool x1.fSend, .int .i64 x1.fChan, .int .i64 x1.fReg, .int .i64 x1.fOk, .int .i64 x1.fTo] 28)) := (((Below.refl _ _).alloc (Nat.le_refl _) _).alloc (by simp only [World.size_alloc]; omega) _)
  have hzE : w.heap.size + 2 ≤ ((w.alloc (.cells #[.slice p0A0 p0n0 p0c0, .slice p0A1 p0n1 p0c1, .slice p0A2 p0n2 p0c2] 26)).alloc (.cells #[.bool x1.fSend, .int .i64 x1.fChan, .int .i64 x1.fReg, .int .i64 x1.fOk, .int .i64 x1.fTo] 28)).heap.size := by simp
  have hbx0 := box_new w #[.slice p0A0 p0n0 p0c0, .slice p0A1 p0n1 p0c1, .slice p0A2 p0n2 p0c2] 26
  have hbx0 := box_keep hbx0 ((Below.refl _ _).alloc (Nat.le_refl _) (.cells #[.bool x1.fSend, .int .i64 x1.fChan, .int .i64 x1.fReg, .int .i64 x1.fOk, .int .i64 x1.fTo] 28)) (by simp only [World.size_alloc]; omega)
  have hbx1 := box_new (w.alloc (.cells #[.slice p0A0 p0n0 p0c0, .slice p0A1 p0n1 p0c1, .slice p0A2 p0n2 p0c2] 26)) #[.bool x1.fSend, .int .i64 x1.fChan, .int .i64 x1.fReg, .int .i64 x1.fOk, .int .i64 x1.fTo] 28
  simp only [World.size_alloc, Nat.add_assoc, Nat.reduceAdd] at hbx1
  have HKE := Lib.hid (fun (W : World) (hW : Below (w.heap.size + 2) ((w.alloc (.cells #[.slice p0A0 p0n0 p0c0, .slice p0A1 p0n1 p0c1, .slice p0A2 p0n2 p0c2] 26)).alloc (.cells #[.bool x1.fSend, .int .i64 x1.fChan, .int .i64 x1.fReg, .int .i64 x1.fOk, .int .i64 x1.fTo] 28)) W) => show (w.heap.size + 2 ≤ W.heap.size ∧ Below w.heap.size w W) ∧ layEng.see W w.heap.size x0 [.slice p0A0 p0n0 p0c0, .slice p0A1 p0n1 p0c1, .slice p0A2 p0n2 p0c2] ∧ W.heap[w.heap.size]? = some (.cells #[.slice p0A0 p0n0 p0c0, .slice p0A1 p0n1 p0c1, .slice p0A2 p0n2 p0c2] 26 (0, 0)) ∧ W.heap[w.heap.size + 1]? = some (.cells #[.bool x1.fSend, .int .i64 x1.fChan, .int .i64 x1.fReg, .int .i64 x1.fOk, .int .i64 x1.fTo] 28 (0, 0)) ∧ True from ⟨⟨Nat.le_trans hzE hW.size, hWE.trans (hW.mono (by omega))⟩, layEng.keep s0 (fun k hk => (hW.block k (by omega)).trans (hWE.block k hk)), box_keep hbx0 hW (by omega), box_keep hbx1 hW (by omega), trivial⟩)
  have HE := Lib.hid (show Below (w.heap.size + 2) ((w.alloc (.cells #[.slice p0A0 p0n0 p0c0, .slice p0A1 p0n1 p0c1, .slice p0A2 p0n2 p0c2] 26)).alloc (.cells #[.bool x1.fSend, .int .i64 x1.fChan, .int .i64 x1.fReg, .int .i64 x1.fOk, .int .i64 x1.fTo] 28)) ((w.alloc (.cells #[.slice p0A0 p0n0 p0c0, .slice p0A1 p0n1 p0c1, .slice p0A2 p0n2 p0c2] 26)).alloc (.cells #[.bool x1.fSend, .int .i64 x1.fChan, .int .i64 x1.fReg, .int .i64 x1.fOk, .int .i64 x1.fTo] 28)) from Below.refl _ _)
  clear hWE hzE hbx0 hbx1 s0
  go_enter Try.func3, Try.ntmps3
  have pe1_0 := box_cell (j := 0) ((HKE.out _ HE.out).2.2.1) rfl
  have pe1_1 := box_cell (j := 1) ((HKE.out _ HE.out).2.2.1) rfl
  have pe1_2 := box_cell (j := 2) ((HKE.out _ HE.out).2.2.1) rfl
  have zE2 := ((HKE.out _ HE.out).1).1
  go_wp2_with fail
  refine (szEng_any (l := 1048576) ((HKE.out _ HE.out).2.1) (by omega) (Nat.le_refl _)).mono ?_
  rintro e v2 ⟨hbv2, hcase⟩
  have hzv2 := hbv2.size
  simp only [World.size_alloc, Nat.add_assoc, Nat.reduceAdd] at hzv2
  replace HE := Lib.hid (HE.out.trans (hbv2.mono (by simp only [World.size_alloc]; omega)))
  clear hbv2 pe1_0 pe1_1 pe1_2
  rcases hcase with ⟨hq0, rfl⟩ | ⟨hq0, rfl⟩
  · skip
    have hle0 : szEng x0 ≤ 1048576 := by omega
    have HSP := Lib.hid (fun (W : World) (hi : Nat) (vs0 : List Value) (h0 : layEng.see W hi x0 vs0) (hhi : hi ≤ W.heap.size) (hW : Below w.heap.size w W) => specCase_any h0 hhi x1.fSend x1.fChan x1.fReg x1.fOk x1.fTo)
    have HIM := Lib.hid (fun (W : World) (hi : Nat) (vs0 : List Value) (h0 : layEng.see W hi x0 vs0) (hhi : hi ≤ W.heap.size) (hW : Below w.heap.size w W) => implCase_any h0 hhi hle0 x1.fSend x1.fChan x1.fReg x1.fOk x1.fTo)
    generalize (canB x0 x1) = r at *
    have hneq : (r != r) = false := by simp
    have zE4 := ((HKE.out _ HE.out).1).1
    go_upto_region 5 with (fail)
    refine wp_region_inv (fun AC0 L a W => ∃ sl14 sl15 sl16 sl17 sl18 sl6 : Value, a = ((((((AC0.put (some 14) sl14).put (some 15) sl15).put (some 16) sl16).put (some 17) sl17).put (some 18) sl18).put (some 6) sl6) ∧ Below v2.heap.size v2 W ∧ ((L 0 → sl14 = (.agg #[.slice p0A0 p0n0 p0c0, .slice p0A1 p0n1 p0c1, .slice p0A2 p0n2 p0c2])) ∧ (L 1 → SeeAt layEng W x0 sl15) ∧ (L 2 → sl16 = (.agg #[.bool x1.fSend, .int .i64 x1.fChan, .int .i64 x1.fReg, .int .i64 x1.fOk, .int .i64 x1.fTo])) ∧ (L 3 → sl17 = (.agg #[.bool x1.fSend, .int .i64 x1.fChan, .int .i64 x1.fReg, .int .i64 x1.fOk, .int .i64 x1.fTo])) ∧ (L 4 → sl18 = (.bool r)) ∧ (L 5 → sl6 = (.bool r)))) (by kernel_rfl) (by kernel_rfl) ?_ ?_ ?_
    · exact ⟨undef, undef, undef, undef, undef, undef, by simp only [Act.put, List.setIfInBounds_toArray, List.set_cons_zero, List.set_cons_succ], Below.drew (Below.refl _ _), fun h => absurd h id, fun h => absurd h id, fun h => absurd h id, fun h => absurd h id, fun h => absurd h id, fun h => absurd h id⟩
    · intro Q9; refine InvFrom.cons (fun L a W hI hN hD K hK => ?_) ?_
      · obtain ⟨sl14, sl15, sl16, sl17, sl18, sl6, ha, hB, f0, f1, f2, f3, f4, f5⟩ := hI
        subst ha
        have hz := hB.size
        have hW := (HKE.out W (HE.out.trans (hB.mono (by omega))))
        have pc0 := box_cell (j := 0) hW.2.2.1 rfl
        have pc1 := box_cell (j := 1) hW.2.2.1 rfl
        have pc2 := box_cell (j := 2) hW.2.2.1 rfl
        refine Kept.mk ?_
        simp only [Act.put, List.setIfInBounds_toArray, List.set_cons_zero, List.set_cons_succ]
        go_simp
        refine hK.out _ _ ?_
        exact ⟨(.agg #[.slice p0A0 p0n0 p0c0, .slice p0A1 p0n1 p0c1, .slice p0A2 p0n2 p0c2]), sl15, sl16, sl17, sl18, sl6, by simp only [Act.put, List.setIfInBounds_toArray, List.set_cons_zero, List.set_cons_succ], hB, fun _ => rfl, fun h => f1 (nx h), fun h => f2 (nx h), fun h => f3 (nx h), fun h => f4 (nx h), fun h => f5 (nx h)⟩
      refine InvFrom.cons (fun L a W hI hN hD K hK => ?_) ?_
      · obtain ⟨sl14, sl15, sl16, sl17, sl18, sl6, ha, hB, f0, f1, f2, f3, f4, f5⟩ := hI
        subst ha
        have hz := hB.size
        have d0 := f0 (hD 0 (by kernel_rfl))
        subst d0
        have hW := (HKE.out W (HE.out.trans (hB.mono (by omega))))
        refine kept_c1 rfl 6 _ _ rfl (fenters_of' Try.func6 (by kernel_rfl) (by kernel_rfl)) (.agg #[.slice p0A0 p0n0 p0c0, .slice p0A1 p0n1 p0c1, .slice p0A2 p0n2 p0c2]) (by kernel_rfl) (toEng_any hW.2.1 (by omega) hle0) ?_
        rintro e W1 ⟨u1, rfl, own1, hb1⟩
        refine ⟨_, rfl, hK.out _ _ ?_⟩
        exact ⟨(.agg #[.slice p0A0 p0n0 p0c0, .slice p0A1 p0n1 p0c1, .slice p0A2 p0n2 p0c2]), (.agg u1.toArray), sl16, sl17, sl18, sl6, by simp only [Act.put, List.setIfInBounds_toArray, List.set_cons_zero, List.set_cons_succ], hB.trans (hb1.mono hz), fun h => f0 (nx h), fun _ => ⟨_, rfl, layEng.seen (hi := W1.heap.size) own1 (fun g hg => hg.2)⟩, fun h => f2 (nx h), fun h => f3 (nx h), fun h => f4 (nx h), fun h => f5 (nx h)⟩
      refine InvFrom.cons (fun L a W hI hN hD K hK => ?_) ?_
      · obtain ⟨sl14, sl15, sl16, sl17, sl18, sl6, ha, hB, f0, f1, f2, f3, f4, f5⟩ := hI
        subst ha
        have hz := hB.size
        have hW := (HKE.out W (HE.out.trans (hB.mono (by omega))))
        have pc0 := box_cell (j := 0) hW.2.2.2.1 rfl
        have pc1 := box_cell (j := 1) hW.2.2.2.1 rfl
        have pc2 := box_cell (j := 2) hW.2.2.2.1 rfl
        have pc3 := box_cell (j := 3) hW.2.2.2.1 rfl
        have pc4 := box_cell (j := 4) hW.2.2.2.1 rfl
        refine Kept.mk ?_
        simp only [Act.put, List.setIfInBounds_toArray, List.set_cons_zero, List.set_cons_succ]
        go_simp
        refine hK.out _ _ ?_
        exact ⟨sl14, sl15, (.agg #[.bool x1.fSend, .int .i64 x1.fChan, .int .i64 x1.fReg, .int .i64 x1.fOk, .int .i64 x1.fTo]), sl17, sl18, sl6, by simp only [Act.put, List.setIfInBounds_toArray, List.set_cons_zero, List.set_cons_succ], hB, fun h => f0 (nx h), fun h => f1 (nx h), fun _ => rfl, fun h => f3 (nx h), fun h => f4 (nx h), fun h => f5 (nx h)⟩
      refine InvFrom.cons (fun L a W hI hN hD K hK => ?_) ?_
      · obtain ⟨sl14, sl15, sl16, sl17, sl18, sl6, ha, hB, f0, f1, f2, f3, f4, f5⟩ := hI
        subst ha
        have hz := hB.size
        have d1 := f1 (hD 1 (by kernel_rfl))
        obtain ⟨uy0, rfl, sy0⟩ := d1
        have d2 := f2 (hD 2 (by kernel_rfl))
        subst d2
        refine kept_c1 rfl 7 _ _ rfl (fenters_of' Try.func7 (by kernel_rfl) (by kernel_rfl)) (.agg #[.bool x1.fSend, .int .i64 x1.fChan, .int .i64 x1.fReg, .int .i64 x1.fOk, .int .i64 x1.fTo]) (by kernel_rfl) (toCase_any (hi := 0) (x := x1) ⟨rfl, HV1.out⟩) ?_
        rintro e W1 ⟨_, rfl, ⟨rfl, -⟩, hb1⟩
        refine ⟨_, rfl, hK.out _ _ ?_⟩
        exact ⟨sl14, (.agg uy0.toArray), (.agg #[.bool x1.fSend, .int .i64 x1.fChan, .int .i64 x1.fReg, .int .i64 x1.fOk, .int .i64 x1.fTo]), (.agg #[.bool x1.fSend, .int .i64 x1.fChan, .int .i64 x1.fReg, .int .i64 x1.fOk, .int .i64 x1.fTo]), sl18, sl6, by simp only [Act.put, List.setIfInBounds_toArray, List.set_cons_zero, List.set_cons_succ], hB.trans (hb1.mono hz), fun h => f0 (nx h), fun h => (f1 (nx h)).up hb1, fun h => f2 (nx h), fun _ => rfl, fun h => f4 (nx h), fun h => f5 (nx h)⟩
      refine InvFrom.cons (fun L a W hI hN hD K hK => ?_) ?_
      · obtain ⟨sl14, sl15, sl16, sl17, sl18, sl6, ha, hB, f0, f1, f2, f3, f4, f5⟩ := hI
        subst ha
        have hz := hB.size
        have d1 := f1 (hD 1 (by kernel_rfl))
        obtain ⟨uy0, rfl, sy0⟩ := d1
        have d3 := f3 (hD 3 (by kernel_rfl))
        subst d3
        have hW := (HKE.out W (HE.out.trans (hB.mono (by omega))))
        refine kept_c2 rfl 5 _ _ _ rfl (fenters_of' Try.func5 (by kernel_rfl) (by kernel_rfl)) (.agg uy0.toArray) (.agg #[.bool x1.fSend, .int .i64 x1.fChan, .int .i64 x1.fReg, .int .i64 x1.fOk, .int .i64 x1.fTo]) (by kernel_rfl) (by kernel_rfl) (HSP.out W W.heap.size _ sy0 (Nat.le_refl _) hW.1.2) ?_
        rintro e W1 ⟨rfl, hb9⟩
        refine ⟨_, rfl, hK.out _ _ ?_⟩
        exact ⟨sl14, (.agg uy0.toArray), sl16, (.agg #[.bool x1.fSend, .int .i64 x1.fChan, .int .i64 x1.fReg, .int .i64 x1.fOk, .int .i64 x1.fTo]), (.bool r), sl6, by simp only [Act.put, List.setIfInBounds_toArray, List.set_cons_zero, List.set_cons_succ], hB.trans (hb9.mono hz), fun h => f0 (nx h), fun h => (f1 (nx h)).up hb9, fun h => f2 (nx h), fun h => f3 (nx h), fun _ => rfl, fun h => f5 (nx h)⟩
      refine InvFrom.cons (fun L a W hI hN hD K hK => ?_) ?_
      · obtain ⟨sl14, sl15, sl16, sl17, sl18, sl6, ha, hB, f0, f1, f2, f3, f4, f5⟩ := hI
        subst ha
        have hz := hB.size
        have d0 := f0 (hD 0 (by kernel_rfl))
        subst d0
        have d1 := f1 (hD 1 (by kernel_rfl))
        obtain ⟨uy0, rfl, sy0⟩ := d1
        have d2 := f2 (hD 2 (by kernel_rfl))
        subst d2
        have d3 := f3 (hD 3 (by kernel_rfl))
        subst d3
        have d4 := f4 (hD 4 (by kernel_rfl))
        subst d4
        refine Kept.mk ?_
        simp only [Act.put, List.setIfInBounds_toArray, List.set_cons_zero, List.set_cons_succ]
        go_simp
        refine hK.out _ _ ?_
        exact ⟨(.agg #[.slice p0A0 p0n0 p0c0, .slice p0A1 p0n1 p0c1, .slice p0A2 p0n2 p0c2]), (.agg uy0.toArray), (.agg #[.bool x1.fSend, .int .i64 x1.fChan, .int .i64 x1.fReg, .int .i64 x1.fOk, .int .i64 x1.fTo]), (.agg #[.bool x1.fSend, .int .i64 x1.fChan, .int .i64 x1.fReg, .int .i64 x1.fOk, .int .i64 x1.fTo]), (.bool r), (.bool r), by simp only [Act.put, List.setIfInBounds_toArray, List.set_cons_zero, List.set_cons_succ], hB, fun h => f0 (nx h), fun h => f1 (nx h), fun h => f2 (nx h), fun h => f3 (nx h), fun h => f4 (nx h), fun _ => rfl⟩
      exact InvFrom.nil
    intro L a v4 hL hI
    obtain ⟨sl14, sl15, sl16, sl17, sl18, sl6, ha, hbv4, hI⟩ := hI
    subst ha
    have hfin := hI.2.2.2.2.2 (hL 5 (by decide))
    subst hfin
    clear hL hI
    refine Kept.mk ?_
    simp only [Act.put, List.setIfInBounds_toArray, List.set_cons_zero, List.set_cons_succ]
    have hzv4 := hbv4.size
    replace HE := Lib.hid (HE.out.trans (hbv4.mono (by omega)))
    clear hbv4
    have pe6_0 := box_cell (j := 0) ((HKE.out _ HE.out).2.2.1) rfl
    have pe6_1 := box_cell (j := 1) ((HKE.out _ HE.out).2.2.1) rfl
    have pe6_2 := box_cell (j := 2) ((HKE.out _ HE.out).2.2.1) rfl
    have zE7 := ((HKE.out _ HE.out).1).1
    go_wp2_with fail
    refine (toEng_any ((HKE.out _ HE.out).2.1) (by omega) hle0).mono ?_
    rintro e v7 ⟨uv7, rfl, ownv7, hbv7⟩
    have hzv7 := hbv7.size
    replace HE := Lib.hid (HE.out.trans (hbv7.mono (by omega)))
    clear hbv7 pe6_0 pe6_1 pe6_2
    have seev7 := layEng.seen (hi := v7.heap.size) ownv7 fun g hg => hg.2
    obtain ⟨q0A0, q0n0, q0c0, q0A1, q0n1, q0c1, q0A2, q0n2, q0c2, rfl, -⟩ := seeEng seev7
    have hal : Below v7.heap.size v7 (v7.alloc (.cells #[.slice q0A0 q0n0 q0c0, .slice q0A1 q0n1 q0c1, .slice q0A2 q0n2 q0c2] 35)) := (Below.refl _ _).alloc (Nat.le_refl _) _
    have hbx := box_new v7 #[.slice q0A0 q0n0 q0c0, .slice q0A1 q0n1 q0c1, .slice q0A2 q0n2 q0c2] 35
    replace seev7 := layEng.keep seev7 (fun k hk => hal.block k hk)
    have hza : v7.heap.size + 1 ≤ (v7.alloc (.cells #[.slice q0A0 q0n0 q0c0, .slice q0A1 q0n1 q0c1, .slice q0A2 q0n2 q0c2] 35)).heap.size := by simp
    replace HE := Lib.hid (HE.out.trans (hal.mono (by omega)))
    clear hal ownv7
    go_upto_region 7 with (fail)
    generalize (v7.alloc (.cells #[.slice q0A0 q0n0 q0c0, .slice q0A1 q0n1 q0c1, .slice q0A2 q0n2 q0c2] 35)) = vX0 at *
    have HKX0 := Lib.hid (fun (W : World) (hW : Below vX0.heap.size vX0 W) => show vX0.heap.size ≤ W.heap.size ∧ v7.heap.size < vX0.heap.size ∧ layEng.see W v7.heap.size x0 [.slice q0A0 q0n0 q0c0, .slice q0A1 q0n1 q0c1, .slice q0A2 q0n2 q0c2] ∧ W.heap[v7.heap.size]? = some (.cells #[.slice q0A0 q0n0 q0c0, .slice q0A1 q0n1 q0c1, .slice q0A2 q0n2 q0c2] 35 (0, 0)) from ⟨hW.size, by omega, layEng.keep seev7 (fun k hk => hW.block k (by omega)), box_keep hbx hW (by omega)⟩)
    have HX0 := Lib.hid (Below.refl vX0.heap.size vX0)
    clear hbx seev7 hza
    have pe9_0 := box_cell (j := 0) (HKX0.out _ HX0.out).2.2.2 rfl
    have pe9_1 := box_cell (j := 1) (HKX0.out _ HX0.out).2.2.2 rfl
    have pe9_2 := box_cell (j := 2) (HKX0.out _ HX0.out).2.2.2 rfl
    have zx0 := (HKX0.out _ HX0.out).1
    have zy0 := (HKX0.out _ HX0.out).2.1
    clear pe9_0 pe9_1 pe9_2
    go_upto_region 7 with (fail)
    have zE11 := ((HKE.out _ HE.out).1).1
    refine wp_region_inv (fun AC0 L a W => ∃ sl21 sl22 sl23 sl24 sl8 : Value, a = (((((AC0.put (some 21) sl21).put (some 22) sl22).put (some 23) sl23).put (some 24) sl24).put (some 8) sl8) ∧ Below vX0.heap.size vX0 W ∧ ((L 0 → sl21 = (.agg #[.slice q0A0 q0n0 q0c0, .slice q0A1 q0n1 q0c1, .slice q0A2 q0n2 q0c2])) ∧ (L 1 → sl22 = (.agg #[.bool x1.fSend, .int .i64 x1.fChan, .int .i64 x1.fReg, .int .i64 x1.fOk, .int .i64 x1.fTo])) ∧ (L 2 → sl23 = (.agg #[.bool x1.fSend, .int .i64 x1.fChan, .int .i64 x1.fReg, .int .i64 x1.fOk, .int .i64 x1.fTo])) ∧ (L 3 → sl24 = (.bool r)) ∧ (L 4 → sl8 = (.bool r)))) (by kernel_rfl) (by kernel_rfl) ?_ ?_ ?_
    · exact ⟨undef, undef, undef, undef, undef, by simp only [Act.put, List.setIfInBounds_toArray, List.set_cons_zero, List.set_cons_succ], Below.drew (Below.refl _ _), fun h => absurd h id, fun h => absurd h id, fun h => absurd h id, fun h => absurd h id, fun h => absurd h id⟩
    · intro Q9; refine InvFrom.cons (fun L a W hI hN hD K hK => ?_) ?_
      · obtain ⟨sl21, sl22, sl23, sl24, sl8, ha, hB, f0, f1, f2, f3, f4⟩ := hI
        subst ha
        have hz := hB.size
        have hX := (HKX0.out W (HX0.out.trans (hB.mono (by omega)))).2.2.2
        have pc0 := box_cell (j := 0) hX rfl
        have pc1 := box_cell (j := 1) hX rfl
        have pc2 := box_cell (j := 2) hX rfl
        refine Kept.mk ?_
        simp only [Act.put, List.setIfInBounds_toArray, List.set_cons_zero, List.set_cons_succ]
        go_simp
        refine hK.out _ _ ?_
        exact ⟨(.agg #[.slice q0A0 q0n0 q0c0, .slice q0A1 q0n1 q0c1, .slice q0A2 q0n2 q0c2]), sl22, sl23, sl24, sl8, by simp only [Act.put, List.setIfInBounds_toArray, List.set_cons_zero, List.set_cons_succ], hB, fun _ => rfl, fun h => f1 (nx h), fun h => f2 (nx h), fun h => f3 (nx h), fun h => f4 (nx h)⟩
      refine InvFrom.cons (fun L a W hI hN hD K hK => ?_) ?_
      · obtain ⟨sl21, sl22, sl23, sl24, sl8, ha, hB, f0, f1, f2, f3, f4⟩ := hI
        subst ha
        have hz := hB.size
        have hW := (HKE.out W (HE.out.trans (hB.mono (by omega))))
        have pc0 := box_cell (j := 0) hW.2.2.2.1 rfl
        have pc1 := box_cell (j := 1) hW.2.2.2.1 rfl
        have pc2 := box_cell (j := 2) hW.2.2.2.1 rfl
        have pc3 := box_cell (j := 3) hW.2.2.2.1 rfl
        have pc4 := box_cell (j := 4) hW.2.2.2.1 rfl
        refine Kept.mk ?_
        simp only [Act.put, List.setIfInBounds_toArray, List.set_cons_zero, List.set_cons_succ]
        go_simp
        refine hK.out _ _ ?_
        exact ⟨sl21, (.agg #[.bool x1.fSend, .int .i64 x1.fChan, .int .i64 x1.fReg, .int .i64 x1.fOk, .int .i64 x1.fTo]), sl23, sl24, sl8, by simp only [Act.put, List.setIfInBounds_toArray, List.set_cons_zero, List.set_cons_succ], hB, fun h => f0 (nx h), fun _ => rfl, fun h => f2 (nx h), fun h => f3 (nx h), fun h => f4 (nx h)⟩
      refine InvFrom.cons (fun L a W hI hN hD K hK => ?_) ?_
      · obtain ⟨sl21, sl22, sl23, sl24, sl8, ha, hB, f0, f1, f2, f3, f4⟩ := hI
        subst ha
        have hz := hB.size
        have d1 := f1 (hD 1 (by kernel_rfl))
        subst d1
        refine kept_c1 rfl 7 _ _ rfl (fenters_of' Try.func7 (by kernel_rfl) (by kernel_rfl)) (.agg #[.bool x1.fSend, .int .i64 x1.fChan, .int .i64 x1.fReg, .int .i64 x1.fOk, .int .i64 x1.fTo]) (by kernel_rfl) (toCase_any (hi := 0) (x := x1) ⟨rfl, HV1.out⟩) ?_
        rintro e W1 ⟨_, rfl, ⟨rfl, -⟩, hb1⟩
        refine ⟨_, rfl, hK.out _ _ ?_⟩
        exact ⟨sl21, (.agg #[.bool x1.fSend, .int .i64 x1.fChan, .int .i64 x1.fReg, .int .i64 x1.fOk, .int .i64 x1.fTo]), (.agg #[.bool x1.fSend, .int .i64 x1.fChan, .int .i64 x1.fReg, .int .i64 x1.fOk, .int .i64 x1.fTo]), sl24, sl8, by simp only [Act.put, List.setIfInBounds_toArray, List.set_cons_zero, List.set_cons_succ], hB.trans (hb1.mono hz), fun h => f0 (nx h), fun h => f1 (nx h), fun _ => rfl, fun h => f3 (nx h), fun h => f4 (nx h)⟩
      refine InvFrom.cons (fun L a W hI hN hD K hK => ?_) ?_
      · obtain ⟨sl21, sl22, sl23, sl24, sl8, ha, hB, f0, f1, f2, f3, f4⟩ := hI
        subst ha
        have hz := hB.size
        have d0 := f0 (hD 0 (by kernel_rfl))
        subst d0
        have d2 := f2 (hD 2 (by kernel_rfl))
        subst d2
        have hW := (HKE.out W (HE.out.trans (hB.mono (by omega))))
        refine kept_c2 rfl 8 _ _ _ rfl (fenters_of' Try.func8 (by kernel_rfl) (by kernel_rfl)) (.agg #[.slice q0A0 q0n0 q0c0, .slice q0A1 q0n1 q0c1, .slice q0A2 q0n2 q0c2]) (.agg #[.bool x1.fSend, .int .i64 x1.fChan, .int .i64 x1.fReg, .int .i64 x1.fOk, .int .i64 x1.fTo]) (by kernel_rfl) (by kernel_rfl) (HIM.out W W.heap.size _ (layEng.more (HKX0.out W (HX0.out.trans (hB.mono (by omega)))).2.2.1 (by omega)) (Nat.le_refl _) hW.1.2) ?_
        rintro e W1 ⟨rfl, hb9⟩
        refine ⟨_, rfl, hK.out _ _ ?_⟩
        exact ⟨(.agg #[.slice q0A0 q0n0 q0c0, .slice q0A1 q0n1 q0c1, .slice q0A2 q0n2 q0c2]), sl22, (.agg #[.bool x1.fSend, .int .i64 x1.fChan, .int .i64 x1.fReg, .int .i64 x1.fOk, .int .i64 x1.fTo]), (.bool r), sl8, by simp only [Act.put, List.setIfInBounds_toArray, List.set_cons_zero, List.set_cons_succ], hB.trans (hb9.mono hz), fun h => f0 (nx h), fun h => f1 (nx h), fun h => f2 (nx h), fun _ => rfl, fun h => f4 (nx h)⟩
      refine InvFrom.cons (fun L a W hI hN hD K hK => ?_) ?_
      · obtain ⟨sl21, sl22, sl23, sl24, sl8, ha, hB, f0, f1, f2, f3, f4⟩ := hI
        subst ha
        have hz := hB.size
        have d0 := f0 (hD 0 (by kernel_rfl))
        subst d0
        have d1 := f1 (hD 1 (by kernel_rfl))
        subst d1
        have d2 := f2 (hD 2 (by kernel_rfl))
        subst d2
        have d3 := f3 (hD 3 (by kernel_rfl))
        subst d3
        refine Kept.mk ?_
        simp only [Act.put, List.setIfInBounds_toArray, List.set_cons_zero, List.set_cons_succ]
        go_simp
        refine hK.out _ _ ?_
        exact ⟨(.agg #[.slice q0A0 q0n0 q0c0, .slice q0A1 q0n1 q0c1, .slice q0A2 q0n2 q0c2]), (.agg #[.bool x1.fSend, .int .i64 x1.fChan, .int .i64 x1.fReg, .int .i64 x1.fOk, .int .i64 x1.fTo]), (.agg #[.bool x1.fSend, .int .i64 x1.fChan, .int .i64 x1.fReg, .int .i64 x1.fOk, .int .i64 x1.fTo]), (.bool r), (.bool r), by simp only [Act.put, List.setIfInBounds_toArray, List.set_cons_zero, List.set_cons_succ], hB, fun h => f0 (nx h), fun h => f1 (nx h), fun h => f2 (nx h), fun h => f3 (nx h), fun _ => rfl⟩
      exact InvFrom.nil
    intro L a v9 hL hI
    obtain ⟨sl21, sl22, sl23, sl24, sl8, ha, hbv9, hI⟩ := hI
    subst ha
    have hfin := hI.2.2.2.2 (hL 4 (by decide))
    subst hfin
    clear hL hI
    refine Kept.mk ?_
    simp only [Act.put, List.setIfInBounds_toArray, List.set_cons_zero, List.set_cons_succ]
    have hzv9 := hbv9.size
    replace HE := Lib.hid (HE.out.trans (hbv9.mono (by omega)))
    replace HX0 := Lib.hid (HX0.out.trans (hbv9.mono (by omega)))
    clear hbv9
    have zE12 := ((HKE.out _ HE.out).1).1
    have zx := (HKX0.out _ HX0.out).1
    have zy := (HKX0.out _ HX0.out).2.1
    go_upto_region 10 with (fail)
    refine wp_region_inv (fun AC0 L a W => ∃ sl28 sl29 sl30 sl31 sl32 : Value, a = (((((AC0.put (some 28) sl28).put (some 29) sl29).put (some 30) sl30).put (some 31) sl31).put (some 32) sl32) ∧ Below v9.heap.size v9 W ∧ ((L 0 → sl28 = (.agg #[.slice q0A0 q0n0 q0c0, .slice q0A1 q0n1 q0c1, .slice q0A2 q0n2 q0c2])) ∧ (L 1 → sl29 = (.agg #[.slice p0A0 p0n0 p0c0, .slice p0A1 p0n1 p0c1, .slice p0A2 p0n2 p0c2])) ∧ (L 2 → SeeAt layEng W x0 sl30) ∧ (L 3 → sl31 = (.bool true)) ∧ (L 4 → sl32 = (.bool false)))) (by kernel_rfl) (by kernel_rfl) ?_ ?_ ?_
    · exact ⟨undef, undef, undef, undef, undef, by simp only [Act.put, List.setIfInBounds_toArray, List.set_cons_zero, List.set_cons_succ], Below.drew (Below.refl _ _), fun h => absurd h id, fun h => absurd h id, fun h => absurd h id, fun h => absurd h id, fun h => absurd h id⟩
    · intro Q9; refine InvFrom.cons (fun L a W hI hN hD K hK => ?_) ?_
      · obtain ⟨sl28, sl29, sl30, sl31, sl32, ha, hB, f0, f1, f2, f3, f4⟩ := hI
        subst ha
        have hz := hB.size
        have hX := (HKX0.out W (HX0.out.trans (hB.mono (by omega)))).2.2.2
        have pc0 := box_cell (j := 0) hX rfl
        have pc1 := box_cell (j := 1) hX rfl
        have pc2 := box_cell (j := 2) hX rfl
        refine Kept.mk ?_
        simp only [Act.put, List.setIfInBounds_toArray, List.set_cons_zero, List.set_cons_succ]
        go_simp
        refine hK.out _ _ ?_
        exact ⟨(.agg #[.slice q0A0 q0n0 q0c0, .slice q0A1 q0n1 q0c1, .slice q0A2 q0n2 q0c2]), sl29, sl30, sl31, sl32, by simp only [Act.put, List.setIfInBounds_toArray, List.set_cons_zero, List.set_cons_succ], hB, fun _ => rfl, fun h => f1 (nx h), fun h => f2 (nx h), fun h => f3 (nx h), fun h => f4 (nx h)⟩
      refine InvFrom.cons (fun L a W hI hN hD K hK => ?_) ?_
      · obtain ⟨sl28, sl29, sl30, sl31, sl32, ha, hB, f0, f1, f2, f3, f4⟩ := hI
        subst ha
        have hz := hB.size
        have hW := (HKE.out W (HE.out.trans (hB.mono (by omega))))
        have pc0 := box_cell (j := 0) hW.2.2.1 rfl
        have pc1 := box_cell (j := 1) hW.2.2.1 rfl
        have pc2 := box_cell (j := 2) hW.2.2.1 rfl
        refine Kept.mk ?_
        simp only [Act.put, List.setIfInBounds_toArray, List.set_cons_zero, List.set_cons_succ]
        go_simp
        refine hK.out _ _ ?_
        exact ⟨sl28, (.agg #[.slice p0A0 p0n0 p0c0, .slice p0A1 p0n1 p0c1, .slice p0A2 p0n2 p0c2]), sl30, sl31, sl32, by simp only [Act.put, List.setIfInBounds_toArray, List.set_cons_zero, List.set_cons_succ], hB, fun h => f0 (nx h), fun _ => rfl, fun h => f2 (nx h), fun h => f3 (nx h), fun h => f4 (nx h)⟩
      refine InvFrom.cons (fun L a W hI hN hD K hK => ?_) ?_
      · obtain ⟨sl28, sl29, sl30, sl31, sl32, ha, hB, f0, f1, f2, f3, f4⟩ := hI
        subst ha
        have hz := hB.size
        have d1 := f1 (hD 1 (by kernel_rfl))
        subst d1
        have hW := (HKE.out W (HE.out.trans (hB.mono (by omega))))
        refine kept_c1 rfl 6 _ _ rfl (fenters_of' Try.func6 (by kernel_rfl) (by kernel_rfl)) (.agg #[.slice p0A0 p0n0 p0c0, .slice p0A1 p0n1 p0c1, .slice p0A2 p0n2 p0c2]) (by kernel_rfl) (toEng_any hW.2.1 (by omega) hle0) ?_
        rintro e W1 ⟨u1, rfl, own1, hb1⟩
        refine ⟨_, rfl, hK.out _ _ ?_⟩
        exact ⟨sl28, (.agg #[.slice p0A0 p0n0 p0c0, .slice p0A1 p0n1 p0c1, .slice p0A2 p0n2 p0c2]), (.agg u1.toArray), sl31, sl32, by simp only [Act.put, List.setIfInBounds_toArray, List.set_cons_zero, List.set_cons_succ], hB.trans (hb1.mono hz), fun h => f0 (nx h), fun h => f1 (nx h), fun _ => ⟨_, rfl, layEng.seen (hi := W1.heap.size) own1 (fun g hg => hg.2)⟩, fun h => f3 (nx h), fun h => f4 (nx h)⟩
      refine InvFrom.cons (fun L a W hI hN hD K hK => ?_) ?_
      · obtain ⟨sl28, sl29, sl30, sl31, sl32, ha, hB, f0, f1, f2, f3, f4⟩ := hI
        subst ha
        have hz := hB.size
        have d0 := f0 (hD 0 (by kernel_rfl))
        subst d0
        have d2 := f2 (hD 2 (by kernel_rfl))
        obtain ⟨uy0, rfl, sy0⟩ := d2
        refine kept_c2 rfl 9 _ _ _ rfl (fenters_of' Try.func9 (by kernel_rfl) (by kernel_rfl)) (.agg #[.slice q0A0 q0n0 q0c0, .slice q0A1 q0n1 q0c1, .slice q0A2 q0n2 q0c2]) (.agg uy0.toArray) (by kernel_rfl) (by kernel_rfl) (eqEng_same (layEng.more (HKX0.out W (HX0.out.trans (hB.mono (by omega)))).2.2.1 (by omega)) sy0 (Nat.le_refl _) (Nat.le_refl _) (Nat.le_trans hle0 (by omega))) ?_
        rintro e W1 ⟨rfl, hb9⟩
        refine ⟨_, rfl, hK.out _ _ ?_⟩
        exact ⟨(.agg #[.slice q0A0 q0n0 q0c0, .slice q0A1 q0n1 q0c1, .slice q0A2 q0n2 q0c2]), sl29, (.agg uy0.toArray), (.bool true), sl32, by simp only [Act.put, List.setIfInBounds_toArray, List.set_cons_zero, List.set_cons_succ], hB.trans (hb9.mono hz), fun h => f0 (nx h), fun h => f1 (nx h), fun h => (f2 (nx h)).up hb9, fun _ => rfl, fun h => f4 (nx h)⟩
      refine InvFrom.cons (fun L a W hI hN hD K hK => ?_) ?_
      · obtain ⟨sl28, sl29, sl30, sl31, sl32, ha, hB, f0, f1, f2, f3, f4⟩ := hI
        subst ha
        have hz := hB.size
        have d3 := f3 (hD 3 (by kernel_rfl))
        subst d3
        refine Kept.mk ?_
        simp only [Act.put, List.setIfInBounds_toArray, List.set_cons_zero, List.set_cons_succ]
        go_simp
        refine hK.out _ _ ?_
        exact ⟨sl28, sl29, sl30, (.bool true), (.bool false), by simp only [Act.put, List.setIfInBounds_toArray, List.set_cons_zero, List.set_cons_succ], hB, fun h => f0 (nx h), fun h => f1 (nx h), fun h => f2 (nx h), fun h => f3 (nx h), fun _ => rfl⟩
      exact InvFrom.nil
    intro L a v12 hL hI
    obtain ⟨sl28, sl29, sl30, sl31, sl32, ha, hbv12, hI⟩ := hI
    subst ha
    have hfin := hI.2.2.2.2 (hL 4 (by decide))
    subst hfin
    clear hL hI
    refine Kept.mk ?_
    simp only [Act.put, List.setIfInBounds_toArray, List.set_cons_zero, List.set_cons_succ]
    have hzv12 := hbv12.size
    clear zx zy
    replace HE := Lib.hid (HE.out.trans (hbv12.mono (by omega)))
    replace HX0 := Lib.hid (HX0.out.trans (hbv12.mono (by omega)))
    clear hbv12
    go_wp2_with fail
    go_ret
    exact ⟨rfl, ((HKE.out _ HE.out).1).2⟩
  · go_wp2_with fail
    go_ret
    exact ⟨rfl, ((HKE.out _ HE.out).1).2⟩

set_option maxRecDepth 100000 in
theorem lifted (os : Os) (started : os.Started) (H : Type) (enc : TypeId × Value → H) :
    ReturnsInHanded {} Try.checked os 3 .any (Rows.fnExactCaseReadySpec.pre6 enc Try.prog Try.f3 Rows.fnExactCaseReadyRow.domain false) (Rows.fnExactCaseReadySpec.post enc Try.prog Try.f3 false true false false) := by
  refine returnsInHanded_of_change (C := Try.checked) own started (by kernel_rfl) Try.func3
    (ChangeSpec.witness6 (enc := enc) (C := Try.checked) false ⟨#[], #[.agg #[.slice none 0 0, .slice none 0 0, .slice none 0 0], .agg #[.bool false, .int .i64 0, .int .i64 0, .int .i64 0, .int .i64 0]], []⟩ 8 (by kernel_rfl) (by kernel_rfl) (by kernel_rfl) (by kernel_rfl)) ?_
  intro W base args ds gs before hval0 hW hcnd _
  have hval : ∀ (j : Nat) t v, Try.f3.params[j]? = some t → args[j]? = some v → Value.okWide Try.prog W .any base t v := hval0
  have hW' := hW
  obtain ⟨p, q, hA0, hV, rfl, hfz, hnd⟩ := hW
  have hA : DataW.TrodAll enc Try.prog W 0 (fun _ => true) true Try.f3.params.toList args.toList ds p := hA0
  rw [Try.params3] at hA hval
  obtain ⟨v0, vs0, d0, ds0, p0, q0, hargs, rfl, rfl, h0, r0⟩ := trodAll_cons hA
  obtain ⟨v1, vs1, d1, ds1, p1, q1, rfl, rfl, rfl, h1, r1⟩ := trodAll_cons r0
  obtain ⟨rfl, rfl, rfl⟩ := trodAll_nil r1
  obtain rfl : args = #[v0, v1] := by cases args; simp_all
  obtain ⟨rfl, rfl⟩ := trodVars_none hV
  obtain ⟨cs0, rfl, _⟩ := okWide_struct Try.underlying26 (hval 0 26 v0 rfl rfl)
  obtain ⟨vc0, rfl⟩ : ∃ l : List Value, cs0 = l.toArray := ⟨cs0.toList, by simp⟩
  have k0 := h0
  have lt0 : ∀ x ∈ p0, x.block < W.heap.size := by obtain ⟨m, hm⟩ := k0; exact DataW.trod_lt m _ _ _ hm
  obtain ⟨x0, s0'⟩ := (opensEng).arg h0
  have s0 : layEng.see W W.heap.size x0 vc0 := by simpa [Value.cells] using s0'
  obtain ⟨cs1, rfl, _⟩ := okWide_struct Try.underlying28 (hval 1 28 v1 rfl rfl)
  obtain ⟨vc1, rfl⟩ : ∃ l : List Value, cs1 = l.toArray := ⟨cs1.toList, by simp⟩
  have k1 := h1
  have lt1 : ∀ x ∈ p1, x.block < W.heap.size := by obtain ⟨m, hm⟩ := k1; exact DataW.trod_lt m _ _ _ hm
  obtain ⟨x1, s1'⟩ := (opensCase).arg h1
  have s1 : layCase.see W W.heap.size x1 vc1 := by simpa [Value.cells] using s1'
  clear hA0 hval0
  refine (walk W x0 _ s0 x1 _ s1).mono fun e W' ⟨he, bel⟩ => ?_
  subst he
  exact ⟨_, rfl, _, _, _, [], _, [], hW', trodAll_mk1 (shut_bool Try.underlying4 _), (trodAll_cons_mk (Below.trod laidOut (by kernel_rfl) (of_decide_eq_true (by kernel_rfl)) k0 bel lt0) (trodAll_cons_mk (Below.trod laidOut (by kernel_rfl) (of_decide_eq_true (by kernel_rfl)) k1 bel lt1) trodAll_mk0)), rfl, bel.frame _, fun h => by cases h⟩

theorem over : Rows.fnExactCaseReadyRow.holds Try.pinned (OpenSpec.ofChange Rows.fnExactCaseReadySpec) :=
  OpenClaim.holds_of_wide 3 Try.f3 rfl rfl rfl rfl rfl rfl rfl ⟨rfl, rfl, rfl, rfl, rfl⟩ rfl rfl rfl rfl rfl (by kernel_rfl) Try.func3 (by kernel_rfl)
    (of_decide_eq_true (by kernel_rfl)) (by unfold Func.isWrapper; first | (rw [if_pos (by decide +kernel)]; kernel_rfl) | (rw [if_neg (by decide +kernel)]; exact ⟨rfl, rfl⟩))
    (fun os started H enc _ => lifted os started H enc)

theorem proved : Rows.FnExactCaseReadySaid := over
#print axioms proved
end Go.Proofs.Ytghkdkagnibkgaa.fnExactCaseReady
