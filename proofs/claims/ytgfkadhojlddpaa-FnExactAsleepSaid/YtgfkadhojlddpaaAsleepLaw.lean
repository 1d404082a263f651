/- Asleep answers as the model: at every engine whose lists hold 2^20 things at most, field by field; it writes into no argument, keeps nothing of one, and its answer owns its memory. -/
import Derived.Test.YtgfkadhojlddpaaRows
import Derived.WalkKit
import Derived.Test.YtgfkadhojlddpaaStates
import Derived.Test.YtgfkadhojlddpaaMEng
import Derived.Test.YtgfkadhojlddpaaEngL
import Derived.Lib.Hide
import Derived.ProofKit
import Derived.OpenShut
import Derived.ShutString
import Derived.ChangeOld
import Derived.Below
namespace Go.Proofs.Ytgfkadhojlddpaa.fnExactAsleep
open Go.ChangeShapes Go.WideShapes Go.ChangeAt Go.RowKit
open Go.ChangeMaps (open_string shut_string)
set_option linter.unusedVariables false
set_option linter.unusedSimpArgs false

theorem own : ownKnob Try.prog.godebug = none := by kernel_rfl
theorem laidOut : laidOutB Try.prog = true := by kernel_rfl

set_option maxRecDepth 100000 in
set_option maxHeartbeats 20000000 in
theorem walk (w : World) (x0 : DEng) (vs0 : List Value) (s0 : layEng.see w w.heap.size x0 vs0) :
    Calls Try.prog 4 #[.agg vs0.toArray] w fun e w' => e = .returned (.bool true) ∧ Below w.heap.size w w' := by
  obtain ⟨p0A0, p0n0, p0c0, p0A1, p0n1, p0c1, p0A2, p0n2, p0c2, rfl, -⟩ := seeEng s0
  have hWE : Below w.heap.size w (w.alloc (.cells #[.slice p0A0 p0n0 p0c0, .slice p0A1 p0n1 p0c1, .slice p0A2 p0n2 p0c2] 26)) := ((Below.refl w.heap.size w).alloc (Nat.le_refl _) _)
  have hzE : w.heap.size + 1 ≤ (w.alloc (.cells #[.slice p0A0 p0n0 p0c0, .slice p0A1 p0n1 p0c1, .slice p0A2 p0n2 p0c2] 26)).heap.size := by simp
  have hbx0 := box_new w #[.slice p0A0 p0n0 p0c0, .slice p0A1 p0n1 p0c1, .slice p0A2 p0n2 p0c2] 26
  have HKE := Lib.hid (fun (W : World) (hW : Below (w.heap.size + 1) (w.alloc (.cells #[.slice p0A0 p0n0 p0c0, .slice p0A1 p0n1 p0c1, .slice p0A2 p0n2 p0c2] 26)) W) => show (w.heap.size + 1 ≤ W.heap.size ∧ Below w.heap.size w W) ∧ layEng.see W w.heap.size x0 [.slice p0A0 p0n0 p0c0, .slice p0A1 p0n1 p0c1, .slice p0A2 p0n2 p0c2] ∧ W.heap[w.heap.size]? = some (.cells #[.slice p0A0 p0n0 p0c0, .slice p0A1 p0n1 p0c1, .slice p0A2 p0n2 p0c2] 26 (0, 0)) ∧ True from ⟨⟨Nat.le_trans hzE hW.size, hWE.trans (hW.mono (by omega))⟩, layEng.keep s0 (fun k hk => (hW.block k (by omega)).trans (hWE.block k hk)), box_keep hbx0 hW (by omega), trivial⟩)
  have HE := Lib.hid (show Below (w.heap.size + 1) (w.alloc (.cells #[.slice p0A0 p0n0 p0c0, .slice p0A1 p0n1 p0c1, .slice p0A2 p0n2 p0c2] 26)) (w.alloc (.cells #[.slice p0A0 p0n0 p0c0, .slice p0A1 p0n1 p0c1, .slice p0A2 p0n2 p0c2] 26)) from Below.refl _ _)
  clear hWE hzE hbx0 s0
  go_enter Try.func4, Try.ntmps4
  have pe1_0 := box_cell (j := 0) ((HKE.out _ (HE.out)).2.2.1) rfl
  have pe1_1 := box_cell (j := 1) ((HKE.out _ (HE.out)).2.2.1) rfl
  have pe1_2 := box_cell (j := 2) ((HKE.out _ (HE.out)).2.2.1) rfl
  have zE2 := ((HKE.out _ (HE.out)).1).1
  go_wp2_with fail
  refine (szEng_any (l := 1048576) ((HKE.out _ (HE.out)).2.1) (by omega) (Nat.le_refl _)).mono ?_
  rintro e v3 ⟨hbv3, hcase⟩
  replace HE := Lib.hid (HE.out.trans (hbv3.mono (by first | omega | (simp only [World.size_alloc]; omega))))
  have hz4 := hbv3.size
  clear hbv3 pe1_0 pe1_1 pe1_2
  rcases hcase with ⟨hq0, rfl⟩ | ⟨hq0, rfl⟩
  · skip
    have hle0 : szEng x0 ≤ 1048576 := by omega
    have hszR : (statesL x0 2).length ≤ 1048580 := Nat.le_trans (statesTo_len _ _ _) (by have h9 := hle0; unfold szEng at h9; omega)
    have hvcX0 := vcntEng_le (Nat.le_trans hle0 (by omega))
    have HSP := Lib.hid (fun (W : World) (hi : Nat) (vs0 : List Value) (h0 : layEng.see W hi x0 vs0) (hhi : hi ≤ W.heap.size) (hW : Below w.heap.size w W) => specAsleep_any h0 hhi hle0)
    have HIM := Lib.hid (fun (W : World) (hi : Nat) (vs0 : List Value) (h0 : layEng.see W hi x0 vs0) (hhi : hi ≤ W.heap.size) (hW : Below w.heap.size w W) => implAsleep_any h0 hhi hle0)
    generalize statesL x0 2 = r at *
    have pe5_0 := box_cell (j := 0) ((HKE.out _ (HE.out)).2.2.1) rfl
    have pe5_1 := box_cell (j := 1) ((HKE.out _ (HE.out)).2.2.1) rfl
    have pe5_2 := box_cell (j := 2) ((HKE.out _ (HE.out)).2.2.1) rfl
    have zE6 := ((HKE.out _ (HE.out)).1).1
    go_wp2_with fail
    refine (toEng_any ((HKE.out _ (HE.out)).2.1) (by omega) hle0).mono ?_
    rintro e v7 ⟨uv7, rfl, ownv7, hbv7⟩
    replace HE := Lib.hid (HE.out.trans (hbv7.mono (by omega)))
    have hz8 := hbv7.size
    have see1 := layEng.seen (hi := v7.heap.size) ownv7 fun g hg => hg.2
    clear ownv7 hbv7 pe5_0 pe5_1 pe5_2
    go_wp2_with fail
    refine (HSP.out _ v7.heap.size _ see1 (Nat.le_refl _) ((HKE.out _ (HE.out)).1).2).mono ?_
    rintro e v9 ⟨AgS, cgS, rfl, ownv9, hbv9⟩
    have han := AnsR.of_own hbv9.size ownv9
    replace HE := Lib.hid (HE.out.trans (hbv9.mono (by omega)))
    have hz10 := hbv9.size
    have HAS := Lib.hid han
    clear han hbv9 ownv9 see1
    have pe11_0 := box_cell (j := 0) ((HKE.out _ (HE.out)).2.2.1) rfl
    have pe11_1 := box_cell (j := 1) ((HKE.out _ (HE.out)).2.2.1) rfl
    have pe11_2 := box_cell (j := 2) ((HKE.out _ (HE.out)).2.2.1) rfl
    have zE12 := ((HKE.out _ (HE.out)).1).1
    have lt14 := HAS.out.lt
    go_wp2_with fail
    refine (toEng_any ((HKE.out _ (HE.out)).2.1) (by omega) hle0).mono ?_
    rintro e v13 ⟨uv13, rfl, ownv13, hbv13⟩
    have hz15 := hbv13.size
    have see2 := layEng.seen (hi := v13.heap.size) ownv13 fun g hg => hg.2
    obtain ⟨q0A0, q0n0, q0c0, q0A1, q0n1, q0c1, q0A2, q0n2, q0c2, rfl, -⟩ := seeEng see2
    clear see2 pe11_0 pe11_1 pe11_2
    go_upto_region 7 with (fail)
    have hal : Below v9.heap.size v9 (v13.alloc (.cells #[.slice q0A0 q0n0 q0c0, .slice q0A1 q0n1 q0c1, .slice q0A2 q0n2 q0c2] 34)) := hbv13.alloc hbv13.size _
    have han := Ans.mk (t := 34) ownv13 (fun g hg => hg) hbv13.size
    obtain ⟨gX0, hgX0⟩ : ∃ b, b = v13.heap.size := ⟨_, rfl⟩
    have hnm : v13.heap.size = gX0 := hgX0.symm
    replace HE := Lib.hid (HE.out.trans (hal.mono (by omega)))
    replace HAS := Lib.hid (HAS.out.below hal (by omega))
    have hz17 := hal.size
    replace han : Ans layEng 34 v9.heap.size (v13.alloc (.cells #[.slice q0A0 q0n0 q0c0, .slice q0A1 q0n1 q0c1, .slice q0A2 q0n2 q0c2] 34)).heap.size (v13.alloc (.cells #[.slice q0A0 q0n0 q0c0, .slice q0A1 q0n1 q0c1, .slice q0A2 q0n2 q0c2] 34)) gX0 x0 := by rw [← hnm]; exact han
    have HAX0 := Lib.hid han
    clear han hal ownv13 hbv13
    generalize (v13.alloc (.cells #[.slice q0A0 q0n0 q0c0, .slice q0A1 q0n1 q0c1, .slice q0A2 q0n2 q0c2] 34)) = v16 at *
    simp only [hnm]
    clear hnm hgX0
    have lt18 := HAS.out.lt
    have lt19 := HAX0.out.lt
    obtain ⟨o1l1, o1l2, o1l3, o1v, o1F, o1b, o1w, o1f⟩ := HAX0.out
    have o1s := layEng.seen (hi := v16.heap.size) o1w fun g hg => by have := o1f g hg; omega
    obtain ⟨o1A0, o1n0, o1c0, o1A1, o1n1, o1c1, o1A2, o1n2, o1c2, rfl, -⟩ := seeEng o1s
    have o1p0 := box_cell (j := 0) o1b rfl
    have o1p1 := box_cell (j := 1) o1b rfl
    have o1p2 := box_cell (j := 2) o1b rfl
    have zE20 := ((HKE.out _ (HE.out)).1).1
    go_wp2_with fail
    refine (HIM.out _ v16.heap.size _ o1s (Nat.le_refl _) ((HKE.out _ (HE.out)).1).2).mono ?_
    rintro e v21 ⟨AgG, cgG, rfl, ownv21, hbv21⟩
    clear o1p0 o1p1 o1p2 o1l1 o1l2 o1l3 o1b o1w o1f o1s
    have han := AnsR.of_own hbv21.size ownv21
    replace HE := Lib.hid (HE.out.trans (hbv21.mono (by omega)))
    replace HAS := Lib.hid (HAS.out.below hbv21 (by omega))
    replace HAX0 := Lib.hid (HAX0.out.below hbv21 (by omega))
    have hz22 := hbv21.size
    have HAG := Lib.hid han
    clear han hbv21 ownv21
    have lt23 := HAS.out.lt
    have lt24 := HAX0.out.lt
    have lt25 := HAG.out.lt
    have zE26 := ((HKE.out _ (HE.out)).1).1
    go_wp2_with fail
    refine (eqIntS_same HAG.out.see HAS.out.see hszR).mono ?_
    rintro e v27 ⟨rfl, hbv27⟩
    replace HE := Lib.hid (HE.out.trans (hbv27.mono (by omega)))
    replace HAS := Lib.hid (HAS.out.below hbv27 (by omega))
    replace HAX0 := Lib.hid (HAX0.out.below hbv27 (by omega))
    replace HAG := Lib.hid (HAG.out.below hbv27 (by omega))
    have hz28 := hbv27.size
    clear hbv27
    have lt29 := HAS.out.lt
    have lt30 := HAX0.out.lt
    have lt31 := HAG.out.lt
    have zE32 := ((HKE.out _ (HE.out)).1).1
    obtain ⟨o2l1, o2l2, o2l3, o2v, o2F, o2b, o2w, o2f⟩ := HAX0.out
    have o2s := layEng.seen (hi := v27.heap.size) o2w fun g hg => by have := o2f g hg; omega
    obtain ⟨o2A0, o2n0, o2c0, o2A1, o2n1, o2c1, o2A2, o2n2, o2c2, rfl, -⟩ := seeEng o2s
    have o2p0 := box_cell (j := 0) o2b rfl
    have o2p1 := box_cell (j := 1) o2b rfl
    have o2p2 := box_cell (j := 2) o2b rfl
    go_upto_region 10 with (fail)
    refine wp_region_inv (fun AC0 L a W => ∃ sl27 sl28 sl29 sl30 sl31 : Value, a = (((((AC0.put (some 27) sl27).put (some 28) sl28).put (some 29) sl29).put (some 30) sl30).put (some 31) sl31) ∧ Below v27.heap.size v27 W ∧ ((L 0 → sl27 = (.agg #[.slice o2A0 o2n0 o2c0, .slice o2A1 o2n1 o2c1, .slice o2A2 o2n2 o2c2])) ∧ (L 1 → sl28 = (.agg #[.slice p0A0 p0n0 p0c0, .slice p0A1 p0n1 p0c1, .slice p0A2 p0n2 p0c2])) ∧ (L 2 → SeeAt layEng W x0 sl29) ∧ (L 3 → sl30 = .bool true) ∧ (L 4 → sl31 = .bool false))) (by kernel_rfl) (by kernel_rfl) ?_ ?_ ?_
    · exact ⟨undef, undef, undef, undef, undef, by simp only [Act.put, List.setIfInBounds_toArray, List.set_cons_zero, List.set_cons_succ], Below.drew (Below.refl _ _), fun h => absurd h id, fun h => absurd h id, fun h => absurd h id, fun h => absurd h id, fun h => absurd h id⟩
    · intro Q9; refine InvFrom.cons (fun L a W hI hN hD K hK => ?_) ?_
      · obtain ⟨sl27, sl28, sl29, sl30, sl31, ha, hB, f0, f1, f2, f3, f4⟩ := hI
        subst ha
        have hz := hB.size
        have pc0 := box_cell (j := 0) (box_keep o2b hB (by omega)) rfl
        have pc1 := box_cell (j := 1) (box_keep o2b hB (by omega)) rfl
        have pc2 := box_cell (j := 2) (box_keep o2b hB (by omega)) rfl
        refine Kept.mk ?_
        simp only [Act.put, List.setIfInBounds_toArray, List.set_cons_zero, List.set_cons_succ]
        go_simp
        refine hK.out _ _ ?_
        exact ⟨(.agg #[.slice o2A0 o2n0 o2c0, .slice o2A1 o2n1 o2c1, .slice o2A2 o2n2 o2c2]), sl28, sl29, sl30, sl31, by simp only [Act.put, List.setIfInBounds_toArray, List.set_cons_zero, List.set_cons_succ], hB, fun _ => rfl, fun h => f1 (h.resolve_right (by decide)), fun h => f2 (h.resolve_right (by decide)), fun h => f3 (h.resolve_right (by decide)), fun h => f4 (h.resolve_right (by decide))⟩
      refine InvFrom.cons (fun L a W hI hN hD K hK => ?_) ?_
      · obtain ⟨sl27, sl28, sl29, sl30, sl31, ha, hB, f0, f1, f2, f3, f4⟩ := hI
        subst ha
        have hz := hB.size
        have hW := (HKE.out W (HE.out.trans (hB.mono (by omega))))
        have pc0 := box_cell (j := 0) hW.2.2.1 rfl
        have pc1 := box_cell (j := 1) hW.2.2.1 rfl
        have pc2 := box_cell (j := 2) hW.2.2.1 rfl
        refine Kept.mk ?_
        simp only [Act.put, List.setIfInBounds_toArray, List.set_cons_zero, List.set_cons_succ]
        go_simp
        refine hK.out _ _ ?_
        exact ⟨sl27, (.agg #[.slice p0A0 p0n0 p0c0, .slice p0A1 p0n1 p0c1, .slice p0A2 p0n2 p0c2]), sl29, sl30, sl31, by simp only [Act.put, List.setIfInBounds_toArray, List.set_cons_zero, List.set_cons_succ], hB, fun h => f0 (h.resolve_right (by decide)), fun _ => rfl, fun h => f2 (h.resolve_right (by decide)), fun h => f3 (h.resolve_right (by decide)), fun h => f4 (h.resolve_right (by decide))⟩
      refine InvFrom.cons (fun L a W hI hN hD K hK => ?_) ?_
      · obtain ⟨sl27, sl28, sl29, sl30, sl31, ha, hB, f0, f1, f2, f3, f4⟩ := hI
        subst ha
        have hz := hB.size
        have d1 := f1 (hD 1 (by kernel_rfl))
        subst d1
        have hW := (HKE.out W (HE.out.trans (hB.mono (by omega))))
        refine kept_c1 rfl 7 _ _ rfl (fenters_of' Try.func7 (by kernel_rfl) (by kernel_rfl)) (.agg #[.slice p0A0 p0n0 p0c0, .slice p0A1 p0n1 p0c1, .slice p0A2 p0n2 p0c2]) (by kernel_rfl) (toEng_any hW.2.1 (by omega) hle0) ?_
        rintro e W1 ⟨u1, rfl, own1, hb1⟩
        refine ⟨_, rfl, hK.out _ _ ?_⟩
        exact ⟨sl27, (.agg #[.slice p0A0 p0n0 p0c0, .slice p0A1 p0n1 p0c1, .slice p0A2 p0n2 p0c2]), (.agg u1.toArray), sl30, sl31, by simp only [Act.put, List.setIfInBounds_toArray, List.set_cons_zero, List.set_cons_succ], hB.trans (hb1.mono hz), fun h => f0 (h.resolve_right (by decide)), fun h => f1 (h.resolve_right (by decide)), fun _ => ⟨_, rfl, layEng.seen (hi := W1.heap.size) own1 (fun g hg => hg.2)⟩, fun h => f3 (h.resolve_right (by decide)), fun h => f4 (h.resolve_right (by decide))⟩
      refine InvFrom.cons (fun L a W hI hN hD K hK => ?_) ?_
      · obtain ⟨sl27, sl28, sl29, sl30, sl31, ha, hB, f0, f1, f2, f3, f4⟩ := hI
        subst ha
        have hz := hB.size
        have d0 := f0 (hD 0 (by kernel_rfl))
        subst d0
        have d2 := f2 (hD 2 (by kernel_rfl))
        obtain ⟨uy0, rfl, sy0⟩ := d2
        refine kept_c2 rfl 10 _ _ _ rfl (fenters_of' Try.func10 (by kernel_rfl) (by kernel_rfl)) (.agg #[.slice o2A0 o2n0 o2c0, .slice o2A1 o2n1 o2c1, .slice o2A2 o2n2 o2c2]) (.agg uy0.toArray) (by kernel_rfl) (by kernel_rfl) (eqEng_same (layEng.more (layEng.keep o2s (fun k hk => hB.block k hk)) hz) sy0 (Nat.le_refl _) (Nat.le_refl _) (Nat.le_trans hle0 (by omega))) ?_
        rintro e W1 ⟨rfl, hb9⟩
        refine ⟨_, rfl, hK.out _ _ ?_⟩
        exact ⟨(.agg #[.slice o2A0 o2n0 o2c0, .slice o2A1 o2n1 o2c1, .slice o2A2 o2n2 o2c2]), sl28, (.agg uy0.toArray), (.bool true), sl31, by simp only [Act.put, List.setIfInBounds_toArray, List.set_cons_zero, List.set_cons_succ], hB.trans (hb9.mono hz), fun h => f0 (h.resolve_right (by decide)), fun h => f1 (h.resolve_right (by decide)), fun h => (f2 (h.resolve_right (by decide))).up hb9, fun _ => rfl, fun h => f4 (h.resolve_right (by decide))⟩
      refine InvFrom.cons (fun L a W hI hN hD K hK => ?_) ?_
      · obtain ⟨sl27, sl28, sl29, sl30, sl31, ha, hB, f0, f1, f2, f3, f4⟩ := hI
        subst ha
        have hz := hB.size
        have d3 := f3 (hD 3 (by kernel_rfl))
        subst d3
        refine Kept.mk ?_
        simp only [Act.put, List.setIfInBounds_toArray, List.set_cons_zero, List.set_cons_succ]
        go_simp
        refine hK.out _ _ ?_
        exact ⟨sl27, sl28, sl29, (.bool true), (.bool false), by simp only [Act.put, List.setIfInBounds_toArray, List.set_cons_zero, List.set_cons_succ], hB, fun h => f0 (h.resolve_right (by decide)), fun h => f1 (h.resolve_right (by decide)), fun h => f2 (h.resolve_right (by decide)), fun h => f3 (h.resolve_right (by decide)), fun _ => rfl⟩
      exact InvFrom.nil
    intro L a v33 hL hI
    obtain ⟨sl27, sl28, sl29, sl30, sl31, ha, hbv33, hI⟩ := hI
    subst ha
    have hfin := hI.2.2.2.2 (hL 4 (by decide))
    subst hfin
    clear hL hI
    refine Kept.mk ?_
    simp only [Act.put, List.setIfInBounds_toArray, List.set_cons_zero, List.set_cons_succ]
    clear o2p0 o2p1 o2p2 o2l1 o2l2 o2l3 o2b o2w o2f o2s
    replace HE := Lib.hid (HE.out.trans (hbv33.mono (by omega)))
    replace HAS := Lib.hid (HAS.out.below hbv33 (by omega))
    replace HAX0 := Lib.hid (HAX0.out.below hbv33 (by omega))
    replace HAG := Lib.hid (HAG.out.below hbv33 (by omega))
    have hz34 := hbv33.size
    clear hbv33
    have lt35 := HAS.out.lt
    have lt36 := HAX0.out.lt
    have lt37 := HAG.out.lt
    obtain ⟨o3l1, o3l2, o3l3, o3v, o3F, o3b, o3w, o3f⟩ := HAX0.out
    have o3s := layEng.seen (hi := v33.heap.size) o3w fun g hg => by have := o3f g hg; omega
    obtain ⟨o3A0, o3n0, o3c0, o3A1, o3n1, o3c1, o3A2, o3n2, o3c2, rfl, -⟩ := seeEng o3s
    have o3p0 := box_cell (j := 0) o3b rfl
    have o3p1 := box_cell (j := 1) o3b rfl
    have o3p2 := box_cell (j := 2) o3b rfl
    have zE39 := ((HKE.out _ (HE.out)).1).1
    have hvc0 := hvcX0
    go_wp2_with fail
    refine (markEng_any (k := 1) o3w (fun g hg => by have := o3f g hg; omega) (Nat.le_trans hle0 (by omega)) (by omega) (by omega)).mono ?_
    rintro e v38 ⟨rfl, own9, ht9⟩
    have hkv38 : decide (1 + vcntEng (x0) < 0) = false := decide_eq_false (by omega)
    replace HE := Lib.hid (HE.out.trans (show Below (w.heap.size + 1) v33 v38 from ⟨ht9.os, ht9.tape, ht9.output, ht9.size, fun k hk => ht9.block k (by omega) (fun hg => by have := o3f k hg; omega)⟩))
    replace HAS := Lib.hid (HAS.out.turned ht9 (fun k hg => by have := o3f k hg; omega))
    replace HAG := Lib.hid (HAG.out.turned ht9 (fun k hg => by have := o3f k hg; omega))
    replace HAX0 := Lib.hid (Ans.mark o3l1 o3l2 o3l3 o3b o3f own9 ht9)
    have hz40 := ht9.size
    clear o3p0 o3p1 o3p2 o3l1 o3l2 o3l3 o3b o3w o3f o3s own9 ht9 hvc0
    have lt41 := HAS.out.lt
    have lt42 := HAX0.out.lt
    have lt43 := HAG.out.lt
    have zE44 := ((HKE.out _ (HE.out)).1).1
    go_wp2_with fail
    refine (eqIntS_same HAG.out.see HAS.out.see hszR).mono ?_
    rintro e v45 ⟨rfl, hbv45⟩
    replace HE := Lib.hid (HE.out.trans (hbv45.mono (by omega)))
    replace HAS := Lib.hid (HAS.out.below hbv45 (by omega))
    replace HAX0 := Lib.hid (HAX0.out.below hbv45 (by omega))
    replace HAG := Lib.hid (HAG.out.below hbv45 (by omega))
    have hz46 := hbv45.size
    clear hbv45
    have lt47 := HAS.out.lt
    have lt48 := HAX0.out.lt
    have lt49 := HAG.out.lt
    have zE51 := ((HKE.out _ (HE.out)).1).1
    go_wp2_with fail
    refine (markIntS_any1 (k := 1) HAG.out.own hszR (by omega) (by omega)).mono ?_
    rintro e v50 ⟨rfl, own9, ht9⟩
    have hkv50 : decide (1 + (r.length : Int) < 0) = false := decide_eq_false (by omega)
    replace HE := Lib.hid (HE.out.trans (show Below (w.heap.size + 1) v45 v50 from ⟨ht9.os, ht9.tape, ht9.output, ht9.size, fun k hk => ht9.block k (by omega) (fun hg => by have h1 := hg.1; omega)⟩))
    replace HAS := Lib.hid (HAS.out.turned ht9 (fun k hg => by have h1 := hg.1; have h2 := hg.2; omega))
    replace HAX0 := Lib.hid (HAX0.out.turned ht9 (fun k hg => by have h1 := hg.1; have h2 := hg.2; omega))
    replace HAG := Lib.hid (HAG.out.marked own9 ht9)
    have hz52 := ht9.size
    clear own9 ht9
    have hqm : ((1 + (r.length : Int)) != (1 + (r.length : Int))) = false := by simp
    have lt53 := HAS.out.lt
    have lt54 := HAX0.out.lt
    have lt55 := HAG.out.lt
    go_wp2_with fail
    refine (heldIntS_any1 (k := 1) HAG.out.see hszR (by omega) (by omega)).mono ?_
    rintro e v56 ⟨rfl, hw9⟩
    subst hw9
    have lt57 := HAS.out.lt
    have lt58 := HAX0.out.lt
    have lt59 := HAG.out.lt
    have pe60_0 := box_cell (j := 0) ((HKE.out _ (HE.out)).2.2.1) rfl
    have pe60_1 := box_cell (j := 1) ((HKE.out _ (HE.out)).2.2.1) rfl
    have pe60_2 := box_cell (j := 2) ((HKE.out _ (HE.out)).2.2.1) rfl
    have zE61 := ((HKE.out _ (HE.out)).1).1
    go_wp2_with fail
    refine (toEng_any ((HKE.out _ (HE.out)).2.1) (by omega) hle0).mono ?_
    rintro e v62 ⟨uv62, rfl, ownv62, hbv62⟩
    replace HE := Lib.hid (HE.out.trans (hbv62.mono (by omega)))
    replace HAS := Lib.hid (HAS.out.below hbv62 (by omega))
    replace HAX0 := Lib.hid (HAX0.out.below hbv62 (by omega))
    replace HAG := Lib.hid (HAG.out.below hbv62 (by omega))
    have hz63 := hbv62.size
    have see1 := layEng.seen (hi := v62.heap.size) ownv62 fun g hg => hg.2
    clear ownv62 hbv62 pe60_0 pe60_1 pe60_2
    go_wp2_with fail
    refine (HIM.out _ v62.heap.size _ see1 (Nat.le_refl _) ((HKE.out _ (HE.out)).1).2).mono ?_
    rintro e v64 ⟨AgH, cgH, rfl, ownv64, hbv64⟩
    have han := AnsR.of_own hbv64.size ownv64
    replace HE := Lib.hid (HE.out.trans (hbv64.mono (by omega)))
    replace HAS := Lib.hid (HAS.out.below hbv64 (by omega))
    replace HAX0 := Lib.hid (HAX0.out.below hbv64 (by omega))
    replace HAG := Lib.hid (HAG.out.below hbv64 (by omega))
    have hz65 := hbv64.size
    have HAH := Lib.hid han
    clear han hbv64 ownv64 see1
    have lt66 := HAS.out.lt
    have lt67 := HAX0.out.lt
    have lt68 := HAG.out.lt
    have lt69 := HAH.out.lt
    have zE70 := ((HKE.out _ (HE.out)).1).1
    go_wp2_with fail
    refine (eqIntS_same HAH.out.see HAS.out.see hszR).mono ?_
    rintro e v71 ⟨rfl, hbv71⟩
    replace HE := Lib.hid (HE.out.trans (hbv71.mono (by omega)))
    replace HAS := Lib.hid (HAS.out.below hbv71 (by omega))
    replace HAX0 := Lib.hid (HAX0.out.below hbv71 (by omega))
    replace HAG := Lib.hid (HAG.out.below hbv71 (by omega))
    replace HAH := Lib.hid (HAH.out.below hbv71 (by omega))
    have hz72 := hbv71.size
    clear hbv71
    have lt73 := HAS.out.lt
    have lt74 := HAX0.out.lt
    have lt75 := HAG.out.lt
    have lt76 := HAH.out.lt
    go_wp2_with fail
    refine (heldIntS_any1 (k := 1) HAG.out.see hszR (by omega) (by omega)).mono ?_
    rintro e v77 ⟨rfl, hw9⟩
    subst hw9
    go_wp2_with fail
    go_ret
    exact ⟨rfl, ((HKE.out _ (HE.out)).1).2⟩
  · go_wp2_with fail
    go_ret
    exact ⟨rfl, ((HKE.out _ (HE.out)).1).2⟩

set_option maxRecDepth 100000 in
theorem lifted (os : Os) (started : os.Started) (H : Type) (enc : TypeId × Value → H) :
    ReturnsInHanded {} Try.checked os 4 .any (Rows.fnExactAsleepSpec.pre6 enc Try.prog Try.f4 Rows.fnExactAsleepRow.domain false) (Rows.fnExactAsleepSpec.post enc Try.prog Try.f4 false true false false) := by
  refine returnsInHanded_of_change (C := Try.checked) own started (by kernel_rfl) Try.func4
    (ChangeSpec.witness6 (enc := enc) (C := Try.checked) false ⟨#[], #[.agg #[.slice none 0 0, .slice none 0 0, .slice none 0 0]], []⟩ 8 (by kernel_rfl) (by kernel_rfl) (by kernel_rfl) (by kernel_rfl)) ?_
  intro W base args ds gs before hval0 hW hcnd _
  have hval : ∀ (j : Nat) t v, Try.f4.params[j]? = some t → args[j]? = some v → Value.okWide Try.prog W .any base t v := hval0
  have hW' := hW
  obtain ⟨p, q, hA0, hV, rfl, hfz, hnd⟩ := hW
  have hA : DataW.TrodAll enc Try.prog W 0 (fun _ => true) true Try.f4.params.toList args.toList ds p := hA0
  rw [Try.params4] at hA hval
  obtain ⟨v0, vs0, d0, ds0, p0, q0, hargs, rfl, rfl, h0, r0⟩ := trodAll_cons hA
  obtain ⟨rfl, rfl, rfl⟩ := trodAll_nil r0
  obtain rfl : args = #[v0] := by cases args; simp_all
  obtain ⟨rfl, rfl⟩ := trodVars_none hV
  obtain ⟨cs0, rfl, _⟩ := okWide_struct Try.underlying26 (hval 0 26 v0 rfl rfl)
  obtain ⟨vc0, rfl⟩ : ∃ l : List Value, cs0 = l.toArray := ⟨cs0.toList, by simp⟩
  have k0 := h0
  have lt0 : ∀ x ∈ p0, x.block < W.heap.size := by obtain ⟨m, hm⟩ := k0; exact DataW.trod_lt m _ _ _ hm
  obtain ⟨x0, s0'⟩ := (opensEng).arg h0
  have s0 : layEng.see W W.heap.size x0 vc0 := by simpa [Value.cells] using s0'
  clear hA0 hval0
  refine (walk W x0 _ s0).mono fun e W' ⟨he, bel⟩ => ?_
  subst he
  exact ⟨_, rfl, _, _, _, [], _, [], hW', trodAll_mk1 (shut_bool Try.underlying4 _), (trodAll_cons_mk (Below.trod laidOut (by kernel_rfl) (of_decide_eq_true (by kernel_rfl)) k0 bel lt0) trodAll_mk0), rfl, bel.frame _, fun h => by cases h⟩

theorem over : Rows.fnExactAsleepRow.holds Try.pinned (OpenSpec.ofChange Rows.fnExactAsleepSpec) :=
  OpenClaim.holds_of_wide 4 Try.f4 rfl rfl rfl rfl rfl rfl rfl ⟨rfl, rfl, rfl, rfl, rfl⟩ rfl rfl rfl rfl rfl (by kernel_rfl) Try.func4 (by kernel_rfl)
    (of_decide_eq_true (by kernel_rfl)) (by unfold Func.isWrapper; first | (rw [if_pos (by decide +kernel)]; kernel_rfl) | (rw [if_neg (by decide +kernel)]; exact ⟨rfl, rfl⟩))
    (fun os started H enc _ => lifted os started H enc)

theorem proved : Rows.FnExactAsleepSaid := over
#print axioms proved
end Go.Proofs.Ytgfkadhojlddpaa.fnExactAsleep
