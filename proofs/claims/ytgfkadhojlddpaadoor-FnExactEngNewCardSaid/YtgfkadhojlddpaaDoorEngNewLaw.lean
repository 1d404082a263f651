/- EngNew answers as the model: at every program that holds 2^20 things at most, field by field; it writes into no argument, keeps nothing of one, and its answer owns its memory. -/
import Derived.Test.YtgfkadhojlddpaaDoorRows
import Derived.WalkKit
import Derived.Test.YtgfkadhojlddpaaDoorCards
import Derived.Test.YtgfkadhojlddpaaDoorTie
import Derived.Lib.LaidTab
import Derived.SevenTiedAt
import Derived.Stop.Joined
import Derived.LaidMore
import Derived.ChangeVars
import Derived.OpenVars
import Derived.Test.YtgfkadhojlddpaaDoorEngNew
import Derived.Test.YtgfkadhojlddpaaDoorEngNewL
import Derived.Test.YtgfkadhojlddpaaDoorGMEng
import Derived.Test.YtgfkadhojlddpaaDoorGMProg
import Derived.Test.YtgfkadhojlddpaaDoorOpTab
import Derived.Lib.Hide
import Derived.ProofKit
import Derived.OpenShut
import Derived.ShutString
import Derived.ChangeOld
import Derived.Below
namespace Go.Proofs.YtgfkadhojlddpaaDoor.fnExactEngNew
open Go.ChangeShapes Go.WideShapes Go.ChangeAt Go.RowKit
open Go.ChangeMaps (open_string shut_string)
set_option linter.unusedVariables false
set_option linter.unusedSimpArgs false

theorem own : ownKnob Tryd.prog.godebug = none := by kernel_rfl
theorem laidOut : laidOutB Tryd.prog = true := by kernel_rfl

set_option maxRecDepth 100000 in
set_option maxHeartbeats 20000000 in
theorem walk (w : World) (x0 : DProg) (vs0 : List Value) (s0 : layProg.see w w.heap.size x0 vs0) (hC : OpCells w) :
    Calls Tryd.prog 6 #[.agg vs0.toArray] w fun e w' => e = .returned (.bool true) ∧ Below w.heap.size w w' := by
  obtain ⟨p0A0, p0n0, p0c0, p0A2, p0n2, p0c2, p0A3, p0n3, p0c3, rfl, -⟩ := seeProg s0
  have hWE : Below w.heap.size w (w.alloc (.cells #[.slice p0A0 p0n0 p0c0, .int .i64 x0.fMus, .slice p0A2 p0n2 p0c2, .slice p0A3 p0n3 p0c3] 43)) := ((Below.refl w.heap.size w).alloc (Nat.le_refl _) _)
  have hzE : w.heap.size + 1 ≤ (w.alloc (.cells #[.slice p0A0 p0n0 p0c0, .int .i64 x0.fMus, .slice p0A2 p0n2 p0c2, .slice p0A3 p0n3 p0c3] 43)).heap.size := by simp
  have hbx0 := box_new w #[.slice p0A0 p0n0 p0c0, .int .i64 x0.fMus, .slice p0A2 p0n2 p0c2, .slice p0A3 p0n3 p0c3] 43
  have HKE := Lib.hid (fun (W : World) (hW : Below (w.heap.size + 1) (w.alloc (.cells #[.slice p0A0 p0n0 p0c0, .int .i64 x0.fMus, .slice p0A2 p0n2 p0c2, .slice p0A3 p0n3 p0c3] 43)) W) => show (w.heap.size + 1 ≤ W.heap.size ∧ Below w.heap.size w W) ∧ layProg.see W w.heap.size x0 [.slice p0A0 p0n0 p0c0, .int .i64 x0.fMus, .slice p0A2 p0n2 p0c2, .slice p0A3 p0n3 p0c3] ∧ W.heap[w.heap.size]? = some (.cells #[.slice p0A0 p0n0 p0c0, .int .i64 x0.fMus, .slice p0A2 p0n2 p0c2, .slice p0A3 p0n3 p0c3] 43 (0, 0)) ∧ True from ⟨⟨Nat.le_trans hzE hW.size, hWE.trans (hW.mono (by omega))⟩, layProg.keep s0 (fun k hk => (hW.block k (by omega)).trans (hWE.block k hk)), box_keep hbx0 hW (by omega), trivial⟩)
  have HE := Lib.hid (show Below (w.heap.size + 1) (w.alloc (.cells #[.slice p0A0 p0n0 p0c0, .int .i64 x0.fMus, .slice p0A2 p0n2 p0c2, .slice p0A3 p0n3 p0c3] 43)) (w.alloc (.cells #[.slice p0A0 p0n0 p0c0, .int .i64 x0.fMus, .slice p0A2 p0n2 p0c2, .slice p0A3 p0n3 p0c3] 43)) from Below.refl _ _)
  clear hWE hzE hbx0 s0
  go_enter Tryd.func6, Tryd.ntmps6
  have pe1_0 := box_cell (j := 0) ((HKE.out _ (HE.out)).2.2.1) rfl
  have pe1_1 := box_cell (j := 1) ((HKE.out _ (HE.out)).2.2.1) rfl
  have pe1_2 := box_cell (j := 2) ((HKE.out _ (HE.out)).2.2.1) rfl
  have pe1_3 := box_cell (j := 3) ((HKE.out _ (HE.out)).2.2.1) rfl
  have zE2 := ((HKE.out _ (HE.out)).1).1
  go_wp2_with fail
  refine (szProg_any (l := 1048576) ((HKE.out _ (HE.out)).2.1) (by omega) (Nat.le_refl _)).mono ?_
  rintro e v3 ⟨hbv3, hcase⟩
  replace HE := Lib.hid (HE.out.trans (hbv3.mono (by first | omega | (simp only [World.size_alloc]; omega))))
  have hz4 := hbv3.size
  clear hbv3 pe1_0 pe1_1 pe1_2 pe1_3
  rcases hcase with ⟨hq0, rfl⟩ | ⟨hq0, rfl⟩
  · skip
    have hle0 : szProg x0 ≤ 1048576 := by omega
    have hszR : szEng (newE x0) ≤ 1048576 := newE_sz
    have hvcR := vcntEng_le (Nat.le_trans hszR (by omega))
    have hvcX0 := vcntP_le (Nat.le_trans hle0 (by omega))
    have HSP := Lib.hid (fun (W : World) (hi : Nat) (vs0 : List Value) (h0 : layProg.see W hi x0 vs0) (hhi : hi ≤ W.heap.size) (hW : Below w.heap.size w W) => specEngNew_any h0 hhi hle0)
    have HIM := Lib.hid (fun (W : World) (hi : Nat) (vs0 : List Value) (h0 : layProg.see W hi x0 vs0) (hhi : hi ≤ W.heap.size) (hW : Below w.heap.size w W) => implEngNew_any h0 hhi (opCells_below hC hW) hle0)
    generalize newE x0 = r at *
    have pe5_0 := box_cell (j := 0) ((HKE.out _ (HE.out)).2.2.1) rfl
    have pe5_1 := box_cell (j := 1) ((HKE.out _ (HE.out)).2.2.1) rfl
    have pe5_2 := box_cell (j := 2) ((HKE.out _ (HE.out)).2.2.1) rfl
    have pe5_3 := box_cell (j := 3) ((HKE.out _ (HE.out)).2.2.1) rfl
    have zE6 := ((HKE.out _ (HE.out)).1).1
    go_wp2_with fail
    refine (toProg_any ((HKE.out _ (HE.out)).2.1) (by omega) hle0).mono ?_
    rintro e v7 ⟨uv7, rfl, ownv7, hbv7⟩
    replace HE := Lib.hid (HE.out.trans (hbv7.mono (by omega)))
    have hz8 := hbv7.size
    have see1 := layProg.seen (hi := v7.heap.size) ownv7 fun g hg => hg.2
    clear ownv7 hbv7 pe5_0 pe5_1 pe5_2 pe5_3
    go_wp2_with fail
    refine (HSP.out _ v7.heap.size _ see1 (Nat.le_refl _) ((HKE.out _ (HE.out)).1).2).mono ?_
    rintro e v9 ⟨uv9, Fv9, rfl, ownv9, hFv9, hbv9⟩
    have hz10 := hbv9.size
    have see2 := layEng.seen (hi := v9.heap.size) ownv9 fun g hg => (hFv9 g hg).2
    obtain ⟨rv9A0, rv9n0, rv9c0, rv9A1, rv9n1, rv9c1, rv9A2, rv9n2, rv9c2, rfl, -⟩ := seeEng see2
    go_upto_region 6 with (fail)
    have hal : Below v7.heap.size v7 (v9.alloc (.cells #[.slice rv9A0 rv9n0 rv9c0, .slice rv9A1 rv9n1 rv9c1, .slice rv9A2 rv9n2 rv9c2] 66)) := hbv9.alloc hbv9.size _
    have han := Ans.mk (t := 66) ownv9 hFv9 hbv9.size
    obtain ⟨gS, hgS⟩ : ∃ b, b = v9.heap.size := ⟨_, rfl⟩
    have hnm : v9.heap.size = gS := hgS.symm
    replace HE := Lib.hid (HE.out.trans (hal.mono (by omega)))
    have hz12 := hal.size
    replace han : Ans layEng 66 v7.heap.size (v9.alloc (.cells #[.slice rv9A0 rv9n0 rv9c0, .slice rv9A1 rv9n1 rv9c1, .slice rv9A2 rv9n2 rv9c2] 66)).heap.size (v9.alloc (.cells #[.slice rv9A0 rv9n0 rv9c0, .slice rv9A1 rv9n1 rv9c1, .slice rv9A2 rv9n2 rv9c2] 66)) gS r := by rw [← hnm]; exact han
    have HAS := Lib.hid han
    clear han hal ownv9 hFv9 hbv9 see2 see1
    generalize (v9.alloc (.cells #[.slice rv9A0 rv9n0 rv9c0, .slice rv9A1 rv9n1 rv9c1, .slice rv9A2 rv9n2 rv9c2] 66)) = v11 at *
    simp only [hnm]
    clear hnm hgS
    have pe13_0 := box_cell (j := 0) ((HKE.out _ (HE.out)).2.2.1) rfl
    have pe13_1 := box_cell (j := 1) ((HKE.out _ (HE.out)).2.2.1) rfl
    have pe13_2 := box_cell (j := 2) ((HKE.out _ (HE.out)).2.2.1) rfl
    have pe13_3 := box_cell (j := 3) ((HKE.out _ (HE.out)).2.2.1) rfl
    have zE14 := ((HKE.out _ (HE.out)).1).1
    have lt16 := HAS.out.lt
    go_wp2_with fail
    refine (toProg_any ((HKE.out _ (HE.out)).2.1) (by omega) hle0).mono ?_
    rintro e v15 ⟨uv15, rfl, ownv15, hbv15⟩
    have hz17 := hbv15.size
    have see2 := layProg.seen (hi := v15.heap.size) ownv15 fun g hg => hg.2
    obtain ⟨q0A0, q0n0, q0c0, q0A2, q0n2, q0c2, q0A3, q0n3, q0c3, rfl, -⟩ := seeProg see2
    clear see2 pe13_0 pe13_1 pe13_2 pe13_3
    go_upto_region 7 with (fail)
    have hal : Below v11.heap.size v11 (v15.alloc (.cells #[.slice q0A0 q0n0 q0c0, .int .i64 x0.fMus, .slice q0A2 q0n2 q0c2, .slice q0A3 q0n3 q0c3] 53)) := hbv15.alloc hbv15.size _
    have han := Ans.mk (t := 53) ownv15 (fun g hg => hg) hbv15.size
    obtain ⟨gX0, hgX0⟩ : ∃ b, b = v15.heap.size := ⟨_, rfl⟩
    have hnm : v15.heap.size = gX0 := hgX0.symm
    replace HE := Lib.hid (HE.out.trans (hal.mono (by omega)))
    replace HAS := Lib.hid (HAS.out.below hal (by omega))
    have hz19 := hal.size
    replace han : Ans layProg 53 v11.heap.size (v15.alloc (.cells #[.slice q0A0 q0n0 q0c0, .int .i64 x0.fMus, .slice q0A2 q0n2 q0c2, .slice q0A3 q0n3 q0c3] 53)).heap.size (v15.alloc (.cells #[.slice q0A0 q0n0 q0c0, .int .i64 x0.fMus, .slice q0A2 q0n2 q0c2, .slice q0A3 q0n3 q0c3] 53)) gX0 x0 := by rw [← hnm]; exact han
    have HAX0 := Lib.hid han
    clear han hal ownv15 hbv15
    generalize (v15.alloc (.cells #[.slice q0A0 q0n0 q0c0, .int .i64 x0.fMus, .slice q0A2 q0n2 q0c2, .slice q0A3 q0n3 q0c3] 53)) = v18 at *
    simp only [hnm]
    clear hnm hgX0
    have lt20 := HAS.out.lt
    have lt21 := HAX0.out.lt
    obtain ⟨o1l1, o1l2, o1l3, o1v, o1F, o1b, o1w, o1f⟩ := HAX0.out
    have o1s := layProg.seen (hi := v18.heap.size) o1w fun g hg => by have := o1f g hg; omega
    obtain ⟨o1A0, o1n0, o1c0, o1A2, o1n2, o1c2, o1A3, o1n3, o1c3, rfl, -⟩ := seeProg o1s
    have o1p0 := box_cell (j := 0) o1b rfl
    have o1p1 := box_cell (j := 1) o1b rfl
    have o1p2 := box_cell (j := 2) o1b rfl
    have o1p3 := box_cell (j := 3) o1b rfl
    have zE22 := ((HKE.out _ (HE.out)).1).1
    go_wp2_with fail
    refine (HIM.out _ v18.heap.size _ o1s (Nat.le_refl _) ((HKE.out _ (HE.out)).1).2).mono ?_
    rintro e v23 ⟨uv23, Fv23, rfl, ownv23, hFv23, hbv23⟩
    have hz24 := hbv23.size
    clear o1p0 o1p1 o1p2 o1p3 o1l1 o1l2 o1l3 o1b o1w o1f o1s
    have see2 := layEng.seen (hi := v23.heap.size) ownv23 fun g hg => (hFv23 g hg).2
    obtain ⟨rv23A0, rv23n0, rv23c0, rv23A1, rv23n1, rv23c1, rv23A2, rv23n2, rv23c2, rfl, -⟩ := seeEng see2
    go_upto_region 8 with (fail)
    have hal : Below v18.heap.size v18 (v23.alloc (.cells #[.slice rv23A0 rv23n0 rv23c0, .slice rv23A1 rv23n1 rv23c1, .slice rv23A2 rv23n2 rv23c2] 66)) := hbv23.alloc hbv23.size _
    have han := Ans.mk (t := 66) ownv23 hFv23 hbv23.size
    obtain ⟨gG, hgG⟩ : ∃ b, b = v23.heap.size := ⟨_, rfl⟩
    have hnm : v23.heap.size = gG := hgG.symm
    replace HE := Lib.hid (HE.out.trans (hal.mono (by omega)))
    replace HAS := Lib.hid (HAS.out.below hal (by omega))
    replace HAX0 := Lib.hid (HAX0.out.below hal (by omega))
    have hz26 := hal.size
    replace han : Ans layEng 66 v18.heap.size (v23.alloc (.cells #[.slice rv23A0 rv23n0 rv23c0, .slice rv23A1 rv23n1 rv23c1, .slice rv23A2 rv23n2 rv23c2] 66)).heap.size (v23.alloc (.cells #[.slice rv23A0 rv23n0 rv23c0, .slice rv23A1 rv23n1 rv23c1, .slice rv23A2 rv23n2 rv23c2] 66)) gG r := by rw [← hnm]; exact han
    have HAG := Lib.hid han
    clear han hal ownv23 hFv23 hbv23 see2
    generalize (v23.alloc (.cells #[.slice rv23A0 rv23n0 rv23c0, .slice rv23A1 rv23n1 rv23c1, .slice rv23A2 rv23n2 rv23c2] 66)) = v25 at *
    simp only [hnm]
    clear hnm hgG
    have lt27 := HAS.out.lt
    have lt28 := HAX0.out.lt
    have lt29 := HAG.out.lt
    obtain ⟨o2l1, o2l2, o2l3, o2v, o2F, o2b, o2w, o2f⟩ := HAG.out
    have o2s := layEng.seen (hi := v25.heap.size) o2w fun g hg => by have := o2f g hg; omega
    obtain ⟨o2A0, o2n0, o2c0, o2A1, o2n1, o2c1, o2A2, o2n2, o2c2, rfl, -⟩ := seeEng o2s
    have o2p0 := box_cell (j := 0) o2b rfl
    have o2p1 := box_cell (j := 1) o2b rfl
    have o2p2 := box_cell (j := 2) o2b rfl
    obtain ⟨o3l1, o3l2, o3l3, o3v, o3F, o3b, o3w, o3f⟩ := HAS.out
    have o3s := layEng.seen (hi := v25.heap.size) o3w fun g hg => by have := o3f g hg; omega
    obtain ⟨o3A0, o3n0, o3c0, o3A1, o3n1, o3c1, o3A2, o3n2, o3c2, rfl, -⟩ := seeEng o3s
    have o3p0 := box_cell (j := 0) o3b rfl
    have o3p1 := box_cell (j := 1) o3b rfl
    have o3p2 := box_cell (j := 2) o3b rfl
    go_wp2_with fail
    refine (eqEng_same o2s o3s (Nat.le_refl _) (Nat.le_refl _) hszR).mono ?_
    rintro e v30 ⟨rfl, hbv30⟩
    clear o2p0 o2p1 o2p2 o2l1 o2l2 o2l3 o2b o2w o2f o2s o3p0 o3p1 o3p2 o3l1 o3l2 o3l3 o3b o3w o3f o3s
    replace HE := Lib.hid (HE.out.trans (hbv30.mono (by omega)))
    replace HAS := Lib.hid (HAS.out.below hbv30 (by omega))
    replace HAX0 := Lib.hid (HAX0.out.below hbv30 (by omega))
    replace HAG := Lib.hid (HAG.out.below hbv30 (by omega))
    have hz31 := hbv30.size
    clear hbv30
    have lt32 := HAS.out.lt
    have lt33 := HAX0.out.lt
    have lt34 := HAG.out.lt
    have zE35 := ((HKE.out _ (HE.out)).1).1
    obtain ⟨o4l1, o4l2, o4l3, o4v, o4F, o4b, o4w, o4f⟩ := HAX0.out
    have o4s := layProg.seen (hi := v30.heap.size) o4w fun g hg => by have := o4f g hg; omega
    obtain ⟨o4A0, o4n0, o4c0, o4A2, o4n2, o4c2, o4A3, o4n3, o4c3, rfl, -⟩ := seeProg o4s
    have o4p0 := box_cell (j := 0) o4b rfl
    have o4p1 := box_cell (j := 1) o4b rfl
    have o4p2 := box_cell (j := 2) o4b rfl
    have o4p3 := box_cell (j := 3) o4b rfl
    go_upto_region 10 with (fail)
    refine wp_region_inv (fun AC0 L a W => ∃ sl27 sl28 sl29 sl30 sl31 : Value, a = (((((AC0.put (some 27) sl27).put (some 28) sl28).put (some 29) sl29).put (some 30) sl30).put (some 31) sl31) ∧ Below v30.heap.size v30 W ∧ ((L 0 → sl27 = (.agg #[.slice o4A0 o4n0 o4c0, .int .i64 x0.fMus, .slice o4A2 o4n2 o4c2, .slice o4A3 o4n3 o4c3])) ∧ (L 1 → sl28 = (.agg #[.slice p0A0 p0n0 p0c0, .int .i64 x0.fMus, .slice p0A2 p0n2 p0c2, .slice p0A3 p0n3 p0c3])) ∧ (L 2 → SeeAt layProg W x0 sl29) ∧ (L 3 → sl30 = .bool true) ∧ (L 4 → sl31 = .bool false))) (by kernel_rfl) (by kernel_rfl) ?_ ?_ ?_
    · exact ⟨undef, undef, undef, undef, undef, by simp only [Act.put, List.setIfInBounds_toArray, List.set_cons_zero, List.set_cons_succ], Below.drew (Below.refl _ _), fun h => absurd h id, fun h => absurd h id, fun h => absurd h id, fun h => absurd h id, fun h => absurd h id⟩
    · intro Q9; refine InvFrom.cons (fun L a W hI hN hD K hK => ?_) ?_
      · obtain ⟨sl27, sl28, sl29, sl30, sl31, ha, hB, f0, f1, f2, f3, f4⟩ := hI
        subst ha
        have hz := hB.size
        have pc0 := box_cell (j := 0) (box_keep o4b hB (by omega)) rfl
        have pc1 := box_cell (j := 1) (box_keep o4b hB (by omega)) rfl
        have pc2 := box_cell (j := 2) (box_keep o4b hB (by omega)) rfl
        have pc3 := box_cell (j := 3) (box_keep o4b hB (by omega)) rfl
        refine Kept.mk ?_
        simp only [Act.put, List.setIfInBounds_toArray, List.set_cons_zero, List.set_cons_succ]
        go_simp
        refine hK.out _ _ ?_
        exact ⟨(.agg #[.slice o4A0 o4n0 o4c0, .int .i64 x0.fMus, .slice o4A2 o4n2 o4c2, .slice o4A3 o4n3 o4c3]), sl28, sl29, sl30, sl31, by simp only [Act.put, List.setIfInBounds_toArray, List.set_cons_zero, List.set_cons_succ], hB, fun _ => rfl, fun h => f1 (h.resolve_right (by decide)), fun h => f2 (h.resolve_right (by decide)), fun h => f3 (h.resolve_right (by decide)), fun h => f4 (h.resolve_right (by decide))⟩
      refine InvFrom.cons (fun L a W hI hN hD K hK => ?_) ?_
      · obtain ⟨sl27, sl28, sl29, sl30, sl31, ha, hB, f0, f1, f2, f3, f4⟩ := hI
        subst ha
        have hz := hB.size
        have hW := (HKE.out W (HE.out.trans (hB.mono (by omega))))
        have pc0 := box_cell (j := 0) hW.2.2.1 rfl
        have pc1 := box_cell (j := 1) hW.2.2.1 rfl
        have pc2 := box_cell (j := 2) hW.2.2.1 rfl
        have pc3 := box_cell (j := 3) hW.2.2.1 rfl
        refine Kept.mk ?_
        simp only [Act.put, List.setIfInBounds_toArray, List.set_cons_zero, List.set_cons_succ]
        go_simp
        refine hK.out _ _ ?_
        exact ⟨sl27, (.agg #[.slice p0A0 p0n0 p0c0, .int .i64 x0.fMus, .slice p0A2 p0n2 p0c2, .slice p0A3 p0n3 p0c3]), sl29, sl30, sl31, by simp only [Act.put, List.setIfInBounds_toArray, List.set_cons_zero, List.set_cons_succ], hB, fun h => f0 (h.resolve_right (by decide)), fun _ => rfl, fun h => f2 (h.resolve_right (by decide)), fun h => f3 (h.resolve_right (by decide)), fun h => f4 (h.resolve_right (by decide))⟩
      refine InvFrom.cons (fun L a W hI hN hD K hK => ?_) ?_
      · obtain ⟨sl27, sl28, sl29, sl30, sl31, ha, hB, f0, f1, f2, f3, f4⟩ := hI
        subst ha
        have hz := hB.size
        have d1 := f1 (hD 1 (by kernel_rfl))
        subst d1
        have hW := (HKE.out W (HE.out.trans (hB.mono (by omega))))
        refine kept_c1 rfl 19 _ _ rfl (fenters_of' Tryd.func19 (by kernel_rfl) (by kernel_rfl)) (.agg #[.slice p0A0 p0n0 p0c0, .int .i64 x0.fMus, .slice p0A2 p0n2 p0c2, .slice p0A3 p0n3 p0c3]) (by kernel_rfl) (toProg_any hW.2.1 (by omega) hle0) ?_
        rintro e W1 ⟨u1, rfl, own1, hb1⟩
        refine ⟨_, rfl, hK.out _ _ ?_⟩
        exact ⟨sl27, (.agg #[.slice p0A0 p0n0 p0c0, .int .i64 x0.fMus, .slice p0A2 p0n2 p0c2, .slice p0A3 p0n3 p0c3]), (.agg u1.toArray), sl30, sl31, by simp only [Act.put, List.setIfInBounds_toArray, List.set_cons_zero, List.set_cons_succ], hB.trans (hb1.mono hz), fun h => f0 (h.resolve_right (by decide)), fun h => f1 (h.resolve_right (by decide)), fun _ => ⟨_, rfl, layProg.seen (hi := W1.heap.size) own1 (fun g hg => hg.2)⟩, fun h => f3 (h.resolve_right (by decide)), fun h => f4 (h.resolve_right (by decide))⟩
      refine InvFrom.cons (fun L a W hI hN hD K hK => ?_) ?_
      · obtain ⟨sl27, sl28, sl29, sl30, sl31, ha, hB, f0, f1, f2, f3, f4⟩ := hI
        subst ha
        have hz := hB.size
        have d0 := f0 (hD 0 (by kernel_rfl))
        subst d0
        have d2 := f2 (hD 2 (by kernel_rfl))
        obtain ⟨uy0, rfl, sy0⟩ := d2
        refine kept_c2 rfl 22 _ _ _ rfl (fenters_of' Tryd.func22 (by kernel_rfl) (by kernel_rfl)) (.agg #[.slice o4A0 o4n0 o4c0, .int .i64 x0.fMus, .slice o4A2 o4n2 o4c2, .slice o4A3 o4n3 o4c3]) (.agg uy0.toArray) (by kernel_rfl) (by kernel_rfl) (eqProg_same (layProg.more (layProg.keep o4s (fun k hk => hB.block k hk)) hz) sy0 (Nat.le_refl _) (Nat.le_refl _) (Nat.le_trans hle0 (by omega))) ?_
        rintro e W1 ⟨rfl, hb9⟩
        refine ⟨_, rfl, hK.out _ _ ?_⟩
        exact ⟨(.agg #[.slice o4A0 o4n0 o4c0, .int .i64 x0.fMus, .slice o4A2 o4n2 o4c2, .slice o4A3 o4n3 o4c3]), sl28, (.agg uy0.toArray), (.bool true), sl31, by simp only [Act.put, List.setIfInBounds_toArray, List.set_cons_zero, List.set_cons_succ], hB.trans (hb9.mono hz), fun h => f0 (h.resolve_right (by decide)), fun h => f1 (h.resolve_right (by decide)), fun h => (f2 (h.resolve_right (by decide))).up hb9, fun _ => rfl, fun h => f4 (h.resolve_right (by decide))⟩
      refine InvFrom.cons (fun L a W hI hN hD K hK => ?_) ?_
      · obtain ⟨sl27, sl28, sl29, sl30, sl31, ha, hB, f0, f1, f2, f3, f4⟩ := hI
        subst ha
        have hz := hB.size
        have d3 := f3 (hD 3 (by kernel_rfl))
        subst d3
        refine Kept.mk ?_
        simp only [Act.put, List.setIfInBounds_toArray, List.set_cons_zero, List.set_cons_succ]
        go_simp
        refine hK.out _ _ ?_
        exact ⟨sl27, sl28, sl29, (.bool true), (.bool false), by simp only [Act.put, List.setIfInBounds_toArray, List.set_cons_zero, List.set_cons_succ], hB, fun h => f0 (h.resolve_right (by decide)), fun h => f1 (h.resolve_right (by decide)), fun h => f2 (h.resolve_right (by decide)), fun h => f3 (h.resolve_right (by decide)), fun _ => rfl⟩
      exact InvFrom.nil
    intro L a v36 hL hI
    obtain ⟨sl27, sl28, sl29, sl30, sl31, ha, hbv36, hI⟩ := hI
    subst ha
    have hfin := hI.2.2.2.2 (hL 4 (by decide))
    subst hfin
    clear hL hI
    refine Kept.mk ?_
    simp only [Act.put, List.setIfInBounds_toArray, List.set_cons_zero, List.set_cons_succ]
    clear o4p0 o4p1 o4p2 o4p3 o4l1 o4l2 o4l3 o4b o4w o4f o4s
    replace HE := Lib.hid (HE.out.trans (hbv36.mono (by omega)))
    replace HAS := Lib.hid (HAS.out.below hbv36 (by omega))
    replace HAX0 := Lib.hid (HAX0.out.below hbv36 (by omega))
    replace HAG := Lib.hid (HAG.out.below hbv36 (by omega))
    have hz37 := hbv36.size
    clear hbv36
    have lt38 := HAS.out.lt
    have lt39 := HAX0.out.lt
    have lt40 := HAG.out.lt
    obtain ⟨o5l1, o5l2, o5l3, o5v, o5F, o5b, o5w, o5f⟩ := HAX0.out
    have o5s := layProg.seen (hi := v36.heap.size) o5w fun g hg => by have := o5f g hg; omega
    obtain ⟨o5A0, o5n0, o5c0, o5A2, o5n2, o5c2, o5A3, o5n3, o5c3, rfl, -⟩ := seeProg o5s
    have o5p0 := box_cell (j := 0) o5b rfl
    have o5p1 := box_cell (j := 1) o5b rfl
    have o5p2 := box_cell (j := 2) o5b rfl
    have o5p3 := box_cell (j := 3) o5b rfl
    have zE42 := ((HKE.out _ (HE.out)).1).1
    have hvc0 := hvcX0
    go_wp2_with fail
    refine (markProg_any (k := 1) o5w (fun g hg => by have := o5f g hg; omega) (Nat.le_trans hle0 (by omega)) (by omega) (by omega)).mono ?_
    rintro e v41 ⟨rfl, own9, ht9⟩
    have hkv41 : decide (1 + vcntProg (x0) < 0) = false := decide_eq_false (by omega)
    replace HE := Lib.hid (HE.out.trans (show Below (w.heap.size + 1) v36 v41 from ⟨ht9.os, ht9.tape, ht9.output, ht9.size, fun k hk => ht9.block k (by omega) (fun hg => by have := o5f k hg; omega)⟩))
    replace HAS := Lib.hid (HAS.out.turned ht9 (fun k hg => by have := o5f k hg; omega))
    replace HAG := Lib.hid (HAG.out.turned ht9 (fun k hg => by have := o5f k hg; omega))
    replace HAX0 := Lib.hid (Ans.mark o5l1 o5l2 o5l3 o5b o5f own9 ht9)
    have hz43 := ht9.size
    clear o5p0 o5p1 o5p2 o5p3 o5l1 o5l2 o5l3 o5b o5w o5f o5s own9 ht9 hvc0
    have lt44 := HAS.out.lt
    have lt45 := HAX0.out.lt
    have lt46 := HAG.out.lt
    obtain ⟨o6l1, o6l2, o6l3, o6v, o6F, o6b, o6w, o6f⟩ := HAG.out
    have o6s := layEng.seen (hi := v41.heap.size) o6w fun g hg => by have := o6f g hg; omega
    obtain ⟨o6A0, o6n0, o6c0, o6A1, o6n1, o6c1, o6A2, o6n2, o6c2, rfl, -⟩ := seeEng o6s
    have o6p0 := box_cell (j := 0) o6b rfl
    have o6p1 := box_cell (j := 1) o6b rfl
    have o6p2 := box_cell (j := 2) o6b rfl
    obtain ⟨o7l1, o7l2, o7l3, o7v, o7F, o7b, o7w, o7f⟩ := HAS.out
    have o7s := layEng.seen (hi := v41.heap.size) o7w fun g hg => by have := o7f g hg; omega
    obtain ⟨o7A0, o7n0, o7c0, o7A1, o7n1, o7c1, o7A2, o7n2, o7c2, rfl, -⟩ := seeEng o7s
    have o7p0 := box_cell (j := 0) o7b rfl
    have o7p1 := box_cell (j := 1) o7b rfl
    have o7p2 := box_cell (j := 2) o7b rfl
    go_wp2_with fail
    refine (eqEng_same o6s o7s (Nat.le_refl _) (Nat.le_refl _) hszR).mono ?_
    rintro e v47 ⟨rfl, hbv47⟩
    clear o6p0 o6p1 o6p2 o6l1 o6l2 o6l3 o6b o6w o6f o6s o7p0 o7p1 o7p2 o7l1 o7l2 o7l3 o7b o7w o7f o7s
    replace HE := Lib.hid (HE.out.trans (hbv47.mono (by omega)))
    replace HAS := Lib.hid (HAS.out.below hbv47 (by omega))
    replace HAX0 := Lib.hid (HAX0.out.below hbv47 (by omega))
    replace HAG := Lib.hid (HAG.out.below hbv47 (by omega))
    have hz48 := hbv47.size
    clear hbv47
    have lt49 := HAS.out.lt
    have lt50 := HAX0.out.lt
    have lt51 := HAG.out.lt
    obtain ⟨o8l1, o8l2, o8l3, o8v, o8F, o8b, o8w, o8f⟩ := HAG.out
    have o8s := layEng.seen (hi := v47.heap.size) o8w fun g hg => by have := o8f g hg; omega
    obtain ⟨o8A0, o8n0, o8c0, o8A1, o8n1, o8c1, o8A2, o8n2, o8c2, rfl, -⟩ := seeEng o8s
    have o8p0 := box_cell (j := 0) o8b rfl
    have o8p1 := box_cell (j := 1) o8b rfl
    have o8p2 := box_cell (j := 2) o8b rfl
    have zE53 := ((HKE.out _ (HE.out)).1).1
    have hvc0 := hvcR
    go_wp2_with fail
    refine (markEng_any (k := 1) o8w (fun g hg => by have := o8f g hg; omega) hszR (by omega) (by omega)).mono ?_
    rintro e v52 ⟨rfl, own9, ht9⟩
    have hkv52 : decide (1 + vcntEng (r) < 0) = false := decide_eq_false (by omega)
    replace HE := Lib.hid (HE.out.trans (show Below (w.heap.size + 1) v47 v52 from ⟨ht9.os, ht9.tape, ht9.output, ht9.size, fun k hk => ht9.block k (by omega) (fun hg => by have := o8f k hg; omega)⟩))
    replace HAS := Lib.hid (HAS.out.turned ht9 (fun k hg => by have := o8f k hg; omega))
    replace HAX0 := Lib.hid (HAX0.out.turned ht9 (fun k hg => by have := o8f k hg; omega))
    replace HAG := Lib.hid (Ans.mark o8l1 o8l2 o8l3 o8b o8f own9 ht9)
    have hz54 := ht9.size
    clear o8p0 o8p1 o8p2 o8l1 o8l2 o8l3 o8b o8w o8f o8s own9 ht9 hvc0
    have hqm : ((1 + vcntEng (r)) != (1 + vcntEng (r))) = false := by simp
    have lt55 := HAS.out.lt
    have lt56 := HAX0.out.lt
    have lt57 := HAG.out.lt
    obtain ⟨o9l1, o9l2, o9l3, o9v, o9F, o9b, o9w, o9f⟩ := HAG.out
    have o9s := layEng.seen (hi := v52.heap.size) o9w fun g hg => by have := o9f g hg; omega
    obtain ⟨o9A0, o9n0, o9c0, o9A1, o9n1, o9c1, o9A2, o9n2, o9c2, rfl, -⟩ := seeEng o9s
    have o9p0 := box_cell (j := 0) o9b rfl
    have o9p1 := box_cell (j := 1) o9b rfl
    have o9p2 := box_cell (j := 2) o9b rfl
    have hvc0 := hvcR
    go_wp2_with fail
    refine (heldEng_any (k := 1) o9s (Nat.le_refl _) hszR (by omega) (by omega)).mono ?_
    rintro e v58 ⟨rfl, hbv58⟩
    clear o9p0 o9p1 o9p2 o9l1 o9l2 o9l3 o9b o9w o9f o9s hvc0
    replace HE := Lib.hid (HE.out.trans (hbv58.mono (by omega)))
    replace HAS := Lib.hid (HAS.out.below hbv58 (by omega))
    replace HAX0 := Lib.hid (HAX0.out.below hbv58 (by omega))
    replace HAG := Lib.hid (HAG.out.below hbv58 (by omega))
    have hz59 := hbv58.size
    clear hbv58
    have lt60 := HAS.out.lt
    have lt61 := HAX0.out.lt
    have lt62 := HAG.out.lt
    have pe63_0 := box_cell (j := 0) ((HKE.out _ (HE.out)).2.2.1) rfl
    have pe63_1 := box_cell (j := 1) ((HKE.out _ (HE.out)).2.2.1) rfl
    have pe63_2 := box_cell (j := 2) ((HKE.out _ (HE.out)).2.2.1) rfl
    have pe63_3 := box_cell (j := 3) ((HKE.out _ (HE.out)).2.2.1) rfl
    have zE64 := ((HKE.out _ (HE.out)).1).1
    go_wp2_with fail
    refine (toProg_any ((HKE.out _ (HE.out)).2.1) (by omega) hle0).mono ?_
    rintro e v65 ⟨uv65, rfl, ownv65, hbv65⟩
    replace HE := Lib.hid (HE.out.trans (hbv65.mono (by omega)))
    replace HAS := Lib.hid (HAS.out.below hbv65 (by omega))
    replace HAX0 := Lib.hid (HAX0.out.below hbv65 (by omega))
    replace HAG := Lib.hid (HAG.out.below hbv65 (by omega))
    have hz66 := hbv65.size
    have see1 := layProg.seen (hi := v65.heap.size) ownv65 fun g hg => hg.2
    clear ownv65 hbv65 pe63_0 pe63_1 pe63_2 pe63_3
    go_wp2_with fail
    refine (HIM.out _ v65.heap.size _ see1 (Nat.le_refl _) ((HKE.out _ (HE.out)).1).2).mono ?_
    rintro e v67 ⟨uv67, Fv67, rfl, ownv67, hFv67, hbv67⟩
    have hz68 := hbv67.size
    have see2 := layEng.seen (hi := v67.heap.size) ownv67 fun g hg => (hFv67 g hg).2
    obtain ⟨rv67A0, rv67n0, rv67c0, rv67A1, rv67n1, rv67c1, rv67A2, rv67n2, rv67c2, rfl, -⟩ := seeEng see2
    go_upto_region 25 with (fail)
    have hal : Below v65.heap.size v65 (v67.alloc (.cells #[.slice rv67A0 rv67n0 rv67c0, .slice rv67A1 rv67n1 rv67c1, .slice rv67A2 rv67n2 rv67c2] 66)) := hbv67.alloc hbv67.size _
    have han := Ans.mk (t := 66) ownv67 hFv67 hbv67.size
    obtain ⟨gH, hgH⟩ : ∃ b, b = v67.heap.size := ⟨_, rfl⟩
    have hnm : v67.heap.size = gH := hgH.symm
    replace HE := Lib.hid (HE.out.trans (hal.mono (by omega)))
    replace HAS := Lib.hid (HAS.out.below hal (by omega))
    replace HAX0 := Lib.hid (HAX0.out.below hal (by omega))
    replace HAG := Lib.hid (HAG.out.below hal (by omega))
    have hz70 := hal.size
    replace han : Ans layEng 66 v65.heap.size (v67.alloc (.cells #[.slice rv67A0 rv67n0 rv67c0, .slice rv67A1 rv67n1 rv67c1, .slice rv67A2 rv67n2 rv67c2] 66)).heap.size (v67.alloc (.cells #[.slice rv67A0 rv67n0 rv67c0, .slice rv67A1 rv67n1 rv67c1, .slice rv67A2 rv67n2 rv67c2] 66)) gH r := by rw [← hnm]; exact han
    have HAH := Lib.hid han
    clear han hal ownv67 hFv67 hbv67 see2 see1
    generalize (v67.alloc (.cells #[.slice rv67A0 rv67n0 rv67c0, .slice rv67A1 rv67n1 rv67c1, .slice rv67A2 rv67n2 rv67c2] 66)) = v69 at *
    simp only [hnm]
    clear hnm hgH
    have lt71 := HAS.out.lt
    have lt72 := HAX0.out.lt
    have lt73 := HAG.out.lt
    have lt74 := HAH.out.lt
    obtain ⟨o10l1, o10l2, o10l3, o10v, o10F, o10b, o10w, o10f⟩ := HAH.out
    have o10s := layEng.seen (hi := v69.heap.size) o10w fun g hg => by have := o10f g hg; omega
    obtain ⟨o10A0, o10n0, o10c0, o10A1, o10n1, o10c1, o10A2, o10n2, o10c2, rfl, -⟩ := seeEng o10s
    have o10p0 := box_cell (j := 0) o10b rfl
    have o10p1 := box_cell (j := 1) o10b rfl
    have o10p2 := box_cell (j := 2) o10b rfl
    obtain ⟨o11l1, o11l2, o11l3, o11v, o11F, o11b, o11w, o11f⟩ := HAS.out
    have o11s := layEng.seen (hi := v69.heap.size) o11w fun g hg => by have := o11f g hg; omega
    obtain ⟨o11A0, o11n0, o11c0, o11A1, o11n1, o11c1, o11A2, o11n2, o11c2, rfl, -⟩ := seeEng o11s
    have o11p0 := box_cell (j := 0) o11b rfl
    have o11p1 := box_cell (j := 1) o11b rfl
    have o11p2 := box_cell (j := 2) o11b rfl
    go_wp2_with fail
    refine (eqEng_same o10s o11s (Nat.le_refl _) (Nat.le_refl _) hszR).mono ?_
    rintro e v75 ⟨rfl, hbv75⟩
    clear o10p0 o10p1 o10p2 o10l1 o10l2 o10l3 o10b o10w o10f o10s o11p0 o11p1 o11p2 o11l1 o11l2 o11l3 o11b o11w o11f o11s
    replace HE := Lib.hid (HE.out.trans (hbv75.mono (by omega)))
    replace HAS := Lib.hid (HAS.out.below hbv75 (by omega))
    replace HAX0 := Lib.hid (HAX0.out.below hbv75 (by omega))
    replace HAG := Lib.hid (HAG.out.below hbv75 (by omega))
    replace HAH := Lib.hid (HAH.out.below hbv75 (by omega))
    have hz76 := hbv75.size
    clear hbv75
    have lt77 := HAS.out.lt
    have lt78 := HAX0.out.lt
    have lt79 := HAG.out.lt
    have lt80 := HAH.out.lt
    obtain ⟨o12l1, o12l2, o12l3, o12v, o12F, o12b, o12w, o12f⟩ := HAG.out
    have o12s := layEng.seen (hi := v75.heap.size) o12w fun g hg => by have := o12f g hg; omega
    obtain ⟨o12A0, o12n0, o12c0, o12A1, o12n1, o12c1, o12A2, o12n2, o12c2, rfl, -⟩ := seeEng o12s
    have o12p0 := box_cell (j := 0) o12b rfl
    have o12p1 := box_cell (j := 1) o12b rfl
    have o12p2 := box_cell (j := 2) o12b rfl
    have hvc0 := hvcR
    go_wp2_with fail
    refine (heldEng_any (k := 1) o12s (Nat.le_refl _) hszR (by omega) (by omega)).mono ?_
    rintro e v81 ⟨rfl, hbv81⟩
    clear o12p0 o12p1 o12p2 o12l1 o12l2 o12l3 o12b o12w o12f o12s hvc0
    replace HE := Lib.hid (HE.out.trans (hbv81.mono (by omega)))
    replace HAS := Lib.hid (HAS.out.below hbv81 (by omega))
    replace HAX0 := Lib.hid (HAX0.out.below hbv81 (by omega))
    replace HAG := Lib.hid (HAG.out.below hbv81 (by omega))
    replace HAH := Lib.hid (HAH.out.below hbv81 (by omega))
    have hz82 := hbv81.size
    clear hbv81
    go_wp2_with fail
    go_ret
    exact ⟨rfl, ((HKE.out _ (HE.out)).1).2⟩
  · go_wp2_with fail
    go_ret
    exact ⟨rfl, ((HKE.out _ (HE.out)).1).2⟩

set_option maxRecDepth 100000 in
theorem door_met (os : Os) (args : Array Value) : laidMetH Tryd.prog Rows.fnExactEngNewRow.laid ((World.doorLaid Tryd.prog 400 os).forCall (fun _ _ => 0) ⟨#[], args, []⟩).memory :=
  laidMetH_of_parts3 (fuel := 8) (laidMet_of_run' 8 (by kernel_rfl) (by kernel_rfl)) (by kernel_rfl) (by kernel_rfl)

set_option maxRecDepth 100000 in
theorem lifted (os : Os) (started : os.Started) (H : Type) (enc : TypeId × Value → H) :
    ReturnsInHanded {} Tryd.checked os 6 .any (fun w args => (Rows.fnExactEngNewSpec.pre enc Tryd.prog Tryd.f6 [] false w args ∧ laidMetH Tryd.prog Rows.fnExactEngNewRow.laid w) ∧ sizedMet enc Tryd.prog Tryd.f6 (OpenSpec.ofChange Rows.fnExactEngNewSpec) false w args) (Rows.fnExactEngNewSpec.post enc Tryd.prog Tryd.f6 false true false false) := by
  refine returnsInHanded_of_change_and (C := Tryd.checked) (X := fun w _ => laidMetH Tryd.prog Rows.fnExactEngNewRow.laid w) (fun _ _ _ hh h => h.of_heap hh) own started (by kernel_rfl) Tryd.func6
    (ChangeSpec.witness_shaped (enc := enc) (C := Tryd.checked) (os := os) (X := fun w _ => laidMetH Tryd.prog Rows.fnExactEngNewRow.laid w) false (World.doorLaid Tryd.prog 400 os) #[.agg #[.slice none 0 0, .int .i64 0, .slice none 0 0, .slice none 0 0]] 8 rfl (World.shaped_of_RefB (by kernel_rfl) (by kernel_rfl)) (by kernel_rfl) (by kernel_rfl) (by kernel_rfl) (door_met os _)) ?_
  intro W base args ds gs before hval0 hW _ _ hL _
  have hval : ∀ (j : Nat) t v, Tryd.f6.params[j]? = some t → args[j]? = some v → Value.okWide Tryd.prog W .any base t v := hval0
  have hW' := hW
  obtain ⟨p, q, hA0, hV, rfl, hfz, hnd⟩ := hW
  have hA : DataW.TrodAll enc Tryd.prog W 0 (fun _ => true) true Tryd.f6.params.toList args.toList ds p := hA0
  rw [Tryd.params6] at hA hval
  obtain ⟨v0, vs0, d0, ds0, p0, q0, hargs, rfl, rfl, h0, r0⟩ := trodAll_cons hA
  obtain ⟨rfl, rfl, rfl⟩ := trodAll_nil r0
  obtain rfl : args = #[v0] := by cases args; simp_all
  have hV' := hV
  obtain ⟨_, _, _, _, g1, _, rfl, _⟩ := trodVars_one hV
  obtain ⟨cs0, rfl, _⟩ := okWide_struct Tryd.underlying43 (hval 0 43 v0 rfl rfl)
  obtain ⟨vc0, rfl⟩ : ∃ l : List Value, cs0 = l.toArray := ⟨cs0.toList, by simp⟩
  have k0 := h0
  have lt0 : ∀ x ∈ p0, x.block < W.heap.size := by obtain ⟨m, hm⟩ := k0; exact DataW.trod_lt m _ _ _ hm
  obtain ⟨x0, s0'⟩ := (opensProg).arg h0
  have s0 : layProg.see W W.heap.size x0 vc0 := by simpa [Value.cells] using s0'
  clear hA0 hval0
  refine (walk W x0 _ s0 (opCells_of (opTab_of_laid hL))).mono fun e W' ⟨he, bel⟩ => ?_
  subst he
  exact ⟨_, rfl, _, _, _, [], _, _, hW', trodAll_mk1 (shut_bool Tryd.underlying4 _), (trodAll_cons_mk (Below.trod laidOut (by kernel_rfl) (of_decide_eq_true (by kernel_rfl)) k0 bel lt0) trodAll_mk0), bel.trodVars laidOut (by kernel_rfl) hV', bel.frame _, fun h => by cases h⟩

theorem over : Rows.fnExactEngNewRow.holds Tryd.pinned (OpenSpec.ofChange Rows.fnExactEngNewSpec) :=
  OpenClaim.holds_of_wide 6 Tryd.f6 rfl rfl rfl rfl rfl rfl rfl ⟨rfl, rfl, rfl, rfl, rfl⟩ rfl rfl rfl rfl rfl (by kernel_rfl) Tryd.func6 (by kernel_rfl)
    (of_decide_eq_true (by kernel_rfl)) (by unfold Func.isWrapper; first | (rw [if_pos (by decide +kernel)]; kernel_rfl) | (rw [if_neg (by decide +kernel)]; exact ⟨rfl, rfl⟩))
    (fun os started H enc _ => lifted os started H enc)

theorem proved : Rows.FnExactEngNewCardSaid :=
  Claim7.holds_tied_plain_at .later [] [.data] true (true, "8d8fa13fe9e61912b1cd07b5fd58b60a8be084ef019df55bfe92f9b0a2206233") false
    over (fun _ h => by cases h) (by kernel_rfl) (fun _ h => by cases h) fnExactEngNew_row_tie rfl ⟨rfl, rfl⟩ (by kernel_rfl) rfl
    (fun f fn hf hfn => by
      obtain rfl : f = 6 := Option.some.inj ((show Tryd.prog.funcNamed "loop.example/g00679/laws.FnExactEngNew" = some 6 by kernel_rfl).symm.trans hf) |>.symm
      obtain rfl : fn = Tryd.f6 := (Option.some.inj (Tryd.func6.symm.trans hfn)).symm
      exact ⟨by kernel_rfl, fun j t ht => by
        rw [Tryd.params6] at ht
        rcases j with _ | j
        · have ht' : t = 43 := by simpa using ht.symm
          subst ht'
          exact (show Tryd.prog.wantsStandIn 43 = false by kernel_rfl)
        simp at ht
      ⟩)
    (by kernel_rfl)
#print axioms proved
end Go.Proofs.YtgfkadhojlddpaaDoor.fnExactEngNew
