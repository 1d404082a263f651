/- Over: the program answers as the model, whatever it is asked. -/
import Derived.Test.YtakogbpjijbpeaaRows
import Derived.WalkKit
import Derived.Test.YtakogbpjijbpeaaGorLaw
import Derived.Lib.Hide
import Derived.ProofKit
import Derived.OpenShut
import Derived.ShutString
import Derived.ChangeOld
import Derived.Below
namespace Go.Proofs.Ytakogbpjijbpeaa.fnExactOver
open Go.ChangeShapes Go.WideShapes Go.ChangeAt Go.RowKit
open Go.ChangeMaps (open_string shut_string)
set_option linter.unusedVariables false
set_option linter.unusedSimpArgs false

theorem own : ownKnob Try.prog.godebug = none := by kernel_rfl
theorem laidOut : laidOutB Try.prog = true := by kernel_rfl

set_option maxRecDepth 100000 in
set_option maxHeartbeats 20000000 in
theorem walk (w : World) (x0 : DGor) (vs0 : List Value) (s0 : layGor.see w w.heap.size x0 vs0) (a1 : Int) (w1 : (Lit.int .i64 a1).wf = true) :
    Calls Try.prog 7 #[.agg vs0.toArray, .int .i64 a1] w fun e w' => e = .returned (.bool true) ∧ Below w.heap.size w w' := by
  obtain ⟨pA2, pn2, pc2, pA4, pn4, pc4, rfl, -⟩ := seeGor s0
  have HV1 := Lib.hid w1
  clear w1
  have HKE := Lib.hid (fun (W : World) (hW : Below (w.heap.size + 1) (w.alloc (.cells #[.int .i64 x0.fProc, .int .i64 x0.fPc, .slice pA2 pn2 pc2, .int .i64 x0.fState, .slice pA4 pn4 pc4] 32)) W) => show (w.heap.size + 1 ≤ W.heap.size ∧ Below w.heap.size w W) ∧ layGor.see W w.heap.size x0 [.int .i64 x0.fProc, .int .i64 x0.fPc, .slice pA2 pn2 pc2, .int .i64 x0.fState, .slice pA4 pn4 pc4] ∧ W.heap[w.heap.size]? = some (.cells #[.int .i64 x0.fProc, .int .i64 x0.fPc, .slice pA2 pn2 pc2, .int .i64 x0.fState, .slice pA4 pn4 pc4] 32 (0, 0)) from ⟨⟨by simpa using hW.size, ((Below.refl _ _).alloc (Nat.le_refl _) _).trans (hW.mono (by omega))⟩, layGor.keep s0 (fun k hk => (hW.block k (by omega)).trans (Below.heap_alloc w _ k hk)), box_keep (box_new w #[.int .i64 x0.fProc, .int .i64 x0.fPc, .slice pA2 pn2 pc2, .int .i64 x0.fState, .slice pA4 pn4 pc4] 32) hW (Nat.lt_succ_self _)⟩)
  have HE := Lib.hid (show Below (w.heap.size + 1) (w.alloc (.cells #[.int .i64 x0.fProc, .int .i64 x0.fPc, .slice pA2 pn2 pc2, .int .i64 x0.fState, .slice pA4 pn4 pc4] 32)) (w.alloc (.cells #[.int .i64 x0.fProc, .int .i64 x0.fPc, .slice pA2 pn2 pc2, .int .i64 x0.fState, .slice pA4 pn4 pc4] 32)) from Below.refl _ _)
  clear s0
  go_enter Try.func7, Try.ntmps7
  go_wp2_with fail
  refine (szGor_any (l := 1048576) (HKE.out _ HE.out).2.1 (by simp) (Nat.le_refl _)).mono ?_
  rintro e v0 ⟨hb0, hcase⟩
  replace HE := Lib.hid (HE.out.trans (hb0.mono (by simp)))
  have zE := (HKE.out _ HE.out).1.1
  clear hb0
  rcases hcase with ⟨hle, rfl⟩ | ⟨hle, rfl⟩
  · skip
    have hsz0 : szGor (overR x0 a1) ≤ 1048580 := overR_sz hle
    have hvcX := vcntGor_le (Nat.le_trans hle (by omega))
    have hvc0 := vcntGor_le hsz0
    have HSP := Lib.hid (fun (W : World) (hi : Nat) (vs : List Value) (h : layGor.see W hi x0 vs) (hhi : hi ≤ W.heap.size) => specOver_law (y := a1) h hhi hle HV1.out)
    have HIM := Lib.hid (fun (W : World) (hi : Nat) (vs : List Value) (h : layGor.see W hi x0 vs) (hhi : hi ≤ W.heap.size) => implOver_law (y := a1) h hhi hle HV1.out)
    generalize overR x0 a1 = r at *
    have pe1_0 := box_cell (j := 0) (HKE.out _ HE.out).2.2 rfl
    have pe1_1 := box_cell (j := 1) (HKE.out _ HE.out).2.2 rfl
    have pe1_2 := box_cell (j := 2) (HKE.out _ HE.out).2.2 rfl
    have pe1_3 := box_cell (j := 3) (HKE.out _ HE.out).2.2 rfl
    have pe1_4 := box_cell (j := 4) (HKE.out _ HE.out).2.2 rfl
    go_wp2_with fail
    refine (toGor_any (HKE.out _ HE.out).2.1 (by omega) hle).mono ?_
    rintro e v1 ⟨uv1, rfl, ownv1, hbv1⟩
    have hzv1 := hbv1.size
    replace HE := Lib.hid (HE.out.trans (hbv1.mono (by omega)))
    clear pe1_0 pe1_1 pe1_2 pe1_3 pe1_4
    have see1 := layGor.seen (hi := v1.heap.size) ownv1 fun g hg => hg.2
    clear ownv1 hbv1
    go_wp2_with fail
    refine (HSP.out _ _ _ see1 (Nat.le_refl _)).mono ?_
    rintro e v2 ⟨uS, FS0, rfl, ownS0, hbdS0, hbv2⟩
    have hzv2 := hbv2.size
    replace HE := Lib.hid (HE.out.trans (hbv2.mono (by omega)))
    clear see1 hbv2
    have pe2_0 := box_cell (j := 0) (HKE.out _ HE.out).2.2 rfl
    have pe2_1 := box_cell (j := 1) (HKE.out _ HE.out).2.2 rfl
    have pe2_2 := box_cell (j := 2) (HKE.out _ HE.out).2.2 rfl
    have pe2_3 := box_cell (j := 3) (HKE.out _ HE.out).2.2 rfl
    have pe2_4 := box_cell (j := 4) (HKE.out _ HE.out).2.2 rfl
    have seeS0 := layGor.seen (hi := v2.heap.size) ownS0 fun g hg => (hbdS0 g hg).2
    obtain ⟨S0A2, S0n2, S0c2, S0A4, S0n4, S0c4, rfl, -⟩ := seeGor seeS0
    have halS : Below v2.heap.size v2 (v2.alloc (.cells #[.int .i64 r.fProc, .int .i64 r.fPc, .slice S0A2 S0n2 S0c2, .int .i64 r.fState, .slice S0A4 S0n4 S0c4] 25)) := by go_grown
    have hbxS0 : (v2.alloc (.cells #[.int .i64 r.fProc, .int .i64 r.fPc, .slice S0A2 S0n2 S0c2, .int .i64 r.fState, .slice S0A4 S0n4 S0c4] 25)).heap[v2.heap.size]? = some (.cells #[.int .i64 r.fProc, .int .i64 r.fPc, .slice S0A2 S0n2 S0c2, .int .i64 r.fState, .slice S0A4 S0n4 S0c4] 25 (0, 0)) := by have := box_new v2 #[.int .i64 r.fProc, .int .i64 r.fPc, .slice S0A2 S0n2 S0c2, .int .i64 r.fState, .slice S0A4 S0n4 S0c4] 25; simpa using this
    replace ownS0 := layGor.stay (w' := (v2.alloc (.cells #[.int .i64 r.fProc, .int .i64 r.fPc, .slice S0A2 S0n2 S0c2, .int .i64 r.fState, .slice S0A4 S0n4 S0c4] 25))) ownS0 (fun g hg hlt => halS.block g hlt) halS.size
    have hzaS : v2.heap.size + 1 ≤ (v2.alloc (.cells #[.int .i64 r.fProc, .int .i64 r.fPc, .slice S0A2 S0n2 S0c2, .int .i64 r.fState, .slice S0A4 S0n4 S0c4] 25)).heap.size := by simp
    have hzbS : (v2.alloc (.cells #[.int .i64 r.fProc, .int .i64 r.fPc, .slice S0A2 S0n2 S0c2, .int .i64 r.fState, .slice S0A4 S0n4 S0c4] 25)).heap.size ≤ v2.heap.size + 1 := by simp
    replace HE := Lib.hid (HE.out.trans (halS.mono (by omega)))
    clear halS
    have hltS : w.heap.size < v2.heap.size := by omega
    go_wp2_with fail
    clear hltS
    generalize (v2.alloc (.cells #[.int .i64 r.fProc, .int .i64 r.fPc, .slice S0A2 S0n2 S0c2, .int .i64 r.fState, .slice S0A4 S0n4 S0c4] 25)) = vS at *
    clear pe2_0 pe2_1 pe2_2 pe2_3 pe2_4
    have seeS0 := layGor.seen (hi := v2.heap.size) ownS0 fun g hg => by have := hbdS0 g hg; omega
    have HKS := Lib.hid (fun (W : World) (hW : Below vS.heap.size vS W) => show layGor.see W v2.heap.size (r) [.int .i64 r.fProc, .int .i64 r.fPc, .slice S0A2 S0n2 S0c2, .int .i64 r.fState, .slice S0A4 S0n4 S0c4] ∧ W.heap[v2.heap.size]? = some (.cells #[.int .i64 r.fProc, .int .i64 r.fPc, .slice S0A2 S0n2 S0c2, .int .i64 r.fState, .slice S0A4 S0n4 S0c4] 25 (0, 0)) ∧ vS.heap.size ≤ W.heap.size from ⟨layGor.keep seeS0 (fun k hk => hW.block k (by omega)), box_keep hbxS0 hW (by omega), hW.size⟩)
    have HS := Lib.hid (Below.refl vS.heap.size vS)
    clear seeS0 ownS0 hbxS0
    have pe3_0 := box_cell (j := 0) (HKE.out _ HE.out).2.2 rfl
    have pe3_1 := box_cell (j := 1) (HKE.out _ HE.out).2.2 rfl
    have pe3_2 := box_cell (j := 2) (HKE.out _ HE.out).2.2 rfl
    have pe3_3 := box_cell (j := 3) (HKE.out _ HE.out).2.2 rfl
    have pe3_4 := box_cell (j := 4) (HKE.out _ HE.out).2.2 rfl
    refine (toGor_any (HKE.out _ HE.out).2.1 (by omega) hle).mono ?_
    rintro e v3 ⟨u3, rfl, ownX, hb3⟩
    have hzv3 := hb3.size
    replace HE := Lib.hid (HE.out.trans (hb3.mono (by omega)))
    replace HS := Lib.hid (HS.out.trans (hb3.mono (by omega)))
    clear pe3_0 pe3_1 pe3_2 pe3_3 pe3_4
    have seeX := layGor.seen (hi := v3.heap.size) ownX fun g hg => hg.2
    obtain ⟨xA2, xn2, xc2, xA4, xn4, xc4, rfl, -⟩ := seeGor seeX
    have halX : Below v3.heap.size v3 (v3.alloc (.cells #[.int .i64 x0.fProc, .int .i64 x0.fPc, .slice xA2 xn2 xc2, .int .i64 x0.fState, .slice xA4 xn4 xc4] 25)) := (Below.refl _ _).alloc (Nat.le_refl _) _
    replace ownX := layGor.stay (w' := (v3.alloc (.cells #[.int .i64 x0.fProc, .int .i64 x0.fPc, .slice xA2 xn2 xc2, .int .i64 x0.fState, .slice xA4 xn4 xc4] 25))) ownX (fun g hg hlt => halX.block g hlt) halX.size
    have hbxX := box_new v3 #[.int .i64 x0.fProc, .int .i64 x0.fPc, .slice xA2 xn2 xc2, .int .i64 x0.fState, .slice xA4 xn4 xc4] 25
    have hzaX : v3.heap.size + 1 ≤ (v3.alloc (.cells #[.int .i64 x0.fProc, .int .i64 x0.fPc, .slice xA2 xn2 xc2, .int .i64 x0.fState, .slice xA4 xn4 xc4] 25)).heap.size := by simp
    have hzbX : (v3.alloc (.cells #[.int .i64 x0.fProc, .int .i64 x0.fPc, .slice xA2 xn2 xc2, .int .i64 x0.fState, .slice xA4 xn4 xc4] 25)).heap.size ≤ v3.heap.size + 1 := by simp
    replace HE := Lib.hid (HE.out.trans (halX.mono (by omega)))
    replace HS := Lib.hid (HS.out.trans (halX.mono (by omega)))
    clear halX seeX hb3
    have px0 := box_cell (j := 0) hbxX rfl
    have px1 := box_cell (j := 1) hbxX rfl
    have px2 := box_cell (j := 2) hbxX rfl
    have px3 := box_cell (j := 3) hbxX rfl
    have px4 := box_cell (j := 4) hbxX rfl
    go_wp2_with fail
    clear px0 px1 px2 px3 px4
    generalize (v3.alloc (.cells #[.int .i64 x0.fProc, .int .i64 x0.fPc, .slice xA2 xn2 xc2, .int .i64 x0.fState, .slice xA4 xn4 xc4] 25)) = vX at *
    have seeX := layGor.seen (hi := v3.heap.size) ownX fun g hg => hg.2
    have HKX := Lib.hid (fun (W : World) (hW : Below vX.heap.size vX W) => show layGor.see W v3.heap.size x0 [.int .i64 x0.fProc, .int .i64 x0.fPc, .slice xA2 xn2 xc2, .int .i64 x0.fState, .slice xA4 xn4 xc4] ∧ layGor.own W (fun g => vS.heap.size ≤ g ∧ g < v3.heap.size) x0 [.int .i64 x0.fProc, .int .i64 x0.fPc, .slice xA2 xn2 xc2, .int .i64 x0.fState, .slice xA4 xn4 xc4] ∧ W.heap[v3.heap.size]? = some (.cells #[.int .i64 x0.fProc, .int .i64 x0.fPc, .slice xA2 xn2 xc2, .int .i64 x0.fState, .slice xA4 xn4 xc4] 25 (0, 0)) ∧ vX.heap.size ≤ W.heap.size from ⟨layGor.keep seeX (fun k hk => hW.block k (by omega)), layGor.stay ownX (fun g hg hlt => hW.block g hlt) hW.size, box_keep hbxX hW (by omega), hW.size⟩)
    have HX := Lib.hid (Below.refl vX.heap.size vX)
    clear ownX hbxX seeX
    refine (HIM.out _ _ _ (HKX.out _ HX.out).1 (by omega)).mono ?_
    rintro e v4 ⟨uG, FG0, rfl, ownG0, hbdG0, hbv4⟩
    have hzv4 := hbv4.size
    replace HE := Lib.hid (HE.out.trans (hbv4.mono (by omega)))
    replace HS := Lib.hid (HS.out.trans (hbv4.mono (by omega)))
    replace HX := Lib.hid (HX.out.trans (hbv4.mono (by omega)))
    clear hbv4
    have qs0 := box_cell (j := 0) ((HKS.out _ HS.out).2.1) rfl
    have qs1 := box_cell (j := 1) ((HKS.out _ HS.out).2.1) rfl
    have qs2 := box_cell (j := 2) ((HKS.out _ HS.out).2.1) rfl
    have qs3 := box_cell (j := 3) ((HKS.out _ HS.out).2.1) rfl
    have qs4 := box_cell (j := 4) ((HKS.out _ HS.out).2.1) rfl
    clear qs0 qs1 qs2 qs3 qs4
    have seeG0 := layGor.seen (hi := v4.heap.size) ownG0 fun g hg => (hbdG0 g hg).2
    obtain ⟨G0A2, G0n2, G0c2, G0A4, G0n4, G0c4, rfl, -⟩ := seeGor seeG0
    have halG : Below v4.heap.size v4 (v4.alloc (.cells #[.int .i64 r.fProc, .int .i64 r.fPc, .slice G0A2 G0n2 G0c2, .int .i64 r.fState, .slice G0A4 G0n4 G0c4] 25)) := by go_grown
    have hbxG0 : (v4.alloc (.cells #[.int .i64 r.fProc, .int .i64 r.fPc, .slice G0A2 G0n2 G0c2, .int .i64 r.fState, .slice G0A4 G0n4 G0c4] 25)).heap[v4.heap.size]? = some (.cells #[.int .i64 r.fProc, .int .i64 r.fPc, .slice G0A2 G0n2 G0c2, .int .i64 r.fState, .slice G0A4 G0n4 G0c4] 25 (0, 0)) := by have := box_new v4 #[.int .i64 r.fProc, .int .i64 r.fPc, .slice G0A2 G0n2 G0c2, .int .i64 r.fState, .slice G0A4 G0n4 G0c4] 25; simpa using this
    replace ownG0 := layGor.stay (w' := (v4.alloc (.cells #[.int .i64 r.fProc, .int .i64 r.fPc, .slice G0A2 G0n2 G0c2, .int .i64 r.fState, .slice G0A4 G0n4 G0c4] 25))) ownG0 (fun g hg hlt => halG.block g hlt) halG.size
    have hzaG : v4.heap.size + 1 ≤ (v4.alloc (.cells #[.int .i64 r.fProc, .int .i64 r.fPc, .slice G0A2 G0n2 G0c2, .int .i64 r.fState, .slice G0A4 G0n4 G0c4] 25)).heap.size := by simp
    have hzbG : (v4.alloc (.cells #[.int .i64 r.fProc, .int .i64 r.fPc, .slice G0A2 G0n2 G0c2, .int .i64 r.fState, .slice G0A4 G0n4 G0c4] 25)).heap.size ≤ v4.heap.size + 1 := by simp
    have qsG0 := box_cell (j := 0) ((HKS.out _ HS.out).2.1) rfl
    have qsG1 := box_cell (j := 1) ((HKS.out _ HS.out).2.1) rfl
    have qsG2 := box_cell (j := 2) ((HKS.out _ HS.out).2.1) rfl
    have qsG3 := box_cell (j := 3) ((HKS.out _ HS.out).2.1) rfl
    have qsG4 := box_cell (j := 4) ((HKS.out _ HS.out).2.1) rfl
    have hltG : v2.heap.size < v4.heap.size := by omega
    replace HE := Lib.hid (HE.out.trans (halG.mono (by omega)))
    replace HS := Lib.hid (HS.out.trans (halG.mono (by omega)))
    replace HX := Lib.hid (HX.out.trans (halG.mono (by omega)))
    clear halG seeG0
    have qgG0 := box_cell (j := 0) hbxG0 rfl
    have qgG1 := box_cell (j := 1) hbxG0 rfl
    have qgG2 := box_cell (j := 2) hbxG0 rfl
    have qgG3 := box_cell (j := 3) hbxG0 rfl
    have qgG4 := box_cell (j := 4) hbxG0 rfl
    go_wp2_with fail
    clear qgG0 qgG1 qgG2 qgG3 qgG4 qsG0 qsG1 qsG2 qsG3 qsG4 hltG
    generalize (v4.alloc (.cells #[.int .i64 r.fProc, .int .i64 r.fPc, .slice G0A2 G0n2 G0c2, .int .i64 r.fState, .slice G0A4 G0n4 G0c4] 25)) = vG at *
    have seeG0 := layGor.seen (hi := v4.heap.size) ownG0 fun g hg => by have := hbdG0 g hg; omega
    have HKG := Lib.hid (fun (W : World) (hW : Below vG.heap.size vG W) => show layGor.see W v4.heap.size (r) [.int .i64 r.fProc, .int .i64 r.fPc, .slice G0A2 G0n2 G0c2, .int .i64 r.fState, .slice G0A4 G0n4 G0c4] ∧ layGor.own W FG0 (r) [.int .i64 r.fProc, .int .i64 r.fPc, .slice G0A2 G0n2 G0c2, .int .i64 r.fState, .slice G0A4 G0n4 G0c4] ∧ W.heap[v4.heap.size]? = some (.cells #[.int .i64 r.fProc, .int .i64 r.fPc, .slice G0A2 G0n2 G0c2, .int .i64 r.fState, .slice G0A4 G0n4 G0c4] 25 (0, 0)) ∧ vG.heap.size ≤ W.heap.size from ⟨layGor.keep seeG0 (fun k hk => hW.block k (by omega)), layGor.stay ownG0 (fun g hg hlt => hW.block g hlt) hW.size, box_keep hbxG0 hW (by omega), hW.size⟩)
    have HG := Lib.hid (Below.refl vG.heap.size vG)
    clear seeG0 ownG0 hbxG0
    have qa1_0 := box_cell (j := 0) ((HKG.out _ HG.out).2.2.1) rfl
    have qa1_1 := box_cell (j := 1) ((HKG.out _ HG.out).2.2.1) rfl
    have qa1_2 := box_cell (j := 2) ((HKG.out _ HG.out).2.2.1) rfl
    have qa1_3 := box_cell (j := 3) ((HKG.out _ HG.out).2.2.1) rfl
    have qa1_4 := box_cell (j := 4) ((HKG.out _ HG.out).2.2.1) rfl
    have qb1_0 := box_cell (j := 0) ((HKS.out _ HS.out).2.1) rfl
    have qb1_1 := box_cell (j := 1) ((HKS.out _ HS.out).2.1) rfl
    have qb1_2 := box_cell (j := 2) ((HKS.out _ HS.out).2.1) rfl
    have qb1_3 := box_cell (j := 3) ((HKS.out _ HS.out).2.1) rfl
    have qb1_4 := box_cell (j := 4) ((HKS.out _ HS.out).2.1) rfl
    refine (eqGor_same ((HKG.out _ HG.out).1) ((HKS.out _ HS.out).1) (by omega) (by omega) hsz0).mono ?_
    rintro e v5 ⟨rfl, hbv5⟩
    have hzv5 := hbv5.size
    replace HE := Lib.hid (HE.out.trans (hbv5.mono (by omega)))
    replace HS := Lib.hid (HS.out.trans (hbv5.mono (by omega)))
    replace HX := Lib.hid (HX.out.trans (hbv5.mono (by omega)))
    replace HG := Lib.hid (HG.out.trans (hbv5.mono (by omega)))
    clear hbv5 qa1_0 qa1_1 qa1_2 qa1_3 qa1_4 qb1_0 qb1_1 qb1_2 qb1_3 qb1_4
    have pe4_0 := box_cell (j := 0) (HKE.out _ HE.out).2.2 rfl
    have pe4_1 := box_cell (j := 1) (HKE.out _ HE.out).2.2 rfl
    have pe4_2 := box_cell (j := 2) (HKE.out _ HE.out).2.2 rfl
    have pe4_3 := box_cell (j := 3) (HKE.out _ HE.out).2.2 rfl
    have pe4_4 := box_cell (j := 4) (HKE.out _ HE.out).2.2 rfl
    have px0 := box_cell (j := 0) (HKX.out _ HX.out).2.2.1 rfl
    have px1 := box_cell (j := 1) (HKX.out _ HX.out).2.2.1 rfl
    have px2 := box_cell (j := 2) (HKX.out _ HX.out).2.2.1 rfl
    have px3 := box_cell (j := 3) (HKX.out _ HX.out).2.2.1 rfl
    have px4 := box_cell (j := 4) (HKX.out _ HX.out).2.2.1 rfl
    have zX := (HKX.out _ HX.out).2.2.2
    have HT := Lib.hid (fun (W : World) (hW : Below v5.heap.size v5 W) => toGor_any (HKE.out W (HE.out.trans (hW.mono (by omega)))).2.1 (by have := hW.size; omega) hle)
    have HQ := Lib.hid (fun (W : World) (hW : Below v5.heap.size v5 W) (vq5 : List Value) (own5 : layGor.own W (fun g => v5.heap.size ≤ g ∧ g < W.heap.size) x0 vq5) => eqGor_same (HKX.out W (HX.out.trans (hW.mono (by omega)))).1 (layGor.seen (hi := W.heap.size) own5 fun g hg => hg.2) (by have := hW.size; omega) (Nat.le_refl _) (Nat.le_trans hle (by omega)))
    go_wp2_with fail
    go_region_with (first | (go_at_call 15; refine (HT.out v5.drew ⟨rfl, rfl, rfl, Nat.le_refl _, fun _ _ => rfl⟩).mono ?_; rintro e w5 ⟨vq5, rfl, own5, hb5⟩; have hY5 : Below v5.heap.size v5 w5 := ⟨hb5.os, hb5.tape, hb5.output, hb5.size, hb5.block⟩; have HO5 := Lib.hid own5; clear own5 hb5; have ye0 := box_cell (j := 0) (box_keep (HKE.out _ HE.out).2.2 hY5 (by omega)) rfl; have ye1 := box_cell (j := 1) (box_keep (HKE.out _ HE.out).2.2 hY5 (by omega)) rfl; have ye2 := box_cell (j := 2) (box_keep (HKE.out _ HE.out).2.2 hY5 (by omega)) rfl; have ye3 := box_cell (j := 3) (box_keep (HKE.out _ HE.out).2.2 hY5 (by omega)) rfl; have ye4 := box_cell (j := 4) (box_keep (HKE.out _ HE.out).2.2 hY5 (by omega)) rfl; have yx0 := box_cell (j := 0) (box_keep (HKX.out _ HX.out).2.2.1 hY5 (by omega)) rfl; have yx1 := box_cell (j := 1) (box_keep (HKX.out _ HX.out).2.2.1 hY5 (by omega)) rfl; have yx2 := box_cell (j := 2) (box_keep (HKX.out _ HX.out).2.2.1 hY5 (by omega)) rfl; have yx3 := box_cell (j := 3) (box_keep (HKX.out _ HX.out).2.2.1 hY5 (by omega)) rfl; have yx4 := box_cell (j := 4) (box_keep (HKX.out _ HX.out).2.2.1 hY5 (by omega)) rfl) | (go_at_call 10; refine (HQ.out w5 hY5 vq5 HO5.out).mono ?_; rintro e w6 ⟨rfl, hb6⟩))
    all_goals
      have hY6 := hY5.trans (hb6.mono hY5.size)
      have hz_6 := hY6.size
      replace HE := Lib.hid (HE.out.trans (hY6.mono (by omega)))
      replace HS := Lib.hid (HS.out.trans (hY6.mono (by omega)))
      replace HX := Lib.hid (HX.out.trans (hY6.mono (by omega)))
      replace HG := Lib.hid (HG.out.trans (hY6.mono (by omega)))
      clear HT HQ HO5 hY5 hY6 hb6 ye0 yx0 px0 pe4_0 ye1 yx1 px1 pe4_1 ye2 yx2 px2 pe4_2 ye3 yx3 px3 pe4_3 ye4 yx4 px4 pe4_4
      have px0 := box_cell (j := 0) (HKX.out _ HX.out).2.2.1 rfl
      have px1 := box_cell (j := 1) (HKX.out _ HX.out).2.2.1 rfl
      have px2 := box_cell (j := 2) (HKX.out _ HX.out).2.2.1 rfl
      have px3 := box_cell (j := 3) (HKX.out _ HX.out).2.2.1 rfl
      have px4 := box_cell (j := 4) (HKX.out _ HX.out).2.2.1 rfl
      have hvc := hvcX
      go_wp2_with fail
      refine (markGor_any (k := 1) (HKX.out _ HX.out).2.1 (fun g hg => by omega) (Nat.le_trans hle (by omega)) (by omega) (by omega)).mono ?_
      rintro e v6 ⟨rfl, -, htX⟩
      have hzv6 := htX.size
      have hk0 : decide (1 + vcntGor x0 < 0) = false := decide_eq_false (by omega)
      replace HE := Lib.hid (HE.out.trans (htX.below (fun g hg => by omega) (by omega)))
      replace HS := Lib.hid (HS.out.trans (htX.below (fun g hg => by omega) (by omega)))
      clear px0 px1 px2 px3 px4
      have zG := (HKG.out _ HG.out).2.2.2
      have ownG20 := layGor.stay (w' := v6) ((HKG.out _ HG.out).2.1) (fun g hg hlt => htX.block g hlt (fun hF => by have := hbdG0 g hg; omega)) htX.size
      have hbxG20 := (htX.block (v4.heap.size) (by omega) (fun hF => by omega)).trans ((HKG.out _ HG.out).2.2.1)
      clear HKG HG htX
      have seeG20 := layGor.seen (hi := v4.heap.size) ownG20 fun g hg => by have := hbdG0 g hg; omega
      have HKG2 := Lib.hid (fun (W : World) (hW : Below v6.heap.size v6 W) => show layGor.see W v4.heap.size (r) [.int .i64 r.fProc, .int .i64 r.fPc, .slice G0A2 G0n2 G0c2, .int .i64 r.fState, .slice G0A4 G0n4 G0c4] ∧ layGor.own W FG0 (r) [.int .i64 r.fProc, .int .i64 r.fPc, .slice G0A2 G0n2 G0c2, .int .i64 r.fState, .slice G0A4 G0n4 G0c4] ∧ W.heap[v4.heap.size]? = some (.cells #[.int .i64 r.fProc, .int .i64 r.fPc, .slice G0A2 G0n2 G0c2, .int .i64 r.fState, .slice G0A4 G0n4 G0c4] 25 (0, 0)) ∧ v6.heap.size ≤ W.heap.size from ⟨layGor.keep seeG20 (fun k hk => hW.block k (by omega)), layGor.stay ownG20 (fun g hg hlt => hW.block g hlt) hW.size, box_keep hbxG20 hW (by omega), hW.size⟩)
      have HG2 := Lib.hid (Below.refl v6.heap.size v6)
      clear seeG20 ownG20 hbxG20
      have qa2_0 := box_cell (j := 0) ((HKG2.out _ HG2.out).2.2.1) rfl
      have qa2_1 := box_cell (j := 1) ((HKG2.out _ HG2.out).2.2.1) rfl
      have qa2_2 := box_cell (j := 2) ((HKG2.out _ HG2.out).2.2.1) rfl
      have qa2_3 := box_cell (j := 3) ((HKG2.out _ HG2.out).2.2.1) rfl
      have qa2_4 := box_cell (j := 4) ((HKG2.out _ HG2.out).2.2.1) rfl
      have qb2_0 := box_cell (j := 0) ((HKS.out _ HS.out).2.1) rfl
      have qb2_1 := box_cell (j := 1) ((HKS.out _ HS.out).2.1) rfl
      have qb2_2 := box_cell (j := 2) ((HKS.out _ HS.out).2.1) rfl
      have qb2_3 := box_cell (j := 3) ((HKS.out _ HS.out).2.1) rfl
      have qb2_4 := box_cell (j := 4) ((HKS.out _ HS.out).2.1) rfl
      go_wp2_with fail
      refine (eqGor_same ((HKG2.out _ HG2.out).1) ((HKS.out _ HS.out).1) (by omega) (by omega) hsz0).mono ?_
      rintro e v7 ⟨rfl, hbv7⟩
      have hzv7 := hbv7.size
      replace HE := Lib.hid (HE.out.trans (hbv7.mono (by omega)))
      replace HS := Lib.hid (HS.out.trans (hbv7.mono (by omega)))
      replace HG2 := Lib.hid (HG2.out.trans (hbv7.mono (by omega)))
      clear hbv7 qa2_0 qa2_1 qa2_2 qa2_3 qa2_4 qb2_0 qb2_1 qb2_2 qb2_3 qb2_4
      have qm0_0 := box_cell (j := 0) ((HKG2.out _ HG2.out).2.2.1) rfl
      have qm0_1 := box_cell (j := 1) ((HKG2.out _ HG2.out).2.2.1) rfl
      have qm0_2 := box_cell (j := 2) ((HKG2.out _ HG2.out).2.2.1) rfl
      have qm0_3 := box_cell (j := 3) ((HKG2.out _ HG2.out).2.2.1) rfl
      have qm0_4 := box_cell (j := 4) ((HKG2.out _ HG2.out).2.2.1) rfl
      go_wp2_with fail
      refine (markGor_any (k := 1) ((HKG2.out _ HG2.out).2.1) (fun g hg => by have := hbdG0 g hg; omega) hsz0 (by omega) (by omega)).mono ?_
      rintro e v8 ⟨rfl, ownG30, htm0⟩
      clear qm0_0 qm0_1 qm0_2 qm0_3 qm0_4
      have hzv8 := htm0.size
      have hkk0 : decide (1 + vcntGor (r) < 0) = false := decide_eq_false (by omega)
      replace HE := Lib.hid (HE.out.trans (htm0.below (fun g hg => by have := hbdG0 g hg; omega) (by omega)))
      replace HS := Lib.hid (HS.out.trans (htm0.below (fun g hg => by have := hbdG0 g hg; omega) (by omega)))
      have hbxG30 := (htm0.block (v4.heap.size) (by omega) (fun hF => by have := hbdG0 _ hF; omega)).trans ((HKG2.out _ HG2.out).2.2.1)
      clear HKG2 HG2 htm0
      have seeG30 := layGor.seen (hi := v4.heap.size) ownG30 fun g hg => by have := hbdG0 g hg; omega
      have HKG3 := Lib.hid (fun (W : World) (hW : Below v8.heap.size v8 W) => show layGor.see W v4.heap.size (mkvGor (1) (r)) [.int .i64 r.fProc, .int .i64 r.fPc, .slice G0A2 G0n2 G0c2, .int .i64 r.fState, .slice G0A4 G0n4 G0c4] ∧ layGor.own W FG0 (mkvGor (1) (r)) [.int .i64 r.fProc, .int .i64 r.fPc, .slice G0A2 G0n2 G0c2, .int .i64 r.fState, .slice G0A4 G0n4 G0c4] ∧ W.heap[v4.heap.size]? = some (.cells #[.int .i64 r.fProc, .int .i64 r.fPc, .slice G0A2 G0n2 G0c2, .int .i64 r.fState, .slice G0A4 G0n4 G0c4] 25 (0, 0)) ∧ v8.heap.size ≤ W.heap.size from ⟨layGor.keep seeG30 (fun k hk => hW.block k (by omega)), layGor.stay ownG30 (fun g hg hlt => hW.block g hlt) hW.size, box_keep hbxG30 hW (by omega), hW.size⟩)
      have HG3 := Lib.hid (Below.refl v8.heap.size v8)
      clear seeG30 ownG30 hbxG30
      have hqm : ((1 + vcntGor (r)) != (1 + vcntGor (r))) = false := by simp
      have qha0_0 := box_cell (j := 0) ((HKG3.out _ HG3.out).2.2.1) rfl
      have qha0_1 := box_cell (j := 1) ((HKG3.out _ HG3.out).2.2.1) rfl
      have qha0_2 := box_cell (j := 2) ((HKG3.out _ HG3.out).2.2.1) rfl
      have qha0_3 := box_cell (j := 3) ((HKG3.out _ HG3.out).2.2.1) rfl
      have qha0_4 := box_cell (j := 4) ((HKG3.out _ HG3.out).2.2.1) rfl
      go_wp2_with fail
      refine (heldGor_any (k := 1) ((HKG3.out _ HG3.out).1) (by omega) hsz0 (by omega) (by omega)).mono ?_
      rintro e v9 ⟨rfl, hbv9⟩
      have hzv9 := hbv9.size
      replace HE := Lib.hid (HE.out.trans (hbv9.mono (by omega)))
      replace HS := Lib.hid (HS.out.trans (hbv9.mono (by omega)))
      replace HG3 := Lib.hid (HG3.out.trans (hbv9.mono (by omega)))
      clear hbv9 qha0_0 qha0_1 qha0_2 qha0_3 qha0_4
      have pe5_0 := box_cell (j := 0) (HKE.out _ HE.out).2.2 rfl
      have pe5_1 := box_cell (j := 1) (HKE.out _ HE.out).2.2 rfl
      have pe5_2 := box_cell (j := 2) (HKE.out _ HE.out).2.2 rfl
      have pe5_3 := box_cell (j := 3) (HKE.out _ HE.out).2.2 rfl
      have pe5_4 := box_cell (j := 4) (HKE.out _ HE.out).2.2 rfl
      go_wp2_with fail
      refine (toGor_any (HKE.out _ HE.out).2.1 (by omega) hle).mono ?_
      rintro e v10 ⟨uv10, rfl, ownv10, hbv10⟩
      have hzv10 := hbv10.size
      replace HE := Lib.hid (HE.out.trans (hbv10.mono (by omega)))
      replace HS := Lib.hid (HS.out.trans (hbv10.mono (by omega)))
      replace HG3 := Lib.hid (HG3.out.trans (hbv10.mono (by omega)))
      clear pe5_0 pe5_1 pe5_2 pe5_3 pe5_4
      have see9 := layGor.seen (hi := v10.heap.size) ownv10 fun g hg => hg.2
      clear ownv10 hbv10
      go_wp2_with fail
      refine (HIM.out _ _ _ see9 (Nat.le_refl _)).mono ?_
      rintro e v11 ⟨uH, FH0, rfl, ownH0, hbdH0, hbv11⟩
      have hzv11 := hbv11.size
      replace HE := Lib.hid (HE.out.trans (hbv11.mono (by omega)))
      replace HS := Lib.hid (HS.out.trans (hbv11.mono (by omega)))
      replace HG3 := Lib.hid (HG3.out.trans (hbv11.mono (by omega)))
      clear see9 hbv11
      have seeH0 := layGor.seen (hi := v11.heap.size) ownH0 fun g hg => (hbdH0 g hg).2
      obtain ⟨H0A2, H0n2, H0c2, H0A4, H0n4, H0c4, rfl, -⟩ := seeGor seeH0
      have halH : Below v11.heap.size v11 (v11.alloc (.cells #[.int .i64 r.fProc, .int .i64 r.fPc, .slice H0A2 H0n2 H0c2, .int .i64 r.fState, .slice H0A4 H0n4 H0c4] 25)) := by go_grown
      have hbxH0 : (v11.alloc (.cells #[.int .i64 r.fProc, .int .i64 r.fPc, .slice H0A2 H0n2 H0c2, .int .i64 r.fState, .slice H0A4 H0n4 H0c4] 25)).heap[v11.heap.size]? = some (.cells #[.int .i64 r.fProc, .int .i64 r.fPc, .slice H0A2 H0n2 H0c2, .int .i64 r.fState, .slice H0A4 H0n4 H0c4] 25 (0, 0)) := by have := box_new v11 #[.int .i64 r.fProc, .int .i64 r.fPc, .slice H0A2 H0n2 H0c2, .int .i64 r.fState, .slice H0A4 H0n4 H0c4] 25; simpa using this
      replace ownH0 := layGor.stay (w' := (v11.alloc (.cells #[.int .i64 r.fProc, .int .i64 r.fPc, .slice H0A2 H0n2 H0c2, .int .i64 r.fState, .slice H0A4 H0n4 H0c4] 25))) ownH0 (fun g hg hlt => halH.block g hlt) halH.size
      have hzaH : v11.heap.size + 1 ≤ (v11.alloc (.cells #[.int .i64 r.fProc, .int .i64 r.fPc, .slice H0A2 H0n2 H0c2, .int .i64 r.fState, .slice H0A4 H0n4 H0c4] 25)).heap.size := by simp
      have hzbH : (v11.alloc (.cells #[.int .i64 r.fProc, .int .i64 r.fPc, .slice H0A2 H0n2 H0c2, .int .i64 r.fState, .slice H0A4 H0n4 H0c4] 25)).heap.size ≤ v11.heap.size + 1 := by simp
      have qsH0 := box_cell (j := 0) ((HKS.out _ HS.out).2.1) rfl
      have qsH1 := box_cell (j := 1) ((HKS.out _ HS.out).2.1) rfl
      have qsH2 := box_cell (j := 2) ((HKS.out _ HS.out).2.1) rfl
      have qsH3 := box_cell (j := 3) ((HKS.out _ HS.out).2.1) rfl
      have qsH4 := box_cell (j := 4) ((HKS.out _ HS.out).2.1) rfl
      have hltH : v2.heap.size < v11.heap.size := by omega
      replace HE := Lib.hid (HE.out.trans (halH.mono (by omega)))
      replace HS := Lib.hid (HS.out.trans (halH.mono (by omega)))
      replace HG3 := Lib.hid (HG3.out.trans (halH.mono (by omega)))
      clear halH seeH0
      have qgH0 := box_cell (j := 0) hbxH0 rfl
      have qgH1 := box_cell (j := 1) hbxH0 rfl
      have qgH2 := box_cell (j := 2) hbxH0 rfl
      have qgH3 := box_cell (j := 3) hbxH0 rfl
      have qgH4 := box_cell (j := 4) hbxH0 rfl
      go_wp2_with fail
      clear qgH0 qgH1 qgH2 qgH3 qgH4 qsH0 qsH1 qsH2 qsH3 qsH4 hltH
      generalize (v11.alloc (.cells #[.int .i64 r.fProc, .int .i64 r.fPc, .slice H0A2 H0n2 H0c2, .int .i64 r.fState, .slice H0A4 H0n4 H0c4] 25)) = vH at *
      have seeH0 := layGor.seen (hi := v11.heap.size) ownH0 fun g hg => by have := hbdH0 g hg; omega
      have HKH := Lib.hid (fun (W : World) (hW : Below vH.heap.size vH W) => show layGor.see W v11.heap.size (r) [.int .i64 r.fProc, .int .i64 r.fPc, .slice H0A2 H0n2 H0c2, .int .i64 r.fState, .slice H0A4 H0n4 H0c4] ∧ W.heap[v11.heap.size]? = some (.cells #[.int .i64 r.fProc, .int .i64 r.fPc, .slice H0A2 H0n2 H0c2, .int .i64 r.fState, .slice H0A4 H0n4 H0c4] 25 (0, 0)) ∧ vH.heap.size ≤ W.heap.size from ⟨layGor.keep seeH0 (fun k hk => hW.block k (by omega)), box_keep hbxH0 hW (by omega), hW.size⟩)
      have HH := Lib.hid (Below.refl vH.heap.size vH)
      clear seeH0 ownH0 hbxH0
      have qa3_0 := box_cell (j := 0) ((HKH.out _ HH.out).2.1) rfl
      have qa3_1 := box_cell (j := 1) ((HKH.out _ HH.out).2.1) rfl
      have qa3_2 := box_cell (j := 2) ((HKH.out _ HH.out).2.1) rfl
      have qa3_3 := box_cell (j := 3) ((HKH.out _ HH.out).2.1) rfl
      have qa3_4 := box_cell (j := 4) ((HKH.out _ HH.out).2.1) rfl
      have qb3_0 := box_cell (j := 0) ((HKS.out _ HS.out).2.1) rfl
      have qb3_1 := box_cell (j := 1) ((HKS.out _ HS.out).2.1) rfl
      have qb3_2 := box_cell (j := 2) ((HKS.out _ HS.out).2.1) rfl
      have qb3_3 := box_cell (j := 3) ((HKS.out _ HS.out).2.1) rfl
      have qb3_4 := box_cell (j := 4) ((HKS.out _ HS.out).2.1) rfl
      refine (eqGor_same ((HKH.out _ HH.out).1) ((HKS.out _ HS.out).1) (by omega) (by omega) hsz0).mono ?_
      rintro e v12 ⟨rfl, hbv12⟩
      have hzv12 := hbv12.size
      replace HE := Lib.hid (HE.out.trans (hbv12.mono (by omega)))
      replace HS := Lib.hid (HS.out.trans (hbv12.mono (by omega)))
      replace HG3 := Lib.hid (HG3.out.trans (hbv12.mono (by omega)))
      replace HH := Lib.hid (HH.out.trans (hbv12.mono (by omega)))
      clear hbv12 qa3_0 qa3_1 qa3_2 qa3_3 qa3_4 qb3_0 qb3_1 qb3_2 qb3_3 qb3_4
      have qhb0_0 := box_cell (j := 0) ((HKG3.out _ HG3.out).2.2.1) rfl
      have qhb0_1 := box_cell (j := 1) ((HKG3.out _ HG3.out).2.2.1) rfl
      have qhb0_2 := box_cell (j := 2) ((HKG3.out _ HG3.out).2.2.1) rfl
      have qhb0_3 := box_cell (j := 3) ((HKG3.out _ HG3.out).2.2.1) rfl
      have qhb0_4 := box_cell (j := 4) ((HKG3.out _ HG3.out).2.2.1) rfl
      go_wp2_with fail
      refine (heldGor_any (k := 1) ((HKG3.out _ HG3.out).1) (by omega) hsz0 (by omega) (by omega)).mono ?_
      rintro e v13 ⟨rfl, hbv13⟩
      have hzv13 := hbv13.size
      replace HE := Lib.hid (HE.out.trans (hbv13.mono (by omega)))
      replace HS := Lib.hid (HS.out.trans (hbv13.mono (by omega)))
      replace HG3 := Lib.hid (HG3.out.trans (hbv13.mono (by omega)))
      replace HH := Lib.hid (HH.out.trans (hbv13.mono (by omega)))
      clear hbv13 qhb0_0 qhb0_1 qhb0_2 qhb0_3 qhb0_4
      go_wp2_with fail
      go_ret
      exact ⟨rfl, (HKE.out _ HE.out).1.2⟩
  · go_wp2_with fail
    go_ret
    exact ⟨rfl, (HKE.out _ HE.out).1.2⟩

set_option maxRecDepth 100000 in
theorem lifted (os : Os) (started : os.Started) (H : Type) (enc : TypeId × Value → H) :
    ReturnsInHanded {} Try.checked os 7 .any (Rows.fnExactOverSpec.pre6 enc Try.prog Try.f7 Rows.fnExactOverRow.domain false) (Rows.fnExactOverSpec.post enc Try.prog Try.f7 false true false false) := by
  refine returnsInHanded_of_change (C := Try.checked) own started (by kernel_rfl) Try.func7
    (ChangeSpec.witness6 (enc := enc) (C := Try.checked) false ⟨#[], #[.agg #[.int .i64 0, .int .i64 0, .slice none 0 0, .int .i64 0, .slice none 0 0], .int .i64 0], []⟩ 8 (by kernel_rfl) (by kernel_rfl) (by kernel_rfl) (by kernel_rfl)) ?_
  intro W base args ds gs before hval0 hW hcnd _
  have hval : ∀ (j : Nat) t v, Try.f7.params[j]? = some t → args[j]? = some v → Value.okWide Try.prog W .any base t v := hval0
  have hW' := hW
  obtain ⟨p, q, hA0, hV, rfl, hfz, hnd⟩ := hW
  have hA : DataW.TrodAll enc Try.prog W 0 (fun _ => true) true Try.f7.params.toList args.toList ds p := hA0
  rw [Try.params7] at hA hval
  obtain ⟨v0, vs0, d0, ds0, p0, q0, hargs, rfl, rfl, h0, r0⟩ := trodAll_cons hA
  obtain ⟨v1, vs1, d1, ds1, p1, q1, rfl, rfl, rfl, h1, r1⟩ := trodAll_cons r0
  obtain ⟨rfl, rfl, rfl⟩ := trodAll_nil r1
  obtain rfl : args = #[v0, v1] := by cases args; simp_all
  obtain ⟨rfl, rfl⟩ := trodVars_none hV
  obtain ⟨cs0, rfl, _⟩ := okWide_struct Try.underlying32 (hval 0 32 v0 rfl rfl)
  obtain ⟨vc0, rfl⟩ : ∃ l : List Value, cs0 = l.toArray := ⟨cs0.toList, by simp⟩
  have k0 := h0
  have lt0 : ∀ x ∈ p0, x.block < W.heap.size := by obtain ⟨m, hm⟩ := k0; exact DataW.trod_lt m _ _ _ hm
  obtain ⟨x0, s0'⟩ := (opensGor).arg h0
  have s0 : layGor.see W W.heap.size x0 vc0 := by simpa [Value.cells] using s0'
  obtain ⟨a1, rfl, rfl, rfl, w1⟩ := open_int Try.underlying3 (hval 1 3 v1 rfl rfl) h1
  clear hA0 hval0
  refine (walk W x0 _ s0 a1 w1).mono fun e W' ⟨he, bel⟩ => ?_
  subst he
  exact ⟨_, rfl, _, _, _, [], _, [], hW', trodAll_mk1 (shut_bool Try.underlying4 _), (trodAll_cons_mk (Below.trod laidOut (by kernel_rfl) (of_decide_eq_true (by kernel_rfl)) k0 bel lt0) (trodAll_cons_mk (shut_int Try.underlying3 w1) trodAll_mk0)), rfl, bel.frame _, fun h => by cases h⟩

theorem over : Rows.fnExactOverRow.holds Try.pinned (OpenSpec.ofChange Rows.fnExactOverSpec) :=
  OpenClaim.holds_of_wide 7 Try.f7 rfl rfl rfl rfl rfl rfl rfl ⟨rfl, rfl, rfl, rfl, rfl⟩ rfl rfl rfl rfl rfl (by kernel_rfl) Try.func7 (by kernel_rfl)
    (of_decide_eq_true (by kernel_rfl)) (by unfold Func.isWrapper; first | (rw [if_pos (by decide +kernel)]; kernel_rfl) | (rw [if_neg (by decide +kernel)]; exact ⟨rfl, rfl⟩))
    (fun os started H enc _ => lifted os started H enc)

theorem proved : Rows.FnExactOverSaid := over
#print axioms proved
end Go.Proofs.Ytakogbpjijbpeaa.fnExactOver
