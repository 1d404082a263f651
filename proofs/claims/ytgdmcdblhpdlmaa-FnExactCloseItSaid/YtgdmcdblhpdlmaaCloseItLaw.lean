/- At every channel CloseIt answers as the specification; it writes into no argument, and its answer owns its memory. No condition but that of the statement. -/
import Derived.Test.YtgdmcdblhpdlmaaRows
import Derived.WalkKit
import Derived.Test.YtgdmcdblhpdlmaaChanLawZ
import Derived.Test.YtgdmcdblhpdlmaaMChan
import Derived.Lib.Hide
import Derived.ProofKit
import Derived.OpenShut
import Derived.ShutString
import Derived.ChangeOld
import Derived.Below
namespace Go.Proofs.Ytgdmcdblhpdlmaa.fnExactCloseIt
open Go.ChangeShapes Go.WideShapes Go.ChangeAt Go.RowKit
open Go.ChangeMaps (open_string shut_string)
set_option linter.unusedVariables false
set_option linter.unusedSimpArgs false

theorem own : ownKnob Try.prog.godebug = none := by kernel_rfl
theorem laidOut : laidOutB Try.prog = true := by kernel_rfl

set_option maxRecDepth 100000 in
set_option maxHeartbeats 20000000 in
theorem walk (w : World) (x0 : DChan) (vs0 : List Value) (s0 : layChan.see w w.heap.size x0 vs0) :
    Calls Try.prog 9 #[.agg vs0.toArray] w fun e w' => e = .returned (.bool true) ∧ Below w.heap.size w w' := by
  obtain ⟨pA1, pn1, pc1, pA2, pn2, pc2, pA3, pn3, pc3, rfl, -⟩ := seeChan s0
  have HKE := Lib.hid (fun (W : World) (hW : Below (w.heap.size + 1) (w.alloc (.cells #[.int .i64 x0.fCap, .slice pA1 pn1 pc1, .slice pA2 pn2 pc2, .slice pA3 pn3 pc3, .bool x0.fClosed] 41)) W) => show (w.heap.size + 1 ≤ W.heap.size ∧ Below w.heap.size w W) ∧ layChan.see W w.heap.size x0 [.int .i64 x0.fCap, .slice pA1 pn1 pc1, .slice pA2 pn2 pc2, .slice pA3 pn3 pc3, .bool x0.fClosed] ∧ W.heap[w.heap.size]? = some (.cells #[.int .i64 x0.fCap, .slice pA1 pn1 pc1, .slice pA2 pn2 pc2, .slice pA3 pn3 pc3, .bool x0.fClosed] 41 (0, 0)) from ⟨⟨by simpa using hW.size, ((Below.refl _ _).alloc (Nat.le_refl _) _).trans (hW.mono (by omega))⟩, layChan.keep s0 (fun k hk => (hW.block k (by omega)).trans (Below.heap_alloc w _ k hk)), box_keep (box_new w #[.int .i64 x0.fCap, .slice pA1 pn1 pc1, .slice pA2 pn2 pc2, .slice pA3 pn3 pc3, .bool x0.fClosed] 41) hW (Nat.lt_succ_self _)⟩)
  have HE := Lib.hid (show Below (w.heap.size + 1) (w.alloc (.cells #[.int .i64 x0.fCap, .slice pA1 pn1 pc1, .slice pA2 pn2 pc2, .slice pA3 pn3 pc3, .bool x0.fClosed] 41)) (w.alloc (.cells #[.int .i64 x0.fCap, .slice pA1 pn1 pc1, .slice pA2 pn2 pc2, .slice pA3 pn3 pc3, .bool x0.fClosed] 41)) from Below.refl _ _)
  clear s0
  go_enter Try.func9, Try.ntmps9
  go_wp2_with fail
  refine (szChan_any (l := 1048576) (HKE.out _ HE.out).2.1 (by simp) (Nat.le_refl _)).mono ?_
  rintro e v0 ⟨hb0, hcase⟩
  replace HE := Lib.hid (HE.out.trans (hb0.mono (by simp)))
  have zE := (HKE.out _ HE.out).1.1
  clear hb0
  rcases hcase with ⟨hle, rfl⟩ | ⟨hle, rfl⟩
  · skip
    have hsz0 := (closeR_sz hle).1
    have hsz1 := (closeR_sz hle).2.1
    have hsz2 := (closeR_sz hle).2.2
    have hvcX := vcntChan_leZ hle
    have hvc0 := vcntChan_leZ hsz0
    have HSP := Lib.hid (fun (W : World) (hi : Nat) (vs : List Value) (h : layChan.see W hi x0 vs) (hhi : hi ≤ W.heap.size) => specCloseIt_law h hhi hle)
    have HIM := Lib.hid (fun (W : World) (hi : Nat) (vs : List Value) (h : layChan.see W hi x0 vs) (hhi : hi ≤ W.heap.size) => implCloseIt_law h hhi hle)
    generalize closeR x0 = r at *
    have hq3 : (r.2.2.2 != r.2.2.2) = false := by simp
    have pe1_0 := box_cell (j := 0) (HKE.out _ HE.out).2.2 rfl
    have pe1_1 := box_cell (j := 1) (HKE.out _ HE.out).2.2 rfl
    have pe1_2 := box_cell (j := 2) (HKE.out _ HE.out).2.2 rfl
    have pe1_3 := box_cell (j := 3) (HKE.out _ HE.out).2.2 rfl
    have pe1_4 := box_cell (j := 4) (HKE.out _ HE.out).2.2 rfl
    go_wp2_with fail
    refine (toChan_any (HKE.out _ HE.out).2.1 (by omega) hle).mono ?_
    rintro e v1 ⟨uv1, rfl, ownv1, hbv1⟩
    have hzv1 := hbv1.size
    replace HE := Lib.hid (HE.out.trans (hbv1.mono (by omega)))
    clear pe1_0 pe1_1 pe1_2 pe1_3 pe1_4
    have see1 := layChan.seen (hi := v1.heap.size) ownv1 fun g hg => hg.2
    clear ownv1 hbv1
    go_wp2_with fail
    refine (HSP.out _ _ _ see1 (Nat.le_refl _)).mono ?_
    rintro e v2 ⟨uS, AS1, nS1, cS1, AS2, nS2, cS2, FS0, FS1, FS2, rfl, ownS0, ownS1, ownS2, hbdS0, hbdS1, hbdS2, dS01, dS02, dS12, hbv2⟩
    have hln := ownS1.1
    subst hln
    have hln := ownS2.1
    subst hln
    have hzv2 := hbv2.size
    replace HE := Lib.hid (HE.out.trans (hbv2.mono (by omega)))
    clear see1 hbv2
    have pe2_0 := box_cell (j := 0) (HKE.out _ HE.out).2.2 rfl
    have pe2_1 := box_cell (j := 1) (HKE.out _ HE.out).2.2 rfl
    have pe2_2 := box_cell (j := 2) (HKE.out _ HE.out).2.2 rfl
    have pe2_3 := box_cell (j := 3) (HKE.out _ HE.out).2.2 rfl
    have pe2_4 := box_cell (j := 4) (HKE.out _ HE.out).2.2 rfl
    have seeS0 := layChan.seen (hi := v2.heap.size) ownS0 fun g hg => (hbdS0 g hg).2
    obtain ⟨S0A1, S0n1, S0c1, S0A2, S0n2, S0c2, S0A3, S0n3, S0c3, rfl, -⟩ := seeChan seeS0
    have halS : Below v2.heap.size v2 (v2.alloc (.cells #[.int .i64 r.1.fCap, .slice S0A1 S0n1 S0c1, .slice S0A2 S0n2 S0c2, .slice S0A3 S0n3 S0c3, .bool r.1.fClosed] 26)) := by go_grown
    have hbxS0 : (v2.alloc (.cells #[.int .i64 r.1.fCap, .slice S0A1 S0n1 S0c1, .slice S0A2 S0n2 S0c2, .slice S0A3 S0n3 S0c3, .bool r.1.fClosed] 26)).heap[v2.heap.size]? = some (.cells #[.int .i64 r.1.fCap, .slice S0A1 S0n1 S0c1, .slice S0A2 S0n2 S0c2, .slice S0A3 S0n3 S0c3, .bool r.1.fClosed] 26 (0, 0)) := by have := box_new v2 #[.int .i64 r.1.fCap, .slice S0A1 S0n1 S0c1, .slice S0A2 S0n2 S0c2, .slice S0A3 S0n3 S0c3, .bool r.1.fClosed] 26; simpa using this
    replace ownS0 := layChan.stay (w' := (v2.alloc (.cells #[.int .i64 r.1.fCap, .slice S0A1 S0n1 S0c1, .slice S0A2 S0n2 S0c2, .slice S0A3 S0n3 S0c3, .bool r.1.fClosed] 26))) ownS0 (fun g hg hlt => halS.block g hlt) halS.size
    replace ownS1 := ownS1.stay (w' := (v2.alloc (.cells #[.int .i64 r.1.fCap, .slice S0A1 S0n1 S0c1, .slice S0A2 S0n2 S0c2, .slice S0A3 S0n3 S0c3, .bool r.1.fClosed] 26))) (fun g hg hlt => halS.block g hlt) halS.size
    replace ownS2 := ownS2.stay (w' := (v2.alloc (.cells #[.int .i64 r.1.fCap, .slice S0A1 S0n1 S0c1, .slice S0A2 S0n2 S0c2, .slice S0A3 S0n3 S0c3, .bool r.1.fClosed] 26))) (fun g hg hlt => halS.block g hlt) halS.size
    have hzaS : v2.heap.size + 1 ≤ (v2.alloc (.cells #[.int .i64 r.1.fCap, .slice S0A1 S0n1 S0c1, .slice S0A2 S0n2 S0c2, .slice S0A3 S0n3 S0c3, .bool r.1.fClosed] 26)).heap.size := by simp
    have hzbS : (v2.alloc (.cells #[.int .i64 r.1.fCap, .slice S0A1 S0n1 S0c1, .slice S0A2 S0n2 S0c2, .slice S0A3 S0n3 S0c3, .bool r.1.fClosed] 26)).heap.size ≤ v2.heap.size + 1 := by simp
    replace HE := Lib.hid (HE.out.trans (halS.mono (by omega)))
    clear halS
    have hltS : w.heap.size < v2.heap.size := by omega
    go_wp2_with fail
    clear hltS
    generalize (v2.alloc (.cells #[.int .i64 r.1.fCap, .slice S0A1 S0n1 S0c1, .slice S0A2 S0n2 S0c2, .slice S0A3 S0n3 S0c3, .bool r.1.fClosed] 26)) = vS at *
    clear pe2_0 pe2_1 pe2_2 pe2_3 pe2_4
    have seeS0 := layChan.seen (hi := v2.heap.size) ownS0 fun g hg => by have := hbdS0 g hg; omega
    have seeS1 := ownS1.seen (hi := v2.heap.size) fun g hg => by have := hbdS1 g hg; omega
    have seeS2 := ownS2.seen (hi := v2.heap.size) fun g hg => by have := hbdS2 g hg; omega
    have HKS := Lib.hid (fun (W : World) (hW : Below vS.heap.size vS W) => show layChan.see W v2.heap.size (r.1) [.int .i64 r.1.fCap, .slice S0A1 S0n1 S0c1, .slice S0A2 S0n2 S0c2, .slice S0A3 S0n3 S0c3, .bool r.1.fClosed] ∧ SeenR layWaiter W v2.heap.size AS1 (r.2.1).length (r.2.1) ∧ SeenR layWaiter W v2.heap.size AS2 (r.2.2.1).length (r.2.2.1) ∧ W.heap[v2.heap.size]? = some (.cells #[.int .i64 r.1.fCap, .slice S0A1 S0n1 S0c1, .slice S0A2 S0n2 S0c2, .slice S0A3 S0n3 S0c3, .bool r.1.fClosed] 26 (0, 0)) ∧ vS.heap.size ≤ W.heap.size from ⟨layChan.keep seeS0 (fun k hk => hW.block k (by omega)), seeS1.keep (fun k hk => hW.block k (by omega)), seeS2.keep (fun k hk => hW.block k (by omega)), box_keep hbxS0 hW (by omega), hW.size⟩)
    have HS := Lib.hid (Below.refl vS.heap.size vS)
    clear seeS0 ownS0 seeS1 ownS1 seeS2 ownS2 hbxS0
    have pe3_0 := box_cell (j := 0) (HKE.out _ HE.out).2.2 rfl
    have pe3_1 := box_cell (j := 1) (HKE.out _ HE.out).2.2 rfl
    have pe3_2 := box_cell (j := 2) (HKE.out _ HE.out).2.2 rfl
    have pe3_3 := box_cell (j := 3) (HKE.out _ HE.out).2.2 rfl
    have pe3_4 := box_cell (j := 4) (HKE.out _ HE.out).2.2 rfl
    refine (toChan_any (HKE.out _ HE.out).2.1 (by omega) hle).mono ?_
    rintro e v3 ⟨u3, rfl, ownX, hb3⟩
    have hzv3 := hb3.size
    replace HE := Lib.hid (HE.out.trans (hb3.mono (by omega)))
    replace HS := Lib.hid (HS.out.trans (hb3.mono (by omega)))
    clear pe3_0 pe3_1 pe3_2 pe3_3 pe3_4
    have seeX := layChan.seen (hi := v3.heap.size) ownX fun g hg => hg.2
    obtain ⟨xA1, xn1, xc1, xA2, xn2, xc2, xA3, xn3, xc3, rfl, -⟩ := seeChan seeX
    have halX : Below v3.heap.size v3 (v3.alloc (.cells #[.int .i64 x0.fCap, .slice xA1 xn1 xc1, .slice xA2 xn2 xc2, .slice xA3 xn3 xc3, .bool x0.fClosed] 26)) := (Below.refl _ _).alloc (Nat.le_refl _) _
    replace ownX := layChan.stay (w' := (v3.alloc (.cells #[.int .i64 x0.fCap, .slice xA1 xn1 xc1, .slice xA2 xn2 xc2, .slice xA3 xn3 xc3, .bool x0.fClosed] 26))) ownX (fun g hg hlt => halX.block g hlt) halX.size
    have hbxX := box_new v3 #[.int .i64 x0.fCap, .slice xA1 xn1 xc1, .slice xA2 xn2 xc2, .slice xA3 xn3 xc3, .bool x0.fClosed] 26
    have hzaX : v3.heap.size + 1 ≤ (v3.alloc (.cells #[.int .i64 x0.fCap, .slice xA1 xn1 xc1, .slice xA2 xn2 xc2, .slice xA3 xn3 xc3, .bool x0.fClosed] 26)).heap.size := by simp
    have hzbX : (v3.alloc (.cells #[.int .i64 x0.fCap, .slice xA1 xn1 xc1, .slice xA2 xn2 xc2, .slice xA3 xn3 xc3, .bool x0.fClosed] 26)).heap.size ≤ v3.heap.size + 1 := by simp
    replace HE := Lib.hid (HE.out.trans (halX.mono (by omega)))
    replace HS := Lib.hid (HS.out.trans (halX.mono (by omega)))
    clear halX seeX hb3
    have px0 := box_cell (j := 0) hbxX rfl
    have px1 := box_cell (j := 1) hbxX rfl
    have px2 := box_cell (j := 2) hbxX rfl
    have px3 := box_cell (j := 3) hbxX rfl
    have px4 := box_cell (j := 4) hbxX rfl
    go_wp2_with fail
    clear px0 px1 px2 px3 px4
    generalize (v3.alloc (.cells #[.int .i64 x0.fCap, .slice xA1 xn1 xc1, .slice xA2 xn2 xc2, .slice xA3 xn3 xc3, .bool x0.fClosed] 26)) = vX at *
    have seeX := layChan.seen (hi := v3.heap.size) ownX fun g hg => hg.2
    have HKX := Lib.hid (fun (W : World) (hW : Below vX.heap.size vX W) => show layChan.see W v3.heap.size x0 [.int .i64 x0.fCap, .slice xA1 xn1 xc1, .slice xA2 xn2 xc2, .slice xA3 xn3 xc3, .bool x0.fClosed] ∧ layChan.own W (fun g => vS.heap.size ≤ g ∧ g < v3.heap.size) x0 [.int .i64 x0.fCap, .slice xA1 xn1 xc1, .slice xA2 xn2 xc2, .slice xA3 xn3 xc3, .bool x0.fClosed] ∧ W.heap[v3.heap.size]? = some (.cells #[.int .i64 x0.fCap, .slice xA1 xn1 xc1, .slice xA2 xn2 xc2, .slice xA3 xn3 xc3, .bool x0.fClosed] 26 (0, 0)) ∧ vX.heap.size ≤ W.heap.size from ⟨layChan.keep seeX (fun k hk => hW.block k (by omega)), layChan.stay ownX (fun g hg hlt => hW.block g hlt) hW.size, box_keep hbxX hW (by omega), hW.size⟩)
    have HX := Lib.hid (Below.refl vX.heap.size vX)
    clear ownX hbxX seeX
    refine (HIM.out _ _ _ (HKX.out _ HX.out).1 (by omega)).mono ?_
    rintro e v4 ⟨uG, AG1, nG1, cG1, AG2, nG2, cG2, FG0, FG1, FG2, rfl, ownG0, ownG1, ownG2, hbdG0, hbdG1, hbdG2, dG01, dG02, dG12, hbv4⟩
    have hln := ownG1.1
    subst hln
    have hln := ownG2.1
    subst hln
    have hzv4 := hbv4.size
    replace HE := Lib.hid (HE.out.trans (hbv4.mono (by omega)))
    replace HS := Lib.hid (HS.out.trans (hbv4.mono (by omega)))
    replace HX := Lib.hid (HX.out.trans (hbv4.mono (by omega)))
    clear hbv4
    have qs0 := box_cell (j := 0) ((HKS.out _ HS.out).2.2.2.1) rfl
    have qs1 := box_cell (j := 1) ((HKS.out _ HS.out).2.2.2.1) rfl
    have qs2 := box_cell (j := 2) ((HKS.out _ HS.out).2.2.2.1) rfl
    have qs3 := box_cell (j := 3) ((HKS.out _ HS.out).2.2.2.1) rfl
    have qs4 := box_cell (j := 4) ((HKS.out _ HS.out).2.2.2.1) rfl
    clear qs0 qs1 qs2 qs3 qs4
    have seeG0 := layChan.seen (hi := v4.heap.size) ownG0 fun g hg => (hbdG0 g hg).2
    obtain ⟨G0A1, G0n1, G0c1, G0A2, G0n2, G0c2, G0A3, G0n3, G0c3, rfl, -⟩ := seeChan seeG0
    have halG : Below v4.heap.size v4 (v4.alloc (.cells #[.int .i64 r.1.fCap, .slice G0A1 G0n1 G0c1, .slice G0A2 G0n2 G0c2, .slice G0A3 G0n3 G0c3, .bool r.1.fClosed] 26)) := by go_grown
    have hbxG0 : (v4.alloc (.cells #[.int .i64 r.1.fCap, .slice G0A1 G0n1 G0c1, .slice G0A2 G0n2 G0c2, .slice G0A3 G0n3 G0c3, .bool r.1.fClosed] 26)).heap[v4.heap.size]? = some (.cells #[.int .i64 r.1.fCap, .slice G0A1 G0n1 G0c1, .slice G0A2 G0n2 G0c2, .slice G0A3 G0n3 G0c3, .bool r.1.fClosed] 26 (0, 0)) := by have := box_new v4 #[.int .i64 r.1.fCap, .slice G0A1 G0n1 G0c1, .slice G0A2 G0n2 G0c2, .slice G0A3 G0n3 G0c3, .bool r.1.fClosed] 26; simpa using this
    replace ownG0 := layChan.stay (w' := (v4.alloc (.cells #[.int .i64 r.1.fCap, .slice G0A1 G0n1 G0c1, .slice G0A2 G0n2 G0c2, .slice G0A3 G0n3 G0c3, .bool r.1.fClosed] 26))) ownG0 (fun g hg hlt => halG.block g hlt) halG.size
    replace ownG1 := ownG1.stay (w' := (v4.alloc (.cells #[.int .i64 r.1.fCap, .slice G0A1 G0n1 G0c1, .slice G0A2 G0n2 G0c2, .slice G0A3 G0n3 G0c3, .bool r.1.fClosed] 26))) (fun g hg hlt => halG.block g hlt) halG.size
    replace ownG2 := ownG2.stay (w' := (v4.alloc (.cells #[.int .i64 r.1.fCap, .slice G0A1 G0n1 G0c1, .slice G0A2 G0n2 G0c2, .slice G0A3 G0n3 G0c3, .bool r.1.fClosed] 26))) (fun g hg hlt => halG.block g hlt) halG.size
    have hzaG : v4.heap.size + 1 ≤ (v4.alloc (.cells #[.int .i64 r.1.fCap, .slice G0A1 G0n1 G0c1, .slice G0A2 G0n2 G0c2, .slice G0A3 G0n3 G0c3, .bool r.1.fClosed] 26)).heap.size := by simp
    have hzbG : (v4.alloc (.cells #[.int .i64 r.1.fCap, .slice G0A1 G0n1 G0c1, .slice G0A2 G0n2 G0c2, .slice G0A3 G0n3 G0c3, .bool r.1.fClosed] 26)).heap.size ≤ v4.heap.size + 1 := by simp
    have qsG0 := box_cell (j := 0) ((HKS.out _ HS.out).2.2.2.1) rfl
    have qsG1 := box_cell (j := 1) ((HKS.out _ HS.out).2.2.2.1) rfl
    have qsG2 := box_cell (j := 2) ((HKS.out _ HS.out).2.2.2.1) rfl
    have qsG3 := box_cell (j := 3) ((HKS.out _ HS.out).2.2.2.1) rfl
    have qsG4 := box_cell (j := 4) ((HKS.out _ HS.out).2.2.2.1) rfl
    have hltG : v2.heap.size < v4.heap.size := by omega
    replace HE := Lib.hid (HE.out.trans (halG.mono (by omega)))
    replace HS := Lib.hid (HS.out.trans (halG.mono (by omega)))
    replace HX := Lib.hid (HX.out.trans (halG.mono (by omega)))
    clear halG seeG0
    have qgG0 := box_cell (j := 0) hbxG0 rfl
    have qgG1 := box_cell (j := 1) hbxG0 rfl
    have qgG2 := box_cell (j := 2) hbxG0 rfl
    have qgG3 := box_cell (j := 3) hbxG0 rfl
    have qgG4 := box_cell (j := 4) hbxG0 rfl
    go_wp2_with fail
    clear qgG0 qgG1 qgG2 qgG3 qgG4 qsG0 qsG1 qsG2 qsG3 qsG4 hltG
    generalize (v4.alloc (.cells #[.int .i64 r.1.fCap, .slice G0A1 G0n1 G0c1, .slice G0A2 G0n2 G0c2, .slice G0A3 G0n3 G0c3, .bool r.1.fClosed] 26)) = vG at *
    have seeG0 := layChan.seen (hi := v4.heap.size) ownG0 fun g hg => by have := hbdG0 g hg; omega
    have seeG1 := ownG1.seen (hi := v4.heap.size) fun g hg => by have := hbdG1 g hg; omega
    have seeG2 := ownG2.seen (hi := v4.heap.size) fun g hg => by have := hbdG2 g hg; omega
    have HKG := Lib.hid (fun (W : World) (hW : Below vG.heap.size vG W) => show layChan.see W v4.heap.size (r.1) [.int .i64 r.1.fCap, .slice G0A1 G0n1 G0c1, .slice G0A2 G0n2 G0c2, .slice G0A3 G0n3 G0c3, .bool r.1.fClosed] ∧ layChan.own W FG0 (r.1) [.int .i64 r.1.fCap, .slice G0A1 G0n1 G0c1, .slice G0A2 G0n2 G0c2, .slice G0A3 G0n3 G0c3, .bool r.1.fClosed] ∧ SeenR layWaiter W v4.heap.size AG1 (r.2.1).length (r.2.1) ∧ OwnR layWaiter 29 W FG1 AG1 (r.2.1).length cG1 (r.2.1) ∧ SeenR layWaiter W v4.heap.size AG2 (r.2.2.1).length (r.2.2.1) ∧ OwnR layWaiter 29 W FG2 AG2 (r.2.2.1).length cG2 (r.2.2.1) ∧ W.heap[v4.heap.size]? = some (.cells #[.int .i64 r.1.fCap, .slice G0A1 G0n1 G0c1, .slice G0A2 G0n2 G0c2, .slice G0A3 G0n3 G0c3, .bool r.1.fClosed] 26 (0, 0)) ∧ vG.heap.size ≤ W.heap.size from ⟨layChan.keep seeG0 (fun k hk => hW.block k (by omega)), layChan.stay ownG0 (fun g hg hlt => hW.block g hlt) hW.size, seeG1.keep (fun k hk => hW.block k (by omega)), ownG1.stay (fun g hg hlt => hW.block g hlt) hW.size, seeG2.keep (fun k hk => hW.block k (by omega)), ownG2.stay (fun g hg hlt => hW.block g hlt) hW.size, box_keep hbxG0 hW (by omega), hW.size⟩)
    have HG := Lib.hid (Below.refl vG.heap.size vG)
    clear seeG0 ownG0 seeG1 ownG1 seeG2 ownG2 hbxG0
    have qa1_0 := box_cell (j := 0) ((HKG.out _ HG.out).2.2.2.2.2.2.1) rfl
    have qa1_1 := box_cell (j := 1) ((HKG.out _ HG.out).2.2.2.2.2.2.1) rfl
    have qa1_2 := box_cell (j := 2) ((HKG.out _ HG.out).2.2.2.2.2.2.1) rfl
    have qa1_3 := box_cell (j := 3) ((HKG.out _ HG.out).2.2.2.2.2.2.1) rfl
    have qa1_4 := box_cell (j := 4) ((HKG.out _ HG.out).2.2.2.2.2.2.1) rfl
    have qb1_0 := box_cell (j := 0) ((HKS.out _ HS.out).2.2.2.1) rfl
    have qb1_1 := box_cell (j := 1) ((HKS.out _ HS.out).2.2.2.1) rfl
    have qb1_2 := box_cell (j := 2) ((HKS.out _ HS.out).2.2.2.1) rfl
    have qb1_3 := box_cell (j := 3) ((HKS.out _ HS.out).2.2.2.1) rfl
    have qb1_4 := box_cell (j := 4) ((HKS.out _ HS.out).2.2.2.1) rfl
    refine (eqChan_same ((HKG.out _ HG.out).1) ((HKS.out _ HS.out).1) (by omega) (by omega) hsz0).mono ?_
    rintro e v5 ⟨rfl, hbv5⟩
    have hzv5 := hbv5.size
    replace HE := Lib.hid (HE.out.trans (hbv5.mono (by omega)))
    replace HS := Lib.hid (HS.out.trans (hbv5.mono (by omega)))
    replace HX := Lib.hid (HX.out.trans (hbv5.mono (by omega)))
    replace HG := Lib.hid (HG.out.trans (hbv5.mono (by omega)))
    clear hbv5 qa1_0 qa1_1 qa1_2 qa1_3 qa1_4 qb1_0 qb1_1 qb1_2 qb1_3 qb1_4
    go_wp2_with fail
    refine (eqWaiterS_same (c := cG1) (c' := cS1) ((HKG.out _ HG.out).2.2.1) ((HKS.out _ HS.out).2.1) (by omega) (by omega) hsz1).mono ?_
    rintro e v6 ⟨rfl, hbv6⟩
    have hzv6 := hbv6.size
    replace HE := Lib.hid (HE.out.trans (hbv6.mono (by omega)))
    replace HS := Lib.hid (HS.out.trans (hbv6.mono (by omega)))
    replace HX := Lib.hid (HX.out.trans (hbv6.mono (by omega)))
    replace HG := Lib.hid (HG.out.trans (hbv6.mono (by omega)))
    clear hbv6
    go_wp2_with fail
    refine (eqWaiterS_same (c := cG2) (c' := cS2) ((HKG.out _ HG.out).2.2.2.2.1) ((HKS.out _ HS.out).2.2.1) (by omega) (by omega) hsz2).mono ?_
    rintro e v7 ⟨rfl, hbv7⟩
    have hzv7 := hbv7.size
    replace HE := Lib.hid (HE.out.trans (hbv7.mono (by omega)))
    replace HS := Lib.hid (HS.out.trans (hbv7.mono (by omega)))
    replace HX := Lib.hid (HX.out.trans (hbv7.mono (by omega)))
    replace HG := Lib.hid (HG.out.trans (hbv7.mono (by omega)))
    clear hbv7
    have pe4_0 := box_cell (j := 0) (HKE.out _ HE.out).2.2 rfl
    have pe4_1 := box_cell (j := 1) (HKE.out _ HE.out).2.2 rfl
    have pe4_2 := box_cell (j := 2) (HKE.out _ HE.out).2.2 rfl
    have pe4_3 := box_cell (j := 3) (HKE.out _ HE.out).2.2 rfl
    have pe4_4 := box_cell (j := 4) (HKE.out _ HE.out).2.2 rfl
    have px0 := box_cell (j := 0) (HKX.out _ HX.out).2.2.1 rfl
    have px1 := box_cell (j := 1) (HKX.out _ HX.out).2.2.1 rfl
    have px2 := box_cell (j := 2) (HKX.out _ HX.out).2.2.1 rfl
    have px3 := box_cell (j := 3) (HKX.out _ HX.out).2.2.1 rfl
    have px4 := box_cell (j := 4) (HKX.out _ HX.out).2.2.1 rfl
    have zX := (HKX.out _ HX.out).2.2.2
    have HT := Lib.hid (fun (W : World) (hW : Below v7.heap.size v7 W) => toChan_any (HKE.out W (HE.out.trans (hW.mono (by omega)))).2.1 (by have := hW.size; omega) hle)
    have HQ := Lib.hid (fun (W : World) (hW : Below v7.heap.size v7 W) (v5 : List Value) (own5 : layChan.own W (fun g => v7.heap.size ≤ g ∧ g < W.heap.size) x0 v5) => eqChan_same (HKX.out W (HX.out.trans (hW.mono (by omega)))).1 (layChan.seen (hi := W.heap.size) own5 fun g hg => hg.2) (by have := hW.size; omega) (Nat.le_refl _) hle)
    go_wp2_with fail
    go_region_with (first | (go_at_call 23; refine (HT.out v7.drew ⟨rfl, rfl, rfl, Nat.le_refl _, fun _ _ => rfl⟩).mono ?_; rintro e w5 ⟨v5, rfl, own5, hb5⟩; have hY5 : Below v7.heap.size v7 w5 := ⟨hb5.os, hb5.tape, hb5.output, hb5.size, hb5.block⟩; have HO5 := Lib.hid own5; clear own5 hb5; have ye0 := box_cell (j := 0) (box_keep (HKE.out _ HE.out).2.2 hY5 (by omega)) rfl; have ye1 := box_cell (j := 1) (box_keep (HKE.out _ HE.out).2.2 hY5 (by omega)) rfl; have ye2 := box_cell (j := 2) (box_keep (HKE.out _ HE.out).2.2 hY5 (by omega)) rfl; have ye3 := box_cell (j := 3) (box_keep (HKE.out _ HE.out).2.2 hY5 (by omega)) rfl; have ye4 := box_cell (j := 4) (box_keep (HKE.out _ HE.out).2.2 hY5 (by omega)) rfl; have yx0 := box_cell (j := 0) (box_keep (HKX.out _ HX.out).2.2.1 hY5 (by omega)) rfl; have yx1 := box_cell (j := 1) (box_keep (HKX.out _ HX.out).2.2.1 hY5 (by omega)) rfl; have yx2 := box_cell (j := 2) (box_keep (HKX.out _ HX.out).2.2.1 hY5 (by omega)) rfl; have yx3 := box_cell (j := 3) (box_keep (HKX.out _ HX.out).2.2.1 hY5 (by omega)) rfl; have yx4 := box_cell (j := 4) (box_keep (HKX.out _ HX.out).2.2.1 hY5 (by omega)) rfl) | (go_at_call 24; refine (HQ.out w5 hY5 v5 HO5.out).mono ?_; rintro e w6 ⟨rfl, hb6⟩))
    all_goals
      have hY6 := hY5.trans (hb6.mono hY5.size)
      have hz_6 := hY6.size
      replace HE := Lib.hid (HE.out.trans (hY6.mono (by omega)))
      replace HS := Lib.hid (HS.out.trans (hY6.mono (by omega)))
      replace HX := Lib.hid (HX.out.trans (hY6.mono (by omega)))
      replace HG := Lib.hid (HG.out.trans (hY6.mono (by omega)))
      clear HT HQ HO5 hY5 hY6 hb6 ye0 yx0 px0 pe4_0 ye1 yx1 px1 pe4_1 ye2 yx2 px2 pe4_2 ye3 yx3 px3 pe4_3 ye4 yx4 px4 pe4_4
      have px0 := box_cell (j := 0) (HKX.out _ HX.out).2.2.1 rfl
      have px1 := box_cell (j := 1) (HKX.out _ HX.out).2.2.1 rfl
      have px2 := box_cell (j := 2) (HKX.out _ HX.out).2.2.1 rfl
      have px3 := box_cell (j := 3) (HKX.out _ HX.out).2.2.1 rfl
      have px4 := box_cell (j := 4) (HKX.out _ HX.out).2.2.1 rfl
      have hvc := hvcX
      go_wp2_with fail
      refine (markChan_any (k := 1) (HKX.out _ HX.out).2.1 (fun g hg => by omega) hle (by omega) (by omega)).mono ?_
      rintro e v8 ⟨rfl, -, htX⟩
      have hzv8 := htX.size
      have hk0 : decide (1 + vcntChan x0 < 0) = false := decide_eq_false (by omega)
      replace HE := Lib.hid (HE.out.trans (htX.below (fun g hg => by omega) (by omega)))
      replace HS := Lib.hid (HS.out.trans (htX.below (fun g hg => by omega) (by omega)))
      clear px0 px1 px2 px3 px4
      have zG := (HKG.out _ HG.out).2.2.2.2.2.2.2
      have ownG20 := layChan.stay (w' := v8) ((HKG.out _ HG.out).2.1) (fun g hg hlt => htX.block g hlt (fun hF => by have := hbdG0 g hg; omega)) htX.size
      have ownG21 := ((HKG.out _ HG.out).2.2.2.1).stay (w' := v8) (fun g hg hlt => htX.block g hlt (fun hF => by have := hbdG1 g hg; omega)) htX.size
      have ownG22 := ((HKG.out _ HG.out).2.2.2.2.2.1).stay (w' := v8) (fun g hg hlt => htX.block g hlt (fun hF => by have := hbdG2 g hg; omega)) htX.size
      have hbxG20 := (htX.block (v4.heap.size) (by omega) (fun hF => by omega)).trans ((HKG.out _ HG.out).2.2.2.2.2.2.1)
      clear HKG HG htX
      have seeG20 := layChan.seen (hi := v4.heap.size) ownG20 fun g hg => by have := hbdG0 g hg; omega
      have seeG21 := ownG21.seen (hi := v4.heap.size) fun g hg => by have := hbdG1 g hg; omega
      have seeG22 := ownG22.seen (hi := v4.heap.size) fun g hg => by have := hbdG2 g hg; omega
      have HKG2 := Lib.hid (fun (W : World) (hW : Below v8.heap.size v8 W) => show layChan.see W v4.heap.size (r.1) [.int .i64 r.1.fCap, .slice G0A1 G0n1 G0c1, .slice G0A2 G0n2 G0c2, .slice G0A3 G0n3 G0c3, .bool r.1.fClosed] ∧ layChan.own W FG0 (r.1) [.int .i64 r.1.fCap, .slice G0A1 G0n1 G0c1, .slice G0A2 G0n2 G0c2, .slice G0A3 G0n3 G0c3, .bool r.1.fClosed] ∧ SeenR layWaiter W v4.heap.size AG1 (r.2.1).length (r.2.1) ∧ OwnR layWaiter 29 W FG1 AG1 (r.2.1).length cG1 (r.2.1) ∧ SeenR layWaiter W v4.heap.size AG2 (r.2.2.1).length (r.2.2.1) ∧ OwnR layWaiter 29 W FG2 AG2 (r.2.2.1).length cG2 (r.2.2.1) ∧ W.heap[v4.heap.size]? = some (.cells #[.int .i64 r.1.fCap, .slice G0A1 G0n1 G0c1, .slice G0A2 G0n2 G0c2, .slice G0A3 G0n3 G0c3, .bool r.1.fClosed] 26 (0, 0)) ∧ v8.heap.size ≤ W.heap.size from ⟨layChan.keep seeG20 (fun k hk => hW.block k (by omega)), layChan.stay ownG20 (fun g hg hlt => hW.block g hlt) hW.size, seeG21.keep (fun k hk => hW.block k (by omega)), ownG21.stay (fun g hg hlt => hW.block g hlt) hW.size, seeG22.keep (fun k hk => hW.block k (by omega)), ownG22.stay (fun g hg hlt => hW.block g hlt) hW.size, box_keep hbxG20 hW (by omega), hW.size⟩)
      have HG2 := Lib.hid (Below.refl v8.heap.size v8)
      clear seeG20 ownG20 seeG21 ownG21 seeG22 ownG22 hbxG20
      have qa5_0 := box_cell (j := 0) ((HKG2.out _ HG2.out).2.2.2.2.2.2.1) rfl
      have qa5_1 := box_cell (j := 1) ((HKG2.out _ HG2.out).2.2.2.2.2.2.1) rfl
      have qa5_2 := box_cell (j := 2) ((HKG2.out _ HG2.out).2.2.2.2.2.2.1) rfl
      have qa5_3 := box_cell (j := 3) ((HKG2.out _ HG2.out).2.2.2.2.2.2.1) rfl
      have qa5_4 := box_cell (j := 4) ((HKG2.out _ HG2.out).2.2.2.2.2.2.1) rfl
      have qb5_0 := box_cell (j := 0) ((HKS.out _ HS.out).2.2.2.1) rfl
      have qb5_1 := box_cell (j := 1) ((HKS.out _ HS.out).2.2.2.1) rfl
      have qb5_2 := box_cell (j := 2) ((HKS.out _ HS.out).2.2.2.1) rfl
      have qb5_3 := box_cell (j := 3) ((HKS.out _ HS.out).2.2.2.1) rfl
      have qb5_4 := box_cell (j := 4) ((HKS.out _ HS.out).2.2.2.1) rfl
      go_wp2_with fail
      refine (eqChan_same ((HKG2.out _ HG2.out).1) ((HKS.out _ HS.out).1) (by omega) (by omega) hsz0).mono ?_
      rintro e v9 ⟨rfl, hbv9⟩
      have hzv9 := hbv9.size
      replace HE := Lib.hid (HE.out.trans (hbv9.mono (by omega)))
      replace HS := Lib.hid (HS.out.trans (hbv9.mono (by omega)))
      replace HG2 := Lib.hid (HG2.out.trans (hbv9.mono (by omega)))
      clear hbv9 qa5_0 qa5_1 qa5_2 qa5_3 qa5_4 qb5_0 qb5_1 qb5_2 qb5_3 qb5_4
      go_wp2_with fail
      refine (eqWaiterS_same (c := cG1) (c' := cS1) ((HKG2.out _ HG2.out).2.2.1) ((HKS.out _ HS.out).2.1) (by omega) (by omega) hsz1).mono ?_
      rintro e v10 ⟨rfl, hbv10⟩
      have hzv10 := hbv10.size
      replace HE := Lib.hid (HE.out.trans (hbv10.mono (by omega)))
      replace HS := Lib.hid (HS.out.trans (hbv10.mono (by omega)))
      replace HG2 := Lib.hid (HG2.out.trans (hbv10.mono (by omega)))
      clear hbv10
      go_wp2_with fail
      refine (eqWaiterS_same (c := cG2) (c' := cS2) ((HKG2.out _ HG2.out).2.2.2.2.1) ((HKS.out _ HS.out).2.2.1) (by omega) (by omega) hsz2).mono ?_
      rintro e v11 ⟨rfl, hbv11⟩
      have hzv11 := hbv11.size
      replace HE := Lib.hid (HE.out.trans (hbv11.mono (by omega)))
      replace HS := Lib.hid (HS.out.trans (hbv11.mono (by omega)))
      replace HG2 := Lib.hid (HG2.out.trans (hbv11.mono (by omega)))
      clear hbv11
      have qm0_0 := box_cell (j := 0) ((HKG2.out _ HG2.out).2.2.2.2.2.2.1) rfl
      have qm0_1 := box_cell (j := 1) ((HKG2.out _ HG2.out).2.2.2.2.2.2.1) rfl
      have qm0_2 := box_cell (j := 2) ((HKG2.out _ HG2.out).2.2.2.2.2.2.1) rfl
      have qm0_3 := box_cell (j := 3) ((HKG2.out _ HG2.out).2.2.2.2.2.2.1) rfl
      have qm0_4 := box_cell (j := 4) ((HKG2.out _ HG2.out).2.2.2.2.2.2.1) rfl
      go_wp2_with fail
      refine (markChan_any (k := 1) ((HKG2.out _ HG2.out).2.1) (fun g hg => by have := hbdG0 g hg; omega) hsz0 (by omega) (by omega)).mono ?_
      rintro e v12 ⟨rfl, ownG30, htm0⟩
      clear qm0_0 qm0_1 qm0_2 qm0_3 qm0_4
      have hzv12 := htm0.size
      have hkk0 : decide (1 + vcntChan (r.1) < 0) = false := decide_eq_false (by omega)
      replace HE := Lib.hid (HE.out.trans (htm0.below (fun g hg => by have := hbdG0 g hg; omega) (by omega)))
      replace HS := Lib.hid (HS.out.trans (htm0.below (fun g hg => by have := hbdG0 g hg; omega) (by omega)))
      have ownG31 := ((HKG2.out _ HG2.out).2.2.2.1).stay (w' := v12) (fun g hg hlt => htm0.block g hlt (fun hF => by exact dG01 g hF hg)) htm0.size
      have ownG32 := ((HKG2.out _ HG2.out).2.2.2.2.2.1).stay (w' := v12) (fun g hg hlt => htm0.block g hlt (fun hF => by exact dG02 g hF hg)) htm0.size
      have hbxG30 := (htm0.block (v4.heap.size) (by omega) (fun hF => by have := hbdG0 _ hF; omega)).trans ((HKG2.out _ HG2.out).2.2.2.2.2.2.1)
      clear HKG2 HG2 htm0
      have seeG30 := layChan.seen (hi := v4.heap.size) ownG30 fun g hg => by have := hbdG0 g hg; omega
      have seeG31 := ownG31.seen (hi := v4.heap.size) fun g hg => by have := hbdG1 g hg; omega
      have seeG32 := ownG32.seen (hi := v4.heap.size) fun g hg => by have := hbdG2 g hg; omega
      have HKG3 := Lib.hid (fun (W : World) (hW : Below v12.heap.size v12 W) => show layChan.see W v4.heap.size (mkvChan (1) (r.1)) [.int .i64 r.1.fCap, .slice G0A1 G0n1 G0c1, .slice G0A2 G0n2 G0c2, .slice G0A3 G0n3 G0c3, .bool r.1.fClosed] ∧ layChan.own W FG0 (mkvChan (1) (r.1)) [.int .i64 r.1.fCap, .slice G0A1 G0n1 G0c1, .slice G0A2 G0n2 G0c2, .slice G0A3 G0n3 G0c3, .bool r.1.fClosed] ∧ SeenR layWaiter W v4.heap.size AG1 (r.2.1).length (r.2.1) ∧ OwnR layWaiter 29 W FG1 AG1 (r.2.1).length cG1 (r.2.1) ∧ SeenR layWaiter W v4.heap.size AG2 (r.2.2.1).length (r.2.2.1) ∧ OwnR layWaiter 29 W FG2 AG2 (r.2.2.1).length cG2 (r.2.2.1) ∧ W.heap[v4.heap.size]? = some (.cells #[.int .i64 r.1.fCap, .slice G0A1 G0n1 G0c1, .slice G0A2 G0n2 G0c2, .slice G0A3 G0n3 G0c3, .bool r.1.fClosed] 26 (0, 0)) ∧ v12.heap.size ≤ W.heap.size from ⟨layChan.keep seeG30 (fun k hk => hW.block k (by omega)), layChan.stay ownG30 (fun g hg hlt => hW.block g hlt) hW.size, seeG31.keep (fun k hk => hW.block k (by omega)), ownG31.stay (fun g hg hlt => hW.block g hlt) hW.size, seeG32.keep (fun k hk => hW.block k (by omega)), ownG32.stay (fun g hg hlt => hW.block g hlt) hW.size, box_keep hbxG30 hW (by omega), hW.size⟩)
      have HG3 := Lib.hid (Below.refl v12.heap.size v12)
      clear seeG30 ownG30 seeG31 ownG31 seeG32 ownG32 hbxG30
      go_wp2_with fail
      refine (markWaiterS_any (k := 1 + vcntChan (r.1)) ((HKG3.out _ HG3.out).2.2.2.1) hsz1 (by omega) (by omega)).mono ?_
      rintro e v13 ⟨rfl, ownG41, htm1⟩
      have hzv13 := htm1.size
      have hkk1 : decide (1 + vcntChan (r.1) + 3 * ((r.2.1).length : Int) < 0) = false := decide_eq_false (by omega)
      replace HE := Lib.hid (HE.out.trans (htm1.below (fun g hg => by have := hbdG1 g hg; omega) (by omega)))
      replace HS := Lib.hid (HS.out.trans (htm1.below (fun g hg => by have := hbdG1 g hg; omega) (by omega)))
      have ownG40 := layChan.stay (w' := v13) ((HKG3.out _ HG3.out).2.1) (fun g hg hlt => htm1.block g hlt (fun hF => by exact dG01 g hg hF)) htm1.size
      have ownG42 := ((HKG3.out _ HG3.out).2.2.2.2.2.1).stay (w' := v13) (fun g hg hlt => htm1.block g hlt (fun hF => by exact dG12 g hF hg)) htm1.size
      have hbxG40 := (htm1.block (v4.heap.size) (by omega) (fun hF => by have := hbdG1 _ hF; omega)).trans ((HKG3.out _ HG3.out).2.2.2.2.2.2.1)
      clear HKG3 HG3 htm1
      have seeG40 := layChan.seen (hi := v4.heap.size) ownG40 fun g hg => by have := hbdG0 g hg; omega
      have seeG41 := ownG41.seen (hi := v4.heap.size) fun g hg => by have := hbdG1 g hg; omega
      have seeG42 := ownG42.seen (hi := v4.heap.size) fun g hg => by have := hbdG2 g hg; omega
      have HKG4 := Lib.hid (fun (W : World) (hW : Below v13.heap.size v13 W) => show layChan.see W v4.heap.size (mkvChan (1) (r.1)) [.int .i64 r.1.fCap, .slice G0A1 G0n1 G0c1, .slice G0A2 G0n2 G0c2, .slice G0A3 G0n3 G0c3, .bool r.1.fClosed] ∧ layChan.own W FG0 (mkvChan (1) (r.1)) [.int .i64 r.1.fCap, .slice G0A1 G0n1 G0c1, .slice G0A2 G0n2 G0c2, .slice G0A3 G0n3 G0c3, .bool r.1.fClosed] ∧ SeenR layWaiter W v4.heap.size AG1 (r.2.1).length (marksWaiter (1 + vcntChan (r.1)) (r.2.1).length) ∧ OwnR layWaiter 29 W FG1 AG1 (r.2.1).length cG1 (marksWaiter (1 + vcntChan (r.1)) (r.2.1).length) ∧ SeenR layWaiter W v4.heap.size AG2 (r.2.2.1).length (r.2.2.1) ∧ OwnR layWaiter 29 W FG2 AG2 (r.2.2.1).length cG2 (r.2.2.1) ∧ W.heap[v4.heap.size]? = some (.cells #[.int .i64 r.1.fCap, .slice G0A1 G0n1 G0c1, .slice G0A2 G0n2 G0c2, .slice G0A3 G0n3 G0c3, .bool r.1.fClosed] 26 (0, 0)) ∧ v13.heap.size ≤ W.heap.size from ⟨layChan.keep seeG40 (fun k hk => hW.block k (by omega)), layChan.stay ownG40 (fun g hg hlt => hW.block g hlt) hW.size, seeG41.keep (fun k hk => hW.block k (by omega)), ownG41.stay (fun g hg hlt => hW.block g hlt) hW.size, seeG42.keep (fun k hk => hW.block k (by omega)), ownG42.stay (fun g hg hlt => hW.block g hlt) hW.size, box_keep hbxG40 hW (by omega), hW.size⟩)
      have HG4 := Lib.hid (Below.refl v13.heap.size v13)
      clear seeG40 ownG40 seeG41 ownG41 seeG42 ownG42 hbxG40
      go_wp2_with fail
      refine (markWaiterS_any (k := 1 + vcntChan (r.1) + 3 * ((r.2.1).length : Int)) ((HKG4.out _ HG4.out).2.2.2.2.2.1) hsz2 (by omega) (by omega)).mono ?_
      rintro e v14 ⟨rfl, ownG52, htm2⟩
      have hzv14 := htm2.size
      have hkk2 : decide (1 + vcntChan (r.1) + 3 * ((r.2.1).length : Int) + 3 * ((r.2.2.1).length : Int) < 0) = false := decide_eq_false (by omega)
      replace HE := Lib.hid (HE.out.trans (htm2.below (fun g hg => by have := hbdG2 g hg; omega) (by omega)))
      replace HS := Lib.hid (HS.out.trans (htm2.below (fun g hg => by have := hbdG2 g hg; omega) (by omega)))
      have ownG50 := layChan.stay (w' := v14) ((HKG4.out _ HG4.out).2.1) (fun g hg hlt => htm2.block g hlt (fun hF => by exact dG02 g hg hF)) htm2.size
      have ownG51 := ((HKG4.out _ HG4.out).2.2.2.1).stay (w' := v14) (fun g hg hlt => htm2.block g hlt (fun hF => by exact dG12 g hg hF)) htm2.size
      have hbxG50 := (htm2.block (v4.heap.size) (by omega) (fun hF => by have := hbdG2 _ hF; omega)).trans ((HKG4.out _ HG4.out).2.2.2.2.2.2.1)
      clear HKG4 HG4 htm2
      have seeG50 := layChan.seen (hi := v4.heap.size) ownG50 fun g hg => by have := hbdG0 g hg; omega
      have seeG51 := ownG51.seen (hi := v4.heap.size) fun g hg => by have := hbdG1 g hg; omega
      have seeG52 := ownG52.seen (hi := v4.heap.size) fun g hg => by have := hbdG2 g hg; omega
      have HKG5 := Lib.hid (fun (W : World) (hW : Below v14.heap.size v14 W) => show layChan.see W v4.heap.size (mkvChan (1) (r.1)) [.int .i64 r.1.fCap, .slice G0A1 G0n1 G0c1, .slice G0A2 G0n2 G0c2, .slice G0A3 G0n3 G0c3, .bool r.1.fClosed] ∧ layChan.own W FG0 (mkvChan (1) (r.1)) [.int .i64 r.1.fCap, .slice G0A1 G0n1 G0c1, .slice G0A2 G0n2 G0c2, .slice G0A3 G0n3 G0c3, .bool r.1.fClosed] ∧ SeenR layWaiter W v4.heap.size AG1 (r.2.1).length (marksWaiter (1 + vcntChan (r.1)) (r.2.1).length) ∧ OwnR layWaiter 29 W FG1 AG1 (r.2.1).length cG1 (marksWaiter (1 + vcntChan (r.1)) (r.2.1).length) ∧ SeenR layWaiter W v4.heap.size AG2 (r.2.2.1).length (marksWaiter (1 + vcntChan (r.1) + 3 * ((r.2.1).length : Int)) (r.2.2.1).length) ∧ OwnR layWaiter 29 W FG2 AG2 (r.2.2.1).length cG2 (marksWaiter (1 + vcntChan (r.1) + 3 * ((r.2.1).length : Int)) (r.2.2.1).length) ∧ W.heap[v4.heap.size]? = some (.cells #[.int .i64 r.1.fCap, .slice G0A1 G0n1 G0c1, .slice G0A2 G0n2 G0c2, .slice G0A3 G0n3 G0c3, .bool r.1.fClosed] 26 (0, 0)) ∧ v14.heap.size ≤ W.heap.size from ⟨layChan.keep seeG50 (fun k hk => hW.block k (by omega)), layChan.stay ownG50 (fun g hg hlt => hW.block g hlt) hW.size, seeG51.keep (fun k hk => hW.block k (by omega)), ownG51.stay (fun g hg hlt => hW.block g hlt) hW.size, seeG52.keep (fun k hk => hW.block k (by omega)), ownG52.stay (fun g hg hlt => hW.block g hlt) hW.size, box_keep hbxG50 hW (by omega), hW.size⟩)
      have HG5 := Lib.hid (Below.refl v14.heap.size v14)
      clear seeG50 ownG50 seeG51 ownG51 seeG52 ownG52 hbxG50
      have hqm : ((1 + vcntChan (r.1) + 3 * ((r.2.1).length : Int) + 3 * ((r.2.2.1).length : Int)) != (1 + vcntChan (r.1) + 3 * ((r.2.1).length : Int) + 3 * ((r.2.2.1).length : Int))) = false := by simp
      have qha0_0 := box_cell (j := 0) ((HKG5.out _ HG5.out).2.2.2.2.2.2.1) rfl
      have qha0_1 := box_cell (j := 1) ((HKG5.out _ HG5.out).2.2.2.2.2.2.1) rfl
      have qha0_2 := box_cell (j := 2) ((HKG5.out _ HG5.out).2.2.2.2.2.2.1) rfl
      have qha0_3 := box_cell (j := 3) ((HKG5.out _ HG5.out).2.2.2.2.2.2.1) rfl
      have qha0_4 := box_cell (j := 4) ((HKG5.out _ HG5.out).2.2.2.2.2.2.1) rfl
      go_wp2_with fail
      refine (heldChan_any (k := 1) ((HKG5.out _ HG5.out).1) (by omega) hsz0 (by omega) (by omega)).mono ?_
      rintro e v15 ⟨rfl, hbv15⟩
      have hzv15 := hbv15.size
      replace HE := Lib.hid (HE.out.trans (hbv15.mono (by omega)))
      replace HS := Lib.hid (HS.out.trans (hbv15.mono (by omega)))
      replace HG5 := Lib.hid (HG5.out.trans (hbv15.mono (by omega)))
      clear hbv15 qha0_0 qha0_1 qha0_2 qha0_3 qha0_4
      go_wp2_with fail
      refine (heldWaiterS_any (k := 1 + vcntChan (r.1)) ((HKG5.out _ HG5.out).2.2.1) hsz1 (by omega) (by omega)).mono ?_
      rintro e v16 ⟨rfl, hbwv16⟩
      subst hbwv16
      go_wp2_with fail
      refine (heldWaiterS_any (k := 1 + vcntChan (r.1) + 3 * ((r.2.1).length : Int)) ((HKG5.out _ HG5.out).2.2.2.2.1) hsz2 (by omega) (by omega)).mono ?_
      rintro e v16 ⟨rfl, hbwv16⟩
      subst hbwv16
      have pe5_0 := box_cell (j := 0) (HKE.out _ HE.out).2.2 rfl
      have pe5_1 := box_cell (j := 1) (HKE.out _ HE.out).2.2 rfl
      have pe5_2 := box_cell (j := 2) (HKE.out _ HE.out).2.2 rfl
      have pe5_3 := box_cell (j := 3) (HKE.out _ HE.out).2.2 rfl
      have pe5_4 := box_cell (j := 4) (HKE.out _ HE.out).2.2 rfl
      go_wp2_with fail
      refine (toChan_any (HKE.out _ HE.out).2.1 (by omega) hle).mono ?_
      rintro e v16 ⟨uv16, rfl, ownv16, hbv16⟩
      have hzv16 := hbv16.size
      replace HE := Lib.hid (HE.out.trans (hbv16.mono (by omega)))
      replace HS := Lib.hid (HS.out.trans (hbv16.mono (by omega)))
      replace HG5 := Lib.hid (HG5.out.trans (hbv16.mono (by omega)))
      clear pe5_0 pe5_1 pe5_2 pe5_3 pe5_4
      have see9 := layChan.seen (hi := v16.heap.size) ownv16 fun g hg => hg.2
      clear ownv16 hbv16
      go_wp2_with fail
      refine (HIM.out _ _ _ see9 (Nat.le_refl _)).mono ?_
      rintro e v17 ⟨uH, AH1, nH1, cH1, AH2, nH2, cH2, FH0, FH1, FH2, rfl, ownH0, ownH1, ownH2, hbdH0, hbdH1, hbdH2, dH01, dH02, dH12, hbv17⟩
      have hln := ownH1.1
      subst hln
      have hln := ownH2.1
      subst hln
      have hzv17 := hbv17.size
      replace HE := Lib.hid (HE.out.trans (hbv17.mono (by omega)))
      replace HS := Lib.hid (HS.out.trans (hbv17.mono (by omega)))
      replace HG5 := Lib.hid (HG5.out.trans (hbv17.mono (by omega)))
      clear see9 hbv17
      have seeH0 := layChan.seen (hi := v17.heap.size) ownH0 fun g hg => (hbdH0 g hg).2
      obtain ⟨H0A1, H0n1, H0c1, H0A2, H0n2, H0c2, H0A3, H0n3, H0c3, rfl, -⟩ := seeChan seeH0
      have halH : Below v17.heap.size v17 (v17.alloc (.cells #[.int .i64 r.1.fCap, .slice H0A1 H0n1 H0c1, .slice H0A2 H0n2 H0c2, .slice H0A3 H0n3 H0c3, .bool r.1.fClosed] 26)) := by go_grown
      have hbxH0 : (v17.alloc (.cells #[.int .i64 r.1.fCap, .slice H0A1 H0n1 H0c1, .slice H0A2 H0n2 H0c2, .slice H0A3 H0n3 H0c3, .bool r.1.fClosed] 26)).heap[v17.heap.size]? = some (.cells #[.int .i64 r.1.fCap, .slice H0A1 H0n1 H0c1, .slice H0A2 H0n2 H0c2, .slice H0A3 H0n3 H0c3, .bool r.1.fClosed] 26 (0, 0)) := by have := box_new v17 #[.int .i64 r.1.fCap, .slice H0A1 H0n1 H0c1, .slice H0A2 H0n2 H0c2, .slice H0A3 H0n3 H0c3, .bool r.1.fClosed] 26; simpa using this
      replace ownH0 := layChan.stay (w' := (v17.alloc (.cells #[.int .i64 r.1.fCap, .slice H0A1 H0n1 H0c1, .slice H0A2 H0n2 H0c2, .slice H0A3 H0n3 H0c3, .bool r.1.fClosed] 26))) ownH0 (fun g hg hlt => halH.block g hlt) halH.size
      replace ownH1 := ownH1.stay (w' := (v17.alloc (.cells #[.int .i64 r.1.fCap, .slice H0A1 H0n1 H0c1, .slice H0A2 H0n2 H0c2, .slice H0A3 H0n3 H0c3, .bool r.1.fClosed] 26))) (fun g hg hlt => halH.block g hlt) halH.size
      replace ownH2 := ownH2.stay (w' := (v17.alloc (.cells #[.int .i64 r.1.fCap, .slice H0A1 H0n1 H0c1, .slice H0A2 H0n2 H0c2, .slice H0A3 H0n3 H0c3, .bool r.1.fClosed] 26))) (fun g hg hlt => halH.block g hlt) halH.size
      have hzaH : v17.heap.size + 1 ≤ (v17.alloc (.cells #[.int .i64 r.1.fCap, .slice H0A1 H0n1 H0c1, .slice H0A2 H0n2 H0c2, .slice H0A3 H0n3 H0c3, .bool r.1.fClosed] 26)).heap.size := by simp
      have hzbH : (v17.alloc (.cells #[.int .i64 r.1.fCap, .slice H0A1 H0n1 H0c1, .slice H0A2 H0n2 H0c2, .slice H0A3 H0n3 H0c3, .bool r.1.fClosed] 26)).heap.size ≤ v17.heap.size + 1 := by simp
      have qsH0 := box_cell (j := 0) ((HKS.out _ HS.out).2.2.2.1) rfl
      have qsH1 := box_cell (j := 1) ((HKS.out _ HS.out).2.2.2.1) rfl
      have qsH2 := box_cell (j := 2) ((HKS.out _ HS.out).2.2.2.1) rfl
      have qsH3 := box_cell (j := 3) ((HKS.out _ HS.out).2.2.2.1) rfl
      have qsH4 := box_cell (j := 4) ((HKS.out _ HS.out).2.2.2.1) rfl
      have hltH : v2.heap.size < v17.heap.size := by omega
      replace HE := Lib.hid (HE.out.trans (halH.mono (by omega)))
      replace HS := Lib.hid (HS.out.trans (halH.mono (by omega)))
      replace HG5 := Lib.hid (HG5.out.trans (halH.mono (by omega)))
      clear halH seeH0
      have qgH0 := box_cell (j := 0) hbxH0 rfl
      have qgH1 := box_cell (j := 1) hbxH0 rfl
      have qgH2 := box_cell (j := 2) hbxH0 rfl
      have qgH3 := box_cell (j := 3) hbxH0 rfl
      have qgH4 := box_cell (j := 4) hbxH0 rfl
      go_wp2_with fail
      clear qgH0 qgH1 qgH2 qgH3 qgH4 qsH0 qsH1 qsH2 qsH3 qsH4 hltH
      generalize (v17.alloc (.cells #[.int .i64 r.1.fCap, .slice H0A1 H0n1 H0c1, .slice H0A2 H0n2 H0c2, .slice H0A3 H0n3 H0c3, .bool r.1.fClosed] 26)) = vH at *
      have seeH0 := layChan.seen (hi := v17.heap.size) ownH0 fun g hg => by have := hbdH0 g hg; omega
      have seeH1 := ownH1.seen (hi := v17.heap.size) fun g hg => by have := hbdH1 g hg; omega
      have seeH2 := ownH2.seen (hi := v17.heap.size) fun g hg => by have := hbdH2 g hg; omega
      have HKH := Lib.hid (fun (W : World) (hW : Below vH.heap.size vH W) => show layChan.see W v17.heap.size (r.1) [.int .i64 r.1.fCap, .slice H0A1 H0n1 H0c1, .slice H0A2 H0n2 H0c2, .slice H0A3 H0n3 H0c3, .bool r.1.fClosed] ∧ SeenR layWaiter W v17.heap.size AH1 (r.2.1).length (r.2.1) ∧ SeenR layWaiter W v17.heap.size AH2 (r.2.2.1).length (r.2.2.1) ∧ W.heap[v17.heap.size]? = some (.cells #[.int .i64 r.1.fCap, .slice H0A1 H0n1 H0c1, .slice H0A2 H0n2 H0c2, .slice H0A3 H0n3 H0c3, .bool r.1.fClosed] 26 (0, 0)) ∧ vH.heap.size ≤ W.heap.size from ⟨layChan.keep seeH0 (fun k hk => hW.block k (by omega)), seeH1.keep (fun k hk => hW.block k (by omega)), seeH2.keep (fun k hk => hW.block k (by omega)), box_keep hbxH0 hW (by omega), hW.size⟩)
      have HH := Lib.hid (Below.refl vH.heap.size vH)
      clear seeH0 ownH0 seeH1 ownH1 seeH2 ownH2 hbxH0
      have qa9_0 := box_cell (j := 0) ((HKH.out _ HH.out).2.2.2.1) rfl
      have qa9_1 := box_cell (j := 1) ((HKH.out _ HH.out).2.2.2.1) rfl
      have qa9_2 := box_cell (j := 2) ((HKH.out _ HH.out).2.2.2.1) rfl
      have qa9_3 := box_cell (j := 3) ((HKH.out _ HH.out).2.2.2.1) rfl
      have qa9_4 := box_cell (j := 4) ((HKH.out _ HH.out).2.2.2.1) rfl
      have qb9_0 := box_cell (j := 0) ((HKS.out _ HS.out).2.2.2.1) rfl
      have qb9_1 := box_cell (j := 1) ((HKS.out _ HS.out).2.2.2.1) rfl
      have qb9_2 := box_cell (j := 2) ((HKS.out _ HS.out).2.2.2.1) rfl
      have qb9_3 := box_cell (j := 3) ((HKS.out _ HS.out).2.2.2.1) rfl
      have qb9_4 := box_cell (j := 4) ((HKS.out _ HS.out).2.2.2.1) rfl
      refine (eqChan_same ((HKH.out _ HH.out).1) ((HKS.out _ HS.out).1) (by omega) (by omega) hsz0).mono ?_
      rintro e v18 ⟨rfl, hbv18⟩
      have hzv18 := hbv18.size
      replace HE := Lib.hid (HE.out.trans (hbv18.mono (by omega)))
      replace HS := Lib.hid (HS.out.trans (hbv18.mono (by omega)))
      replace HG5 := Lib.hid (HG5.out.trans (hbv18.mono (by omega)))
      replace HH := Lib.hid (HH.out.trans (hbv18.mono (by omega)))
      clear hbv18 qa9_0 qa9_1 qa9_2 qa9_3 qa9_4 qb9_0 qb9_1 qb9_2 qb9_3 qb9_4
      go_wp2_with fail
      refine (eqWaiterS_same (c := cH1) (c' := cS1) ((HKH.out _ HH.out).2.1) ((HKS.out _ HS.out).2.1) (by omega) (by omega) hsz1).mono ?_
      rintro e v19 ⟨rfl, hbv19⟩
      have hzv19 := hbv19.size
      replace HE := Lib.hid (HE.out.trans (hbv19.mono (by omega)))
      replace HS := Lib.hid (HS.out.trans (hbv19.mono (by omega)))
      replace HG5 := Lib.hid (HG5.out.trans (hbv19.mono (by omega)))
      replace HH := Lib.hid (HH.out.trans (hbv19.mono (by omega)))
      clear hbv19
      go_wp2_with fail
      refine (eqWaiterS_same (c := cH2) (c' := cS2) ((HKH.out _ HH.out).2.2.1) ((HKS.out _ HS.out).2.2.1) (by omega) (by omega) hsz2).mono ?_
      rintro e v20 ⟨rfl, hbv20⟩
      have hzv20 := hbv20.size
      replace HE := Lib.hid (HE.out.trans (hbv20.mono (by omega)))
      replace HS := Lib.hid (HS.out.trans (hbv20.mono (by omega)))
      replace HG5 := Lib.hid (HG5.out.trans (hbv20.mono (by omega)))
      replace HH := Lib.hid (HH.out.trans (hbv20.mono (by omega)))
      clear hbv20
      have qhb0_0 := box_cell (j := 0) ((HKG5.out _ HG5.out).2.2.2.2.2.2.1) rfl
      have qhb0_1 := box_cell (j := 1) ((HKG5.out _ HG5.out).2.2.2.2.2.2.1) rfl
      have qhb0_2 := box_cell (j := 2) ((HKG5.out _ HG5.out).2.2.2.2.2.2.1) rfl
      have qhb0_3 := box_cell (j := 3) ((HKG5.out _ HG5.out).2.2.2.2.2.2.1) rfl
      have qhb0_4 := box_cell (j := 4) ((HKG5.out _ HG5.out).2.2.2.2.2.2.1) rfl
      go_wp2_with fail
      refine (heldChan_any (k := 1) ((HKG5.out _ HG5.out).1) (by omega) hsz0 (by omega) (by omega)).mono ?_
      rintro e v21 ⟨rfl, hbv21⟩
      have hzv21 := hbv21.size
      replace HE := Lib.hid (HE.out.trans (hbv21.mono (by omega)))
      replace HS := Lib.hid (HS.out.trans (hbv21.mono (by omega)))
      replace HG5 := Lib.hid (HG5.out.trans (hbv21.mono (by omega)))
      replace HH := Lib.hid (HH.out.trans (hbv21.mono (by omega)))
      clear hbv21 qhb0_0 qhb0_1 qhb0_2 qhb0_3 qhb0_4
      go_wp2_with fail
      refine (heldWaiterS_any (k := 1 + vcntChan (r.1)) ((HKG5.out _ HG5.out).2.2.1) hsz1 (by omega) (by omega)).mono ?_
      rintro e v22 ⟨rfl, hbwv22⟩
      subst hbwv22
      go_wp2_with fail
      refine (heldWaiterS_any (k := 1 + vcntChan (r.1) + 3 * ((r.2.1).length : Int)) ((HKG5.out _ HG5.out).2.2.2.2.1) hsz2 (by omega) (by omega)).mono ?_
      rintro e v22 ⟨rfl, hbwv22⟩
      subst hbwv22
      go_wp2_with fail
      go_ret
      exact ⟨rfl, (HKE.out _ HE.out).1.2⟩
  · go_wp2_with fail
    go_ret
    exact ⟨rfl, (HKE.out _ HE.out).1.2⟩

set_option maxRecDepth 100000 in
theorem lifted (os : Os) (started : os.Started) (H : Type) (enc : TypeId × Value → H) :
    ReturnsInHanded {} Try.checked os 9 .any (Rows.fnExactCloseItSpec.pre6 enc Try.prog Try.f9 Rows.fnExactCloseItRow.domain false) (Rows.fnExactCloseItSpec.post enc Try.prog Try.f9 false true false false) := by
  refine returnsInHanded_of_change (C := Try.checked) own started (by kernel_rfl) Try.func9
    (ChangeSpec.witness6 (enc := enc) (C := Try.checked) false ⟨#[], #[.agg #[.int .i64 0, .slice none 0 0, .slice none 0 0, .slice none 0 0, .bool false]], []⟩ 8 (by kernel_rfl) (by kernel_rfl) (by kernel_rfl) (by kernel_rfl)) ?_
  intro W base args ds gs before hval0 hW hcnd _
  have hval : ∀ (j : Nat) t v, Try.f9.params[j]? = some t → args[j]? = some v → Value.okWide Try.prog W .any base t v := hval0
  have hW' := hW
  obtain ⟨p, q, hA0, hV, rfl, hfz, hnd⟩ := hW
  have hA : DataW.TrodAll enc Try.prog W 0 (fun _ => true) true Try.f9.params.toList args.toList ds p := hA0
  rw [Try.params9] at hA hval
  obtain ⟨v0, vs0, d0, ds0, p0, q0, hargs, rfl, rfl, h0, r0⟩ := trodAll_cons hA
  obtain ⟨rfl, rfl, rfl⟩ := trodAll_nil r0
  obtain rfl : args = #[v0] := by cases args; simp_all
  obtain ⟨rfl, rfl⟩ := trodVars_none hV
  obtain ⟨cs0, rfl, _⟩ := okWide_struct Try.underlying41 (hval 0 41 v0 rfl rfl)
  obtain ⟨vc0, rfl⟩ : ∃ l : List Value, cs0 = l.toArray := ⟨cs0.toList, by simp⟩
  have k0 := h0
  have lt0 : ∀ x ∈ p0, x.block < W.heap.size := by obtain ⟨m, hm⟩ := k0; exact DataW.trod_lt m _ _ _ hm
  obtain ⟨x0, s0'⟩ := (opensChan).arg h0
  have s0 : layChan.see W W.heap.size x0 vc0 := by simpa [Value.cells] using s0'
  clear hA0 hval0
  refine (walk W x0 _ s0).mono fun e W' ⟨he, bel⟩ => ?_
  subst he
  exact ⟨_, rfl, _, _, _, [], _, [], hW', trodAll_mk1 (shut_bool Try.underlying4 _), (trodAll_cons_mk (Below.trod laidOut (by kernel_rfl) (of_decide_eq_true (by kernel_rfl)) k0 bel lt0) trodAll_mk0), rfl, bel.frame _, fun h => by cases h⟩

theorem over : Rows.fnExactCloseItRow.holds Try.pinned (OpenSpec.ofChange Rows.fnExactCloseItSpec) :=
  OpenClaim.holds_of_wide 9 Try.f9 rfl rfl rfl rfl rfl rfl rfl ⟨rfl, rfl, rfl, rfl, rfl⟩ rfl rfl rfl rfl rfl (by kernel_rfl) Try.func9 (by kernel_rfl)
    (of_decide_eq_true (by kernel_rfl)) (by unfold Func.isWrapper; first | (rw [if_pos (by decide +kernel)]; kernel_rfl) | (rw [if_neg (by decide +kernel)]; exact ⟨rfl, rfl⟩))
    (fun os started H enc _ => lifted os started H enc)

theorem proved : Rows.FnExactCloseItSaid := over
#print axioms proved
end Go.Proofs.Ytgdmcdblhpdlmaa.fnExactCloseIt
