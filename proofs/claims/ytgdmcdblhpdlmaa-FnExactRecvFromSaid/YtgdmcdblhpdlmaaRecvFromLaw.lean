/- At every channel RecvFrom answers as the specification; it writes into no argument, and its answer owns its memory. No condition but that of the statement. -/
import Derived.Test.YtgdmcdblhpdlmaaRows
import Derived.WalkKit
import Derived.Test.YtgdmcdblhpdlmaaChanLawY
import Derived.Test.YtgdmcdblhpdlmaaMChan
import Derived.Lib.Hide
import Derived.ProofKit
import Derived.OpenShut
import Derived.ShutString
import Derived.ChangeOld
import Derived.Below
namespace Go.Proofs.Ytgdmcdblhpdlmaa.fnExactRecvFrom
open Go.ChangeShapes Go.WideShapes Go.ChangeAt Go.RowKit
open Go.ChangeMaps (open_string shut_string)
set_option linter.unusedVariables false
set_option linter.unusedSimpArgs false

theorem own : ownKnob Try.prog.godebug = none := by kernel_rfl
theorem laidOut : laidOutB Try.prog = true := by kernel_rfl

set_option maxRecDepth 100000 in
set_option maxHeartbeats 4000000 in
theorem walk (w : World) (x0 : DChan) (vs0 : List Value) (s0 : layChan.see w w.heap.size x0 vs0) :
    Calls Try.prog 8 #[.agg vs0.toArray] w fun e w' => e = .returned (.bool true) ∧ Below w.heap.size w w' := by
  obtain ⟨pA1, pn1, pc1, pA2, pn2, pc2, pA3, pn3, pc3, rfl, -⟩ := seeChan s0
  have HKE := Lib.hid (fun (W : World) (hW : Below (w.heap.size + 1) (w.alloc (.cells #[.int .i64 x0.fCap, .slice pA1 pn1 pc1, .slice pA2 pn2 pc2, .slice pA3 pn3 pc3, .bool x0.fClosed] 41)) W) => show (w.heap.size + 1 ≤ W.heap.size ∧ Below w.heap.size w W) ∧ layChan.see W w.heap.size x0 [.int .i64 x0.fCap, .slice pA1 pn1 pc1, .slice pA2 pn2 pc2, .slice pA3 pn3 pc3, .bool x0.fClosed] ∧ W.heap[w.heap.size]? = some (.cells #[.int .i64 x0.fCap, .slice pA1 pn1 pc1, .slice pA2 pn2 pc2, .slice pA3 pn3 pc3, .bool x0.fClosed] 41 (0, 0)) from ⟨⟨by simpa using hW.size, ((Below.refl _ _).alloc (Nat.le_refl _) _).trans (hW.mono (by omega))⟩, layChan.keep s0 (fun k hk => (hW.block k (by omega)).trans (Below.heap_alloc w _ k hk)), box_keep (box_new w #[.int .i64 x0.fCap, .slice pA1 pn1 pc1, .slice pA2 pn2 pc2, .slice pA3 pn3 pc3, .bool x0.fClosed] 41) hW (Nat.lt_succ_self _)⟩)
  have HE := Lib.hid (show Below (w.heap.size + 1) (w.alloc (.cells #[.int .i64 x0.fCap, .slice pA1 pn1 pc1, .slice pA2 pn2 pc2, .slice pA3 pn3 pc3, .bool x0.fClosed] 41)) (w.alloc (.cells #[.int .i64 x0.fCap, .slice pA1 pn1 pc1, .slice pA2 pn2 pc2, .slice pA3 pn3 pc3, .bool x0.fClosed] 41)) from Below.refl _ _)
  clear s0
  go_enter Try.func8, Try.ntmps8
  go_wp2_with fail
  refine (szChan_any (l := 1048576) (HKE.out _ HE.out).2.1 (by simp) (Nat.le_refl _)).mono ?_
  rintro e v0 ⟨hb0, hcase⟩
  replace HE := Lib.hid (HE.out.trans (hb0.mono (by simp)))
  have zE := (HKE.out _ HE.out).1.1
  clear hb0
  rcases hcase with ⟨hle, rfl⟩ | ⟨hle, rfl⟩
  · skip
    have hsz0 : szChan (recvR x0).1 ≤ 1048576 := recvR_sz hle
    have hvcX := vcntChan_le hle
    have hvc0 := vcntChan_le hsz0
    have HSP := Lib.hid (fun (W : World) (hi : Nat) (vs : List Value) (h : layChan.see W hi x0 vs) (hhi : hi ≤ W.heap.size) => specRecvFrom_law h hhi hle)
    have HIM := Lib.hid (fun (W : World) (hi : Nat) (vs : List Value) (h : layChan.see W hi x0 vs) (hhi : hi ≤ W.heap.size) => implRecvFrom_law h hhi hle)
    generalize recvR x0 = r at *
    have hq1 : (r.2.1 != r.2.1) = false := by simp
    have hq2 : (r.2.2.1 != r.2.2.1) = false := by simp
    have hq4 : (r.2.2.2.2 != r.2.2.2.2) = false := by simp
    have pe1_0 := box_cell (j := 0) (HKE.out _ HE.out).2.2 rfl
    have pe1_1 := box_cell (j := 1) (HKE.out _ HE.out).2.2 rfl
    have pe1_2 := box_cell (j := 2) (HKE.out _ HE.out).2.2 rfl
    have pe1_3 := box_cell (j := 3) (HKE.out _ HE.out).2.2 rfl
    have pe1_4 := box_cell (j := 4) (HKE.out _ HE.out).2.2 rfl
    go_wp2_with fail
    refine (toChan_any (HKE.out _ HE.out).2.1 (by omega) hle).mono ?_
    rintro e v1 ⟨uv1, rfl, ownv1, hbv1⟩
    have hzv1 := hbv1.size
    replace HE := Lib.hid (HE.out.trans (hbv1.mono (by omega)))
    clear pe1_0 pe1_1 pe1_2 pe1_3 pe1_4
    have see1 := layChan.seen (hi := v1.heap.size) ownv1 fun g hg => hg.2
    clear ownv1 hbv1
    go_wp2_with fail
    refine (HSP.out _ _ _ see1 (Nat.le_refl _)).mono ?_
    rintro e v2 ⟨uS, FS0, rfl, ownS0, hbdS0, hbv2⟩
    have hzv2 := hbv2.size
    replace HE := Lib.hid (HE.out.trans (hbv2.mono (by omega)))
    clear see1 hbv2
    have pe2_0 := box_cell (j := 0) (HKE.out _ HE.out).2.2 rfl
    have pe2_1 := box_cell (j := 1) (HKE.out _ HE.out).2.2 rfl
    have pe2_2 := box_cell (j := 2) (HKE.out _ HE.out).2.2 rfl
    have pe2_3 := box_cell (j := 3) (HKE.out _ HE.out).2.2 rfl
    have pe2_4 := box_cell (j := 4) (HKE.out _ HE.out).2.2 rfl
    have seeS0 := layChan.seen (hi := v2.heap.size) ownS0 fun g hg => (hbdS0 g hg).2
    obtain ⟨S0A1, S0n1, S0c1, S0A2, S0n2, S0c2, S0A3, S0n3, S0c3, rfl, -⟩ := seeChan seeS0
    have halS : Below v2.heap.size v2 ((v2.alloc (.cells #[.int .i64 r.1.fCap, .slice S0A1 S0n1 S0c1, .slice S0A2 S0n2 S0c2, .slice S0A3 S0n3 S0c3, .bool r.1.fClosed] 26)).alloc (.cells #[.int .i64 r.2.2.2.1.fG, .int .i64 r.2.2.2.1.fCase, .int .i64 r.2.2.2.1.fVal] 29)) := by go_grown
    have hbxS0 : (v2.alloc (.cells #[.int .i64 r.1.fCap, .slice S0A1 S0n1 S0c1, .slice S0A2 S0n2 S0c2, .slice S0A3 S0n3 S0c3, .bool r.1.fClosed] 26)).heap[v2.heap.size]? = some (.cells #[.int .i64 r.1.fCap, .slice S0A1 S0n1 S0c1, .slice S0A2 S0n2 S0c2, .slice S0A3 S0n3 S0c3, .bool r.1.fClosed] 26 (0, 0)) := by have := box_new v2 #[.int .i64 r.1.fCap, .slice S0A1 S0n1 S0c1, .slice S0A2 S0n2 S0c2, .slice S0A3 S0n3 S0c3, .bool r.1.fClosed] 26; simpa using this
    have hbxS3 : ((v2.alloc (.cells #[.int .i64 r.1.fCap, .slice S0A1 S0n1 S0c1, .slice S0A2 S0n2 S0c2, .slice S0A3 S0n3 S0c3, .bool r.1.fClosed] 26)).alloc (.cells #[.int .i64 r.2.2.2.1.fG, .int .i64 r.2.2.2.1.fCase, .int .i64 r.2.2.2.1.fVal] 29)).heap[v2.heap.size + 1]? = some (.cells #[.int .i64 r.2.2.2.1.fG, .int .i64 r.2.2.2.1.fCase, .int .i64 r.2.2.2.1.fVal] 29 (0, 0)) := by have := box_new (v2.alloc (.cells #[.int .i64 r.1.fCap, .slice S0A1 S0n1 S0c1, .slice S0A2 S0n2 S0c2, .slice S0A3 S0n3 S0c3, .bool r.1.fClosed] 26)) #[.int .i64 r.2.2.2.1.fG, .int .i64 r.2.2.2.1.fCase, .int .i64 r.2.2.2.1.fVal] 29; simpa using this
    replace hbxS0 := box_keep hbxS0 ((Below.refl _ _).alloc (Nat.le_refl _) (.cells #[.int .i64 r.2.2.2.1.fG, .int .i64 r.2.2.2.1.fCase, .int .i64 r.2.2.2.1.fVal] 29)) (by simp)
    replace ownS0 := layChan.stay (w' := ((v2.alloc (.cells #[.int .i64 r.1.fCap, .slice S0A1 S0n1 S0c1, .slice S0A2 S0n2 S0c2, .slice S0A3 S0n3 S0c3, .bool r.1.fClosed] 26)).alloc (.cells #[.int .i64 r.2.2.2.1.fG, .int .i64 r.2.2.2.1.fCase, .int .i64 r.2.2.2.1.fVal] 29))) ownS0 (fun g hg hlt => halS.block g hlt) halS.size
    have hzaS : v2.heap.size + 2 ≤ ((v2.alloc (.cells #[.int .i64 r.1.fCap, .slice S0A1 S0n1 S0c1, .slice S0A2 S0n2 S0c2, .slice S0A3 S0n3 S0c3, .bool r.1.fClosed] 26)).alloc (.cells #[.int .i64 r.2.2.2.1.fG, .int .i64 r.2.2.2.1.fCase, .int .i64 r.2.2.2.1.fVal] 29)).heap.size := by simp
    have hzbS : ((v2.alloc (.cells #[.int .i64 r.1.fCap, .slice S0A1 S0n1 S0c1, .slice S0A2 S0n2 S0c2, .slice S0A3 S0n3 S0c3, .bool r.1.fClosed] 26)).alloc (.cells #[.int .i64 r.2.2.2.1.fG, .int .i64 r.2.2.2.1.fCase, .int .i64 r.2.2.2.1.fVal] 29)).heap.size ≤ v2.heap.size + 2 := by simp
    replace HE := Lib.hid (HE.out.trans (halS.mono (by omega)))
    clear halS
    have hltS : w.heap.size < v2.heap.size := by omega
    go_wp2_with fail
    clear hltS
    generalize ((v2.alloc (.cells #[.int .i64 r.1.fCap, .slice S0A1 S0n1 S0c1, .slice S0A2 S0n2 S0c2, .slice S0A3 S0n3 S0c3, .bool r.1.fClosed] 26)).alloc (.cells #[.int .i64 r.2.2.2.1.fG, .int .i64 r.2.2.2.1.fCase, .int .i64 r.2.2.2.1.fVal] 29)) = vS at *
    clear pe2_0 pe2_1 pe2_2 pe2_3 pe2_4
    have seeS0 := layChan.seen (hi := v2.heap.size) ownS0 fun g hg => by have := hbdS0 g hg; omega
    have HKS := Lib.hid (fun (W : World) (hW : Below vS.heap.size vS W) => show layChan.see W v2.heap.size (r.1) [.int .i64 r.1.fCap, .slice S0A1 S0n1 S0c1, .slice S0A2 S0n2 S0c2, .slice S0A3 S0n3 S0c3, .bool r.1.fClosed] ∧ W.heap[v2.heap.size]? = some (.cells #[.int .i64 r.1.fCap, .slice S0A1 S0n1 S0c1, .slice S0A2 S0n2 S0c2, .slice S0A3 S0n3 S0c3, .bool r.1.fClosed] 26 (0, 0)) ∧ W.heap[v2.heap.size + 1]? = some (.cells #[.int .i64 r.2.2.2.1.fG, .int .i64 r.2.2.2.1.fCase, .int .i64 r.2.2.2.1.fVal] 29 (0, 0)) ∧ vS.heap.size ≤ W.heap.size from ⟨layChan.keep seeS0 (fun k hk => hW.block k (by omega)), box_keep hbxS0 hW (by omega), box_keep hbxS3 hW (by omega), hW.size⟩)
    have HS := Lib.hid (Below.refl vS.heap.size vS)
    clear seeS0 ownS0 hbxS0 hbxS3
    have pe3_0 := box_cell (j := 0) (HKE.out _ HE.out).2.2 rfl
    have pe3_1 := box_cell (j := 1) (HKE.out _ HE.out).2.2 rfl
    have pe3_2 := box_cell (j := 2) (HKE.out _ HE.out).2.2 rfl
    have pe3_3 := box_cell (j := 3) (HKE.out _ HE.out).2.2 rfl
    have pe3_4 := box_cell (j := 4) (HKE.out _ HE.out).2.2 rfl
    refine (toChan_any (HKE.out _ HE.out).2.1 (by omega) hle).mono ?_
    rintro e v3 ⟨u3, rfl, ownX, hb3⟩
    have hzv3 := hb3.size
    replace HE := Lib.hid (HE.out.trans (hb3.mono (by omega)))
    replace HS := Lib.hid (HS.out.trans (hb3.mono (by omega)))
    clear pe3_0 pe3_1 pe3_2 pe3_3 pe3_4
    have seeX := layChan.seen (hi := v3.heap.size) ownX fun g hg => hg.2
    obtain ⟨xA1, xn1, xc1, xA2, xn2, xc2, xA3, xn3, xc3, rfl, -⟩ := seeChan seeX
    have halX : Below v3.heap.size v3 (v3.alloc (.cells #[.int .i64 x0.fCap, .slice xA1 xn1 xc1, .slice xA2 xn2 xc2, .slice xA3 xn3 xc3, .bool x0.fClosed] 26)) := (Below.refl _ _).alloc (Nat.le_refl _) _
    replace ownX := layChan.stay (w' := (v3.alloc (.cells #[.int .i64 x0.fCap, .slice xA1 xn1 xc1, .slice xA2 xn2 xc2, .slice xA3 xn3 xc3, .bool x0.fClosed] 26))) ownX (fun g hg hlt => halX.block g hlt) halX.size
    have hbxX := box_new v3 #[.int .i64 x0.fCap, .slice xA1 xn1 xc1, .slice xA2 xn2 xc2, .slice xA3 xn3 xc3, .bool x0.fClosed] 26
    have hzaX : v3.heap.size + 1 ≤ (v3.alloc (.cells #[.int .i64 x0.fCap, .slice xA1 xn1 xc1, .slice xA2 xn2 xc2, .slice xA3 xn3 xc3, .bool x0.fClosed] 26)).heap.size := by simp
    have hzbX : (v3.alloc (.cells #[.int .i64 x0.fCap, .slice xA1 xn1 xc1, .slice xA2 xn2 xc2, .slice xA3 xn3 xc3, .bool x0.fClosed] 26)).heap.size ≤ v3.heap.size + 1 := by simp
    replace HE := Lib.hid (HE.out.trans (halX.mono (by omega)))
    replace HS := Lib.hid (HS.out.trans (halX.mono (by omega)))
    clear halX seeX hb3
    have px0 := box_cell (j := 0) hbxX rfl
    have px1 := box_cell (j := 1) hbxX rfl
    have px2 := box_cell (j := 2) hbxX rfl
    have px3 := box_cell (j := 3) hbxX rfl
    have px4 := box_cell (j := 4) hbxX rfl
    go_wp2_with fail
    clear px0 px1 px2 px3 px4
    generalize (v3.alloc (.cells #[.int .i64 x0.fCap, .slice xA1 xn1 xc1, .slice xA2 xn2 xc2, .slice xA3 xn3 xc3, .bool x0.fClosed] 26)) = vX at *
    have seeX := layChan.seen (hi := v3.heap.size) ownX fun g hg => hg.2
    have HKX := Lib.hid (fun (W : World) (hW : Below vX.heap.size vX W) => show layChan.see W v3.heap.size x0 [.int .i64 x0.fCap, .slice xA1 xn1 xc1, .slice xA2 xn2 xc2, .slice xA3 xn3 xc3, .bool x0.fClosed] ∧ layChan.own W (fun g => vS.heap.size ≤ g ∧ g < v3.heap.size) x0 [.int .i64 x0.fCap, .slice xA1 xn1 xc1, .slice xA2 xn2 xc2, .slice xA3 xn3 xc3, .bool x0.fClosed] ∧ W.heap[v3.heap.size]? = some (.cells #[.int .i64 x0.fCap, .slice xA1 xn1 xc1, .slice xA2 xn2 xc2, .slice xA3 xn3 xc3, .bool x0.fClosed] 26 (0, 0)) ∧ vX.heap.size ≤ W.heap.size from ⟨layChan.keep seeX (fun k hk => hW.block k (by omega)), layChan.stay ownX (fun g hg hlt => hW.block g hlt) hW.size, box_keep hbxX hW (by omega), hW.size⟩)
    have HX := Lib.hid (Below.refl vX.heap.size vX)
    clear ownX hbxX seeX
    refine (HIM.out _ _ _ (HKX.out _ HX.out).1 (by omega)).mono ?_
    rintro e v4 ⟨uG, FG0, rfl, ownG0, hbdG0, hbv4⟩
    have hzv4 := hbv4.size
    replace HE := Lib.hid (HE.out.trans (hbv4.mono (by omega)))
    replace HS := Lib.hid (HS.out.trans (hbv4.mono (by omega)))
    replace HX := Lib.hid (HX.out.trans (hbv4.mono (by omega)))
    clear hbv4
    have qs0 := box_cell (j := 0) ((HKS.out _ HS.out).2.1) rfl
    have qs1 := box_cell (j := 1) ((HKS.out _ HS.out).2.1) rfl
    have qs2 := box_cell (j := 2) ((HKS.out _ HS.out).2.1) rfl
    have qs3 := box_cell (j := 3) ((HKS.out _ HS.out).2.1) rfl
    have qs4 := box_cell (j := 4) ((HKS.out _ HS.out).2.1) rfl
    clear qs0 qs1 qs2 qs3 qs4
    have seeG0 := layChan.seen (hi := v4.heap.size) ownG0 fun g hg => (hbdG0 g hg).2
    obtain ⟨G0A1, G0n1, G0c1, G0A2, G0n2, G0c2, G0A3, G0n3, G0c3, rfl, -⟩ := seeChan seeG0
    have halG : Below v4.heap.size v4 ((v4.alloc (.cells #[.int .i64 r.1.fCap, .slice G0A1 G0n1 G0c1, .slice G0A2 G0n2 G0c2, .slice G0A3 G0n3 G0c3, .bool r.1.fClosed] 26)).alloc (.cells #[.int .i64 r.2.2.2.1.fG, .int .i64 r.2.2.2.1.fCase, .int .i64 r.2.2.2.1.fVal] 29)) := by go_grown
    have hbxG0 : (v4.alloc (.cells #[.int .i64 r.1.fCap, .slice G0A1 G0n1 G0c1, .slice G0A2 G0n2 G0c2, .slice G0A3 G0n3 G0c3, .bool r.1.fClosed] 26)).heap[v4.heap.size]? = some (.cells #[.int .i64 r.1.fCap, .slice G0A1 G0n1 G0c1, .slice G0A2 G0n2 G0c2, .slice G0A3 G0n3 G0c3, .bool r.1.fClosed] 26 (0, 0)) := by have := box_new v4 #[.int .i64 r.1.fCap, .slice G0A1 G0n1 G0c1, .slice G0A2 G0n2 G0c2, .slice G0A3 G0n3 G0c3, .bool r.1.fClosed] 26; simpa using this
    have hbxG3 : ((v4.alloc (.cells #[.int .i64 r.1.fCap, .slice G0A1 G0n1 G0c1, .slice G0A2 G0n2 G0c2, .slice G0A3 G0n3 G0c3, .bool r.1.fClosed] 26)).alloc (.cells #[.int .i64 r.2.2.2.1.fG, .int .i64 r.2.2.2.1.fCase, .int .i64 r.2.2.2.1.fVal] 29)).heap[v4.heap.size + 1]? = some (.cells #[.int .i64 r.2.2.2.1.fG, .int .i64 r.2.2.2.1.fCase, .int .i64 r.2.2.2.1.fVal] 29 (0, 0)) := by have := box_new (v4.alloc (.cells #[.int .i64 r.1.fCap, .slice G0A1 G0n1 G0c1, .slice G0A2 G0n2 G0c2, .slice G0A3 G0n3 G0c3, .bool r.1.fClosed] 26)) #[.int .i64 r.2.2.2.1.fG, .int .i64 r.2.2.2.1.fCase, .int .i64 r.2.2.2.1.fVal] 29; simpa using this
    replace hbxG0 := box_keep hbxG0 ((Below.refl _ _).alloc (Nat.le_refl _) (.cells #[.int .i64 r.2.2.2.1.fG, .int .i64 r.2.2.2.1.fCase, .int .i64 r.2.2.2.1.fVal] 29)) (by simp)
    replace ownG0 := layChan.stay (w' := ((v4.alloc (.cells #[.int .i64 r.1.fCap, .slice G0A1 G0n1 G0c1, .slice G0A2 G0n2 G0c2, .slice G0A3 G0n3 G0c3, .bool r.1.fClosed] 26)).alloc (.cells #[.int .i64 r.2.2.2.1.fG, .int .i64 r.2.2.2.1.fCase, .int .i64 r.2.2.2.1.fVal] 29))) ownG0 (fun g hg hlt => halG.block g hlt) halG.size
    have hzaG : v4.heap.size + 2 ≤ ((v4.alloc (.cells #[.int .i64 r.1.fCap, .slice G0A1 G0n1 G0c1, .slice G0A2 G0n2 G0c2, .slice G0A3 G0n3 G0c3, .bool r.1.fClosed] 26)).alloc (.cells #[.int .i64 r.2.2.2.1.fG, .int .i64 r.2.2.2.1.fCase, .int .i64 r.2.2.2.1.fVal] 29)).heap.size := by simp
    have hzbG : ((v4.alloc (.cells #[.int .i64 r.1.fCap, .slice G0A1 G0n1 G0c1, .slice G0A2 G0n2 G0c2, .slice G0A3 G0n3 G0c3, .bool r.1.fClosed] 26)).alloc (.cells #[.int .i64 r.2.2.2.1.fG, .int .i64 r.2.2.2.1.fCase, .int .i64 r.2.2.2.1.fVal] 29)).heap.size ≤ v4.heap.size + 2 := by simp
    have qsG0 := box_cell (j := 0) ((HKS.out _ HS.out).2.1) rfl
    have qsG1 := box_cell (j := 1) ((HKS.out _ HS.out).2.1) rfl
    have qsG2 := box_cell (j := 2) ((HKS.out _ HS.out).2.1) rfl
    have qsG3 := box_cell (j := 3) ((HKS.out _ HS.out).2.1) rfl
    have qsG4 := box_cell (j := 4) ((HKS.out _ HS.out).2.1) rfl
    have hltG : v2.heap.size < v4.heap.size := by omega
    replace HE := Lib.hid (HE.out.trans (halG.mono (by omega)))
    replace HS := Lib.hid (HS.out.trans (halG.mono (by omega)))
    replace HX := Lib.hid (HX.out.trans (halG.mono (by omega)))
    clear halG seeG0
    have qgG0 := box_cell (j := 0) hbxG0 rfl
    have qgG1 := box_cell (j := 1) hbxG0 rfl
    have qgG2 := box_cell (j := 2) hbxG0 rfl
    have qgG3 := box_cell (j := 3) hbxG0 rfl
    have qgG4 := box_cell (j := 4) hbxG0 rfl
    go_wp2_with fail
    clear qgG0 qgG1 qgG2 qgG3 qgG4 qsG0 qsG1 qsG2 qsG3 qsG4 hltG
    generalize ((v4.alloc (.cells #[.int .i64 r.1.fCap, .slice G0A1 G0n1 G0c1, .slice G0A2 G0n2 G0c2, .slice G0A3 G0n3 G0c3, .bool r.1.fClosed] 26)).alloc (.cells #[.int .i64 r.2.2.2.1.fG, .int .i64 r.2.2.2.1.fCase, .int .i64 r.2.2.2.1.fVal] 29)) = vG at *
    have seeG0 := layChan.seen (hi := v4.heap.size) ownG0 fun g hg => by have := hbdG0 g hg; omega
    have HKG := Lib.hid (fun (W : World) (hW : Below vG.heap.size vG W) => show layChan.see W v4.heap.size (r.1) [.int .i64 r.1.fCap, .slice G0A1 G0n1 G0c1, .slice G0A2 G0n2 G0c2, .slice G0A3 G0n3 G0c3, .bool r.1.fClosed] ∧ layChan.own W FG0 (r.1) [.int .i64 r.1.fCap, .slice G0A1 G0n1 G0c1, .slice G0A2 G0n2 G0c2, .slice G0A3 G0n3 G0c3, .bool r.1.fClosed] ∧ W.heap[v4.heap.size]? = some (.cells #[.int .i64 r.1.fCap, .slice G0A1 G0n1 G0c1, .slice G0A2 G0n2 G0c2, .slice G0A3 G0n3 G0c3, .bool r.1.fClosed] 26 (0, 0)) ∧ W.heap[v4.heap.size + 1]? = some (.cells #[.int .i64 r.2.2.2.1.fG, .int .i64 r.2.2.2.1.fCase, .int .i64 r.2.2.2.1.fVal] 29 (0, 0)) ∧ vG.heap.size ≤ W.heap.size from ⟨layChan.keep seeG0 (fun k hk => hW.block k (by omega)), layChan.stay ownG0 (fun g hg hlt => hW.block g hlt) hW.size, box_keep hbxG0 hW (by omega), box_keep hbxG3 hW (by omega), hW.size⟩)
    have HG := Lib.hid (Below.refl vG.heap.size vG)
    clear seeG0 ownG0 hbxG0 hbxG3
    have qa1_0 := box_cell (j := 0) ((HKG.out _ HG.out).2.2.1) rfl
    have qa1_1 := box_cell (j := 1) ((HKG.out _ HG.out).2.2.1) rfl
    have qa1_2 := box_cell (j := 2) ((HKG.out _ HG.out).2.2.1) rfl
    have qa1_3 := box_cell (j := 3) ((HKG.out _ HG.out).2.2.1) rfl
    have qa1_4 := box_cell (j := 4) ((HKG.out _ HG.out).2.2.1) rfl
    have qb1_0 := box_cell (j := 0) ((HKS.out _ HS.out).2.1) rfl
    have qb1_1 := box_cell (j := 1) ((HKS.out _ HS.out).2.1) rfl
    have qb1_2 := box_cell (j := 2) ((HKS.out _ HS.out).2.1) rfl
    have qb1_3 := box_cell (j := 3) ((HKS.out _ HS.out).2.1) rfl
    have qb1_4 := box_cell (j := 4) ((HKS.out _ HS.out).2.1) rfl
    refine (eqChan_same ((HKG.out _ HG.out).1) ((HKS.out _ HS.out).1) (by omega) (by omega) hsz0).mono ?_
    rintro e v5 ⟨rfl, hbv5⟩
    have hzv5 := hbv5.size
    replace HE := Lib.hid (HE.out.trans (hbv5.mono (by omega)))
    replace HS := Lib.hid (HS.out.trans (hbv5.mono (by omega)))
    replace HX := Lib.hid (HX.out.trans (hbv5.mono (by omega)))
    replace HG := Lib.hid (HG.out.trans (hbv5.mono (by omega)))
    clear hbv5 qa1_0 qa1_1 qa1_2 qa1_3 qa1_4 qb1_0 qb1_1 qb1_2 qb1_3 qb1_4
    have qa4_0 := box_cell (j := 0) ((HKG.out _ HG.out).2.2.2.1) rfl
    have qa4_1 := box_cell (j := 1) ((HKG.out _ HG.out).2.2.2.1) rfl
    have qa4_2 := box_cell (j := 2) ((HKG.out _ HG.out).2.2.2.1) rfl
    have qb4_0 := box_cell (j := 0) ((HKS.out _ HS.out).2.2.1) rfl
    have qb4_1 := box_cell (j := 1) ((HKS.out _ HS.out).2.2.1) rfl
    have qb4_2 := box_cell (j := 2) ((HKS.out _ HS.out).2.2.1) rfl
    go_wp2_with fail
    refine (eqWaiter_same (r.2.2.2.1)).mono ?_
    rintro e v6 ⟨rfl, hbv6⟩
    have hzv6 := hbv6.size
    replace HE := Lib.hid (HE.out.trans (hbv6.mono (by omega)))
    replace HS := Lib.hid (HS.out.trans (hbv6.mono (by omega)))
    replace HX := Lib.hid (HX.out.trans (hbv6.mono (by omega)))
    replace HG := Lib.hid (HG.out.trans (hbv6.mono (by omega)))
    clear hbv6 qa4_0 qa4_1 qa4_2 qb4_0 qb4_1 qb4_2
    have pe4_0 := box_cell (j := 0) (HKE.out _ HE.out).2.2 rfl
    have pe4_1 := box_cell (j := 1) (HKE.out _ HE.out).2.2 rfl
    have pe4_2 := box_cell (j := 2) (HKE.out _ HE.out).2.2 rfl
    have pe4_3 := box_cell (j := 3) (HKE.out _ HE.out).2.2 rfl
    have pe4_4 := box_cell (j := 4) (HKE.out _ HE.out).2.2 rfl
    have px0 := box_cell (j := 0) (HKX.out _ HX.out).2.2.1 rfl
    have px1 := box_cell (j := 1) (HKX.out _ HX.out).2.2.1 rfl
    have px2 := box_cell (j := 2) (HKX.out _ HX.out).2.2.1 rfl
    have px3 := box_cell (j := 3) (HKX.out _ HX.out).2.2.1 rfl
    have px4 := box_cell (j := 4) (HKX.out _ HX.out).2.2.1 rfl
    have zX := (HKX.out _ HX.out).2.2.2
    have HT := Lib.hid (fun (W : World) (hW : Below v6.heap.size v6 W) => toChan_any (HKE.out W (HE.out.trans (hW.mono (by omega)))).2.1 (by have := hW.size; omega) hle)
    have HQ := Lib.hid (fun (W : World) (hW : Below v6.heap.size v6 W) (v5 : List Value) (own5 : layChan.own W (fun g => v6.heap.size ≤ g ∧ g < W.heap.size) x0 v5) => eqChan_same (HKX.out W (HX.out.trans (hW.mono (by omega)))).1 (layChan.seen (hi := W.heap.size) own5 fun g hg => hg.2) (by have := hW.size; omega) (Nat.le_refl _) hle)
    go_wp2_with fail
    go_region_with (first | (go_at_call 23; refine (HT.out v6.drew ⟨rfl, rfl, rfl, Nat.le_refl _, fun _ _ => rfl⟩).mono ?_; rintro e w5 ⟨v5, rfl, own5, hb5⟩; have hY5 : Below v6.heap.size v6 w5 := ⟨hb5.os, hb5.tape, hb5.output, hb5.size, hb5.block⟩; have HO5 := Lib.hid own5; clear own5 hb5; have ye0 := box_cell (j := 0) (box_keep (HKE.out _ HE.out).2.2 hY5 (by omega)) rfl; have ye1 := box_cell (j := 1) (box_keep (HKE.out _ HE.out).2.2 hY5 (by omega)) rfl; have ye2 := box_cell (j := 2) (box_keep (HKE.out _ HE.out).2.2 hY5 (by omega)) rfl; have ye3 := box_cell (j := 3) (box_keep (HKE.out _ HE.out).2.2 hY5 (by omega)) rfl; have ye4 := box_cell (j := 4) (box_keep (HKE.out _ HE.out).2.2 hY5 (by omega)) rfl; have yx0 := box_cell (j := 0) (box_keep (HKX.out _ HX.out).2.2.1 hY5 (by omega)) rfl; have yx1 := box_cell (j := 1) (box_keep (HKX.out _ HX.out).2.2.1 hY5 (by omega)) rfl; have yx2 := box_cell (j := 2) (box_keep (HKX.out _ HX.out).2.2.1 hY5 (by omega)) rfl; have yx3 := box_cell (j := 3) (box_keep (HKX.out _ HX.out).2.2.1 hY5 (by omega)) rfl; have yx4 := box_cell (j := 4) (box_keep (HKX.out _ HX.out).2.2.1 hY5 (by omega)) rfl) | (go_at_call 24; refine (HQ.out w5 hY5 v5 HO5.out).mono ?_; rintro e w6 ⟨rfl, hb6⟩))
    all_goals
      have hY6 := hY5.trans (hb6.mono hY5.size)
      have hz_6 := hY6.size
      replace HE := Lib.hid (HE.out.trans (hY6.mono (by omega)))
      replace HS := Lib.hid (HS.out.trans (hY6.mono (by omega)))
      replace HX := Lib.hid (HX.out.trans (hY6.mono (by omega)))
      replace HG := Lib.hid (HG.out.trans (hY6.mono (by omega)))
      clear HT HQ HO5 hY5 hY6 hb6 ye0 yx0 px0 pe4_0 ye1 yx1 px1 pe4_1 ye2 yx2 px2 pe4_2 ye3 yx3 px3 pe4_3 ye4 yx4 px4 pe4_4
      have px0 := box_cell (j := 0) (HKX.out _ HX.out).2.2.1 rfl
      have px1 := box_cell (j := 1) (HKX.out _ HX.out).2.2.1 rfl
      have px2 := box_cell (j := 2) (HKX.out _ HX.out).2.2.1 rfl
      have px3 := box_cell (j := 3) (HKX.out _ HX.out).2.2.1 rfl
      have px4 := box_cell (j := 4) (HKX.out _ HX.out).2.2.1 rfl
      have hvc := hvcX
      go_wp2_with fail
      refine (markChan_any (k := 1) (HKX.out _ HX.out).2.1 (fun g hg => by omega) hle (by omega) (by omega)).mono ?_
      rintro e v7 ⟨rfl, -, htX⟩
      have hzv7 := htX.size
      have hk0 : decide (1 + vcntChan x0 < 0) = false := decide_eq_false (by omega)
      replace HE := Lib.hid (HE.out.trans (htX.below (fun g hg => by omega) (by omega)))
      replace HS := Lib.hid (HS.out.trans (htX.below (fun g hg => by omega) (by omega)))
      clear px0 px1 px2 px3 px4
      have zG := (HKG.out _ HG.out).2.2.2.2
      have ownG20 := layChan.stay (w' := v7) ((HKG.out _ HG.out).2.1) (fun g hg hlt => htX.block g hlt (fun hF => by have := hbdG0 g hg; omega)) htX.size
      have hbxG20 := (htX.block (v4.heap.size) (by omega) (fun hF => by omega)).trans ((HKG.out _ HG.out).2.2.1)
      have hbxG23 := (htX.block (v4.heap.size + 1) (by omega) (fun hF => by omega)).trans ((HKG.out _ HG.out).2.2.2.1)
      clear HKG HG htX
      have seeG20 := layChan.seen (hi := v4.heap.size) ownG20 fun g hg => by have := hbdG0 g hg; omega
      have HKG2 := Lib.hid (fun (W : World) (hW : Below v7.heap.size v7 W) => show layChan.see W v4.heap.size (r.1) [.int .i64 r.1.fCap, .slice G0A1 G0n1 G0c1, .slice G0A2 G0n2 G0c2, .slice G0A3 G0n3 G0c3, .bool r.1.fClosed] ∧ layChan.own W FG0 (r.1) [.int .i64 r.1.fCap, .slice G0A1 G0n1 G0c1, .slice G0A2 G0n2 G0c2, .slice G0A3 G0n3 G0c3, .bool r.1.fClosed] ∧ W.heap[v4.heap.size]? = some (.cells #[.int .i64 r.1.fCap, .slice G0A1 G0n1 G0c1, .slice G0A2 G0n2 G0c2, .slice G0A3 G0n3 G0c3, .bool r.1.fClosed] 26 (0, 0)) ∧ W.heap[v4.heap.size + 1]? = some (.cells #[.int .i64 r.2.2.2.1.fG, .int .i64 r.2.2.2.1.fCase, .int .i64 r.2.2.2.1.fVal] 29 (0, 0)) ∧ v7.heap.size ≤ W.heap.size from ⟨layChan.keep seeG20 (fun k hk => hW.block k (by omega)), layChan.stay ownG20 (fun g hg hlt => hW.block g hlt) hW.size, box_keep hbxG20 hW (by omega), box_keep hbxG23 hW (by omega), hW.size⟩)
      have HG2 := Lib.hid (Below.refl v7.heap.size v7)
      clear seeG20 ownG20 hbxG20 hbxG23
      have qa6_0 := box_cell (j := 0) ((HKG2.out _ HG2.out).2.2.1) rfl
      have qa6_1 := box_cell (j := 1) ((HKG2.out _ HG2.out).2.2.1) rfl
      have qa6_2 := box_cell (j := 2) ((HKG2.out _ HG2.out).2.2.1) rfl
      have qa6_3 := box_cell (j := 3) ((HKG2.out _ HG2.out).2.2.1) rfl
      have qa6_4 := box_cell (j := 4) ((HKG2.out _ HG2.out).2.2.1) rfl
      have qb6_0 := box_cell (j := 0) ((HKS.out _ HS.out).2.1) rfl
      have qb6_1 := box_cell (j := 1) ((HKS.out _ HS.out).2.1) rfl
      have qb6_2 := box_cell (j := 2) ((HKS.out _ HS.out).2.1) rfl
      have qb6_3 := box_cell (j := 3) ((HKS.out _ HS.out).2.1) rfl
      have qb6_4 := box_cell (j := 4) ((HKS.out _ HS.out).2.1) rfl
      go_wp2_with fail
      refine (eqChan_same ((HKG2.out _ HG2.out).1) ((HKS.out _ HS.out).1) (by omega) (by omega) hsz0).mono ?_
      rintro e v8 ⟨rfl, hbv8⟩
      have hzv8 := hbv8.size
      replace HE := Lib.hid (HE.out.trans (hbv8.mono (by omega)))
      replace HS := Lib.hid (HS.out.trans (hbv8.mono (by omega)))
      replace HG2 := Lib.hid (HG2.out.trans (hbv8.mono (by omega)))
      clear hbv8 qa6_0 qa6_1 qa6_2 qa6_3 qa6_4 qb6_0 qb6_1 qb6_2 qb6_3 qb6_4
      have qa9_0 := box_cell (j := 0) ((HKG2.out _ HG2.out).2.2.2.1) rfl
      have qa9_1 := box_cell (j := 1) ((HKG2.out _ HG2.out).2.2.2.1) rfl
      have qa9_2 := box_cell (j := 2) ((HKG2.out _ HG2.out).2.2.2.1) rfl
      have qb9_0 := box_cell (j := 0) ((HKS.out _ HS.out).2.2.1) rfl
      have qb9_1 := box_cell (j := 1) ((HKS.out _ HS.out).2.2.1) rfl
      have qb9_2 := box_cell (j := 2) ((HKS.out _ HS.out).2.2.1) rfl
      go_wp2_with fail
      refine (eqWaiter_same (r.2.2.2.1)).mono ?_
      rintro e v9 ⟨rfl, hbv9⟩
      have hzv9 := hbv9.size
      replace HE := Lib.hid (HE.out.trans (hbv9.mono (by omega)))
      replace HS := Lib.hid (HS.out.trans (hbv9.mono (by omega)))
      replace HG2 := Lib.hid (HG2.out.trans (hbv9.mono (by omega)))
      clear hbv9 qa9_0 qa9_1 qa9_2 qb9_0 qb9_1 qb9_2
      have qm0_0 := box_cell (j := 0) ((HKG2.out _ HG2.out).2.2.1) rfl
      have qm0_1 := box_cell (j := 1) ((HKG2.out _ HG2.out).2.2.1) rfl
      have qm0_2 := box_cell (j := 2) ((HKG2.out _ HG2.out).2.2.1) rfl
      have qm0_3 := box_cell (j := 3) ((HKG2.out _ HG2.out).2.2.1) rfl
      have qm0_4 := box_cell (j := 4) ((HKG2.out _ HG2.out).2.2.1) rfl
      go_wp2_with fail
      refine (markChan_any (k := 1) ((HKG2.out _ HG2.out).2.1) (fun g hg => by have := hbdG0 g hg; omega) hsz0 (by omega) (by omega)).mono ?_
      rintro e v10 ⟨rfl, ownG30, htm0⟩
      clear qm0_0 qm0_1 qm0_2 qm0_3 qm0_4
      have hzv10 := htm0.size
      have hkk0 : decide (1 + vcntChan (r.1) < 0) = false := decide_eq_false (by omega)
      replace HE := Lib.hid (HE.out.trans (htm0.below (fun g hg => by have := hbdG0 g hg; omega) (by omega)))
      replace HS := Lib.hid (HS.out.trans (htm0.below (fun g hg => by have := hbdG0 g hg; omega) (by omega)))
      have hbxG30 := (htm0.block (v4.heap.size) (by omega) (fun hF => by have := hbdG0 _ hF; omega)).trans ((HKG2.out _ HG2.out).2.2.1)
      have hbxG33 := (htm0.block (v4.heap.size + 1) (by omega) (fun hF => by have := hbdG0 _ hF; omega)).trans ((HKG2.out _ HG2.out).2.2.2.1)
      clear HKG2 HG2 htm0
      have seeG30 := layChan.seen (hi := v4.heap.size) ownG30 fun g hg => by have := hbdG0 g hg; omega
      have HKG3 := Lib.hid (fun (W : World) (hW : Below v10.heap.size v10 W) => show layChan.see W v4.heap.size (mkvChan (1) (r.1)) [.int .i64 r.1.fCap, .slice G0A1 G0n1 G0c1, .slice G0A2 G0n2 G0c2, .slice G0A3 G0n3 G0c3, .bool r.1.fClosed] ∧ layChan.own W FG0 (mkvChan (1) (r.1)) [.int .i64 r.1.fCap, .slice G0A1 G0n1 G0c1, .slice G0A2 G0n2 G0c2, .slice G0A3 G0n3 G0c3, .bool r.1.fClosed] ∧ W.heap[v4.heap.size]? = some (.cells #[.int .i64 r.1.fCap, .slice G0A1 G0n1 G0c1, .slice G0A2 G0n2 G0c2, .slice G0A3 G0n3 G0c3, .bool r.1.fClosed] 26 (0, 0)) ∧ W.heap[v4.heap.size + 1]? = some (.cells #[.int .i64 r.2.2.2.1.fG, .int .i64 r.2.2.2.1.fCase, .int .i64 r.2.2.2.1.fVal] 29 (0, 0)) ∧ v10.heap.size ≤ W.heap.size from ⟨layChan.keep seeG30 (fun k hk => hW.block k (by omega)), layChan.stay ownG30 (fun g hg hlt => hW.block g hlt) hW.size, box_keep hbxG30 hW (by omega), box_keep hbxG33 hW (by omega), hW.size⟩)
      have HG3 := Lib.hid (Below.refl v10.heap.size v10)
      clear seeG30 ownG30 hbxG30 hbxG33
      have hqm : ((1 + vcntChan (r.1)) != (1 + vcntChan (r.1))) = false := by simp
      have qha0_0 := box_cell (j := 0) ((HKG3.out _ HG3.out).2.2.1) rfl
      have qha0_1 := box_cell (j := 1) ((HKG3.out _ HG3.out).2.2.1) rfl
      have qha0_2 := box_cell (j := 2) ((HKG3.out _ HG3.out).2.2.1) rfl
      have qha0_3 := box_cell (j := 3) ((HKG3.out _ HG3.out).2.2.1) rfl
      have qha0_4 := box_cell (j := 4) ((HKG3.out _ HG3.out).2.2.1) rfl
      go_wp2_with fail
      refine (heldChan_any (k := 1) ((HKG3.out _ HG3.out).1) (by omega) hsz0 (by omega) (by omega)).mono ?_
      rintro e v11 ⟨rfl, hbv11⟩
      have hzv11 := hbv11.size
      replace HE := Lib.hid (HE.out.trans (hbv11.mono (by omega)))
      replace HS := Lib.hid (HS.out.trans (hbv11.mono (by omega)))
      replace HG3 := Lib.hid (HG3.out.trans (hbv11.mono (by omega)))
      clear hbv11 qha0_0 qha0_1 qha0_2 qha0_3 qha0_4
      have pe5_0 := box_cell (j := 0) (HKE.out _ HE.out).2.2 rfl
      have pe5_1 := box_cell (j := 1) (HKE.out _ HE.out).2.2 rfl
      have pe5_2 := box_cell (j := 2) (HKE.out _ HE.out).2.2 rfl
      have pe5_3 := box_cell (j := 3) (HKE.out _ HE.out).2.2 rfl
      have pe5_4 := box_cell (j := 4) (HKE.out _ HE.out).2.2 rfl
      go_wp2_with fail
      refine (toChan_any (HKE.out _ HE.out).2.1 (by omega) hle).mono ?_
      rintro e v12 ⟨uv12, rfl, ownv12, hbv12⟩
      have hzv12 := hbv12.size
      replace HE := Lib.hid (HE.out.trans (hbv12.mono (by omega)))
      replace HS := Lib.hid (HS.out.trans (hbv12.mono (by omega)))
      replace HG3 := Lib.hid (HG3.out.trans (hbv12.mono (by omega)))
      clear pe5_0 pe5_1 pe5_2 pe5_3 pe5_4
      have see9 := layChan.seen (hi := v12.heap.size) ownv12 fun g hg => hg.2
      clear ownv12 hbv12
      go_wp2_with fail
      refine (HIM.out _ _ _ see9 (Nat.le_refl _)).mono ?_
      rintro e v13 ⟨uH, FH0, rfl, ownH0, hbdH0, hbv13⟩
      have hzv13 := hbv13.size
      replace HE := Lib.hid (HE.out.trans (hbv13.mono (by omega)))
      replace HS := Lib.hid (HS.out.trans (hbv13.mono (by omega)))
      replace HG3 := Lib.hid (HG3.out.trans (hbv13.mono (by omega)))
      clear see9 hbv13
      have seeH0 := layChan.seen (hi := v13.heap.size) ownH0 fun g hg => (hbdH0 g hg).2
      obtain ⟨H0A1, H0n1, H0c1, H0A2, H0n2, H0c2, H0A3, H0n3, H0c3, rfl, -⟩ := seeChan seeH0
      have halH : Below v13.heap.size v13 ((v13.alloc (.cells #[.int .i64 r.1.fCap, .slice H0A1 H0n1 H0c1, .slice H0A2 H0n2 H0c2, .slice H0A3 H0n3 H0c3, .bool r.1.fClosed] 26)).alloc (.cells #[.int .i64 r.2.2.2.1.fG, .int .i64 r.2.2.2.1.fCase, .int .i64 r.2.2.2.1.fVal] 29)) := by go_grown
      have hbxH0 : (v13.alloc (.cells #[.int .i64 r.1.fCap, .slice H0A1 H0n1 H0c1, .slice H0A2 H0n2 H0c2, .slice H0A3 H0n3 H0c3, .bool r.1.fClosed] 26)).heap[v13.heap.size]? = some (.cells #[.int .i64 r.1.fCap, .slice H0A1 H0n1 H0c1, .slice H0A2 H0n2 H0c2, .slice H0A3 H0n3 H0c3, .bool r.1.fClosed] 26 (0, 0)) := by have := box_new v13 #[.int .i64 r.1.fCap, .slice H0A1 H0n1 H0c1, .slice H0A2 H0n2 H0c2, .slice H0A3 H0n3 H0c3, .bool r.1.fClosed] 26; simpa using this
      have hbxH3 : ((v13.alloc (.cells #[.int .i64 r.1.fCap, .slice H0A1 H0n1 H0c1, .slice H0A2 H0n2 H0c2, .slice H0A3 H0n3 H0c3, .bool r.1.fClosed] 26)).alloc (.cells #[.int .i64 r.2.2.2.1.fG, .int .i64 r.2.2.2.1.fCase, .int .i64 r.2.2.2.1.fVal] 29)).heap[v13.heap.size + 1]? = some (.cells #[.int .i64 r.2.2.2.1.fG, .int .i64 r.2.2.2.1.fCase, .int .i64 r.2.2.2.1.fVal] 29 (0, 0)) := by have := box_new (v13.alloc (.cells #[.int .i64 r.1.fCap, .slice H0A1 H0n1 H0c1, .slice H0A2 H0n2 H0c2, .slice H0A3 H0n3 H0c3, .bool r.1.fClosed] 26)) #[.int .i64 r.2.2.2.1.fG, .int .i64 r.2.2.2.1.fCase, .int .i64 r.2.2.2.1.fVal] 29; simpa using this
      replace hbxH0 := box_keep hbxH0 ((Below.refl _ _).alloc (Nat.le_refl _) (.cells #[.int .i64 r.2.2.2.1.fG, .int .i64 r.2.2.2.1.fCase, .int .i64 r.2.2.2.1.fVal] 29)) (by simp)
      replace ownH0 := layChan.stay (w' := ((v13.alloc (.cells #[.int .i64 r.1.fCap, .slice H0A1 H0n1 H0c1, .slice H0A2 H0n2 H0c2, .slice H0A3 H0n3 H0c3, .bool r.1.fClosed] 26)).alloc (.cells #[.int .i64 r.2.2.2.1.fG, .int .i64 r.2.2.2.1.fCase, .int .i64 r.2.2.2.1.fVal] 29))) ownH0 (fun g hg hlt => halH.block g hlt) halH.size
      have hzaH : v13.heap.size + 2 ≤ ((v13.alloc (.cells #[.int .i64 r.1.fCap, .slice H0A1 H0n1 H0c1, .slice H0A2 H0n2 H0c2, .slice H0A3 H0n3 H0c3, .bool r.1.fClosed] 26)).alloc (.cells #[.int .i64 r.2.2.2.1.fG, .int .i64 r.2.2.2.1.fCase, .int .i64 r.2.2.2.1.fVal] 29)).heap.size := by simp
      have hzbH : ((v13.alloc (.cells #[.int .i64 r.1.fCap, .slice H0A1 H0n1 H0c1, .slice H0A2 H0n2 H0c2, .slice H0A3 H0n3 H0c3, .bool r.1.fClosed] 26)).alloc (.cells #[.int .i64 r.2.2.2.1.fG, .int .i64 r.2.2.2.1.fCase, .int .i64 r.2.2.2.1.fVal] 29)).heap.size ≤ v13.heap.size + 2 := by simp
      have qsH0 := box_cell (j := 0) ((HKS.out _ HS.out).2.1) rfl
      have qsH1 := box_cell (j := 1) ((HKS.out _ HS.out).2.1) rfl
      have qsH2 := box_cell (j := 2) ((HKS.out _ HS.out).2.1) rfl
      have qsH3 := box_cell (j := 3) ((HKS.out _ HS.out).2.1) rfl
      have qsH4 := box_cell (j := 4) ((HKS.out _ HS.out).2.1) rfl
      have hltH : v2.heap.size < v13.heap.size := by omega
      replace HE := Lib.hid (HE.out.trans (halH.mono (by omega)))
      replace HS := Lib.hid (HS.out.trans (halH.mono (by omega)))
      replace HG3 := Lib.hid (HG3.out.trans (halH.mono (by omega)))
      clear halH seeH0
      have qgH0 := box_cell (j := 0) hbxH0 rfl
      have qgH1 := box_cell (j := 1) hbxH0 rfl
      have qgH2 := box_cell (j := 2) hbxH0 rfl
      have qgH3 := box_cell (j := 3) hbxH0 rfl
      have qgH4 := box_cell (j := 4) hbxH0 rfl
      go_wp2_with fail
      clear qgH0 qgH1 qgH2 qgH3 qgH4 qsH0 qsH1 qsH2 qsH3 qsH4 hltH
      generalize ((v13.alloc (.cells #[.int .i64 r.1.fCap, .slice H0A1 H0n1 H0c1, .slice H0A2 H0n2 H0c2, .slice H0A3 H0n3 H0c3, .bool r.1.fClosed] 26)).alloc (.cells #[.int .i64 r.2.2.2.1.fG, .int .i64 r.2.2.2.1.fCase, .int .i64 r.2.2.2.1.fVal] 29)) = vH at *
      have seeH0 := layChan.seen (hi := v13.heap.size) ownH0 fun g hg => by have := hbdH0 g hg; omega
      have HKH := Lib.hid (fun (W : World) (hW : Below vH.heap.size vH W) => show layChan.see W v13.heap.size (r.1) [.int .i64 r.1.fCap, .slice H0A1 H0n1 H0c1, .slice H0A2 H0n2 H0c2, .slice H0A3 H0n3 H0c3, .bool r.1.fClosed] ∧ W.heap[v13.heap.size]? = some (.cells #[.int .i64 r.1.fCap, .slice H0A1 H0n1 H0c1, .slice H0A2 H0n2 H0c2, .slice H0A3 H0n3 H0c3, .bool r.1.fClosed] 26 (0, 0)) ∧ W.heap[v13.heap.size + 1]? = some (.cells #[.int .i64 r.2.2.2.1.fG, .int .i64 r.2.2.2.1.fCase, .int .i64 r.2.2.2.1.fVal] 29 (0, 0)) ∧ vH.heap.size ≤ W.heap.size from ⟨layChan.keep seeH0 (fun k hk => hW.block k (by omega)), box_keep hbxH0 hW (by omega), box_keep hbxH3 hW (by omega), hW.size⟩)
      have HH := Lib.hid (Below.refl vH.heap.size vH)
      clear seeH0 ownH0 hbxH0 hbxH3
      have qa11_0 := box_cell (j := 0) ((HKH.out _ HH.out).2.1) rfl
      have qa11_1 := box_cell (j := 1) ((HKH.out _ HH.out).2.1) rfl
      have qa11_2 := box_cell (j := 2) ((HKH.out _ HH.out).2.1) rfl
      have qa11_3 := box_cell (j := 3) ((HKH.out _ HH.out).2.1) rfl
      have qa11_4 := box_cell (j := 4) ((HKH.out _ HH.out).2.1) rfl
      have qb11_0 := box_cell (j := 0) ((HKS.out _ HS.out).2.1) rfl
      have qb11_1 := box_cell (j := 1) ((HKS.out _ HS.out).2.1) rfl
      have qb11_2 := box_cell (j := 2) ((HKS.out _ HS.out).2.1) rfl
      have qb11_3 := box_cell (j := 3) ((HKS.out _ HS.out).2.1) rfl
      have qb11_4 := box_cell (j := 4) ((HKS.out _ HS.out).2.1) rfl
      refine (eqChan_same ((HKH.out _ HH.out).1) ((HKS.out _ HS.out).1) (by omega) (by omega) hsz0).mono ?_
      rintro e v14 ⟨rfl, hbv14⟩
      have hzv14 := hbv14.size
      replace HE := Lib.hid (HE.out.trans (hbv14.mono (by omega)))
      replace HS := Lib.hid (HS.out.trans (hbv14.mono (by omega)))
      replace HG3 := Lib.hid (HG3.out.trans (hbv14.mono (by omega)))
      replace HH := Lib.hid (HH.out.trans (hbv14.mono (by omega)))
      clear hbv14 qa11_0 qa11_1 qa11_2 qa11_3 qa11_4 qb11_0 qb11_1 qb11_2 qb11_3 qb11_4
      have qa14_0 := box_cell (j := 0) ((HKH.out _ HH.out).2.2.1) rfl
      have qa14_1 := box_cell (j := 1) ((HKH.out _ HH.out).2.2.1) rfl
      have qa14_2 := box_cell (j := 2) ((HKH.out _ HH.out).2.2.1) rfl
      have qb14_0 := box_cell (j := 0) ((HKS.out _ HS.out).2.2.1) rfl
      have qb14_1 := box_cell (j := 1) ((HKS.out _ HS.out).2.2.1) rfl
      have qb14_2 := box_cell (j := 2) ((HKS.out _ HS.out).2.2.1) rfl
      go_wp2_with fail
      refine (eqWaiter_same (r.2.2.2.1)).mono ?_
      rintro e v15 ⟨rfl, hbv15⟩
      have hzv15 := hbv15.size
      replace HE := Lib.hid (HE.out.trans (hbv15.mono (by omega)))
      replace HS := Lib.hid (HS.out.trans (hbv15.mono (by omega)))
      replace HG3 := Lib.hid (HG3.out.trans (hbv15.mono (by omega)))
      replace HH := Lib.hid (HH.out.trans (hbv15.mono (by omega)))
      clear hbv15 qa14_0 qa14_1 qa14_2 qb14_0 qb14_1 qb14_2
      have qhb0_0 := box_cell (j := 0) ((HKG3.out _ HG3.out).2.2.1) rfl
      have qhb0_1 := box_cell (j := 1) ((HKG3.out _ HG3.out).2.2.1) rfl
      have qhb0_2 := box_cell (j := 2) ((HKG3.out _ HG3.out).2.2.1) rfl
      have qhb0_3 := box_cell (j := 3) ((HKG3.out _ HG3.out).2.2.1) rfl
      have qhb0_4 := box_cell (j := 4) ((HKG3.out _ HG3.out).2.2.1) rfl
      go_wp2_with fail
      refine (heldChan_any (k := 1) ((HKG3.out _ HG3.out).1) (by omega) hsz0 (by omega) (by omega)).mono ?_
      rintro e v16 ⟨rfl, hbv16⟩
      have hzv16 := hbv16.size
      replace HE := Lib.hid (HE.out.trans (hbv16.mono (by omega)))
      replace HS := Lib.hid (HS.out.trans (hbv16.mono (by omega)))
      replace HG3 := Lib.hid (HG3.out.trans (hbv16.mono (by omega)))
      replace HH := Lib.hid (HH.out.trans (hbv16.mono (by omega)))
      clear hbv16 qhb0_0 qhb0_1 qhb0_2 qhb0_3 qhb0_4
      go_wp2_with fail
      go_ret
      exact ⟨rfl, (HKE.out _ HE.out).1.2⟩
  · go_wp2_with fail
    go_ret
    exact ⟨rfl, (HKE.out _ HE.out).1.2⟩

set_option maxRecDepth 100000 in
theorem lifted (os : Os) (started : os.Started) (H : Type) (enc : TypeId × Value → H) :
    ReturnsInHanded {} Try.checked os 8 .any (Rows.fnExactRecvFromSpec.pre6 enc Try.prog Try.f8 Rows.fnExactRecvFromRow.domain false) (Rows.fnExactRecvFromSpec.post enc Try.prog Try.f8 false true false false) := by
  refine returnsInHanded_of_change (C := Try.checked) own started (by kernel_rfl) Try.func8
    (ChangeSpec.witness6 (enc := enc) (C := Try.checked) false ⟨#[], #[.agg #[.int .i64 0, .slice none 0 0, .slice none 0 0, .slice none 0 0, .bool false]], []⟩ 8 (by kernel_rfl) (by kernel_rfl) (by kernel_rfl) (by kernel_rfl)) ?_
  intro W base args ds gs before hval0 hW hcnd _
  have hval : ∀ (j : Nat) t v, Try.f8.params[j]? = some t → args[j]? = some v → Value.okWide Try.prog W .any base t v := hval0
  have hW' := hW
  obtain ⟨p, q, hA0, hV, rfl, hfz, hnd⟩ := hW
  have hA : DataW.TrodAll enc Try.prog W 0 (fun _ => true) true Try.f8.params.toList args.toList ds p := hA0
  rw [Try.params8] at hA hval
  obtain ⟨v0, vs0, d0, ds0, p0, q0, hargs, rfl, rfl, h0, r0⟩ := trodAll_cons hA
  obtain ⟨rfl, rfl, rfl⟩ := trodAll_nil r0
  obtain rfl : args = #[v0] := by cases args; simp_all
  obtain ⟨rfl, rfl⟩ := trodVars_none hV
  obtain ⟨cs0, rfl, _⟩ := okWide_struct Try.underlying41 (hval 0 41 v0 rfl rfl)
  obtain ⟨vc0, rfl⟩ : ∃ l : List Value, cs0 = l.toArray := ⟨cs0.toList, by simp⟩
  have k0 := h0
  have lt0 : ∀ x ∈ p0, x.block < W.heap.size := by obtain ⟨m, hm⟩ := k0; exact DataW.trod_lt m _ _ _ hm
  obtain ⟨x0, s0'⟩ := (opensChan).arg h0
  have s0 : layChan.see W W.heap.size x0 vc0 := by simpa [Value.cells] using s0'
  clear hA0 hval0
  refine (walk W x0 _ s0).mono fun e W' ⟨he, bel⟩ => ?_
  subst he
  exact ⟨_, rfl, _, _, _, [], _, [], hW', trodAll_mk1 (shut_bool Try.underlying4 _), (trodAll_cons_mk (Below.trod laidOut (by kernel_rfl) (of_decide_eq_true (by kernel_rfl)) k0 bel lt0) trodAll_mk0), rfl, bel.frame _, fun h => by cases h⟩

theorem over : Rows.fnExactRecvFromRow.holds Try.pinned (OpenSpec.ofChange Rows.fnExactRecvFromSpec) :=
  OpenClaim.holds_of_wide 8 Try.f8 rfl rfl rfl rfl rfl rfl rfl ⟨rfl, rfl, rfl, rfl, rfl⟩ rfl rfl rfl rfl rfl (by kernel_rfl) Try.func8 (by kernel_rfl)
    (of_decide_eq_true (by kernel_rfl)) (by unfold Func.isWrapper; first | (rw [if_pos (by decide +kernel)]; kernel_rfl) | (rw [if_neg (by decide +kernel)]; exact ⟨rfl, rfl⟩))
    (fun os started H enc _ => lifted os started H enc)

theorem proved : Rows.FnExactRecvFromSaid := over
#print axioms proved
end Go.Proofs.Ytgdmcdblhpdlmaa.fnExactRecvFrom
