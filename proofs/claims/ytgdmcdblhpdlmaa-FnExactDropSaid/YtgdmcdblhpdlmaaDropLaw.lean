/- At every row of waiters and every goroutine Drop answers as the specification; it writes into no argument, and its answer owns its memory. No condition but that of the statement. -/
import Derived.Test.YtgdmcdblhpdlmaaRows
import Derived.WalkKit
import Derived.Test.YtgdmcdblhpdlmaaChanLawD
import Derived.Lib.Hide
import Derived.ProofKit
import Derived.OpenShut
import Derived.ShutString
import Derived.ChangeOld
import Derived.Below
namespace Go.Proofs.Ytgdmcdblhpdlmaa.fnExactDrop
open Go.ChangeShapes Go.WideShapes Go.ChangeAt Go.RowKit
open Go.ChangeMaps (open_string shut_string)
set_option linter.unusedVariables false
set_option linter.unusedSimpArgs false

theorem own : ownKnob Try.prog.godebug = none := by kernel_rfl
theorem laidOut : laidOutB Try.prog = true := by kernel_rfl

set_option maxRecDepth 100000 in
set_option maxHeartbeats 4000000 in
theorem walk (w : World) (A0 : Option Addr) (n0 c0 : Nat) (xs0 : List DWaiter) (s0 : SeenR layWaiter w w.heap.size A0 n0 xs0) (m0 : n0 ≤ maxLen) (a1 : Int) (w1 : (Lit.int .i64 a1).wf = true) :
    Calls Try.prog 10 #[.slice A0 n0 c0, .int .i64 a1] w fun e w' => e = .returned (.bool true) ∧ Below w.heap.size w w' := by
  have HV := Lib.hid w1
  clear w1
  have HL := Lib.hid s0.1
  have HKE := Lib.hid (fun (W : World) (hW : Below w.heap.size w W) => s0.below hW (Nat.le_refl _))
  have HE := Lib.hid (Below.refl w.heap.size w)
  clear s0
  go_enter Try.func10, Try.ntmps10
  go_wp2_with fail
  refine (szWaiterS_any (l := 1048576) (Nat.le_refl _) m0).mono ?_
  rintro e v0 ⟨hb0, hcase⟩
  have hz0 := hb0.size
  replace HE := Lib.hid (HE.out.trans (hb0.mono (by omega)))
  clear hb0
  rcases hcase with ⟨hle, rfl⟩ | ⟨hle, rfl⟩
  · skip
    have hr0 : (dropW a1 xs0).length ≤ 1048576 := dropW_le (by rw [HL.out]; exact hle)
    have HSP := Lib.hid (fun (W : World) (A : Option Addr) (c hi : Nat) (h : SeenR layWaiter W hi A n0 xs0) (hhi : hi ≤ W.heap.size) => specDrop_law (c := c) (g := a1) h hhi hle)
    have HIM := Lib.hid (fun (W : World) (A : Option Addr) (c hi : Nat) (h : SeenR layWaiter W hi A n0 xs0) (hhi : hi ≤ W.heap.size) => implDrop_law (c := c) (g := a1) h hhi hle)
    generalize dropW a1 xs0 = r at *
    generalize hm : r.length = m at *
    go_wp2_with fail
    refine (toWaiterS_any (HKE.out _ HE.out) (by omega) hle).mono ?_
    rintro e v1 ⟨Tv1, tv1, rfl, ownv1, hbv1⟩
    have hv1 := hbv1.size
    replace HE := Lib.hid (HE.out.trans (hbv1.mono (by omega)))
    clear hbv1
    have see1 := ownv1.seen (hi := v1.heap.size) fun g hg => hg.2
    clear ownv1
    go_wp2_with fail
    refine (HSP.out _ _ _ _ see1 (by omega)).mono ?_
    rintro e v2 ⟨SA, Sc, rfl, ownS, hbv2⟩
    have hv2 := hbv2.size
    replace HE := Lib.hid (HE.out.trans (hbv2.mono (by omega)))
    clear hbv2
    clear see1
    have seeS := ownS.seen (hi := v2.heap.size) fun g hg => hg.2
    have HKS := Lib.hid (fun (W : World) (hW : Below v2.heap.size v2 W) => seeS.below hW (Nat.le_refl _))
    have HS := Lib.hid (Below.refl v2.heap.size v2)
    clear ownS seeS
    go_wp2_with fail
    refine (toWaiterS_any (HKE.out _ HE.out) (by omega) hle).mono ?_
    rintro e v3 ⟨Tv3, tv3, rfl, ownv3, hbv3⟩
    have hv3 := hbv3.size
    replace HE := Lib.hid (HE.out.trans (hbv3.mono (by omega)))
    replace HS := Lib.hid (HS.out.trans (hbv3.mono (by omega)))
    clear hbv3
    have seeX := ownv3.seen (hi := v3.heap.size) fun g hg => hg.2
    have HKX := Lib.hid (fun (W : World) (hW : Below v3.heap.size v3 W) => And.intro (seeX.below hW (Nat.le_refl _)) (ownv3.stay (w' := W) (fun g hg hlt => hW.block g hlt) hW.size))
    have HX := Lib.hid (Below.refl v3.heap.size v3)
    clear seeX ownv3
    go_wp2_with fail
    refine (HIM.out _ _ _ _ (HKX.out _ HX.out).1 (by omega)).mono ?_
    rintro e v4 ⟨GA, Gc, rfl, ownG, hbv4⟩
    have hv4 := hbv4.size
    replace HE := Lib.hid (HE.out.trans (hbv4.mono (by omega)))
    replace HS := Lib.hid (HS.out.trans (hbv4.mono (by omega)))
    replace HX := Lib.hid (HX.out.trans (hbv4.mono (by omega)))
    clear hbv4
    have seeG := ownG.seen (hi := v4.heap.size) fun g hg => hg.2
    have HKG := Lib.hid (fun (W : World) (hW : Below v4.heap.size v4 W) => And.intro (seeG.below hW (Nat.le_refl _)) (ownG.stay (w' := W) (fun g hg hlt => hW.block g hlt) hW.size))
    have HG := Lib.hid (Below.refl v4.heap.size v4)
    clear seeG ownG
    go_wp2_with fail
    refine (eqWaiterS_same ((HKG.out _ HG.out).1) (HKS.out _ HS.out) (by omega) (by omega) (by omega)).mono ?_
    rintro e v5 ⟨rfl, hbv5⟩
    have hv5 := hbv5.size
    replace HE := Lib.hid (HE.out.trans (hbv5.mono (by omega)))
    replace HS := Lib.hid (HS.out.trans (hbv5.mono (by omega)))
    replace HX := Lib.hid (HX.out.trans (hbv5.mono (by omega)))
    replace HG := Lib.hid (HG.out.trans (hbv5.mono (by omega)))
    clear hbv5
    go_wp2_with fail
    refine (toWaiterS_any (HKE.out _ HE.out) (by omega) hle).mono ?_
    rintro e v6 ⟨Tv6, tv6, rfl, ownv6, hbv6⟩
    have hv6 := hbv6.size
    replace HE := Lib.hid (HE.out.trans (hbv6.mono (by omega)))
    replace HS := Lib.hid (HS.out.trans (hbv6.mono (by omega)))
    replace HX := Lib.hid (HX.out.trans (hbv6.mono (by omega)))
    replace HG := Lib.hid (HG.out.trans (hbv6.mono (by omega)))
    clear hbv6
    have see6 := ownv6.seen (hi := v6.heap.size) fun g hg => hg.2
    clear ownv6
    go_wp2_with fail
    refine (eqWaiterS_same ((HKX.out _ HX.out).1) (see6) (by omega) (by omega) (by omega)).mono ?_
    rintro e v7 ⟨rfl, hbv7⟩
    have hv7 := hbv7.size
    replace HE := Lib.hid (HE.out.trans (hbv7.mono (by omega)))
    replace HS := Lib.hid (HS.out.trans (hbv7.mono (by omega)))
    replace HX := Lib.hid (HX.out.trans (hbv7.mono (by omega)))
    replace HG := Lib.hid (HG.out.trans (hbv7.mono (by omega)))
    clear hbv7
    clear see6
    go_wp2_with fail
    refine (markWaiterS_any (k := 1) (HKX.out _ HX.out).2 hle (by omega) (by omega)).mono ?_
    rintro e v8 ⟨rfl, -, htX⟩
    have hv8 := htX.size
    have hk0 : decide (1 + 3 * (n0 : Int) < 0) = false := decide_eq_false (by omega)
    replace HE := Lib.hid (HE.out.trans (htX.below (fun g hg => by omega) (by omega)))
    replace HS := Lib.hid (HS.out.trans (htX.below (fun g hg => by omega) (by omega)))
    have ownG2 := (HKG.out _ HG.out).2.stay (w' := v8) (fun g hg hlt => htX.block g hlt (fun hF => by omega)) htX.size
    clear HKG HG HKX HX htX
    have seeG2 := ownG2.seen (hi := v4.heap.size) fun g hg => by omega
    have HKG2 := Lib.hid (fun (W : World) (hW : Below v8.heap.size v8 W) => And.intro (seeG2.below hW (by omega)) (ownG2.stay (w' := W) (fun g hg hlt => hW.block g hlt) hW.size))
    have HG2 := Lib.hid (Below.refl v8.heap.size v8)
    clear seeG2 ownG2
    go_wp2_with fail
    refine (eqWaiterS_same ((HKG2.out _ HG2.out).1) (HKS.out _ HS.out) (by omega) (by omega) (by omega)).mono ?_
    rintro e v9 ⟨rfl, hbv9⟩
    have hv9 := hbv9.size
    replace HE := Lib.hid (HE.out.trans (hbv9.mono (by omega)))
    replace HS := Lib.hid (HS.out.trans (hbv9.mono (by omega)))
    replace HG2 := Lib.hid (HG2.out.trans (hbv9.mono (by omega)))
    clear hbv9
    go_wp2_with fail
    refine (markWaiterS_any (k := 1) (HKG2.out _ HG2.out).2 hr0 (by omega) (by omega)).mono ?_
    rintro e v10 ⟨rfl, ownG3, htG⟩
    have hv10 := htG.size
    replace HE := Lib.hid (HE.out.trans (htG.below (fun g hg => by omega) (by omega)))
    replace HS := Lib.hid (HS.out.trans (htG.below (fun g hg => by omega) (by omega)))
    clear HKG2 HG2 htG
    have seeG3 := ownG3.seen (hi := v4.heap.size) fun g hg => hg.2
    have HKG3 := Lib.hid (fun (W : World) (hW : Below v10.heap.size v10 W) => seeG3.below hW (by omega))
    have HG3 := Lib.hid (Below.refl v10.heap.size v10)
    clear seeG3 ownG3
    have hkg : decide (1 + 3 * (m : Int) < 0) = false := decide_eq_false (by omega)
    have hkm : (1 + 3 * (m : Int) != 1 + 3 * (m : Int)) = false := by simp
    go_wp2_with fail
    refine (heldWaiterS_any (k := 1) (HKG3.out _ HG3.out) hr0 (by omega) (by omega)).mono ?_
    rintro e vh ⟨rfl, hvh⟩
    subst hvh
    go_wp2_with fail
    refine (toWaiterS_any (HKE.out _ HE.out) (by omega) hle).mono ?_
    rintro e v11 ⟨Tv11, tv11, rfl, ownv11, hbv11⟩
    have hv11 := hbv11.size
    replace HE := Lib.hid (HE.out.trans (hbv11.mono (by omega)))
    replace HS := Lib.hid (HS.out.trans (hbv11.mono (by omega)))
    replace HG3 := Lib.hid (HG3.out.trans (hbv11.mono (by omega)))
    clear hbv11
    have see12 := ownv11.seen (hi := v11.heap.size) fun g hg => hg.2
    clear ownv11
    go_wp2_with fail
    refine (HIM.out _ _ _ _ see12 (by omega)).mono ?_
    rintro e v12 ⟨HA, Hc, rfl, ownH, hbv12⟩
    have hv12 := hbv12.size
    replace HE := Lib.hid (HE.out.trans (hbv12.mono (by omega)))
    replace HS := Lib.hid (HS.out.trans (hbv12.mono (by omega)))
    replace HG3 := Lib.hid (HG3.out.trans (hbv12.mono (by omega)))
    clear hbv12
    clear see12
    have seeH := ownH.seen (hi := v12.heap.size) fun g hg => hg.2
    clear ownH
    go_wp2_with fail
    refine (eqWaiterS_same (seeH) (HKS.out _ HS.out) (by omega) (by omega) (by omega)).mono ?_
    rintro e v13 ⟨rfl, hbv13⟩
    have hv13 := hbv13.size
    replace HE := Lib.hid (HE.out.trans (hbv13.mono (by omega)))
    replace HS := Lib.hid (HS.out.trans (hbv13.mono (by omega)))
    replace HG3 := Lib.hid (HG3.out.trans (hbv13.mono (by omega)))
    clear hbv13
    clear seeH
    go_wp2_with fail
    refine (heldWaiterS_any (k := 1) (HKG3.out _ HG3.out) hr0 (by omega) (by omega)).mono ?_
    rintro e vh ⟨rfl, hvh⟩
    subst hvh
    go_wp2_with fail
    go_ret
    exact ⟨rfl, HE.out⟩
  · go_wp2_with fail
    go_ret
    exact ⟨rfl, HE.out⟩

set_option maxRecDepth 100000 in
theorem lifted (os : Os) (started : os.Started) (H : Type) (enc : TypeId × Value → H) :
    ReturnsInHanded {} Try.checked os 10 .any (Rows.fnExactDropSpec.pre6 enc Try.prog Try.f10 Rows.fnExactDropRow.domain false) (Rows.fnExactDropSpec.post enc Try.prog Try.f10 false true false false) := by
  refine returnsInHanded_of_change (C := Try.checked) own started (by kernel_rfl) Try.func10
    (ChangeSpec.witness6 (enc := enc) (C := Try.checked) false ⟨#[], #[.slice none 0 0, .int .i64 0], []⟩ 8 (by kernel_rfl) (by kernel_rfl) (by kernel_rfl) (by kernel_rfl)) ?_
  intro W base args ds gs before hval0 hW hcnd _
  have hval : ∀ (j : Nat) t v, Try.f10.params[j]? = some t → args[j]? = some v → Value.okWide Try.prog W .any base t v := hval0
  have hW' := hW
  obtain ⟨p, q, hA0, hV, rfl, hfz, hnd⟩ := hW
  have hA : DataW.TrodAll enc Try.prog W 0 (fun _ => true) true Try.f10.params.toList args.toList ds p := hA0
  rw [Try.params10] at hA hval
  obtain ⟨v0, vs0, d0, ds0, p0, q0, hargs, rfl, rfl, h0, r0⟩ := trodAll_cons hA
  obtain ⟨v1, vs1, d1, ds1, p1, q1, rfl, rfl, rfl, h1, r1⟩ := trodAll_cons r0
  obtain ⟨rfl, rfl, rfl⟩ := trodAll_nil r1
  obtain rfl : args = #[v0, v1] := by cases args; simp_all
  obtain ⟨rfl, rfl⟩ := trodVars_none hV
  obtain ⟨A0, n0, c0, rfl⟩ := okWide_slice Try.underlying39 (hval 0 39 v0 rfl rfl)
  have k0 := h0
  have lt0 : ∀ x ∈ p0, x.block < W.heap.size := by obtain ⟨m, hm⟩ := k0; exact DataW.trod_lt m _ _ _ hm
  obtain ⟨xs0, A0', n0', c0', e0, hc0, hm0, s0⟩ := (opens_slice (e' := 0) (L := layWaiter) Try.underlying39 (by kernel_rfl) (by decide) (opensWaiter)).arg h0
  have e0' : Value.slice A0 n0 c0 = .slice A0' n0' c0' := by simpa [Value.cells] using e0
  injection e0' with ea0 eb0 ec0
  subst ea0 eb0 ec0
  have m0 := Nat.le_trans hc0 hm0
  obtain ⟨a1, rfl, rfl, rfl, w1⟩ := open_int Try.underlying3 (hval 1 3 v1 rfl rfl) h1
  clear hA0 hval0
  refine (walk W A0 n0 c0 xs0 s0 m0 a1 w1).mono fun e W' ⟨he, bel⟩ => ?_
  subst he
  exact ⟨_, rfl, _, _, _, [], _, [], hW', trodAll_mk1 (shut_bool Try.underlying4 _), (trodAll_cons_mk (Below.trod laidOut (by kernel_rfl) (of_decide_eq_true (by kernel_rfl)) k0 bel lt0) (trodAll_cons_mk (shut_int Try.underlying3 w1) trodAll_mk0)), rfl, bel.frame _, fun h => by cases h⟩

theorem over : Rows.fnExactDropRow.holds Try.pinned (OpenSpec.ofChange Rows.fnExactDropSpec) :=
  OpenClaim.holds_of_wide 10 Try.f10 rfl rfl rfl rfl rfl rfl rfl ⟨rfl, rfl, rfl, rfl, rfl⟩ rfl rfl rfl rfl rfl (by kernel_rfl) Try.func10 (by kernel_rfl)
    (of_decide_eq_true (by kernel_rfl)) (by unfold Func.isWrapper; first | (rw [if_pos (by decide +kernel)]; kernel_rfl) | (rw [if_neg (by decide +kernel)]; exact ⟨rfl, rfl⟩))
    (fun os started H enc _ => lifted os started H enc)

theorem proved : Rows.FnExactDropSaid := over
#print axioms proved
end Go.Proofs.Ytgdmcdblhpdlmaa.fnExactDrop
