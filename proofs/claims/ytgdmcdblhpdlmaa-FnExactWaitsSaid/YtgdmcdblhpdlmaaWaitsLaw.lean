/- At every row of waiters and every goroutine Waits answers as the specification, and writes into no argument. No condition but that of the statement. -/
import Derived.Test.YtgdmcdblhpdlmaaRows
import Derived.WalkKit
import Derived.Test.YtgdmcdblhpdlmaaChanDrop
import Derived.Lib.Hide
import Derived.ProofKit
import Derived.OpenShut
import Derived.ShutString
import Derived.ChangeOld
import Derived.Below
namespace Go.Proofs.Ytgdmcdblhpdlmaa.fnExactWaits
open Go.ChangeShapes Go.WideShapes Go.ChangeAt Go.RowKit
open Go.ChangeMaps (open_string shut_string)
set_option linter.unusedVariables false
set_option linter.unusedSimpArgs false

theorem own : ownKnob Try.prog.godebug = none := by kernel_rfl
theorem laidOut : laidOutB Try.prog = true := by kernel_rfl

set_option maxRecDepth 100000 in
set_option maxHeartbeats 4000000 in
theorem walk (w : World) (A0 : Option Addr) (n0 c0 : Nat) (xs0 : List DWaiter) (s0 : SeenR layWaiter w w.heap.size A0 n0 xs0) (m0 : n0 ≤ maxLen) (a1 : Int) (w1 : (Lit.int .i64 a1).wf = true) :
    Calls Try.prog 11 #[.slice A0 n0 c0, .int .i64 a1] w fun e w' => e = .returned (.bool true) ∧ Below w.heap.size w w' := by
  have HV := Lib.hid w1
  clear w1
  have HL := Lib.hid s0.1
  have HKE := Lib.hid (fun (W : World) (hW : Below w.heap.size w W) => s0.below hW (Nat.le_refl _))
  have HE := Lib.hid (Below.refl w.heap.size w)
  clear s0
  go_enter Try.func11, Try.ntmps11
  go_wp2_with fail
  refine (szWaiterS_any (l := 1048576) (Nat.le_refl _) m0).mono ?_
  rintro e v0 ⟨hb0, hcase⟩
  have hz0 := hb0.size
  replace HE := Lib.hid (HE.out.trans (hb0.mono (by omega)))
  clear hb0
  rcases hcase with ⟨hle, rfl⟩ | ⟨hle, rfl⟩
  · skip
    have HSP := Lib.hid (fun (W : World) (A : Option Addr) (c hi : Nat) (h : SeenR layWaiter W hi A n0 xs0) (hhi : hi ≤ W.heap.size) => specWaits_any (c := c) (g := a1) h hhi hle)
    have HIM := Lib.hid (fun (W : World) (A : Option Addr) (c hi : Nat) (h : SeenR layWaiter W hi A n0 xs0) (hhi : hi ≤ W.heap.size) => implWaits_any (c := c) (g := a1) h hhi hle)
    generalize xs0.countP (ofG a1) = r at *
    have hrr : ((r : Int) != (r : Int)) = false := by simp
    go_wp2_with fail
    refine (toWaiterS_any (HKE.out _ HE.out) (by omega) hle).mono ?_
    rintro e v1 ⟨Tv1, tv1, rfl, ownv1, hbv1⟩
    have hv1 := hbv1.size
    replace HE := Lib.hid (HE.out.trans (hbv1.mono (by omega)))
    clear hbv1
    have see1 := ownv1.seen (hi := v1.heap.size) fun g hg => hg.2
    clear ownv1
    go_wp2_with fail
    refine (HSP.out _ _ _ _ see1 (by omega)).mono ?_
    rintro e v2 ⟨rfl, hbv2⟩
    have hv2 := hbv2.size
    replace HE := Lib.hid (HE.out.trans (hbv2.mono (by omega)))
    clear hbv2
    clear see1
    go_wp2_with fail
    refine (toWaiterS_any (HKE.out _ HE.out) (by omega) hle).mono ?_
    rintro e v3 ⟨Tv3, tv3, rfl, ownv3, hbv3⟩
    have hv3 := hbv3.size
    replace HE := Lib.hid (HE.out.trans (hbv3.mono (by omega)))
    clear hbv3
    have seeX := ownv3.seen (hi := v3.heap.size) fun g hg => hg.2
    have HKX := Lib.hid (fun (W : World) (hW : Below v3.heap.size v3 W) => seeX.below hW (Nat.le_refl _))
    have HX := Lib.hid (Below.refl v3.heap.size v3)
    clear seeX ownv3
    go_wp2_with fail
    refine (HIM.out _ _ _ _ (HKX.out _ HX.out) (by omega)).mono ?_
    rintro e v4 ⟨rfl, hbv4⟩
    have hv4 := hbv4.size
    replace HE := Lib.hid (HE.out.trans (hbv4.mono (by omega)))
    replace HX := Lib.hid (HX.out.trans (hbv4.mono (by omega)))
    clear hbv4
    go_wp2_with fail
    refine (toWaiterS_any (HKE.out _ HE.out) (by omega) hle).mono ?_
    rintro e v5 ⟨Tv5, tv5, rfl, ownv5, hbv5⟩
    have hv5 := hbv5.size
    replace HE := Lib.hid (HE.out.trans (hbv5.mono (by omega)))
    replace HX := Lib.hid (HX.out.trans (hbv5.mono (by omega)))
    clear hbv5
    have see6 := ownv5.seen (hi := v5.heap.size) fun g hg => hg.2
    clear ownv5
    go_wp2_with fail
    refine (eqWaiterS_same (HKX.out _ HX.out) (see6) (by omega) (by omega) (by omega)).mono ?_
    rintro e v6 ⟨rfl, hbv6⟩
    have hv6 := hbv6.size
    replace HE := Lib.hid (HE.out.trans (hbv6.mono (by omega)))
    replace HX := Lib.hid (HX.out.trans (hbv6.mono (by omega)))
    clear hbv6
    go_wp2_with fail
    go_ret
    exact ⟨rfl, HE.out⟩
  · go_wp2_with fail
    go_ret
    exact ⟨rfl, HE.out⟩

set_option maxRecDepth 100000 in
theorem lifted (os : Os) (started : os.Started) (H : Type) (enc : TypeId × Value → H) :
    ReturnsInHanded {} Try.checked os 11 .any (Rows.fnExactWaitsSpec.pre6 enc Try.prog Try.f11 Rows.fnExactWaitsRow.domain false) (Rows.fnExactWaitsSpec.post enc Try.prog Try.f11 false true false false) := by
  refine returnsInHanded_of_change (C := Try.checked) own started (by kernel_rfl) Try.func11
    (ChangeSpec.witness6 (enc := enc) (C := Try.checked) false ⟨#[], #[.slice none 0 0, .int .i64 0], []⟩ 8 (by kernel_rfl) (by kernel_rfl) (by kernel_rfl) (by kernel_rfl)) ?_
  intro W base args ds gs before hval0 hW hcnd _
  have hval : ∀ (j : Nat) t v, Try.f11.params[j]? = some t → args[j]? = some v → Value.okWide Try.prog W .any base t v := hval0
  have hW' := hW
  obtain ⟨p, q, hA0, hV, rfl, hfz, hnd⟩ := hW
  have hA : DataW.TrodAll enc Try.prog W 0 (fun _ => true) true Try.f11.params.toList args.toList ds p := hA0
  rw [Try.params11] at hA hval
  obtain ⟨v0, vs0, d0, ds0, p0, q0, hargs, rfl, rfl, h0, r0⟩ := trodAll_cons hA
  obtain ⟨v1, vs1, d1, ds1, p1, q1, rfl, rfl, rfl, h1, r1⟩ := trodAll_cons r0
  obtain ⟨rfl, rfl, rfl⟩ := trodAll_nil r1
  obtain rfl : args = #[v0, v1] := by cases args; simp_all
  obtain ⟨rfl, rfl⟩ := trodVars_none hV
  obtain ⟨A0, n0, c0, rfl⟩ := okWide_slice Try.underlying39 (hval 0 39 v0 rfl rfl)
  have k0 := h0
  have lt0 : ∀ x ∈ p0, x.block < W.heap.size := by obtain ⟨m, hm⟩ := k0; exact DataW.trod_lt m _ _ _ hm
  obtain ⟨xs0, A0', n0', c0', e0, hc0, hm0, s0⟩ := (opens_slice (e' := 0) (L := layWaiter) Try.underlying39 (by kernel_rfl) (by decide) (opensWaiter)).arg h0
  have e0' : Value.slice A0 n0 c0 = .slice A0' n0' c0' := by simpa [Value.cells] using e0
  injection e0' with ea0 eb0 ec0
  subst ea0 eb0 ec0
  have m0 := Nat.le_trans hc0 hm0
  obtain ⟨a1, rfl, rfl, rfl, w1⟩ := open_int Try.underlying3 (hval 1 3 v1 rfl rfl) h1
  clear hA0 hval0
  refine (walk W A0 n0 c0 xs0 s0 m0 a1 w1).mono fun e W' ⟨he, bel⟩ => ?_
  subst he
  exact ⟨_, rfl, _, _, _, [], _, [], hW', trodAll_mk1 (shut_bool Try.underlying4 _), (trodAll_cons_mk (Below.trod laidOut (by kernel_rfl) (of_decide_eq_true (by kernel_rfl)) k0 bel lt0) (trodAll_cons_mk (shut_int Try.underlying3 w1) trodAll_mk0)), rfl, bel.frame _, fun h => by cases h⟩

theorem over : Rows.fnExactWaitsRow.holds Try.pinned (OpenSpec.ofChange Rows.fnExactWaitsSpec) :=
  OpenClaim.holds_of_wide 11 Try.f11 rfl rfl rfl rfl rfl rfl rfl ⟨rfl, rfl, rfl, rfl, rfl⟩ rfl rfl rfl rfl rfl (by kernel_rfl) Try.func11 (by kernel_rfl)
    (of_decide_eq_true (by kernel_rfl)) (by unfold Func.isWrapper; first | (rw [if_pos (by decide +kernel)]; kernel_rfl) | (rw [if_neg (by decide +kernel)]; exact ⟨rfl, rfl⟩))
    (fun os started H enc _ => lifted os started H enc)

theorem proved : Rows.FnExactWaitsSaid := over
#print axioms proved
end Go.Proofs.Ytgdmcdblhpdlmaa.fnExactWaits
