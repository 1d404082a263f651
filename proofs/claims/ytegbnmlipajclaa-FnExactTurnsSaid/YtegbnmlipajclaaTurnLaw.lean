/- Turns: the law. -/
import Derived.Test.YtegbnmlipajclaaRows
import Derived.WalkKit
import Derived.Test.YtegbnmlipajclaaTurnC
import Derived.Test.YtegbnmlipajclaaMPick
import Derived.Test.YtegbnmlipajclaaGInv
import Derived.Lib.Hide
import Derived.ProofKit
import Derived.OpenShut
import Derived.ShutString
import Derived.ChangeOld
import Derived.Below
namespace Go.Proofs.Ytegbnmlipajclaa.fnExactTurns
open Go.ChangeShapes Go.WideShapes Go.ChangeAt Go.RowKit
open Go.ChangeMaps (open_string shut_string)
set_option linter.unusedVariables false
set_option linter.unusedSimpArgs false

theorem own : ownKnob Try.prog.godebug = none := by kernel_rfl
theorem laidOut : laidOutB Try.prog = true := by kernel_rfl

set_option maxRecDepth 100000 in
set_option maxHeartbeats 20000000 in
theorem walk (w : World) (a0 : Int) (w0 : (Lit.int .i64 a0).wf = true) :
    Calls Try.prog 4 #[.int .i64 a0] w fun e w' => e = .returned (.bool true) ∧ Below w.heap.size w w' := by
  have HV0 := Lib.hid w0
  clear w0
  have hWE : Below w.heap.size w w := (Below.refl w.heap.size w)
  have hzE : w.heap.size ≤ w.heap.size := by simp
  have HKE := Lib.hid (fun (W : World) (hW : Below (w.heap.size) w W) => show (w.heap.size ≤ W.heap.size ∧ Below w.heap.size w W) ∧ True from ⟨⟨Nat.le_trans hzE hW.size, hWE.trans (hW.mono (by omega))⟩, trivial⟩)
  have HE := Lib.hid (show Below (w.heap.size) w w from Below.refl _ _)
  clear hWE hzE
  go_enter Try.func4, Try.ntmps4
  have hszR : (turnsTo (turnN a0)).length ≤ 1048576 := by rw [turnsTo_len]; have := turnN_le a0; omega
  have HSP := Lib.hid (fun (W : World) (hi : Nat)  (hhi : hi ≤ W.heap.size) (hW : Below w.heap.size w W) => specTurns_any a0 W)
  have HIM := Lib.hid (fun (W : World) (hi : Nat)  (hhi : hi ≤ W.heap.size) (hW : Below w.heap.size w W) => implTurns_any a0 W)
  generalize (turnsTo (turnN a0)) = r at *
  have hz00 : w.heap.size ≤ w.heap.size := by simp
  go_wp2_with fail
  refine (HSP.out _ 0 (Nat.zero_le _) ((HKE.out _ (HE.out)).1).2).mono ?_
  rintro e v1 ⟨AgS, cgS, rfl, ownv1, hbv1⟩
  have han := AnsR.of_own hbv1.size ownv1
  replace HE := Lib.hid (HE.out.trans (hbv1.mono (by first | omega | (simp only [World.size_alloc]; omega))))
  have hz2 := hbv1.size
  have HAS := Lib.hid han
  clear han hbv1 ownv1
  have lt3 := HAS.out.lt
  go_wp2_with fail
  refine (HIM.out _ 0 (Nat.zero_le _) ((HKE.out _ (HE.out)).1).2).mono ?_
  rintro e v4 ⟨AgG, cgG, rfl, ownv4, hbv4⟩
  have han := AnsR.of_own hbv4.size ownv4
  replace HE := Lib.hid (HE.out.trans (hbv4.mono (by omega)))
  replace HAS := Lib.hid (HAS.out.below hbv4 (by omega))
  have hz5 := hbv4.size
  have HAG := Lib.hid han
  clear han hbv4 ownv4
  have lt6 := HAS.out.lt
  have lt7 := HAG.out.lt
  have zE8 := ((HKE.out _ (HE.out)).1).1
  go_wp2_with fail
  refine (eqPickS_same HAG.out.see HAS.out.see (Nat.le_refl _) (Nat.le_refl _) hszR).mono ?_
  rintro e v9 ⟨rfl, hbv9⟩
  replace HE := Lib.hid (HE.out.trans (hbv9.mono (by omega)))
  replace HAS := Lib.hid (HAS.out.below hbv9 (by omega))
  replace HAG := Lib.hid (HAG.out.below hbv9 (by omega))
  have hz10 := hbv9.size
  clear hbv9
  have lt11 := HAS.out.lt
  have lt12 := HAG.out.lt
  have zE14 := ((HKE.out _ (HE.out)).1).1
  go_wp2_with fail
  refine (markPickS_any (k := 1) HAG.out.own hszR (by omega) (by omega)).mono ?_
  rintro e v13 ⟨rfl, own9, ht9⟩
  have hkv13 : decide (1 + 2 * (r.length : Int) < 0) = false := decide_eq_false (by omega)
  replace HE := Lib.hid (HE.out.trans (show Below (w.heap.size) v9 v13 from ⟨ht9.os, ht9.tape, ht9.output, ht9.size, fun k hk => ht9.block k (by omega) (fun hg => by have h1 := hg.1; omega)⟩))
  replace HAS := Lib.hid (HAS.out.turned ht9 (fun k hg => by have h1 := hg.1; have h2 := hg.2; omega))
  replace HAG := Lib.hid (HAG.out.marked own9 ht9)
  have hz15 := ht9.size
  clear own9 ht9
  have hqm : ((1 + 2 * (r.length : Int)) != (1 + 2 * (r.length : Int))) = false := by simp
  have lt16 := HAS.out.lt
  have lt17 := HAG.out.lt
  go_wp2_with fail
  refine (heldPickS_any (k := 1) HAG.out.see hszR (by omega) (by omega)).mono ?_
  rintro e v18 ⟨rfl, hw9⟩
  subst hw9
  have lt19 := HAS.out.lt
  have lt20 := HAG.out.lt
  go_wp2_with fail
  refine (HIM.out _ 0 (Nat.zero_le _) ((HKE.out _ (HE.out)).1).2).mono ?_
  rintro e v21 ⟨AgH, cgH, rfl, ownv21, hbv21⟩
  have han := AnsR.of_own hbv21.size ownv21
  replace HE := Lib.hid (HE.out.trans (hbv21.mono (by omega)))
  replace HAS := Lib.hid (HAS.out.below hbv21 (by omega))
  replace HAG := Lib.hid (HAG.out.below hbv21 (by omega))
  have hz22 := hbv21.size
  have HAH := Lib.hid han
  clear han hbv21 ownv21
  have lt23 := HAS.out.lt
  have lt24 := HAG.out.lt
  have lt25 := HAH.out.lt
  have zE26 := ((HKE.out _ (HE.out)).1).1
  go_wp2_with fail
  refine (eqPickS_same HAH.out.see HAS.out.see (Nat.le_refl _) (Nat.le_refl _) hszR).mono ?_
  rintro e v27 ⟨rfl, hbv27⟩
  replace HE := Lib.hid (HE.out.trans (hbv27.mono (by omega)))
  replace HAS := Lib.hid (HAS.out.below hbv27 (by omega))
  replace HAG := Lib.hid (HAG.out.below hbv27 (by omega))
  replace HAH := Lib.hid (HAH.out.below hbv27 (by omega))
  have hz28 := hbv27.size
  clear hbv27
  have lt29 := HAS.out.lt
  have lt30 := HAG.out.lt
  have lt31 := HAH.out.lt
  go_wp2_with fail
  refine (heldPickS_any (k := 1) HAG.out.see hszR (by omega) (by omega)).mono ?_
  rintro e v32 ⟨rfl, hw9⟩
  subst hw9
  go_wp2_with fail
  go_ret
  exact ⟨rfl, ((HKE.out _ (HE.out)).1).2⟩

set_option maxRecDepth 100000 in
theorem lifted (os : Os) (started : os.Started) (H : Type) (enc : TypeId × Value → H) :
    ReturnsInHanded {} Try.checked os 4 .any (Rows.fnExactTurnsSpec.pre6 enc Try.prog Try.f4 Rows.fnExactTurnsRow.domain false) (Rows.fnExactTurnsSpec.post enc Try.prog Try.f4 false true false false) := by
  refine returnsInHanded_of_change (C := Try.checked) own started (by kernel_rfl) Try.func4
    (ChangeSpec.witness6 (enc := enc) (C := Try.checked) false ⟨#[], #[.int .i64 0], []⟩ 8 (by kernel_rfl) (by kernel_rfl) (by kernel_rfl) (by kernel_rfl)) ?_
  intro W base args ds gs before hval0 hW hcnd _
  have hval : ∀ (j : Nat) t v, Try.f4.params[j]? = some t → args[j]? = some v → Value.okWide Try.prog W .any base t v := hval0
  have hW' := hW
  obtain ⟨p, q, hA0, hV, rfl, hfz, hnd⟩ := hW
  have hA : DataW.TrodAll enc Try.prog W 0 (fun _ => true) true Try.f4.params.toList args.toList ds p := hA0
  rw [Try.params4] at hA hval
  obtain ⟨v0, vs0, d0, ds0, p0, q0, hargs, rfl, rfl, h0, r0⟩ := trodAll_cons hA
  obtain ⟨rfl, rfl, rfl⟩ := trodAll_nil r0
  obtain rfl : args = #[v0] := by cases args; simp_all
  obtain ⟨rfl, rfl⟩ := trodVars_none hV
  obtain ⟨a0, rfl, rfl, rfl, w0⟩ := open_int Try.underlying3 (hval 0 3 v0 rfl rfl) h0
  clear hA0 hval0
  refine (walk W a0 w0).mono fun e W' ⟨he, bel⟩ => ?_
  subst he
  exact ⟨_, rfl, _, _, _, [], _, [], hW', trodAll_mk1 (shut_bool Try.underlying4 _), (trodAll_cons_mk (shut_int Try.underlying3 w0) trodAll_mk0), rfl, bel.frame _, fun h => by cases h⟩

theorem over : Rows.fnExactTurnsRow.holds Try.pinned (OpenSpec.ofChange Rows.fnExactTurnsSpec) :=
  OpenClaim.holds_of_wide 4 Try.f4 rfl rfl rfl rfl rfl rfl rfl ⟨rfl, rfl, rfl, rfl, rfl⟩ rfl rfl rfl rfl rfl (by kernel_rfl) Try.func4 (by kernel_rfl)
    (of_decide_eq_true (by kernel_rfl)) (by unfold Func.isWrapper; first | (rw [if_pos (by decide +kernel)]; kernel_rfl) | (rw [if_neg (by decide +kernel)]; exact ⟨rfl, rfl⟩))
    (fun os started H enc _ => lifted os started H enc)

theorem proved : Rows.FnExactTurnsSaid := over
#print axioms proved
end Go.Proofs.Ytegbnmlipajclaa.fnExactTurns
