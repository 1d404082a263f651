/- ObjOf of an instruction: the law. -/
import Derived.Test.YtegbnmlipajclaaRows
import Derived.WalkKit
import Derived.Test.YtegbnmlipajclaaObj
import Derived.Test.YtegbnmlipajclaaGInv
import Derived.Lib.Hide
import Derived.ProofKit
import Derived.OpenShut
import Derived.ShutString
import Derived.ChangeOld
import Derived.Below
namespace Go.Proofs.Ytegbnmlipajclaa.fnExactObjOf
open Go.ChangeShapes Go.WideShapes Go.ChangeAt Go.RowKit
open Go.ChangeMaps (open_string shut_string)
set_option linter.unusedVariables false
set_option linter.unusedSimpArgs false

theorem own : ownKnob Try.prog.godebug = none := by kernel_rfl
theorem laidOut : laidOutB Try.prog = true := by kernel_rfl

set_option maxRecDepth 100000 in
set_option maxHeartbeats 20000000 in
theorem walk (w : World) (x0 : DInstr) (vs0 : List Value) (s0 : layInstr.see w w.heap.size x0 vs0) :
    Calls Try.prog 3 #[.agg vs0.toArray] w fun e w' => e = .returned (.bool true) ∧ Below w.heap.size w w' := by
  obtain ⟨rfl, hwf0⟩ := s0
  have HV0 := Lib.hid hwf0
  clear hwf0
  have hWE : Below w.heap.size w (w.alloc (.cells #[.int .i64 x0.fOp, .int .i64 x0.fA, .int .i64 x0.fB, .int .i64 x0.fC] 23)) := ((Below.refl _ _).alloc (Nat.le_refl _) _)
  have hzE : w.heap.size + 1 ≤ (w.alloc (.cells #[.int .i64 x0.fOp, .int .i64 x0.fA, .int .i64 x0.fB, .int .i64 x0.fC] 23)).heap.size := by simp
  have hbx0 := box_new w #[.int .i64 x0.fOp, .int .i64 x0.fA, .int .i64 x0.fB, .int .i64 x0.fC] 23
  have HKE := Lib.hid (fun (W : World) (hW : Below (w.heap.size + 1) (w.alloc (.cells #[.int .i64 x0.fOp, .int .i64 x0.fA, .int .i64 x0.fB, .int .i64 x0.fC] 23)) W) => show (w.heap.size + 1 ≤ W.heap.size ∧ Below w.heap.size w W) ∧ W.heap[w.heap.size]? = some (.cells #[.int .i64 x0.fOp, .int .i64 x0.fA, .int .i64 x0.fB, .int .i64 x0.fC] 23 (0, 0)) ∧ True from ⟨⟨Nat.le_trans hzE hW.size, hWE.trans (hW.mono (by omega))⟩, box_keep hbx0 hW (by omega), trivial⟩)
  have HE := Lib.hid (show Below (w.heap.size + 1) (w.alloc (.cells #[.int .i64 x0.fOp, .int .i64 x0.fA, .int .i64 x0.fB, .int .i64 x0.fC] 23)) (w.alloc (.cells #[.int .i64 x0.fOp, .int .i64 x0.fA, .int .i64 x0.fB, .int .i64 x0.fC] 23)) from Below.refl _ _)
  clear hWE hzE hbx0 
  go_enter Try.func3, Try.ntmps3
  have HSP := Lib.hid (fun (W : World) (hi : Nat)  (hhi : hi ≤ W.heap.size) (hW : Below w.heap.size w W) => specObj_any x0.fOp x0.fA x0.fB x0.fC W)
  have HIM := Lib.hid (fun (W : World) (hi : Nat)  (hhi : hi ≤ W.heap.size) (hW : Below w.heap.size w W) => implObj_any x0.fOp x0.fA x0.fB x0.fC W)
  generalize (objZ x0.fOp x0.fA) = r at *
  have hneq : (r != r) = false := by simp
  have zE1 := ((HKE.out _ HE.out).1).1
  have pe2_0 := box_cell (j := 0) ((HKE.out _ HE.out).2.1) rfl
  have pe2_1 := box_cell (j := 1) ((HKE.out _ HE.out).2.1) rfl
  have pe2_2 := box_cell (j := 2) ((HKE.out _ HE.out).2.1) rfl
  have pe2_3 := box_cell (j := 3) ((HKE.out _ HE.out).2.1) rfl
  go_wp2_with fail
  refine (toInstr_any (hi := 0) (x := x0) ⟨rfl, HV0.out⟩).mono ?_
  rintro e v2 ⟨_, rfl, ⟨rfl, -⟩, hbv2⟩
  have hzv2 := hbv2.size
  simp only [World.size_alloc, Nat.add_assoc, Nat.reduceAdd] at hzv2
  replace HE := Lib.hid (HE.out.trans (hbv2.mono (by simp only [World.size_alloc]; omega)))
  clear hbv2 pe2_0 pe2_1 pe2_2 pe2_3
  go_wp2_with fail
  refine (HSP.out _ v2.heap.size (Nat.le_refl _) ((HKE.out _ HE.out).1).2).mono ?_
  rintro e v3 ⟨rfl, hbv3⟩
  have hzv3 := hbv3.size
  replace HE := Lib.hid (HE.out.trans (hbv3.mono (by omega)))
  clear hbv3
  have pe6_0 := box_cell (j := 0) ((HKE.out _ HE.out).2.1) rfl
  have pe6_1 := box_cell (j := 1) ((HKE.out _ HE.out).2.1) rfl
  have pe6_2 := box_cell (j := 2) ((HKE.out _ HE.out).2.1) rfl
  have pe6_3 := box_cell (j := 3) ((HKE.out _ HE.out).2.1) rfl
  go_wp2_with fail
  refine (toInstr_any (hi := 0) (x := x0) ⟨rfl, HV0.out⟩).mono ?_
  rintro e v4 ⟨_, rfl, ⟨rfl, -⟩, hbv4⟩
  have hzv4 := hbv4.size
  replace HE := Lib.hid (HE.out.trans (hbv4.mono (by omega)))
  clear hbv4
  go_wp2_with fail
  refine (HIM.out _ v4.heap.size (Nat.le_refl _) ((HKE.out _ HE.out).1).2).mono ?_
  rintro e v6 ⟨rfl, hbv6⟩
  have hzv6 := hbv6.size
  replace HE := Lib.hid (HE.out.trans (hbv6.mono (by omega)))
  clear hbv6 pe6_0 pe6_1 pe6_2 pe6_3
  go_wp2_with fail
  go_ret
  exact ⟨rfl, ((HKE.out _ HE.out).1).2⟩

set_option maxRecDepth 100000 in
theorem lifted (os : Os) (started : os.Started) (H : Type) (enc : TypeId × Value → H) :
    ReturnsInHanded {} Try.checked os 3 .any (Rows.fnExactObjOfSpec.pre6 enc Try.prog Try.f3 Rows.fnExactObjOfRow.domain false) (Rows.fnExactObjOfSpec.post enc Try.prog Try.f3 false true false false) := by
  refine returnsInHanded_of_change (C := Try.checked) own started (by kernel_rfl) Try.func3
    (ChangeSpec.witness6 (enc := enc) (C := Try.checked) false ⟨#[], #[.agg #[.int .i64 0, .int .i64 0, .int .i64 0, .int .i64 0]], []⟩ 8 (by kernel_rfl) (by kernel_rfl) (by kernel_rfl) (by kernel_rfl)) ?_
  intro W base args ds gs before hval0 hW hcnd _
  have hval : ∀ (j : Nat) t v, Try.f3.params[j]? = some t → args[j]? = some v → Value.okWide Try.prog W .any base t v := hval0
  have hW' := hW
  obtain ⟨p, q, hA0, hV, rfl, hfz, hnd⟩ := hW
  have hA : DataW.TrodAll enc Try.prog W 0 (fun _ => true) true Try.f3.params.toList args.toList ds p := hA0
  rw [Try.params3] at hA hval
  obtain ⟨v0, vs0, d0, ds0, p0, q0, hargs, rfl, rfl, h0, r0⟩ := trodAll_cons hA
  obtain ⟨rfl, rfl, rfl⟩ := trodAll_nil r0
  obtain rfl : args = #[v0] := by cases args; simp_all
  obtain ⟨rfl, rfl⟩ := trodVars_none hV
  obtain ⟨cs0, rfl, _⟩ := okWide_struct Try.underlying23 (hval 0 23 v0 rfl rfl)
  obtain ⟨vc0, rfl⟩ : ∃ l : List Value, cs0 = l.toArray := ⟨cs0.toList, by simp⟩
  have k0 := h0
  have lt0 : ∀ x ∈ p0, x.block < W.heap.size := by obtain ⟨m, hm⟩ := k0; exact DataW.trod_lt m _ _ _ hm
  obtain ⟨x0, s0'⟩ := (opensInstr).arg h0
  have s0 : layInstr.see W W.heap.size x0 vc0 := by simpa [Value.cells] using s0'
  clear hA0 hval0
  refine (walk W x0 _ s0).mono fun e W' ⟨he, bel⟩ => ?_
  subst he
  exact ⟨_, rfl, _, _, _, [], _, [], hW', trodAll_mk1 (shut_bool Try.underlying4 _), (trodAll_cons_mk (Below.trod laidOut (by kernel_rfl) (of_decide_eq_true (by kernel_rfl)) k0 bel lt0) trodAll_mk0), rfl, bel.frame _, fun h => by cases h⟩

theorem over : Rows.fnExactObjOfRow.holds Try.pinned (OpenSpec.ofChange Rows.fnExactObjOfSpec) :=
  OpenClaim.holds_of_wide 3 Try.f3 rfl rfl rfl rfl rfl rfl rfl ⟨rfl, rfl, rfl, rfl, rfl⟩ rfl rfl rfl rfl rfl (by kernel_rfl) Try.func3 (by kernel_rfl)
    (of_decide_eq_true (by kernel_rfl)) (by unfold Func.isWrapper; first | (rw [if_pos (by decide +kernel)]; kernel_rfl) | (rw [if_neg (by decide +kernel)]; exact ⟨rfl, rfl⟩))
    (fun os started H enc _ => lifted os started H enc)

theorem proved : Rows.FnExactObjOfSaid := over
#print axioms proved
end Go.Proofs.Ytegbnmlipajclaa.fnExactObjOf
