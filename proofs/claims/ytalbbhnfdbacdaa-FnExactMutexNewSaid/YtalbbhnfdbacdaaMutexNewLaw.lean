/- Every MutexNew answers as the specification, two of them share no memory, and no argument is written into. No condition but that of the statement. -/
import Derived.Test.YtalbbhnfdbacdaaRows
import Derived.WalkKit
import Derived.Test.YtalbbhnfdbacdaaMutNew
import Derived.Lib.Hide
import Derived.ProofKit
import Derived.OpenShut
import Derived.ShutString
import Derived.ChangeOld
import Derived.Below
namespace Go.Proofs.Ytalbbhnfdbacdaa.fnExactMutexNew
open Go.ChangeShapes Go.WideShapes Go.ChangeAt Go.RowKit
open Go.ChangeMaps (open_string shut_string)
set_option linter.unusedVariables false
set_option linter.unusedSimpArgs false

theorem own : ownKnob Try.prog.godebug = none := by kernel_rfl
theorem laidOut : laidOutB Try.prog = true := by kernel_rfl

set_option maxRecDepth 100000 in
set_option maxHeartbeats 4000000 in
theorem walk (w : World)  :
    Calls Try.prog 5 #[] w fun e w' => e = .returned (.bool true) ∧ Below w.heap.size w w' := by
  have HW := Lib.hid (Below.refl w.heap.size w)
  go_enter Try.func5, Try.ntmps5
  go_wp2_with fail
  refine (specMutexNew_any _).mono ?_
  rintro e v0 ⟨rfl, hb⟩
  have hz_v0 := hb.size
  replace HW := Lib.hid (HW.out.trans (hb.mono (by have := HW.out.size; omega)))
  clear hb
  have hx_a := box_new v0 #[.int .i64 (-1), .slice none 0 0] 25
  replace HW := Lib.hid (show Below w.heap.size w (v0.alloc (.cells #[.int .i64 (-1), .slice none 0 0] 25)) from HW.out.alloc (by have := HW.out.size; omega) _)
  have hs_a : (v0.alloc (.cells #[.int .i64 (-1), .slice none 0 0] 25)).heap.size = v0.heap.size + 1 := by simp
  go_wp2_with fail
  refine (implMutexNew_any _).mono ?_
  rintro e v1 ⟨rfl, hb⟩
  have hz_v1 := hb.size
  replace hx_a := box_keep hx_a hb (by omega)
  replace HW := Lib.hid (HW.out.trans (hb.mono (by have := HW.out.size; omega)))
  clear hb
  replace hx_a := box_keep hx_a ((Below.refl _ _).alloc (Nat.le_refl _) (.cells #[.int .i64 (-1), .slice none 0 0] 25)) (by omega)
  have hx_b := box_new v1 #[.int .i64 (-1), .slice none 0 0] 25
  replace HW := Lib.hid (show Below w.heap.size w (v1.alloc (.cells #[.int .i64 (-1), .slice none 0 0] 25)) from HW.out.alloc (by have := HW.out.size; omega) _)
  have hs_b : (v1.alloc (.cells #[.int .i64 (-1), .slice none 0 0] 25)).heap.size = v1.heap.size + 1 := by simp
  have c0_a := box_cell (j := 0) hx_a rfl
  have c1_a := box_cell (j := 1) hx_a rfl
  have c0_b := box_cell (j := 0) hx_b rfl
  have c1_b := box_cell (j := 1) hx_b rfl
  go_wp2_with fail
  refine (eqNew_any _).mono ?_
  rintro e v2 ⟨rfl, hb⟩
  clear c0_a c1_a c0_b c1_b
  have hz_v2 := hb.size
  replace hx_a := box_keep hx_a hb (by omega)
  replace hx_b := box_keep hx_b hb (by omega)
  replace HW := Lib.hid (HW.out.trans (hb.mono (by have := HW.out.size; omega)))
  clear hb
  have c0_a := box_cell (j := 0) hx_a rfl
  have c1_a := box_cell (j := 1) hx_a rfl
  have c0_b := box_cell (j := 0) hx_b rfl
  have c1_b := box_cell (j := 1) hx_b rfl
  go_wp2_with fail
  refine (markNew_any _).mono ?_
  rintro e v3 ⟨rfl, hb⟩
  clear c0_a c1_a c0_b c1_b
  have hz_v3 := hb.size
  replace hx_a := box_keep hx_a hb (by omega)
  replace hx_b := box_keep hx_b hb (by omega)
  replace HW := Lib.hid (HW.out.trans (hb.mono (by have := HW.out.size; omega)))
  clear hb
  have c0_a := box_cell (j := 0) hx_a rfl
  have c1_a := box_cell (j := 1) hx_a rfl
  have c0_b := box_cell (j := 0) hx_b rfl
  have c1_b := box_cell (j := 1) hx_b rfl
  go_wp2_with fail
  refine (heldNew_any _).mono ?_
  rintro e v4 ⟨rfl, hb⟩
  clear c0_a c1_a c0_b c1_b
  have hz_v4 := hb.size
  replace hx_a := box_keep hx_a hb (by omega)
  replace hx_b := box_keep hx_b hb (by omega)
  replace HW := Lib.hid (HW.out.trans (hb.mono (by have := HW.out.size; omega)))
  clear hb
  have c0_a := box_cell (j := 0) hx_a rfl
  have c1_a := box_cell (j := 1) hx_a rfl
  have c0_b := box_cell (j := 0) hx_b rfl
  have c1_b := box_cell (j := 1) hx_b rfl
  go_wp2_with fail
  refine (implMutexNew_any _).mono ?_
  rintro e v5 ⟨rfl, hb⟩
  clear c0_a c1_a c0_b c1_b
  have hz_v5 := hb.size
  replace hx_a := box_keep hx_a hb (by omega)
  replace hx_b := box_keep hx_b hb (by omega)
  replace HW := Lib.hid (HW.out.trans (hb.mono (by have := HW.out.size; omega)))
  clear hb
  replace hx_a := box_keep hx_a ((Below.refl _ _).alloc (Nat.le_refl _) (.cells #[.int .i64 (-1), .slice none 0 0] 25)) (by omega)
  replace hx_b := box_keep hx_b ((Below.refl _ _).alloc (Nat.le_refl _) (.cells #[.int .i64 (-1), .slice none 0 0] 25)) (by omega)
  have hx_c := box_new v5 #[.int .i64 (-1), .slice none 0 0] 25
  replace HW := Lib.hid (show Below w.heap.size w (v5.alloc (.cells #[.int .i64 (-1), .slice none 0 0] 25)) from HW.out.alloc (by have := HW.out.size; omega) _)
  have hs_c : (v5.alloc (.cells #[.int .i64 (-1), .slice none 0 0] 25)).heap.size = v5.heap.size + 1 := by simp
  have c0_a := box_cell (j := 0) hx_a rfl
  have c1_a := box_cell (j := 1) hx_a rfl
  have c0_b := box_cell (j := 0) hx_b rfl
  have c1_b := box_cell (j := 1) hx_b rfl
  have c0_c := box_cell (j := 0) hx_c rfl
  have c1_c := box_cell (j := 1) hx_c rfl
  go_wp2_with fail
  refine (eqNew_any _).mono ?_
  rintro e v6 ⟨rfl, hb⟩
  clear c0_a c1_a c0_b c1_b c0_c c1_c
  have hz_v6 := hb.size
  replace hx_a := box_keep hx_a hb (by omega)
  replace hx_b := box_keep hx_b hb (by omega)
  replace hx_c := box_keep hx_c hb (by omega)
  replace HW := Lib.hid (HW.out.trans (hb.mono (by have := HW.out.size; omega)))
  clear hb
  have c0_a := box_cell (j := 0) hx_a rfl
  have c1_a := box_cell (j := 1) hx_a rfl
  have c0_b := box_cell (j := 0) hx_b rfl
  have c1_b := box_cell (j := 1) hx_b rfl
  have c0_c := box_cell (j := 0) hx_c rfl
  have c1_c := box_cell (j := 1) hx_c rfl
  go_wp2_with fail
  refine (heldNew_any _).mono ?_
  rintro e v7 ⟨rfl, hb⟩
  clear c0_a c1_a c0_b c1_b c0_c c1_c
  have hz_v7 := hb.size
  replace hx_a := box_keep hx_a hb (by omega)
  replace hx_b := box_keep hx_b hb (by omega)
  replace hx_c := box_keep hx_c hb (by omega)
  replace HW := Lib.hid (HW.out.trans (hb.mono (by have := HW.out.size; omega)))
  clear hb
  go_wp2_with fail
  go_ret
  exact ⟨rfl, HW.out⟩

set_option maxRecDepth 100000 in
theorem lifted (os : Os) (started : os.Started) (H : Type) (enc : TypeId × Value → H) :
    ReturnsInHanded {} Try.checked os 5 .any (Rows.fnExactMutexNewSpec.pre6 enc Try.prog Try.f5 Rows.fnExactMutexNewRow.domain false) (Rows.fnExactMutexNewSpec.post enc Try.prog Try.f5 false true false false) := by
  refine returnsInHanded_of_change (C := Try.checked) own started (by kernel_rfl) Try.func5
    (ChangeSpec.witness6 (enc := enc) (C := Try.checked) false ⟨#[], #[], []⟩ 8 (by kernel_rfl) (by kernel_rfl) (by kernel_rfl) (by kernel_rfl)) ?_
  intro W base args ds gs before hval0 hW hcnd _
  have hval : ∀ (j : Nat) t v, Try.f5.params[j]? = some t → args[j]? = some v → Value.okWide Try.prog W .any base t v := hval0
  have hW' := hW
  obtain ⟨p, q, hA0, hV, rfl, hfz, hnd⟩ := hW
  have hA : DataW.TrodAll enc Try.prog W 0 (fun _ => true) true Try.f5.params.toList args.toList ds p := hA0
  rw [Try.params5] at hA hval
  obtain ⟨hargs, rfl, rfl⟩ := trodAll_nil hA
  obtain rfl : args = #[] := by cases args; simp_all
  obtain ⟨rfl, rfl⟩ := trodVars_none hV
  clear hA0 hval0
  refine (walk W ).mono fun e W' ⟨he, bel⟩ => ?_
  subst he
  exact ⟨_, rfl, _, _, _, [], _, [], hW', trodAll_mk1 (shut_bool Try.underlying4 _), trodAll_mk0, rfl, bel.frame _, fun h => by cases h⟩

theorem over : Rows.fnExactMutexNewRow.holds Try.pinned (OpenSpec.ofChange Rows.fnExactMutexNewSpec) :=
  OpenClaim.holds_of_wide 5 Try.f5 rfl rfl rfl rfl rfl rfl rfl ⟨rfl, rfl, rfl, rfl, rfl⟩ rfl rfl rfl rfl rfl (by kernel_rfl) Try.func5 (by kernel_rfl)
    (of_decide_eq_true (by kernel_rfl)) (by unfold Func.isWrapper; first | (rw [if_pos (by decide +kernel)]; kernel_rfl) | (rw [if_neg (by decide +kernel)]; exact ⟨rfl, rfl⟩))
    (fun os started H enc _ => lifted os started H enc)

theorem proved : Rows.FnExactMutexNewSaid := over
#print axioms proved
end Go.Proofs.Ytalbbhnfdbacdaa.fnExactMutexNew
