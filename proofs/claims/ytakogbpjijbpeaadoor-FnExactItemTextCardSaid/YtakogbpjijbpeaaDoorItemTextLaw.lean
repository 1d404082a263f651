/- ItemText: the program answers as the model, whatever it is asked. -/
import Derived.Test.YtakogbpjijbpeaaDoorRows
import Derived.WalkKit
import Derived.Test.YtakogbpjijbpeaaDoorCards
import Derived.Test.YtakogbpjijbpeaaDoorTie
import Derived.Lib.LaidTab
import Derived.SevenTiedAt
import Derived.Stop.Joined
import Derived.LaidMore
import Derived.ChangeVars
import Derived.OpenVars
import Derived.Test.YtakogbpjijbpeaaDoorItemTxR
import Derived.Test.YtakogbpjijbpeaaDoorItemTxI
import Derived.Lib.Hide
import Derived.ProofKit
import Derived.OpenShut
import Derived.ShutString
import Derived.ChangeOld
import Derived.Below
namespace Go.Proofs.YtakogbpjijbpeaaDoor.fnExactItemText
open Go.ChangeShapes Go.WideShapes Go.ChangeAt Go.RowKit
open Go.ChangeMaps (open_string shut_string)
set_option linter.unusedVariables false
set_option linter.unusedSimpArgs false

theorem own : ownKnob Tryd.prog.godebug = none := by kernel_rfl
theorem laidOut : laidOutB Tryd.prog = true := by kernel_rfl

set_option maxRecDepth 100000 in
set_option maxHeartbeats 20000000 in
theorem walk (w : World) (x0 : DItem) (vs0 : List Value) (s0 : layItem.see w w.heap.size x0 vs0) (hC : ItemCells w ∧ PowI w) :
    Calls Tryd.prog 4 #[.agg vs0.toArray] w fun e w' => e = .returned (.bool true) ∧ Below w.heap.size w w' := by
  obtain ⟨rfl, hwf0⟩ := s0
  have HV0 := Lib.hid hwf0
  clear hwf0
  have hWE : Below w.heap.size w (w.alloc (.cells #[.int .i64 x0.fKind, .int .i64 x0.fObj, .int .i64 x0.fVal, .bool x0.fOk] 23)) := ((Below.refl _ _).alloc (Nat.le_refl _) _)
  have hzE : w.heap.size + 1 ≤ (w.alloc (.cells #[.int .i64 x0.fKind, .int .i64 x0.fObj, .int .i64 x0.fVal, .bool x0.fOk] 23)).heap.size := by simp
  have hbx0 := box_new w #[.int .i64 x0.fKind, .int .i64 x0.fObj, .int .i64 x0.fVal, .bool x0.fOk] 23
  have HKE := Lib.hid (fun (W : World) (hW : Below (w.heap.size + 1) (w.alloc (.cells #[.int .i64 x0.fKind, .int .i64 x0.fObj, .int .i64 x0.fVal, .bool x0.fOk] 23)) W) => show (w.heap.size + 1 ≤ W.heap.size ∧ Below w.heap.size w W) ∧ W.heap[w.heap.size]? = some (.cells #[.int .i64 x0.fKind, .int .i64 x0.fObj, .int .i64 x0.fVal, .bool x0.fOk] 23 (0, 0)) ∧ True from ⟨⟨Nat.le_trans hzE hW.size, hWE.trans (hW.mono (by omega))⟩, box_keep hbx0 hW (by omega), trivial⟩)
  have HE := Lib.hid (show Below (w.heap.size + 1) (w.alloc (.cells #[.int .i64 x0.fKind, .int .i64 x0.fObj, .int .i64 x0.fVal, .bool x0.fOk] 23)) (w.alloc (.cells #[.int .i64 x0.fKind, .int .i64 x0.fObj, .int .i64 x0.fVal, .bool x0.fOk] 23)) from Below.refl _ _)
  clear hWE hzE hbx0 
  go_enter Tryd.func4, Tryd.ntmps4
  have HSP := Lib.hid (fun (W : World) (hi : Nat)  (hhi : hi ≤ W.heap.size) (hW : Below w.heap.size w W) => specItemText_any (w := W) (x := x0))
  have HIM := Lib.hid (fun (W : World) (hi : Nat)  (hhi : hi ≤ W.heap.size) (hW : Below w.heap.size w W) => implItemText_any (itemCells_below hC.1 hW (Nat.le_refl _)) (tab_below hC.2 hW (Nat.le_refl _)) HV0.out.2.2)
  generalize itemT x0 = r at *
  have zE1 := ((HKE.out _ HE.out).1).1
  have pe2_0 := box_cell (j := 0) ((HKE.out _ HE.out).2.1) rfl
  have pe2_1 := box_cell (j := 1) ((HKE.out _ HE.out).2.1) rfl
  have pe2_2 := box_cell (j := 2) ((HKE.out _ HE.out).2.1) rfl
  have pe2_3 := box_cell (j := 3) ((HKE.out _ HE.out).2.1) rfl
  go_wp2_with fail
  refine (toItem_any (hi := 0) (x := x0) ⟨rfl, HV0.out⟩).mono ?_
  rintro e v2 ⟨_, rfl, ⟨rfl, -⟩, hbv2⟩
  have hzv2 := hbv2.size
  simp only [World.size_alloc, Nat.add_assoc, Nat.reduceAdd] at hzv2
  replace HE := Lib.hid (HE.out.trans (hbv2.mono (by simp only [World.size_alloc]; omega)))
  clear hbv2 pe2_0 pe2_1 pe2_2 pe2_3
  go_wp2_with fail
  refine (HSP.out _ v2.heap.size (Nat.le_refl _) ((HKE.out _ HE.out).1).2).mono ?_
  rintro e v3 ⟨rfl, hbv3⟩
  have hzv3 := hbv3.size
  replace HE := Lib.hid (HE.out.trans (hbv3.mono (by omega)))
  clear hbv3
  have pe6_0 := box_cell (j := 0) ((HKE.out _ HE.out).2.1) rfl
  have pe6_1 := box_cell (j := 1) ((HKE.out _ HE.out).2.1) rfl
  have pe6_2 := box_cell (j := 2) ((HKE.out _ HE.out).2.1) rfl
  have pe6_3 := box_cell (j := 3) ((HKE.out _ HE.out).2.1) rfl
  go_wp2_with fail
  refine (toItem_any (hi := 0) (x := x0) ⟨rfl, HV0.out⟩).mono ?_
  rintro e v4 ⟨_, rfl, ⟨rfl, -⟩, hbv4⟩
  have hzv4 := hbv4.size
  replace HE := Lib.hid (HE.out.trans (hbv4.mono (by omega)))
  clear hbv4
  go_wp2_with fail
  refine (HIM.out _ v4.heap.size (Nat.le_refl _) ((HKE.out _ HE.out).1).2).mono ?_
  rintro e v6 ⟨rfl, hbv6⟩
  have hzv6 := hbv6.size
  replace HE := Lib.hid (HE.out.trans (hbv6.mono (by omega)))
  clear hbv6 pe6_0 pe6_1 pe6_2 pe6_3
  go_wp2_with fail
  go_ret
  exact ⟨rfl, ((HKE.out _ HE.out).1).2⟩

set_option maxRecDepth 100000 in
theorem door_met (os : Os) (args : Array Value) : laidMetH Tryd.prog Rows.fnExactItemTextRow.laid ((World.doorLaid Tryd.prog 400 os).forCall (fun _ _ => 0) ⟨#[], args, []⟩).memory :=
  laidMetH_of_parts3 (fuel := 8) (laidMet_of_run' 8 (by kernel_rfl) (by kernel_rfl)) (by kernel_rfl) (by kernel_rfl)

set_option maxRecDepth 100000 in
theorem lifted (os : Os) (started : os.Started) (H : Type) (enc : TypeId × Value → H) :
    ReturnsInHanded {} Tryd.checked os 4 .any (fun w args => (Rows.fnExactItemTextSpec.pre enc Tryd.prog Tryd.f4 [] false w args ∧ laidMetH Tryd.prog Rows.fnExactItemTextRow.laid w) ∧ sizedMet enc Tryd.prog Tryd.f4 (OpenSpec.ofChange Rows.fnExactItemTextSpec) false w args) (Rows.fnExactItemTextSpec.post enc Tryd.prog Tryd.f4 false true false false) := by
  refine returnsInHanded_of_change_and (C := Tryd.checked) (X := fun w _ => laidMetH Tryd.prog Rows.fnExactItemTextRow.laid w) (fun _ _ _ hh h => h.of_heap hh) own started (by kernel_rfl) Tryd.func4
    (ChangeSpec.witness_shaped (enc := enc) (C := Tryd.checked) (os := os) (X := fun w _ => laidMetH Tryd.prog Rows.fnExactItemTextRow.laid w) false (World.doorLaid Tryd.prog 400 os) #[.agg #[.int .i64 0, .int .i64 0, .int .i64 0, .bool false]] 8 rfl (World.shaped_of_RefB (by kernel_rfl) (by kernel_rfl)) (by kernel_rfl) (by kernel_rfl) (by kernel_rfl) (door_met os _)) ?_
  intro W base args ds gs before hval0 hW _ _ hL _
  have hval : ∀ (j : Nat) t v, Tryd.f4.params[j]? = some t → args[j]? = some v → Value.okWide Tryd.prog W .any base t v := hval0
  have hW' := hW
  obtain ⟨p, q, hA0, hV, rfl, hfz, hnd⟩ := hW
  have hA : DataW.TrodAll enc Tryd.prog W 0 (fun _ => true) true Tryd.f4.params.toList args.toList ds p := hA0
  rw [Tryd.params4] at hA hval
  obtain ⟨v0, vs0, d0, ds0, p0, q0, hargs, rfl, rfl, h0, r0⟩ := trodAll_cons hA
  obtain ⟨rfl, rfl, rfl⟩ := trodAll_nil r0
  obtain rfl : args = #[v0] := by cases args; simp_all
  have hV' := hV
  obtain ⟨_, _, _, _, g1, _, rfl, _⟩ := trodVars_one hV
  obtain ⟨cs0, rfl, _⟩ := okWide_struct Tryd.underlying23 (hval 0 23 v0 rfl rfl)
  obtain ⟨vc0, rfl⟩ : ∃ l : List Value, cs0 = l.toArray := ⟨cs0.toList, by simp⟩
  have k0 := h0
  have lt0 : ∀ x ∈ p0, x.block < W.heap.size := by obtain ⟨m, hm⟩ := k0; exact DataW.trod_lt m _ _ _ hm
  obtain ⟨x0, s0'⟩ := (opensItem).arg h0
  have s0 : layItem.see W W.heap.size x0 vc0 := by simpa [Value.cells] using s0'
  clear hA0 hval0
  refine (walk W x0 _ s0 (⟨itemCells_of (itemTab_of_laid hL.tail.tail.tail), tab_of_laid hL⟩)).mono fun e W' ⟨he, bel⟩ => ?_
  subst he
  exact ⟨_, rfl, _, _, _, [], _, _, hW', trodAll_mk1 (shut_bool Tryd.underlying4 _), (trodAll_cons_mk (Below.trod laidOut (by kernel_rfl) (of_decide_eq_true (by kernel_rfl)) k0 bel lt0) trodAll_mk0), bel.trodVars laidOut (by kernel_rfl) hV', bel.frame _, fun h => by cases h⟩

theorem over : Rows.fnExactItemTextRow.holds Tryd.pinned (OpenSpec.ofChange Rows.fnExactItemTextSpec) :=
  OpenClaim.holds_of_wide 4 Tryd.f4 rfl rfl rfl rfl rfl rfl rfl ⟨rfl, rfl, rfl, rfl, rfl⟩ rfl rfl rfl rfl rfl (by kernel_rfl) Tryd.func4 (by kernel_rfl)
    (of_decide_eq_true (by kernel_rfl)) (by unfold Func.isWrapper; first | (rw [if_pos (by decide +kernel)]; kernel_rfl) | (rw [if_neg (by decide +kernel)]; exact ⟨rfl, rfl⟩))
    (fun os started H enc _ => lifted os started H enc)

theorem proved : Rows.FnExactItemTextCardSaid :=
  Claim7.holds_tied_plain_at .later [] [.data, .data, .data, .data] true (true, "633c501b2635f7b33f7093f928739c765a8202766b95e7ec98024b7f734ec22e") false
    over (fun _ h => by cases h) (by kernel_rfl) (fun _ h => by cases h) fnExactItemText_row_tie rfl ⟨rfl, rfl⟩ (by kernel_rfl) rfl
    (fun f fn hf hfn => by
      obtain rfl : f = 4 := Option.some.inj ((show Tryd.prog.funcNamed "loop.example/g00679/laws.FnExactItemText" = some 4 by kernel_rfl).symm.trans hf) |>.symm
      obtain rfl : fn = Tryd.f4 := (Option.some.inj (Tryd.func4.symm.trans hfn)).symm
      exact ⟨by kernel_rfl, fun j t ht => by
        rw [Tryd.params4] at ht
        rcases j with _ | j
        · have ht' : t = 23 := by simpa using ht.symm
          subst ht'
          exact (show Tryd.prog.wantsStandIn 23 = false by kernel_rfl)
        simp at ht
      ⟩)
    (by kernel_rfl)
#print axioms proved
end Go.Proofs.YtakogbpjijbpeaaDoor.fnExactItemText
