/- GorNew: the program answers as the model, whatever it is asked. -/
import Derived.Test.YtakogbpjijbpeaaRows
import Derived.WalkKit
import Derived.Test.YtakogbpjijbpeaaGorNewL
import Derived.Lib.Hide
import Derived.ProofKit
import Derived.OpenShut
import Derived.ShutString
import Derived.ChangeOld
import Derived.Below
namespace Go.Proofs.Ytakogbpjijbpeaa.fnExactGorNew
open Go.ChangeShapes Go.WideShapes Go.ChangeAt Go.RowKit
open Go.ChangeMaps (open_string shut_string)
set_option linter.unusedVariables false
set_option linter.unusedSimpArgs false

theorem own : ownKnob Try.prog.godebug = none := by kernel_rfl
theorem laidOut : laidOutB Try.prog = true := by kernel_rfl

set_option maxRecDepth 100000 in
set_option maxHeartbeats 20000000 in
theorem walk (w : World) (a0 : Int) (w0 : (Lit.int .i64 a0).wf = true) (a1 : Int) (w1 : (Lit.int .i64 a1).wf = true) :
    Calls Try.prog 3 #[.int .i64 a0, .int .i64 a1] w fun e w' => e = .returned (.bool true) ∧ Below w.heap.size w w' := by
  have HV0 := Lib.hid w0
  clear w0
  have HV1 := Lib.hid w1
  clear w1
  have hWE : Below w.heap.size w w := (Below.refl w.heap.size w)
  have hzE : w.heap.size ≤ w.heap.size := by simp
  have HKE := Lib.hid (fun (W : World) (hW : Below (w.heap.size) w W) => show (w.heap.size ≤ W.heap.size ∧ Below w.heap.size w W) ∧ True from ⟨⟨Nat.le_trans hzE hW.size, hWE.trans (hW.mono (by omega))⟩, trivial⟩)
  have HE := Lib.hid (show Below (w.heap.size) w w from Below.refl _ _)
  clear hWE hzE
  go_enter Try.func3, Try.ntmps3
  have hszR : szGor (newG a0 a1) ≤ 1048580 := newG_sz
  have hvcR := vcntG_le hszR
  have HSP := Lib.hid (fun (W : World) (hi : Nat)  (hhi : hi ≤ W.heap.size) (hW : Below w.heap.size w W) => specGorNew_law (w := W) (p := a0) (a := a1) HV0.out HV1.out)
  have HIM := Lib.hid (fun (W : World) (hi : Nat)  (hhi : hi ≤ W.heap.size) (hW : Below w.heap.size w W) => implGorNew_law (w := W) (p := a0) (a := a1) HV0.out HV1.out)
  generalize newG a0 a1 = r at *
  have hz00 : w.heap.size ≤ w.heap.size := by simp
  go_wp2_with fail
  refine (HSP.out _ 0 (Nat.zero_le _) ((HKE.out _ (HE.out)).1).2).mono ?_
  rintro e v1 ⟨uv1, Fv1, rfl, ownv1, hFv1, hbv1⟩
  have hz2 := hbv1.size
  have see2 := layGor.seen (hi := v1.heap.size) ownv1 fun g hg => (hFv1 g hg).2
  obtain ⟨rv1A2, rv1n2, rv1c2, rv1A4, rv1n4, rv1c4, rfl, -⟩ := seeGor see2
  go_upto_region 2 with (fail)
  have hal : Below w.heap.size w (v1.alloc (.cells #[.int .i64 r.fProc, .int .i64 r.fPc, .slice rv1A2 rv1n2 rv1c2, .int .i64 r.fState, .slice rv1A4 rv1n4 rv1c4] 25)) := hbv1.alloc hbv1.size _
  have han := Ans.mk (t := 25) ownv1 hFv1 hbv1.size
  obtain ⟨gS, hgS⟩ : ∃ b, b = v1.heap.size := ⟨_, rfl⟩
  have hnm : v1.heap.size = gS := hgS.symm
  replace HE := Lib.hid (HE.out.trans (hal.mono (by first | omega | (simp only [World.size_alloc]; omega))))
  have hz4 := hal.size
  replace han : Ans layGor 25 w.heap.size (v1.alloc (.cells #[.int .i64 r.fProc, .int .i64 r.fPc, .slice rv1A2 rv1n2 rv1c2, .int .i64 r.fState, .slice rv1A4 rv1n4 rv1c4] 25)).heap.size (v1.alloc (.cells #[.int .i64 r.fProc, .int .i64 r.fPc, .slice rv1A2 rv1n2 rv1c2, .int .i64 r.fState, .slice rv1A4 rv1n4 rv1c4] 25)) gS r := by rw [← hnm]; exact han
  have HAS := Lib.hid han
  clear han hal ownv1 hFv1 hbv1 see2
  generalize (v1.alloc (.cells #[.int .i64 r.fProc, .int .i64 r.fPc, .slice rv1A2 rv1n2 rv1c2, .int .i64 r.fState, .slice rv1A4 rv1n4 rv1c4] 25)) = v3 at *
  simp only [hnm]
  clear hnm hgS
  have lt5 := HAS.out.lt
  go_wp2_with fail
  refine (HIM.out _ 0 (Nat.zero_le _) ((HKE.out _ (HE.out)).1).2).mono ?_
  rintro e v6 ⟨uv6, Fv6, rfl, ownv6, hFv6, hbv6⟩
  have hz7 := hbv6.size
  have see2 := layGor.seen (hi := v6.heap.size) ownv6 fun g hg => (hFv6 g hg).2
  obtain ⟨rv6A2, rv6n2, rv6c2, rv6A4, rv6n4, rv6c4, rfl, -⟩ := seeGor see2
  go_upto_region 3 with (fail)
  have hal : Below v3.heap.size v3 (v6.alloc (.cells #[.int .i64 r.fProc, .int .i64 r.fPc, .slice rv6A2 rv6n2 rv6c2, .int .i64 r.fState, .slice rv6A4 rv6n4 rv6c4] 25)) := hbv6.alloc hbv6.size _
  have han := Ans.mk (t := 25) ownv6 hFv6 hbv6.size
  obtain ⟨gG, hgG⟩ : ∃ b, b = v6.heap.size := ⟨_, rfl⟩
  have hnm : v6.heap.size = gG := hgG.symm
  replace HE := Lib.hid (HE.out.trans (hal.mono (by omega)))
  replace HAS := Lib.hid (HAS.out.below hal (by omega))
  have hz9 := hal.size
  replace han : Ans layGor 25 v3.heap.size (v6.alloc (.cells #[.int .i64 r.fProc, .int .i64 r.fPc, .slice rv6A2 rv6n2 rv6c2, .int .i64 r.fState, .slice rv6A4 rv6n4 rv6c4] 25)).heap.size (v6.alloc (.cells #[.int .i64 r.fProc, .int .i64 r.fPc, .slice rv6A2 rv6n2 rv6c2, .int .i64 r.fState, .slice rv6A4 rv6n4 rv6c4] 25)) gG r := by rw [← hnm]; exact han
  have HAG := Lib.hid han
  clear han hal ownv6 hFv6 hbv6 see2
  generalize (v6.alloc (.cells #[.int .i64 r.fProc, .int .i64 r.fPc, .slice rv6A2 rv6n2 rv6c2, .int .i64 r.fState, .slice rv6A4 rv6n4 rv6c4] 25)) = v8 at *
  simp only [hnm]
  clear hnm hgG
  have lt10 := HAS.out.lt
  have lt11 := HAG.out.lt
  obtain ⟨o1l1, o1l2, o1l3, o1v, o1F, o1b, o1w, o1f⟩ := HAG.out
  have o1s := layGor.seen (hi := v8.heap.size) o1w fun g hg => by have := o1f g hg; omega
  obtain ⟨o1A2, o1n2, o1c2, o1A4, o1n4, o1c4, rfl, -⟩ := seeGor o1s
  have o1p0 := box_cell (j := 0) o1b rfl
  have o1p1 := box_cell (j := 1) o1b rfl
  have o1p2 := box_cell (j := 2) o1b rfl
  have o1p3 := box_cell (j := 3) o1b rfl
  have o1p4 := box_cell (j := 4) o1b rfl
  obtain ⟨o2l1, o2l2, o2l3, o2v, o2F, o2b, o2w, o2f⟩ := HAS.out
  have o2s := layGor.seen (hi := v8.heap.size) o2w fun g hg => by have := o2f g hg; omega
  obtain ⟨o2A2, o2n2, o2c2, o2A4, o2n4, o2c4, rfl, -⟩ := seeGor o2s
  have o2p0 := box_cell (j := 0) o2b rfl
  have o2p1 := box_cell (j := 1) o2b rfl
  have o2p2 := box_cell (j := 2) o2b rfl
  have o2p3 := box_cell (j := 3) o2b rfl
  have o2p4 := box_cell (j := 4) o2b rfl
  go_wp2_with fail
  refine (eqGor_same o1s o2s (Nat.le_refl _) (Nat.le_refl _) hszR).mono ?_
  rintro e v12 ⟨rfl, hbv12⟩
  clear o1p0 o1p1 o1p2 o1p3 o1p4 o1l1 o1l2 o1l3 o1b o1w o1f o1s o2p0 o2p1 o2p2 o2p3 o2p4 o2l1 o2l2 o2l3 o2b o2w o2f o2s
  replace HE := Lib.hid (HE.out.trans (hbv12.mono (by omega)))
  replace HAS := Lib.hid (HAS.out.below hbv12 (by omega))
  replace HAG := Lib.hid (HAG.out.below hbv12 (by omega))
  have hz13 := hbv12.size
  clear hbv12
  have lt14 := HAS.out.lt
  have lt15 := HAG.out.lt
  obtain ⟨o3l1, o3l2, o3l3, o3v, o3F, o3b, o3w, o3f⟩ := HAG.out
  have o3s := layGor.seen (hi := v12.heap.size) o3w fun g hg => by have := o3f g hg; omega
  obtain ⟨o3A2, o3n2, o3c2, o3A4, o3n4, o3c4, rfl, -⟩ := seeGor o3s
  have o3p0 := box_cell (j := 0) o3b rfl
  have o3p1 := box_cell (j := 1) o3b rfl
  have o3p2 := box_cell (j := 2) o3b rfl
  have o3p3 := box_cell (j := 3) o3b rfl
  have o3p4 := box_cell (j := 4) o3b rfl
  have zE17 := ((HKE.out _ (HE.out)).1).1
  have hvc0 := hvcR
  go_wp2_with fail
  refine (markGor_any (k := 1) o3w (fun g hg => by have := o3f g hg; omega) hszR (by omega) (by omega)).mono ?_
  rintro e v16 ⟨rfl, own9, ht9⟩
  have hkv16 : decide (1 + vcntGor (r) < 0) = false := decide_eq_false (by omega)
  replace HE := Lib.hid (HE.out.trans (show Below (w.heap.size) v12 v16 from ⟨ht9.os, ht9.tape, ht9.output, ht9.size, fun k hk => ht9.block k (by omega) (fun hg => by have := o3f k hg; omega)⟩))
  replace HAS := Lib.hid (HAS.out.turned ht9 (fun k hg => by have := o3f k hg; omega))
  replace HAG := Lib.hid (Ans.mark o3l1 o3l2 o3l3 o3b o3f own9 ht9)
  have hz18 := ht9.size
  clear o3p0 o3p1 o3p2 o3p3 o3p4 o3l1 o3l2 o3l3 o3b o3w o3f o3s own9 ht9 hvc0
  have hqm : ((1 + vcntGor (r)) != (1 + vcntGor (r))) = false := by simp
  have lt19 := HAS.out.lt
  have lt20 := HAG.out.lt
  obtain ⟨o4l1, o4l2, o4l3, o4v, o4F, o4b, o4w, o4f⟩ := HAG.out
  have o4s := layGor.seen (hi := v16.heap.size) o4w fun g hg => by have := o4f g hg; omega
  obtain ⟨o4A2, o4n2, o4c2, o4A4, o4n4, o4c4, rfl, -⟩ := seeGor o4s
  have o4p0 := box_cell (j := 0) o4b rfl
  have o4p1 := box_cell (j := 1) o4b rfl
  have o4p2 := box_cell (j := 2) o4b rfl
  have o4p3 := box_cell (j := 3) o4b rfl
  have o4p4 := box_cell (j := 4) o4b rfl
  have hvc0 := hvcR
  go_wp2_with fail
  refine (heldGor_any (k := 1) o4s (Nat.le_refl _) hszR (by omega) (by omega)).mono ?_
  rintro e v21 ⟨rfl, hbv21⟩
  clear o4p0 o4p1 o4p2 o4p3 o4p4 o4l1 o4l2 o4l3 o4b o4w o4f o4s hvc0
  replace HE := Lib.hid (HE.out.trans (hbv21.mono (by omega)))
  replace HAS := Lib.hid (HAS.out.below hbv21 (by omega))
  replace HAG := Lib.hid (HAG.out.below hbv21 (by omega))
  have hz22 := hbv21.size
  clear hbv21
  have lt23 := HAS.out.lt
  have lt24 := HAG.out.lt
  go_wp2_with fail
  refine (HIM.out _ 0 (Nat.zero_le _) ((HKE.out _ (HE.out)).1).2).mono ?_
  rintro e v25 ⟨uv25, Fv25, rfl, ownv25, hFv25, hbv25⟩
  have hz26 := hbv25.size
  have see2 := layGor.seen (hi := v25.heap.size) ownv25 fun g hg => (hFv25 g hg).2
  obtain ⟨rv25A2, rv25n2, rv25c2, rv25A4, rv25n4, rv25c4, rfl, -⟩ := seeGor see2
  go_upto_region 14 with (fail)
  have hal : Below v21.heap.size v21 (v25.alloc (.cells #[.int .i64 r.fProc, .int .i64 r.fPc, .slice rv25A2 rv25n2 rv25c2, .int .i64 r.fState, .slice rv25A4 rv25n4 rv25c4] 25)) := hbv25.alloc hbv25.size _
  have han := Ans.mk (t := 25) ownv25 hFv25 hbv25.size
  obtain ⟨gH, hgH⟩ : ∃ b, b = v25.heap.size := ⟨_, rfl⟩
  have hnm : v25.heap.size = gH := hgH.symm
  replace HE := Lib.hid (HE.out.trans (hal.mono (by omega)))
  replace HAS := Lib.hid (HAS.out.below hal (by omega))
  replace HAG := Lib.hid (HAG.out.below hal (by omega))
  have hz28 := hal.size
  replace han : Ans layGor 25 v21.heap.size (v25.alloc (.cells #[.int .i64 r.fProc, .int .i64 r.fPc, .slice rv25A2 rv25n2 rv25c2, .int .i64 r.fState, .slice rv25A4 rv25n4 rv25c4] 25)).heap.size (v25.alloc (.cells #[.int .i64 r.fProc, .int .i64 r.fPc, .slice rv25A2 rv25n2 rv25c2, .int .i64 r.fState, .slice rv25A4 rv25n4 rv25c4] 25)) gH r := by rw [← hnm]; exact han
  have HAH := Lib.hid han
  clear han hal ownv25 hFv25 hbv25 see2
  generalize (v25.alloc (.cells #[.int .i64 r.fProc, .int .i64 r.fPc, .slice rv25A2 rv25n2 rv25c2, .int .i64 r.fState, .slice rv25A4 rv25n4 rv25c4] 25)) = v27 at *
  simp only [hnm]
  clear hnm hgH
  have lt29 := HAS.out.lt
  have lt30 := HAG.out.lt
  have lt31 := HAH.out.lt
  obtain ⟨o5l1, o5l2, o5l3, o5v, o5F, o5b, o5w, o5f⟩ := HAH.out
  have o5s := layGor.seen (hi := v27.heap.size) o5w fun g hg => by have := o5f g hg; omega
  obtain ⟨o5A2, o5n2, o5c2, o5A4, o5n4, o5c4, rfl, -⟩ := seeGor o5s
  have o5p0 := box_cell (j := 0) o5b rfl
  have o5p1 := box_cell (j := 1) o5b rfl
  have o5p2 := box_cell (j := 2) o5b rfl
  have o5p3 := box_cell (j := 3) o5b rfl
  have o5p4 := box_cell (j := 4) o5b rfl
  obtain ⟨o6l1, o6l2, o6l3, o6v, o6F, o6b, o6w, o6f⟩ := HAS.out
  have o6s := layGor.seen (hi := v27.heap.size) o6w fun g hg => by have := o6f g hg; omega
  obtain ⟨o6A2, o6n2, o6c2, o6A4, o6n4, o6c4, rfl, -⟩ := seeGor o6s
  have o6p0 := box_cell (j := 0) o6b rfl
  have o6p1 := box_cell (j := 1) o6b rfl
  have o6p2 := box_cell (j := 2) o6b rfl
  have o6p3 := box_cell (j := 3) o6b rfl
  have o6p4 := box_cell (j := 4) o6b rfl
  go_wp2_with fail
  refine (eqGor_same o5s o6s (Nat.le_refl _) (Nat.le_refl _) hszR).mono ?_
  rintro e v32 ⟨rfl, hbv32⟩
  clear o5p0 o5p1 o5p2 o5p3 o5p4 o5l1 o5l2 o5l3 o5b o5w o5f o5s o6p0 o6p1 o6p2 o6p3 o6p4 o6l1 o6l2 o6l3 o6b o6w o6f o6s
  replace HE := Lib.hid (HE.out.trans (hbv32.mono (by omega)))
  replace HAS := Lib.hid (HAS.out.below hbv32 (by omega))
  replace HAG := Lib.hid (HAG.out.below hbv32 (by omega))
  replace HAH := Lib.hid (HAH.out.below hbv32 (by omega))
  have hz33 := hbv32.size
  clear hbv32
  have lt34 := HAS.out.lt
  have lt35 := HAG.out.lt
  have lt36 := HAH.out.lt
  obtain ⟨o7l1, o7l2, o7l3, o7v, o7F, o7b, o7w, o7f⟩ := HAG.out
  have o7s := layGor.seen (hi := v32.heap.size) o7w fun g hg => by have := o7f g hg; omega
  obtain ⟨o7A2, o7n2, o7c2, o7A4, o7n4, o7c4, rfl, -⟩ := seeGor o7s
  have o7p0 := box_cell (j := 0) o7b rfl
  have o7p1 := box_cell (j := 1) o7b rfl
  have o7p2 := box_cell (j := 2) o7b rfl
  have o7p3 := box_cell (j := 3) o7b rfl
  have o7p4 := box_cell (j := 4) o7b rfl
  have hvc0 := hvcR
  go_wp2_with fail
  refine (heldGor_any (k := 1) o7s (Nat.le_refl _) hszR (by omega) (by omega)).mono ?_
  rintro e v37 ⟨rfl, hbv37⟩
  clear o7p0 o7p1 o7p2 o7p3 o7p4 o7l1 o7l2 o7l3 o7b o7w o7f o7s hvc0
  replace HE := Lib.hid (HE.out.trans (hbv37.mono (by omega)))
  replace HAS := Lib.hid (HAS.out.below hbv37 (by omega))
  replace HAG := Lib.hid (HAG.out.below hbv37 (by omega))
  replace HAH := Lib.hid (HAH.out.below hbv37 (by omega))
  have hz38 := hbv37.size
  clear hbv37
  go_wp2_with fail
  go_ret
  exact ⟨rfl, ((HKE.out _ (HE.out)).1).2⟩

set_option maxRecDepth 100000 in
theorem lifted (os : Os) (started : os.Started) (H : Type) (enc : TypeId × Value → H) :
    ReturnsInHanded {} Try.checked os 3 .any (Rows.fnExactGorNewSpec.pre6 enc Try.prog Try.f3 Rows.fnExactGorNewRow.domain false) (Rows.fnExactGorNewSpec.post enc Try.prog Try.f3 false true false false) := by
  refine returnsInHanded_of_change (C := Try.checked) own started (by kernel_rfl) Try.func3
    (ChangeSpec.witness6 (enc := enc) (C := Try.checked) false ⟨#[], #[.int .i64 0, .int .i64 0], []⟩ 8 (by kernel_rfl) (by kernel_rfl) (by kernel_rfl) (by kernel_rfl)) ?_
  intro W base args ds gs before hval0 hW hcnd _
  have hval : ∀ (j : Nat) t v, Try.f3.params[j]? = some t → args[j]? = some v → Value.okWide Try.prog W .any base t v := hval0
  have hW' := hW
  obtain ⟨p, q, hA0, hV, rfl, hfz, hnd⟩ := hW
  have hA : DataW.TrodAll enc Try.prog W 0 (fun _ => true) true Try.f3.params.toList args.toList ds p := hA0
  rw [Try.params3] at hA hval
  obtain ⟨v0, vs0, d0, ds0, p0, q0, hargs, rfl, rfl, h0, r0⟩ := trodAll_cons hA
  obtain ⟨v1, vs1, d1, ds1, p1, q1, rfl, rfl, rfl, h1, r1⟩ := trodAll_cons r0
  obtain ⟨rfl, rfl, rfl⟩ := trodAll_nil r1
  obtain rfl : args = #[v0, v1] := by cases args; simp_all
  obtain ⟨rfl, rfl⟩ := trodVars_none hV
  obtain ⟨a0, rfl, rfl, rfl, w0⟩ := open_int Try.underlying3 (hval 0 3 v0 rfl rfl) h0
  obtain ⟨a1, rfl, rfl, rfl, w1⟩ := open_int Try.underlying3 (hval 1 3 v1 rfl rfl) h1
  clear hA0 hval0
  refine (walk W a0 w0 a1 w1).mono fun e W' ⟨he, bel⟩ => ?_
  subst he
  exact ⟨_, rfl, _, _, _, [], _, [], hW', trodAll_mk1 (shut_bool Try.underlying4 _), (trodAll_cons_mk (shut_int Try.underlying3 w0) (trodAll_cons_mk (shut_int Try.underlying3 w1) trodAll_mk0)), rfl, bel.frame _, fun h => by cases h⟩

theorem over : Rows.fnExactGorNewRow.holds Try.pinned (OpenSpec.ofChange Rows.fnExactGorNewSpec) :=
  OpenClaim.holds_of_wide 3 Try.f3 rfl rfl rfl rfl rfl rfl rfl ⟨rfl, rfl, rfl, rfl, rfl⟩ rfl rfl rfl rfl rfl (by kernel_rfl) Try.func3 (by kernel_rfl)
    (of_decide_eq_true (by kernel_rfl)) (by unfold Func.isWrapper; first | (rw [if_pos (by decide +kernel)]; kernel_rfl) | (rw [if_neg (by decide +kernel)]; exact ⟨rfl, rfl⟩))
    (fun os started H enc _ => lifted os started H enc)

theorem proved : Rows.FnExactGorNewSaid := over
#print axioms proved
end Go.Proofs.Ytakogbpjijbpeaa.fnExactGorNew
