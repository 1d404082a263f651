/- Reg: the program answers as the model, whatever it is asked. -/
import Derived.Test.YtakogbpjijbpeaaRows
import Derived.WalkKit
import Derived.Test.YtakogbpjijbpeaaGorReg
import Derived.Lib.Hide
import Derived.ProofKit
import Derived.OpenShut
import Derived.ShutString
import Derived.ChangeOld
import Derived.Below
namespace Go.Proofs.Ytakogbpjijbpeaa.fnExactReg
open Go.ChangeShapes Go.WideShapes Go.ChangeAt Go.RowKit
open Go.ChangeMaps (open_string shut_string)
set_option linter.unusedVariables false
set_option linter.unusedSimpArgs false

theorem own : ownKnob Try.prog.godebug = none := by kernel_rfl
theorem laidOut : laidOutB Try.prog = true := by kernel_rfl

set_option maxRecDepth 100000 in
set_option maxHeartbeats 20000000 in
theorem walk (w : World) (x0 : DGor) (vs0 : List Value) (s0 : layGor.see w w.heap.size x0 vs0) (a1 : Int) (w1 : (Lit.int .i64 a1).wf = true) :
    Calls Try.prog 5 #[.agg vs0.toArray, .int .i64 a1] w fun e w' => e = .returned (.bool true) ∧ Below w.heap.size w w' := by
  obtain ⟨p0A2, p0n2, p0c2, p0A4, p0n4, p0c4, rfl, -⟩ := seeGor s0
  have HV1 := Lib.hid w1
  clear w1
  have hWE : Below w.heap.size w (w.alloc (.cells #[.int .i64 x0.fProc, .int .i64 x0.fPc, .slice p0A2 p0n2 p0c2, .int .i64 x0.fState, .slice p0A4 p0n4 p0c4] 32)) := ((Below.refl _ _).alloc (Nat.le_refl _) _)
  have hzE : w.heap.size + 1 ≤ (w.alloc (.cells #[.int .i64 x0.fProc, .int .i64 x0.fPc, .slice p0A2 p0n2 p0c2, .int .i64 x0.fState, .slice p0A4 p0n4 p0c4] 32)).heap.size := by simp
  have hbx0 := box_new w #[.int .i64 x0.fProc, .int .i64 x0.fPc, .slice p0A2 p0n2 p0c2, .int .i64 x0.fState, .slice p0A4 p0n4 p0c4] 32
  have HKE := Lib.hid (fun (W : World) (hW : Below (w.heap.size + 1) (w.alloc (.cells #[.int .i64 x0.fProc, .int .i64 x0.fPc, .slice p0A2 p0n2 p0c2, .int .i64 x0.fState, .slice p0A4 p0n4 p0c4] 32)) W) => show (w.heap.size + 1 ≤ W.heap.size ∧ Below w.heap.size w W) ∧ layGor.see W w.heap.size x0 [.int .i64 x0.fProc, .int .i64 x0.fPc, .slice p0A2 p0n2 p0c2, .int .i64 x0.fState, .slice p0A4 p0n4 p0c4] ∧ W.heap[w.heap.size]? = some (.cells #[.int .i64 x0.fProc, .int .i64 x0.fPc, .slice p0A2 p0n2 p0c2, .int .i64 x0.fState, .slice p0A4 p0n4 p0c4] 32 (0, 0)) ∧ True from ⟨⟨Nat.le_trans hzE hW.size, hWE.trans (hW.mono (by omega))⟩, layGor.keep s0 (fun k hk => (hW.block k (by omega)).trans (hWE.block k hk)), box_keep hbx0 hW (by omega), trivial⟩)
  have HE := Lib.hid (show Below (w.heap.size + 1) (w.alloc (.cells #[.int .i64 x0.fProc, .int .i64 x0.fPc, .slice p0A2 p0n2 p0c2, .int .i64 x0.fState, .slice p0A4 p0n4 p0c4] 32)) (w.alloc (.cells #[.int .i64 x0.fProc, .int .i64 x0.fPc, .slice p0A2 p0n2 p0c2, .int .i64 x0.fState, .slice p0A4 p0n4 p0c4] 32)) from Below.refl _ _)
  clear hWE hzE hbx0 s0
  go_enter Try.func5, Try.ntmps5
  have pe1_0 := box_cell (j := 0) ((HKE.out _ HE.out).2.2.1) rfl
  have pe1_1 := box_cell (j := 1) ((HKE.out _ HE.out).2.2.1) rfl
  have pe1_2 := box_cell (j := 2) ((HKE.out _ HE.out).2.2.1) rfl
  have pe1_3 := box_cell (j := 3) ((HKE.out _ HE.out).2.2.1) rfl
  have pe1_4 := box_cell (j := 4) ((HKE.out _ HE.out).2.2.1) rfl
  have zE2 := ((HKE.out _ HE.out).1).1
  go_wp2_with fail
  refine (szGor_any (l := 1048576) ((HKE.out _ HE.out).2.1) (by omega) (Nat.le_refl _)).mono ?_
  rintro e v2 ⟨hbv2, hcase⟩
  have hzv2 := hbv2.size
  simp only [World.size_alloc, Nat.add_assoc, Nat.reduceAdd] at hzv2
  replace HE := Lib.hid (HE.out.trans (hbv2.mono (by simp only [World.size_alloc]; omega)))
  clear hbv2 pe1_0 pe1_1 pe1_2 pe1_3 pe1_4
  rcases hcase with ⟨hq0, rfl⟩ | ⟨hq0, rfl⟩
  · skip
    have hle0 : szGor x0 ≤ 1048576 := by omega
    have HSP := Lib.hid (fun (W : World) (hi : Nat) (vs0 : List Value) (h0 : layGor.see W hi x0 vs0) (hhi : hi ≤ W.heap.size) (hW : Below w.heap.size w W) => specReg_any (r := a1) h0 hhi hle0 HV1.out)
    have HIM := Lib.hid (fun (W : World) (hi : Nat) (vs0 : List Value) (h0 : layGor.see W hi x0 vs0) (hhi : hi ≤ W.heap.size) (hW : Below w.heap.size w W) => implReg_any (r := a1) h0 hhi hle0 HV1.out)
    generalize regR x0 a1 = r at *
    have hneq : (r != r) = false := by simp
    have zE4 := ((HKE.out _ HE.out).1).1
    have pe5_0 := box_cell (j := 0) ((HKE.out _ HE.out).2.2.1) rfl
    have pe5_1 := box_cell (j := 1) ((HKE.out _ HE.out).2.2.1) rfl
    have pe5_2 := box_cell (j := 2) ((HKE.out _ HE.out).2.2.1) rfl
    have pe5_3 := box_cell (j := 3) ((HKE.out _ HE.out).2.2.1) rfl
    have pe5_4 := box_cell (j := 4) ((HKE.out _ HE.out).2.2.1) rfl
    go_wp2_with fail
    refine (toGor_any ((HKE.out _ HE.out).2.1) (by omega) hle0).mono ?_
    rintro e v5 ⟨uv5, rfl, ownv5, hbv5⟩
    have see1 := layGor.seen (hi := v5.heap.size) ownv5 fun g hg => hg.2
    have hzv5 := hbv5.size
    replace HE := Lib.hid (HE.out.trans (hbv5.mono (by omega)))
    clear ownv5 hbv5 pe5_0 pe5_1 pe5_2 pe5_3 pe5_4
    go_wp2_with fail
    refine (HSP.out _ v5.heap.size _ see1 (Nat.le_refl _) ((HKE.out _ HE.out).1).2).mono ?_
    rintro e v6 ⟨rfl, hbv6⟩
    have hzv6 := hbv6.size
    replace HE := Lib.hid (HE.out.trans (hbv6.mono (by omega)))
    clear hbv6 see1
    have pe8_0 := box_cell (j := 0) ((HKE.out _ HE.out).2.2.1) rfl
    have pe8_1 := box_cell (j := 1) ((HKE.out _ HE.out).2.2.1) rfl
    have pe8_2 := box_cell (j := 2) ((HKE.out _ HE.out).2.2.1) rfl
    have pe8_3 := box_cell (j := 3) ((HKE.out _ HE.out).2.2.1) rfl
    have pe8_4 := box_cell (j := 4) ((HKE.out _ HE.out).2.2.1) rfl
    have zE9 := ((HKE.out _ HE.out).1).1
    go_wp2_with fail
    refine (toGor_any ((HKE.out _ HE.out).2.1) (by omega) hle0).mono ?_
    rintro e v9 ⟨uv9, rfl, ownv9, hbv9⟩
    have hzv9 := hbv9.size
    replace HE := Lib.hid (HE.out.trans (hbv9.mono (by omega)))
    clear hbv9 pe8_0 pe8_1 pe8_2 pe8_3 pe8_4
    have seev9 := layGor.seen (hi := v9.heap.size) ownv9 fun g hg => hg.2
    obtain ⟨q0A2, q0n2, q0c2, q0A4, q0n4, q0c4, rfl, -⟩ := seeGor seev9
    have hal : Below v9.heap.size v9 (v9.alloc (.cells #[.int .i64 x0.fProc, .int .i64 x0.fPc, .slice q0A2 q0n2 q0c2, .int .i64 x0.fState, .slice q0A4 q0n4 q0c4] 25)) := (Below.refl _ _).alloc (Nat.le_refl _) _
    have hbx := box_new v9 #[.int .i64 x0.fProc, .int .i64 x0.fPc, .slice q0A2 q0n2 q0c2, .int .i64 x0.fState, .slice q0A4 q0n4 q0c4] 25
    replace seev9 := layGor.keep seev9 (fun k hk => hal.block k hk)
    have hza : v9.heap.size + 1 ≤ (v9.alloc (.cells #[.int .i64 x0.fProc, .int .i64 x0.fPc, .slice q0A2 q0n2 q0c2, .int .i64 x0.fState, .slice q0A4 q0n4 q0c4] 25)).heap.size := by simp
    replace HE := Lib.hid (HE.out.trans (hal.mono (by omega)))
    clear hal ownv9
    go_upto_region 7 with (fail)
    generalize (v9.alloc (.cells #[.int .i64 x0.fProc, .int .i64 x0.fPc, .slice q0A2 q0n2 q0c2, .int .i64 x0.fState, .slice q0A4 q0n4 q0c4] 25)) = vX0 at *
    have HKX0 := Lib.hid (fun (W : World) (hW : Below vX0.heap.size vX0 W) => show vX0.heap.size ≤ W.heap.size ∧ v9.heap.size < vX0.heap.size ∧ layGor.see W v9.heap.size x0 [.int .i64 x0.fProc, .int .i64 x0.fPc, .slice q0A2 q0n2 q0c2, .int .i64 x0.fState, .slice q0A4 q0n4 q0c4] ∧ W.heap[v9.heap.size]? = some (.cells #[.int .i64 x0.fProc, .int .i64 x0.fPc, .slice q0A2 q0n2 q0c2, .int .i64 x0.fState, .slice q0A4 q0n4 q0c4] 25 (0, 0)) from ⟨hW.size, by omega, layGor.keep seev9 (fun k hk => hW.block k (by omega)), box_keep hbx hW (by omega)⟩)
    have HX0 := Lib.hid (Below.refl vX0.heap.size vX0)
    clear hbx seev9 hza
    have pe11_0 := box_cell (j := 0) (HKX0.out _ HX0.out).2.2.2 rfl
    have pe11_1 := box_cell (j := 1) (HKX0.out _ HX0.out).2.2.2 rfl
    have pe11_2 := box_cell (j := 2) (HKX0.out _ HX0.out).2.2.2 rfl
    have pe11_3 := box_cell (j := 3) (HKX0.out _ HX0.out).2.2.2 rfl
    have pe11_4 := box_cell (j := 4) (HKX0.out _ HX0.out).2.2.2 rfl
    have zx0 := (HKX0.out _ HX0.out).1
    have zy0 := (HKX0.out _ HX0.out).2.1
    go_wp2_with fail
    refine (HIM.out _ vX0.heap.size _ (layGor.more ((HKX0.out _ HX0.out).2.2.1) (by omega)) (Nat.le_refl _) ((HKE.out _ HE.out).1).2).mono ?_
    rintro e v11 ⟨rfl, hbv11⟩
    have hzv11 := hbv11.size
    replace HE := Lib.hid (HE.out.trans (hbv11.mono (by omega)))
    replace HX0 := Lib.hid (HX0.out.trans (hbv11.mono (by omega)))
    clear hbv11 pe11_0 pe11_1 pe11_2 pe11_3 pe11_4
    have zE13 := ((HKE.out _ HE.out).1).1
    have zx := (HKX0.out _ HX0.out).1
    have zy := (HKX0.out _ HX0.out).2.1
    go_upto_region 10 with (fail)
    go_cut [30] from 9 (fun s W => s = .bool false ∧ Below v11.heap.size v11 W)
    case first =>
      have pa0 := box_cell (j := 0) ((HKE.out _ HE.out).2.2.1) rfl
      have pa1 := box_cell (j := 1) ((HKE.out _ HE.out).2.2.1) rfl
      have pa2 := box_cell (j := 2) ((HKE.out _ HE.out).2.2.1) rfl
      have pa3 := box_cell (j := 3) ((HKE.out _ HE.out).2.2.1) rfl
      have pa4 := box_cell (j := 4) ((HKE.out _ HE.out).2.2.1) rfl
      have pb0 := box_cell (j := 0) (HKX0.out _ HX0.out).2.2.2 rfl
      have pb1 := box_cell (j := 1) (HKX0.out _ HX0.out).2.2.2 rfl
      have pb2 := box_cell (j := 2) (HKX0.out _ HX0.out).2.2.2 rfl
      have pb3 := box_cell (j := 3) (HKX0.out _ HX0.out).2.2.2 rfl
      have pb4 := box_cell (j := 4) (HKX0.out _ HX0.out).2.2.2 rfl
      go_region_with (first | (go_at_call 15; refine (toGor_any (HKE.out v11.drew (HE.out.trans ⟨rfl, rfl, rfl, Nat.le_refl _, fun _ _ => rfl⟩)).2.1 (by show w.heap.size ≤ v11.heap.size; omega) hle0).mono ?_; rintro e w5 ⟨vq5, rfl, own5, hb5⟩; have hY5 : Below v11.heap.size v11 w5 := ⟨hb5.os, hb5.tape, hb5.output, hb5.size, hb5.block⟩; have hz5 := hY5.size; have HO5 := Lib.hid own5; clear own5 hb5; have pc0 := box_cell (j := 0) (box_keep ((HKE.out _ HE.out).2.2.1) hY5 (by omega)) rfl; have pd0 := box_cell (j := 0) (box_keep ((HKX0.out _ HX0.out).2.2.2) hY5 (by omega)) rfl; have pc1 := box_cell (j := 1) (box_keep ((HKE.out _ HE.out).2.2.1) hY5 (by omega)) rfl; have pd1 := box_cell (j := 1) (box_keep ((HKX0.out _ HX0.out).2.2.2) hY5 (by omega)) rfl; have pc2 := box_cell (j := 2) (box_keep ((HKE.out _ HE.out).2.2.1) hY5 (by omega)) rfl; have pd2 := box_cell (j := 2) (box_keep ((HKX0.out _ HX0.out).2.2.2) hY5 (by omega)) rfl; have pc3 := box_cell (j := 3) (box_keep ((HKE.out _ HE.out).2.2.1) hY5 (by omega)) rfl; have pd3 := box_cell (j := 3) (box_keep ((HKX0.out _ HX0.out).2.2.2) hY5 (by omega)) rfl; have pc4 := box_cell (j := 4) (box_keep ((HKE.out _ HE.out).2.2.1) hY5 (by omega)) rfl; have pd4 := box_cell (j := 4) (box_keep ((HKX0.out _ HX0.out).2.2.2) hY5 (by omega)) rfl) | (go_at_call 10; refine (eqGor_same (HKX0.out w5 (HX0.out.trans (hY5.mono (by omega)))).2.2.1 (layGor.seen (hi := w5.heap.size) HO5.out fun g hg => hg.2) (by omega) (Nat.le_refl _) (Nat.le_trans hle0 (by omega))).mono ?_; rintro e w6 ⟨rfl, hb6⟩))
      all_goals (go_wp2_with fail; go_meet)
      all_goals exact ⟨rfl, hY5.trans (hb6.mono (by omega))⟩
    case rest =>
      rename World => v13
      obtain ⟨rfl, hbv13⟩ := hcut
      have hzv13 := hbv13.size
      clear zx zy
      replace HE := Lib.hid (HE.out.trans (hbv13.mono (by omega)))
      replace HX0 := Lib.hid (HX0.out.trans (hbv13.mono (by omega)))
      clear hbv13
      go_wp2_with fail
      go_ret
      exact ⟨rfl, ((HKE.out _ HE.out).1).2⟩
  · go_wp2_with fail
    go_ret
    exact ⟨rfl, ((HKE.out _ HE.out).1).2⟩

set_option maxRecDepth 100000 in
theorem lifted (os : Os) (started : os.Started) (H : Type) (enc : TypeId × Value → H) :
    ReturnsInHanded {} Try.checked os 5 .any (Rows.fnExactRegSpec.pre6 enc Try.prog Try.f5 Rows.fnExactRegRow.domain false) (Rows.fnExactRegSpec.post enc Try.prog Try.f5 false true false false) := by
  refine returnsInHanded_of_change (C := Try.checked) own started (by kernel_rfl) Try.func5
    (ChangeSpec.witness6 (enc := enc) (C := Try.checked) false ⟨#[], #[.agg #[.int .i64 0, .int .i64 0, .slice none 0 0, .int .i64 0, .slice none 0 0], .int .i64 0], []⟩ 8 (by kernel_rfl) (by kernel_rfl) (by kernel_rfl) (by kernel_rfl)) ?_
  intro W base args ds gs before hval0 hW hcnd _
  have hval : ∀ (j : Nat) t v, Try.f5.params[j]? = some t → args[j]? = some v → Value.okWide Try.prog W .any base t v := hval0
  have hW' := hW
  obtain ⟨p, q, hA0, hV, rfl, hfz, hnd⟩ := hW
  have hA : DataW.TrodAll enc Try.prog W 0 (fun _ => true) true Try.f5.params.toList args.toList ds p := hA0
  rw [Try.params5] at hA hval
  obtain ⟨v0, vs0, d0, ds0, p0, q0, hargs, rfl, rfl, h0, r0⟩ := trodAll_cons hA
  obtain ⟨v1, vs1, d1, ds1, p1, q1, rfl, rfl, rfl, h1, r1⟩ := trodAll_cons r0
  obtain ⟨rfl, rfl, rfl⟩ := trodAll_nil r1
  obtain rfl : args = #[v0, v1] := by cases args; simp_all
  obtain ⟨rfl, rfl⟩ := trodVars_none hV
  obtain ⟨cs0, rfl, _⟩ := okWide_struct Try.underlying32 (hval 0 32 v0 rfl rfl)
  obtain ⟨vc0, rfl⟩ : ∃ l : List Value, cs0 = l.toArray := ⟨cs0.toList, by simp⟩
  have k0 := h0
  have lt0 : ∀ x ∈ p0, x.block < W.heap.size := by obtain ⟨m, hm⟩ := k0; exact DataW.trod_lt m _ _ _ hm
  obtain ⟨x0, s0'⟩ := (opensGor).arg h0
  have s0 : layGor.see W W.heap.size x0 vc0 := by simpa [Value.cells] using s0'
  obtain ⟨a1, rfl, rfl, rfl, w1⟩ := open_int Try.underlying3 (hval 1 3 v1 rfl rfl) h1
  clear hA0 hval0
  refine (walk W x0 _ s0 a1 w1).mono fun e W' ⟨he, bel⟩ => ?_
  subst he
  exact ⟨_, rfl, _, _, _, [], _, [], hW', trodAll_mk1 (shut_bool Try.underlying4 _), (trodAll_cons_mk (Below.trod laidOut (by kernel_rfl) (of_decide_eq_true (by kernel_rfl)) k0 bel lt0) (trodAll_cons_mk (shut_int Try.underlying3 w1) trodAll_mk0)), rfl, bel.frame _, fun h => by cases h⟩

theorem over : Rows.fnExactRegRow.holds Try.pinned (OpenSpec.ofChange Rows.fnExactRegSpec) :=
  OpenClaim.holds_of_wide 5 Try.f5 rfl rfl rfl rfl rfl rfl rfl ⟨rfl, rfl, rfl, rfl, rfl⟩ rfl rfl rfl rfl rfl (by kernel_rfl) Try.func5 (by kernel_rfl)
    (of_decide_eq_true (by kernel_rfl)) (by unfold Func.isWrapper; first | (rw [if_pos (by decide +kernel)]; kernel_rfl) | (rw [if_neg (by decide +kernel)]; exact ⟨rfl, rfl⟩))
    (fun os started H enc _ => lifted os started H enc)

theorem proved : Rows.FnExactRegSaid := over
#print axioms proved
end Go.Proofs.Ytakogbpjijbpeaa.fnExactReg
