/- At every mutex MutexOk answers as the specification, and writes into no argument. No condition but that of the statement. -/
import Derived.Test.YtalbbhnfdbacdaaRows
import Derived.WalkKit
import Derived.Test.YtalbbhnfdbacdaaMutOk
import Derived.Test.YtalbbhnfdbacdaaMutOkS
import Derived.Lib.Hide
import Derived.ProofKit
import Derived.OpenShut
import Derived.ShutString
import Derived.ChangeOld
import Derived.Below
namespace Go.Proofs.Ytalbbhnfdbacdaa.fnExactMutexOk
open Go.ChangeShapes Go.WideShapes Go.ChangeAt Go.RowKit
open Go.ChangeMaps (open_string shut_string)
set_option linter.unusedVariables false
set_option linter.unusedSimpArgs false

theorem own : ownKnob Try.prog.godebug = none := by kernel_rfl
theorem laidOut : laidOutB Try.prog = true := by kernel_rfl

set_option maxRecDepth 100000 in
set_option maxHeartbeats 4000000 in
theorem walk (w : World) (x0 : DMutex) (vs0 : List Value) (s0 : layMutex.see w w.heap.size x0 vs0) :
    Calls Try.prog 4 #[.agg vs0.toArray] w fun e w' => e = .returned (.bool true) ∧ Below w.heap.size w w' := by
  obtain ⟨A1, n1, c1, rfl, -⟩ := seeMutex s0
  have HS := Lib.hid (fun (W : World) (hW : Below (w.heap.size + 1) (w.alloc (.cells #[.int .i64 x0.fOwner, .slice A1 n1 c1] 34)) W) => show layMutex.see W w.heap.size x0 [.int .i64 x0.fOwner, .slice A1 n1 c1] from layMutex.keep s0 fun k hk => (hW.block k (by omega)).trans (Below.heap_alloc w _ k hk))
  have HB := Lib.hid (fun (W : World) (hW : Below (w.heap.size + 1) (w.alloc (.cells #[.int .i64 x0.fOwner, .slice A1 n1 c1] 34)) W) => show w.heap.size + 1 ≤ W.heap.size ∧ Below w.heap.size w W from ⟨by simpa using hW.size, ((Below.refl _ _).alloc (Nat.le_refl _) _).trans (hW.mono (by omega))⟩)
  clear s0
  have hB0 : Below (w.heap.size + 1) (w.alloc (.cells #[.int .i64 x0.fOwner, .slice A1 n1 c1] 34)) (w.alloc (.cells #[.int .i64 x0.fOwner, .slice A1 n1 c1] 34)) := Below.refl _ _
  have hl : w.heap.size < w.heap.size + 1 := by omega
  go_enter Try.func4, Try.ntmps4
  go_wp2_with fail
  refine (szMutex_any (l := 1048576) (HS.out _ hB0) (by simp) (Nat.le_refl _)).mono ?_
  rintro e w0 ⟨hb0, hcase⟩
  replace hB0 := hB0.trans (hb0.mono (by simp))
  obtain ⟨z0, hW0⟩ := HB.out _ hB0
  obtain ⟨hcl0, hfz0⟩ := bcell hB0
  have hl0 : w.heap.size < w0.heap.size := by omega
  clear hb0
  rcases hcase with ⟨hle, rfl⟩ | ⟨hle, rfl⟩
  · go_wp2_with fail
    refine (toMutex_any (HS.out _ hB0) (by omega) hle).mono ?_
    rintro e w1 ⟨v1, rfl, own1, hb1⟩
    have hB1 := hB0.trans (hb1.mono z0)
    obtain ⟨z1, hW1⟩ := HB.out _ hB1
    obtain ⟨hcl1, hfz1⟩ := bcell hB1
    have hl1 : w.heap.size < w1.heap.size := by omega
    have see1 := layMutex.seen (hi := w1.heap.size) own1 fun g hg => hg.2
    clear hB0 hb1 own1 hcl0 hfz0 hW0
    go_wp2_with fail
    refine (specMutexOk_any see1 (Nat.le_refl _)).mono ?_
    rintro e w2 ⟨rfl, hb2⟩
    have hB2 := hB1.trans (hb2.mono (by omega))
    obtain ⟨z2, hW2⟩ := HB.out _ hB2
    obtain ⟨hcl2, hfz2⟩ := bcell hB2
    have hl2 : w.heap.size < w2.heap.size := by omega
    clear hB1 hb2 see1 hcl1 hfz1 hW1
    go_wp2_with fail
    refine (toMutex_any (HS.out _ hB2) (by omega) hle).mono ?_
    rintro e w3 ⟨v3, rfl, own3, hb3⟩
    have hB3 := hB2.trans (hb3.mono z2)
    obtain ⟨z3, hW3⟩ := HB.out _ hB3
    obtain ⟨hcl3, hfz3⟩ := bcell hB3
    have hl3 : w.heap.size < w3.heap.size := by omega
    have see3 := layMutex.seen (hi := w3.heap.size) own3 fun g hg => hg.2
    clear hB2 hb3 own3 hcl2 hfz2 hW2
    obtain ⟨E1, e1, f1, rfl, -⟩ := seeMutex see3
    have hD0 : Below w3.heap.size w3 (w3.alloc (.cells #[.int .i64 x0.fOwner, .slice E1 e1 f1] 25)) := (Below.refl _ _).alloc (Nat.le_refl _) _
    have hX0 : Below (w3.heap.size + 1) (w3.alloc (.cells #[.int .i64 x0.fOwner, .slice E1 e1 f1] 25)) (w3.alloc (.cells #[.int .i64 x0.fOwner, .slice E1 e1 f1] 25)) := Below.refl _ _
    replace hB3 := hB3.trans (hD0.mono z3)
    replace hW3 := hW3.trans (hD0.mono (by omega))
    replace see3 := layMutex.keep see3 fun k hk => hD0.block k hk
    go_wp2_with fail
    refine (implMutexOk_any see3 (by simp) hle).mono ?_
    rintro e w4 ⟨rfl, hb4⟩
    replace hX0 := hX0.trans (hb4.mono (by simp))
    replace see3 := layMutex.keep see3 fun k hk => hb4.block k (by simp; omega)
    have hB4 := hB3.trans (hb4.mono (by simp; omega))
    obtain ⟨z4, hW4⟩ := HB.out _ hB4
    obtain ⟨hcl4, hfz4⟩ := bcell hB4
    obtain ⟨hxl4, hxf4⟩ := bcell hX0
    have hl4 : w.heap.size < w4.heap.size := by omega
    have hx4 : w3.heap.size < w4.heap.size := by have := hX0.size; simp at this; omega
    have hx3 : w3.heap.size < w3.heap.size + 1 := by omega
    clear hB3 hb4 hcl3 hfz3 hW3 hD0
    have hbb : (mutOkB x0 != mutOkB x0) = false := by simp
    have HT := Lib.hid (fun (W : World) (hW : Below w4.heap.size w4 W) => toMutex_any (HS.out W (hB4.trans (hW.mono (by omega)))) (by have := hW.size; omega) hle)
    have HQ := Lib.hid (fun (W : World) (hW : Below w4.heap.size w4 W) (v5 : List Value) (own5 : layMutex.own W (fun g => w4.heap.size ≤ g ∧ g < W.heap.size) x0 v5) => eqMutex_same (layMutex.keep see3 fun k hk => hW.block k (by omega)) (layMutex.seen (hi := W.heap.size) own5 fun g hg => hg.2) (by have := hW.size; omega) (Nat.le_refl _) hle)
    go_wp2_with fail
    go_region_with (first | (go_at_call 15; refine (HT.out w4.drew ⟨rfl, rfl, rfl, Nat.le_refl _, fun _ _ => rfl⟩).mono ?_; rintro e w5 ⟨v5, rfl, own5, hb5⟩; have hY5 : Below w4.heap.size w4 w5 := ⟨hb5.os, hb5.tape, hb5.output, hb5.size, hb5.block⟩; have HO5 := Lib.hid own5; clear own5 hb5; obtain ⟨hyl5, hyf5⟩ := bcell hY5; have hl5 : w.heap.size < w5.heap.size := Nat.lt_of_lt_of_le hl4 hY5.size) | (go_at_call 16; refine (HQ.out w5 hY5 v5 HO5.out).mono ?_; rintro e w6 ⟨rfl, hb6⟩))
    all_goals
      have hB6 := hW4.trans ((hY5.mono (show w.heap.size ≤ w4.heap.size by omega)).trans (hb6.mono (by omega)))
      go_wp2_with fail
      go_ret
      exact ⟨rfl, hB6⟩
  · go_wp2_with fail
    go_ret
    exact ⟨rfl, hW0⟩

set_option maxRecDepth 100000 in
theorem lifted (os : Os) (started : os.Started) (H : Type) (enc : TypeId × Value → H) :
    ReturnsInHanded {} Try.checked os 4 .any (Rows.fnExactMutexOkSpec.pre6 enc Try.prog Try.f4 Rows.fnExactMutexOkRow.domain false) (Rows.fnExactMutexOkSpec.post enc Try.prog Try.f4 false true false false) := by
  refine returnsInHanded_of_change (C := Try.checked) own started (by kernel_rfl) Try.func4
    (ChangeSpec.witness6 (enc := enc) (C := Try.checked) false ⟨#[], #[.agg #[.int .i64 0, .slice none 0 0]], []⟩ 8 (by kernel_rfl) (by kernel_rfl) (by kernel_rfl) (by kernel_rfl)) ?_
  intro W base args ds gs before hval0 hW hcnd _
  have hval : ∀ (j : Nat) t v, Try.f4.params[j]? = some t → args[j]? = some v → Value.okWide Try.prog W .any base t v := hval0
  have hW' := hW
  obtain ⟨p, q, hA0, hV, rfl, hfz, hnd⟩ := hW
  have hA : DataW.TrodAll enc Try.prog W 0 (fun _ => true) true Try.f4.params.toList args.toList ds p := hA0
  rw [Try.params4] at hA hval
  obtain ⟨v0, vs0, d0, ds0, p0, q0, hargs, rfl, rfl, h0, r0⟩ := trodAll_cons hA
  obtain ⟨rfl, rfl, rfl⟩ := trodAll_nil r0
  obtain rfl : args = #[v0] := by cases args; simp_all
  obtain ⟨rfl, rfl⟩ := trodVars_none hV
  obtain ⟨cs0, rfl, _⟩ := okWide_struct Try.underlying34 (hval 0 34 v0 rfl rfl)
  obtain ⟨vc0, rfl⟩ : ∃ l : List Value, cs0 = l.toArray := ⟨cs0.toList, by simp⟩
  have k0 := h0
  have lt0 : ∀ x ∈ p0, x.block < W.heap.size := by obtain ⟨m, hm⟩ := k0; exact DataW.trod_lt m _ _ _ hm
  obtain ⟨x0, s0'⟩ := (opensMutex).arg h0
  have s0 : layMutex.see W W.heap.size x0 vc0 := by simpa [Value.cells] using s0'
  clear hA0 hval0
  refine (walk W x0 _ s0).mono fun e W' ⟨he, bel⟩ => ?_
  subst he
  exact ⟨_, rfl, _, _, _, [], _, [], hW', trodAll_mk1 (shut_bool Try.underlying4 _), (trodAll_cons_mk (Below.trod laidOut (by kernel_rfl) (of_decide_eq_true (by kernel_rfl)) k0 bel lt0) trodAll_mk0), rfl, bel.frame _, fun h => by cases h⟩

theorem over : Rows.fnExactMutexOkRow.holds Try.pinned (OpenSpec.ofChange Rows.fnExactMutexOkSpec) :=
  OpenClaim.holds_of_wide 4 Try.f4 rfl rfl rfl rfl rfl rfl rfl ⟨rfl, rfl, rfl, rfl, rfl⟩ rfl rfl rfl rfl rfl (by kernel_rfl) Try.func4 (by kernel_rfl)
    (of_decide_eq_true (by kernel_rfl)) (by unfold Func.isWrapper; first | (rw [if_pos (by decide +kernel)]; kernel_rfl) | (rw [if_neg (by decide +kernel)]; exact ⟨rfl, rfl⟩))
    (fun os started H enc _ => lifted os started H enc)

theorem proved : Rows.FnExactMutexOkSaid := over
#print axioms proved
end Go.Proofs.Ytalbbhnfdbacdaa.fnExactMutexOk
