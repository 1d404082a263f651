
/- For every row of chunks FnExactStream answers true: Stream answers as its model does, writes into no argument, keeps nothing of one, and its answer owns its memory. No condition. -/

import Derived.Test.YtlaiiphngekhnaaRows

import Derived.WalkKit

import Derived.Test.YtlaiiphngekhnaaStreamC

import Derived.ProofKit

import Derived.OpenShut

import Derived.ShutString

import Derived.ChangeOld

import Derived.Below

namespace Go.Proofs.Ytlaiiphngekhnaa.fnExactStream

open Go.ChangeShapes Go.WideShapes Go.ChangeAt Go.RowKit

open Go.ChangeMaps (open_string shut_string)
set_option linter.unusedVariables false

theorem own : ownKnob Try.prog.godebug = none := by kernel_rfl
theorem laidOut : laidOutB Try.prog = true := by kernel_rfl

set_option maxRecDepth 100000 in
set_option maxHeartbeats 2000000 in
theorem walk (a0 : Option Addr) (len0 cap0 : Nat) (ds : List (List UInt8)) (w : World) (h : SeenR chunkLay w w.heap.size a0 len0 ds) (hm : len0 ≤ maxLen) :
    Calls Try.prog 3 #[.slice a0 len0 cap0] w fun e w' => e = .returned (.bool true) ∧ Below w.heap.size w w' := by
  have hlen := Lib.hid h.1
  go_enter Try.func3, Try.ntmps3
  go_wp2_with fail
  refine (szChunkS_any (l := 1048576) h (Nat.le_refl _) (by omega) hm).mono ?_
  rintro e w0 ⟨hb0, hcase⟩
  have z0 := hb0.size
  rcases hcase with ⟨hle, rfl⟩ | ⟨hle, rfl⟩
  · have hrt := Lib.hid (room_tot ds)
    have hsl := streamB_len ds
    rw [hrt.out, hlen.out] at hsl
    go_wp2_with fail
    refine (toChunkS_any (h.below hb0 (Nat.le_refl _)) (by omega) (by omega)).mono ?_
    rintro e w1 ⟨A1, c1, rfl, row1, hb1⟩
    have z1 := hb1.size
    have cs1 := chunks_of_row row1
    have hB1 : Below w.heap.size w w1 := hb0.trans (hb1.mono z0)
    clear row1 hb0 hb1
    go_wp2_with fail
    refine (specStream_any cs1.seen (Nat.le_refl _) (by rw [hrt.out, hlen.out]; omega)).mono ?_
    rintro e w2 ⟨A2, n2, c2, rfl, own2, hb2⟩
    have z2 := hb2.size
    have l2 : n2 ≤ 16777216 := by have h1 := own2.len; simp at h1; omega
    have hB2 := hB1.trans (hb2.mono (by omega))
    clear cs1 hB1 hb2
    go_wp2_with fail
    refine (toChunkS_any (h.below hB2 (Nat.le_refl _)) (by omega) (by omega)).mono ?_
    rintro e w3 ⟨A3, c3, rfl, row3, hb3⟩
    have z3 := hb3.size
    have cs3 := chunks_of_row row3
    replace own2 := own2.below hb3 (Nat.le_refl _)
    have hB3 := hB2.trans (hb3.mono (by omega))
    clear row3 hB2 hb3
    go_wp2_with fail
    refine (implStream_any cs3.seen (Nat.le_refl _) (by rw [hrt.out, hlen.out]; omega)).mono ?_
    rintro e w4 ⟨A4, n4, c4, rfl, own4, hb4⟩
    have z4 := hb4.size
    replace own2 := own2.below hb4 (by omega)
    replace cs3 := cs3.below hb4 (Nat.le_refl _)
    have hB4 := hB3.trans (hb4.mono (by omega))
    obtain rfl : n2 = n4 := own2.len.symm.trans own4.len
    clear hB3 hb4
    generalize hsb : streamB ds = sb at *
    have HSB := Lib.hid hsb
    clear hsb
    obtain ⟨sbs, sbb⟩ := sb
    go_wp2_with fail
    refine (eqByteS_yes own4.seen own2.seen (by omega)).mono ?_
    rintro e w5 ⟨rfl, hb5⟩
    have z5 := hb5.size
    replace own2 := own2.below hb5 (by omega)
    replace cs3 := cs3.below hb5 (by omega)
    replace own4 := own4.below hb5 (by omega)
    have hB5 := hB4.trans (hb5.mono (by omega))
    clear hB4 hb5
    go_wp2_with fail
    refine (toChunkS_any (h.below hB5 (Nat.le_refl _)) (by omega) (by omega)).mono ?_
    rintro e w6 ⟨A6, c6, rfl, row6, hb6⟩
    have z6 := hb6.size
    have cs6 := chunks_of_row row6
    replace own2 := own2.below hb6 (by omega)
    replace cs3 := cs3.below hb6 (by omega)
    replace own4 := own4.below hb6 (by omega)
    have hB6 := hB5.trans (hb6.mono (by omega))
    clear row6 hB5 hb6
    go_wp2_with fail
    refine (eqChunkS_same cs3.seen cs6.seen (by omega) (by omega) (by omega) (fun d hd => by have := tot_ge hd; omega)).mono ?_
    rintro e w7 ⟨rfl, hb7⟩
    have z7 := hb7.size
    replace own2 := own2.below hb7 (by omega)
    replace cs3 := cs3.below hb7 (by omega)
    replace own4 := own4.below hb7 (by omega)
    have hB7 := hB6.trans (hb7.mono (by omega))
    clear hB6 hb7 cs6
    go_wp2_with fail
    refine (markChunkS_any (k := 1) cs3 (by omega) (by omega)).mono ?_
    rintro e w8 ⟨rfl, cs3', ht8⟩
    have z8 := ht8.size
    replace own2 := own2.turned ht8 (by omega)
    replace own4 := own4.turned ht8 (by omega)
    have hB8 := hB7.trans (ht8.below (by omega) (by omega))
    clear hB7 ht8 cs3' cs3
    go_wp2_with fail
    refine (eqByteS_yes own4.seen own2.seen (by omega)).mono ?_
    rintro e w9 ⟨rfl, hb9⟩
    have z9 := hb9.size
    replace own2 := own2.below hb9 (by omega)
    replace own4 := own4.below hb9 (by omega)
    have hB9 := hB8.trans (hb9.mono (by omega))
    clear hB8 hb9
    go_wp2_with fail
    refine (markByteS_any (k := 1) own4 (by omega) (by omega)).mono ?_
    rintro e w10 ⟨rfl, own4', ht10⟩
    have z10 := ht10.size
    replace own2 := own2.turned ht10 (by omega)
    have hB10 := hB9.trans (ht10.below (by omega) (by omega))
    clear hB9 ht10 own4
    go_wp2_with fail
    refine (heldByteS_any (k := 1) own4'.seen (by omega) (by omega)).mono ?_
    rintro e w' ⟨rfl, rfl⟩
    go_wp2_with fail
    refine (toChunkS_any (h.below hB10 (Nat.le_refl _)) (by omega) (by omega)).mono ?_
    rintro e w11 ⟨A11, c11, rfl, row11, hb11⟩
    have z11 := hb11.size
    have cs11 := chunks_of_row row11
    replace own2 := own2.below hb11 (by omega)
    replace own4' := own4'.below hb11 (by omega)
    have hB11 := hB10.trans (hb11.mono (by omega))
    clear row11 hB10 hb11
    go_wp2_with fail
    refine (implStream_any cs11.seen (Nat.le_refl _) (by rw [hrt.out, hlen.out]; omega)).mono ?_
    rw [HSB.out]
    rintro e w12 ⟨A12, n12, c12, rfl, own12, hb12⟩
    have z12 := hb12.size
    replace own2 := own2.below hb12 (by omega)
    replace own4' := own4'.below hb12 (by omega)
    have hB12 := hB11.trans (hb12.mono (by omega))
    obtain rfl : n2 = n12 := own2.len.symm.trans own12.len
    clear hB11 hb12 cs11
    go_wp2_with fail
    refine (eqByteS_yes own12.seen own2.seen (by omega)).mono ?_
    rintro e w13 ⟨rfl, hb13⟩
    have z13 := hb13.size
    replace own4' := own4'.below hb13 (by omega)
    have hB13 := hB12.trans (hb13.mono (by omega))
    clear hB12 hb13 own2 own12
    go_wp2_with fail
    refine (heldByteS_any (k := 1) own4'.seen (by omega) (by omega)).mono ?_
    rintro e w' ⟨rfl, rfl⟩
    go_wp2_with fail
    go_ret
    exact ⟨rfl, hB13⟩
  · go_wp2_with fail
    go_ret
    exact ⟨rfl, hb0⟩

set_option maxRecDepth 100000 in
theorem lifted (os : Os) (started : os.Started) (H : Type) (enc : TypeId × Value → H) :
    ReturnsInHanded {} Try.checked os 3 .any (Rows.fnExactStreamSpec.pre6 enc Try.prog Try.f3 Rows.fnExactStreamRow.domain false) (Rows.fnExactStreamSpec.post enc Try.prog Try.f3 false true false false) := by
  refine returnsInHanded_of_change (C := Try.checked) own started (by kernel_rfl) Try.func3
    (ChangeSpec.witness6 (enc := enc) (C := Try.checked) false ⟨#[], #[.slice none 0 0], []⟩ 8 (by kernel_rfl) (by kernel_rfl) (by kernel_rfl) (by kernel_rfl)) ?_
  intro W base args ds gs before hval0 hW hcnd _
  have hval : ∀ (j : Nat) t v, Try.f3.params[j]? = some t → args[j]? = some v → Value.okWide Try.prog W .any base t v := hval0
  have hW' := hW
  obtain ⟨p, q, hA0, hV, rfl, hfz, hnd⟩ := hW
  have hA : DataW.TrodAll enc Try.prog W 0 (fun _ => true) true Try.f3.params.toList args.toList ds p := hA0
  rw [Try.params3] at hA hval
  obtain ⟨v0, vs0, d0, ds0, p0, q0, hargs, rfl, rfl, h0, r0⟩ := trodAll_cons hA
  obtain ⟨rfl, rfl, rfl⟩ := trodAll_nil r0
  obtain rfl : args = #[v0] := by cases args; simp_all
  obtain ⟨rfl, rfl⟩ := trodVars_none hV
  obtain ⟨a0, len0, cap0, rfl⟩ := okWide_slice Try.underlying22 (hval 0 22 v0 rfl rfl)
  have k0 := h0
  have lt0 : ∀ x ∈ p0, x.block < W.heap.size := by obtain ⟨m, hm⟩ := k0; exact DataW.trod_lt m _ _ _ hm
  obtain ⟨cs, s0, hm0⟩ := row_of h0
  clear hA0 hval0
  refine (walk a0 len0 cap0 cs W s0 hm0).mono fun e W' ⟨he, bel⟩ => ?_
  subst he
  exact ⟨_, rfl, _, _, _, [], _, [], hW', trodAll_mk1 (shut_bool Try.underlying4 _), (trodAll_cons_mk (Below.trod laidOut (by kernel_rfl) (of_decide_eq_true (by kernel_rfl)) k0 bel lt0) trodAll_mk0), rfl, bel.frame _, fun h => by cases h⟩

theorem over : Rows.fnExactStreamRow.holds Try.pinned (OpenSpec.ofChange Rows.fnExactStreamSpec) :=
  OpenClaim.holds_of_wide 3 Try.f3 rfl rfl rfl rfl rfl rfl rfl ⟨rfl, rfl, rfl, rfl, rfl⟩ rfl rfl rfl rfl rfl (by kernel_rfl) Try.func3 (by kernel_rfl)
    (of_decide_eq_true (by kernel_rfl)) (by unfold Func.isWrapper; first | (rw [if_pos (by decide +kernel)]; kernel_rfl) | (rw [if_neg (by decide +kernel)]; exact ⟨rfl, rfl⟩))
    (fun os started H enc _ => lifted os started H enc)

theorem proved : Rows.FnExactStreamSaid := over
#print axioms proved
end Go.Proofs.Ytlaiiphngekhnaa.fnExactStream
