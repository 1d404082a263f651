/- For every program FnExactProgNums answers true: ProgNums answers as its model does, writes into no argument, and its answer owns its memory. Condition: the table of instructions reads as the program's text lays it (tied). -/
import Derived.Test.YtikcoplihfoiiaaDoorRows
import Derived.WalkKit
import Derived.Test.YtikcoplihfoiiaaDoorCards
import Derived.Test.YtikcoplihfoiiaaDoorTie
import Derived.Lib.LaidTab
import Derived.SevenTiedAt
import Derived.Stop.Joined
import Derived.LaidMore
import Derived.ChangeVars
import Derived.OpenVars
import Derived.Test.YtikcoplihfoiiaaDoorNumsL
import Derived.Test.YtikcoplihfoiiaaDoorOpTab
import Derived.Lib.Hide
import Derived.ProofKit
import Derived.OpenShut
import Derived.ShutString
import Derived.ChangeOld
import Derived.Below
namespace Go.Proofs.YtikcoplihfoiiaaDoor.fnExactProgNums
open Go.ChangeShapes Go.WideShapes Go.ChangeAt Go.RowKit
open Go.ChangeMaps (open_string shut_string)
set_option linter.unusedVariables false
set_option linter.unusedSimpArgs false

theorem own : ownKnob Tryd.prog.godebug = none := by kernel_rfl
theorem laidOut : laidOutB Tryd.prog = true := by kernel_rfl

set_option maxRecDepth 100000 in
set_option maxHeartbeats 4000000 in
theorem walk (w : World) (x0 : DProg) (vs0 : List Value) (s0 : layProg.see w w.heap.size x0 vs0) (hC : OpCells w) :
    Calls Tryd.prog 4 #[.agg vs0.toArray] w fun e w' => e = .returned (.bool true) ∧ Below w.heap.size w w' := by
  obtain ⟨A0, n0, c0, A2, n2, c2, A3, n3, c3, rfl, -⟩ := seeProg s0
  have HC := Lib.hid hC
  clear hC
  have HS := Lib.hid (fun (W : World) (hW : Below (w.heap.size + 1) (w.alloc (.cells #[.slice A0 n0 c0, .int .i64 x0.fMus, .slice A2 n2 c2, .slice A3 n3 c3] 26)) W) => show layProg.see W w.heap.size x0 [.slice A0 n0 c0, .int .i64 x0.fMus, .slice A2 n2 c2, .slice A3 n3 c3] from layProg.keep s0 fun k hk => (hW.block k (by omega)).trans (Below.heap_alloc w _ k hk))
  have HB := Lib.hid (fun (W : World) (hW : Below (w.heap.size + 1) (w.alloc (.cells #[.slice A0 n0 c0, .int .i64 x0.fMus, .slice A2 n2 c2, .slice A3 n3 c3] 26)) W) => show w.heap.size + 1 ≤ W.heap.size ∧ Below w.heap.size w W from ⟨by simpa using hW.size, ((Below.refl _ _).alloc (Nat.le_refl _) _).trans (hW.mono (by omega))⟩)
  have HS0 := Lib.hid s0
  clear s0
  have hB0 : Below (w.heap.size + 1) (w.alloc (.cells #[.slice A0 n0 c0, .int .i64 x0.fMus, .slice A2 n2 c2, .slice A3 n3 c3] 26)) (w.alloc (.cells #[.slice A0 n0 c0, .int .i64 x0.fMus, .slice A2 n2 c2, .slice A3 n3 c3] 26)) := Below.refl _ _
  have hl : w.heap.size < w.heap.size + 1 := by omega
  go_enter Tryd.func4, Tryd.ntmps4
  go_wp2_with fail
  refine (szProg_any (l := 1048576) (HS.out _ hB0) (by simp) (Nat.le_refl _)).mono ?_
  rintro e w0 ⟨hb0, hcase⟩
  replace hB0 := hB0.trans (hb0.mono (by simp))
  obtain ⟨z0, hW0⟩ := HB.out _ hB0
  obtain ⟨hcl0, hfz0⟩ := bcell hB0
  have hl0 : w.heap.size < w0.heap.size := by omega
  clear hb0
  rcases hcase with ⟨hle, rfl⟩ | ⟨hle, rfl⟩
  · have hNW := Lib.hid (numsB_wf HS0.out hle)
    have hNL := Lib.hid (numsB_len x0)
    have hIM := Lib.hid (fun (W : World) (hi : Nat) (vs : List Value) (h : layProg.see W hi x0 vs) (hhi : hi ≤ W.heap.size) (hC : OpCells W) => implProgNums_any h hhi hC hle)
    have hSP := Lib.hid (fun (W : World) (hi : Nat) (vs : List Value) (h : layProg.see W hi x0 vs) (hhi : hi ≤ W.heap.size) => specProgNums_any h hhi hle)
    clear HS0
    generalize numsB x0 = nl at hNW hNL hIM hSP
    go_wp2_with fail
    refine (toProg_any (HS.out _ hB0) (by omega) hle).mono ?_
    rintro e w1 ⟨v1, rfl, own1, hb1⟩
    have hB1 := hB0.trans (hb1.mono z0)
    obtain ⟨z1, hW1⟩ := HB.out _ hB1
    obtain ⟨hcl1, hfz1⟩ := bcell hB1
    have hl1 : w.heap.size < w1.heap.size := by omega
    have see1 := layProg.seen (hi := w1.heap.size) own1 fun g hg => hg.2
    clear hB0 hb1 own1 hcl0 hfz0 hW0
    go_wp2_with fail
    refine (hSP.out _ _ _ see1 (Nat.le_refl _)).mono ?_
    rintro e w2 ⟨Y2, m2, d2, rfl, own2, hb2⟩
    have hB2 := hB1.trans (hb2.mono (by omega))
    obtain ⟨z2, hW2⟩ := HB.out _ hB2
    obtain ⟨hcl2, hfz2⟩ := bcell hB2
    have hl2 : w.heap.size < w2.heap.size := by omega
    have e2 := Lib.hid (own_len own2)
    have l2 : m2 ≤ 2000 := by have := e2.out; have := hNL.out; omega
    clear hB1 hb2 see1 hcl1 hfz1 hW1
    go_wp2_with fail
    refine (toProg_any (HS.out _ hB2) (by omega) hle).mono ?_
    rintro e w3 ⟨v3, rfl, own3, hb3⟩
    have hB3 := hB2.trans (hb3.mono z2)
    obtain ⟨z3, hW3⟩ := HB.out _ hB3
    obtain ⟨hcl3, hfz3⟩ := bcell hB3
    have hl3 : w.heap.size < w3.heap.size := by omega
    have hz3 := hb3.size
    replace own2 := own2.below hb3 (Nat.le_refl _)
    have see3 := layProg.seen (hi := w3.heap.size) own3 fun g hg => hg.2
    clear hB2 hb3 hcl2 hfz2 hW2
    obtain ⟨E0, e0, f0, E2, e2', f2, E3, e3, f3, rfl, -⟩ := seeProg see3
    have hD0 : Below w3.heap.size w3 (w3.alloc (.cells #[.slice E0 e0 f0, .int .i64 x0.fMus, .slice E2 e2' f2, .slice E3 e3 f3] 32)) := (Below.refl _ _).alloc (Nat.le_refl _) _
    have hX0 : Below (w3.heap.size + 1) (w3.alloc (.cells #[.slice E0 e0 f0, .int .i64 x0.fMus, .slice E2 e2' f2, .slice E3 e3 f3] 32)) (w3.alloc (.cells #[.slice E0 e0 f0, .int .i64 x0.fMus, .slice E2 e2' f2, .slice E3 e3 f3] 32)) := Below.refl _ _
    replace hB3 := hB3.trans (hD0.mono z3)
    replace hW3 := hW3.trans (hD0.mono (by omega))
    replace see3 := layProg.keep see3 fun k hk => hD0.block k hk
    replace own3 := layProg.stay (w' := w3.alloc (.cells #[.slice E0 e0 f0, .int .i64 x0.fMus, .slice E2 e2' f2, .slice E3 e3 f3] 32)) own3 (fun g _ hlt => hD0.block g hlt) (by simp)
    replace own2 := own2.below hD0 (by omega)
    go_wp2_with fail
    refine (hIM.out _ _ _ see3 (by simp) (opCells_below HC.out hW3)).mono ?_
    rintro e w4 ⟨Y4, m4, d4, rfl, own4, hb4⟩
    replace hX0 := hX0.trans (hb4.mono (by simp))
    have hx40 := hb4.size
    simp only [World.size_alloc] at hx40
    replace see3 := layProg.keep see3 fun k hk => hb4.block k (by simp; omega)
    replace own3 := layProg.stay (w' := w4) own3 (fun g hg hlt => hb4.block g hlt) hb4.size
    replace own2 := own2.below hb4 (by simp; omega)
    have hB4 := hB3.trans (hb4.mono (by simp; omega))
    obtain ⟨z4, hW4⟩ := HB.out _ hB4
    obtain ⟨hcl4, hfz4⟩ := bcell hB4
    obtain ⟨hxl4, hxf4⟩ := bcell hX0
    have hl4 : w.heap.size < w4.heap.size := by omega
    have hx4 : w3.heap.size < w4.heap.size := by omega
    have hx3 : w3.heap.size < w3.heap.size + 1 := by omega
    obtain rfl : m2 = m4 := e2.out.trans (own_len own4).symm
    simp only [World.size_alloc] at own4
    clear hB3 hb4 hcl3 hfz3 hW3 hD0
    go_wp2_with fail
    refine (eqIntS_same (own4.seeI hNW.out) (own2.seeI hNW.out) (by omega)).mono ?_
    rintro e w5 ⟨rfl, hb5⟩
    have hB5 := hB4.trans (hb5.mono (by omega))
    obtain ⟨z5, hW5⟩ := HB.out _ hB5
    obtain ⟨hcl5, hfz5⟩ := bcell hB5
    have hX5 := hX0.trans (hb5.mono (by omega))
    obtain ⟨hxl5, hxf5⟩ := bcell hX5
    have hz5 := hb5.size
    have hl5 : w.heap.size < w5.heap.size := by omega
    have hx5 : w3.heap.size < w5.heap.size := by omega
    replace see3 := layProg.keep see3 fun k hk => hb5.block k (by omega)
    replace own3 := layProg.stay (w' := w5) own3 (fun g hg hlt => hb5.block g hlt) hb5.size
    replace own2 := own2.below hb5 (by omega)
    replace own4 := own4.below hb5 (by omega)
    clear hB4 hX0 hb5 hcl4 hfz4 hxl4 hxf4 hW4
    have HT := Lib.hid (fun (W : World) (hW : Below w5.heap.size w5 W) => toProg_any (HS.out W (hB5.trans (hW.mono (by omega)))) (by have := hW.size; omega) hle)
    have HQ := Lib.hid (fun (W : World) (hW : Below w5.heap.size w5 W) (v5 : List Value) (own5 : layProg.own W (fun g => w5.heap.size ≤ g ∧ g < W.heap.size) x0 v5) => eqProg_same (layProg.keep see3 fun k hk => hW.block k (by omega)) (layProg.seen (hi := W.heap.size) own5 fun g hg => hg.2) (by have := hW.size; omega) (Nat.le_refl _) hle)
    have HO2 := Lib.hid own2
    have HO3 := Lib.hid own3
    have HO4 := Lib.hid own4
    clear own2 own3 own4
    go_wp2_with fail
    go_region_with (first | (go_at_call 8; refine (HT.out w5.drew ⟨rfl, rfl, rfl, Nat.le_refl _, fun _ _ => rfl⟩).mono ?_; rintro e w6 ⟨v5, rfl, own5, hb6⟩; have hY5 : Below w5.heap.size w5 w6 := ⟨hb6.os, hb6.tape, hb6.output, hb6.size, hb6.block⟩; have HO5 := Lib.hid own5; clear own5 hb6; obtain ⟨hyl5, hyf5⟩ := bcell hY5; have hl6 : w.heap.size < w6.heap.size := Nat.lt_of_lt_of_le hl5 hY5.size; have hx6 : w3.heap.size < w6.heap.size := Nat.lt_of_lt_of_le hx5 hY5.size) | (go_at_call 10; refine (HQ.out w6 hY5 v5 HO5.out).mono ?_; rintro e w7 ⟨rfl, hb7⟩))
    all_goals
      have hY7 := hY5.trans (hb7.mono hY5.size)
      have hz7 := hY7.size
      have hB7 := hB5.trans (hY7.mono (by omega))
      obtain ⟨z7, hW7⟩ := HB.out _ hB7
      have hX7 := hX5.trans (hY7.mono (by omega))
      have own2 := HO2.out.below hY7 (by omega)
      have own4 := HO4.out.below hY7 (by omega)
      have own3 := layProg.stay (w' := w7) HO3.out (fun g hg hlt => hY7.block g hlt) hY7.size
      clear hcl5 hfz5 hxl5 hxf5 hyl5 hyf5 hY5 hY7 hb7 HO5 HT HQ HO2 HO3 HO4
      obtain ⟨hcl7, hfz7⟩ := bcell hB7
      obtain ⟨hxl7, hxf7⟩ := bcell hX7
      have hl7 : w.heap.size < w7.heap.size := by omega
      have hx7 : w3.heap.size < w7.heap.size := by omega
      go_wp2_with fail
      refine (markProg_any (k := 1) own3 (fun g hg => by omega) hle (by omega) (by have := vcntProg_le x0; omega)).mono ?_
      rintro e w8 ⟨rfl, ht8⟩
      have hv := vcntProg_le x0
      have hv0 := vcntProg_pos x0
      have hz8 := ht8.size
      have hb8 : Below w2.heap.size w7 w8 := ht8.below (fun g hg => hg.1) (by omega)
      have hB8 := hB7.trans (hb8.mono (by omega))
      obtain ⟨z8, hW8⟩ := HB.out _ hB8
      replace own2 := own2.keep (w' := w8) fun k _ h2 h3 => ht8.block k h3 (fun hF => by omega)
      replace own4 := own4.keep (w' := w8) fun k h1 _ h3 => ht8.block k h3 (fun hF => by omega)
      have hk0 : decide (1 + vcntProg x0 < 0) = false := decide_eq_false (by omega)
      clear hcl7 hfz7 hxl7 hxf7 hB7 hX7 hb8 ht8 own3 hW7
      go_wp2_with fail
      refine (eqIntS_same (own4.seeI hNW.out) (own2.seeI hNW.out) (by omega)).mono ?_
      rintro e w9 ⟨rfl, hb9⟩
      have hz9 := hb9.size
      have hB9 := hB8.trans (hb9.mono (by omega))
      replace own2 := own2.below hb9 (by omega)
      replace own4 := own4.below hb9 (by omega)
      clear hB8 hb9 hW8
      go_wp2_with fail
      refine (markIntS_any (k := 1) (own4.rowI hNW.out) (by omega) (by omega) (by omega)).mono ?_
      rintro e w10 ⟨rfl, own10, ht10⟩
      have hz10 := ht10.size
      have hb10 : Below (w3.heap.size + 1) w9 w10 := ht10.below (fun g hg => hg.1) (by omega)
      have hB10 := hB9.trans (hb10.mono (by omega))
      replace own2 := own2.keep (w' := w10) fun k _ h2 h3 => ht10.block k h3 (fun hF => by omega)
      have see10 := own10.seen (hi := w4.heap.size) fun g hg => hg.2
      clear hB9 hb10 ht10 own4 own10
      go_wp2_with fail
      refine (heldIntS_any (k := 1) see10 (by omega) (by omega) (by omega)).mono ?_
      rintro e w11 ⟨rfl, rfl⟩
      obtain ⟨z10, hW10⟩ := HB.out _ hB10
      obtain ⟨hcl10, hfz10⟩ := bcell hB10
      have hl10 : w.heap.size < w10.heap.size := by omega
      have hk1 : decide (1 + 1 * (m2 : Int) < 0) = false := decide_eq_false (by omega)
      go_wp2_with fail
      refine (toProg_any (HS.out _ hB10) (by omega) hle).mono ?_
      rintro e w12 ⟨v12, rfl, own12, hb12⟩
      have hz12 := hb12.size
      have hB12 := hB10.trans (hb12.mono (by omega))
      obtain ⟨z12, hW12⟩ := HB.out _ hB12
      have see12 := layProg.seen (hi := w12.heap.size) own12 fun g hg => hg.2
      replace own2 := own2.below hb12 (by omega)
      replace see10 := see10.below hb12 (by omega)
      clear hB10 hb12 own12 hcl10 hfz10 hW10
      go_wp2_with fail
      refine (hIM.out _ _ _ see12 (Nat.le_refl _) (opCells_below HC.out hW12)).mono ?_
      rintro e w13 ⟨Y13, m13, d13, rfl, own13, hb13⟩
      have hz13 := hb13.size
      have hB13 := hB12.trans (hb13.mono (by omega))
      replace own2 := own2.below hb13 (by omega)
      replace see10 := see10.below hb13 (by omega)
      obtain rfl : m2 = m13 := e2.out.trans (own_len own13).symm
      clear hB12 hb13 see12 hW12
      go_wp2_with fail
      refine (eqIntS_same (own13.seeI hNW.out) (own2.seeI hNW.out) (by omega)).mono ?_
      rintro e w14 ⟨rfl, hb14⟩
      have hz14 := hb14.size
      have hB14 := hB13.trans (hb14.mono (by omega))
      replace see10 := see10.below hb14 (by omega)
      clear hB13 hb14 own2 own13
      go_wp2_with fail
      refine (heldIntS_any (k := 1) see10 (by omega) (by omega) (by omega)).mono ?_
      rintro e w15 ⟨rfl, rfl⟩
      obtain ⟨z14, hW14⟩ := HB.out _ hB14
      go_wp2_with fail
      go_ret
      exact ⟨rfl, hW14⟩
  · go_wp2_with fail
    go_ret
    exact ⟨rfl, hW0⟩

set_option maxRecDepth 100000 in
theorem door_met (os : Os) (args : Array Value) : laidMetH Tryd.prog Rows.fnExactProgNumsRow.laid ((World.doorLaid Tryd.prog 400 os).forCall (fun _ _ => 0) ⟨#[], args, []⟩).memory :=
  laidMetH_of_parts3 (fuel := 8) (laidMet_of_run' 8 (by kernel_rfl) (by kernel_rfl)) (by kernel_rfl) (by kernel_rfl)

set_option maxRecDepth 100000 in
theorem lifted (os : Os) (started : os.Started) (H : Type) (enc : TypeId × Value → H) :
    ReturnsInHanded {} Tryd.checked os 4 .any (fun w args => (Rows.fnExactProgNumsSpec.pre enc Tryd.prog Tryd.f4 [] false w args ∧ laidMetH Tryd.prog Rows.fnExactProgNumsRow.laid w) ∧ sizedMet enc Tryd.prog Tryd.f4 (OpenSpec.ofChange Rows.fnExactProgNumsSpec) false w args) (Rows.fnExactProgNumsSpec.post enc Tryd.prog Tryd.f4 false true false false) := by
  refine returnsInHanded_of_change_and (C := Tryd.checked) (X := fun w _ => laidMetH Tryd.prog Rows.fnExactProgNumsRow.laid w) (fun _ _ _ hh h => h.of_heap hh) own started (by kernel_rfl) Tryd.func4
    (ChangeSpec.witness_shaped (enc := enc) (C := Tryd.checked) (os := os) (X := fun w _ => laidMetH Tryd.prog Rows.fnExactProgNumsRow.laid w) false (World.doorLaid Tryd.prog 400 os) #[.agg #[.slice none 0 0, .int .i64 0, .slice none 0 0, .slice none 0 0]] 8 rfl (World.shaped_of_RefB (by kernel_rfl) (by kernel_rfl)) (by kernel_rfl) (by kernel_rfl) (by kernel_rfl) (door_met os _)) ?_
  intro W base args ds gs before hval0 hW _ _ hL _
  have hval : ∀ (j : Nat) t v, Tryd.f4.params[j]? = some t → args[j]? = some v → Value.okWide Tryd.prog W .any base t v := hval0
  have hW' := hW
  obtain ⟨p, q, hA0, hV, rfl, hfz, hnd⟩ := hW
  have hA : DataW.TrodAll enc Tryd.prog W 0 (fun _ => true) true Tryd.f4.params.toList args.toList ds p := hA0
  rw [Tryd.params4] at hA hval
  obtain ⟨v0, vs0, d0, ds0, p0, q0, hargs, rfl, rfl, h0, r0⟩ := trodAll_cons hA
  obtain ⟨rfl, rfl, rfl⟩ := trodAll_nil r0
  obtain rfl : args = #[v0] := by cases args; simp_all
  have hV' := hV
  obtain ⟨_, _, _, _, g1, _, rfl, _⟩ := trodVars_one hV
  obtain ⟨cs0, rfl, _⟩ := okWide_struct Tryd.underlying26 (hval 0 26 v0 rfl rfl)
  obtain ⟨vc0, rfl⟩ : ∃ l : List Value, cs0 = l.toArray := ⟨cs0.toList, by simp⟩
  have k0 := h0
  have lt0 : ∀ x ∈ p0, x.block < W.heap.size := by obtain ⟨m, hm⟩ := k0; exact DataW.trod_lt m _ _ _ hm
  obtain ⟨x0, s0'⟩ := (opensProg).arg h0
  have s0 : layProg.see W W.heap.size x0 vc0 := by simpa [Value.cells] using s0'
  clear hA0 hval0
  refine (walk W x0 _ s0 (opCells_of (opTab_of_laid hL))).mono fun e W' ⟨he, bel⟩ => ?_
  subst he
  exact ⟨_, rfl, _, _, _, [], _, _, hW', trodAll_mk1 (shut_bool Tryd.underlying4 _), (trodAll_cons_mk (Below.trod laidOut (by kernel_rfl) (of_decide_eq_true (by kernel_rfl)) k0 bel lt0) trodAll_mk0), bel.trodVars laidOut (by kernel_rfl) hV', bel.frame _, fun h => by cases h⟩

theorem over : Rows.fnExactProgNumsRow.holds Tryd.pinned (OpenSpec.ofChange Rows.fnExactProgNumsSpec) :=
  OpenClaim.holds_of_wide 4 Tryd.f4 rfl rfl rfl rfl rfl rfl rfl ⟨rfl, rfl, rfl, rfl, rfl⟩ rfl rfl rfl rfl rfl (by kernel_rfl) Tryd.func4 (by kernel_rfl)
    (of_decide_eq_true (by kernel_rfl)) (by unfold Func.isWrapper; first | (rw [if_pos (by decide +kernel)]; kernel_rfl) | (rw [if_neg (by decide +kernel)]; exact ⟨rfl, rfl⟩))
    (fun os started H enc _ => lifted os started H enc)

theorem proved : Rows.FnExactProgNumsCardSaid :=
  Claim7.holds_tied_plain_at .later [] [.data] true (true, "36ddea35d77643d8c56540aefd40167efa428ed0bee976f2e56e1ef9aed1e2fb") false
    over (fun _ h => by cases h) (by kernel_rfl) (fun _ h => by cases h) fnExactProgNums_row_tie rfl ⟨rfl, rfl⟩ (by kernel_rfl) rfl
    (fun f fn hf hfn => by
      obtain rfl : f = 4 := Option.some.inj ((show Tryd.prog.funcNamed "loop.example/g00679/laws.FnExactProgNums" = some 4 by kernel_rfl).symm.trans hf) |>.symm
      obtain rfl : fn = Tryd.f4 := (Option.some.inj (Tryd.func4.symm.trans hfn)).symm
      exact ⟨by kernel_rfl, fun j t ht => by
        rw [Tryd.params4] at ht
        rcases j with _ | j
        · have ht' : t = 26 := by simpa using ht.symm
          subst ht'
          exact (show Tryd.prog.wantsStandIn 26 = false by kernel_rfl)
        simp at ht
      ⟩)
    (by kernel_rfl)
#print axioms proved
end Go.Proofs.YtikcoplihfoiiaaDoor.fnExactProgNums
