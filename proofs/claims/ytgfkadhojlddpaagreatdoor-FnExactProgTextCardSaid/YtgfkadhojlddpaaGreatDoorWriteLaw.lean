/- For every program of at most 2^20 parts, ProgText answers as its model; it writes into no argument. -/
import Derived.Test.YtgfkadhojlddpaaGreatDoorRows
import Derived.WalkKit
import Derived.Test.YtgfkadhojlddpaaGreatDoorCards
import Derived.Test.YtgfkadhojlddpaaGreatDoorTie
import Derived.Lib.LaidTab
import Derived.SevenTiedAt
import Derived.Stop.Joined
import Derived.LaidMore
import Derived.ChangeVars
import Derived.OpenVars
import Derived.Test.YtgfkadhojlddpaaGreatDoorWriteI
import Derived.Test.YtgfkadhojlddpaaGreatDoorWriteS
import Derived.Test.YtgfkadhojlddpaaGreatDoorLaidIn
import Derived.Test.YtgfkadhojlddpaaGreatDoorGDProg
import Derived.Lib.Hide
import Derived.ProofKit
import Derived.OpenShut
import Derived.ShutString
import Derived.ChangeOld
import Derived.Below
namespace Go.Proofs.YtgfkadhojlddpaaGreatDoor.fnExactProgText
open Go.ChangeShapes Go.WideShapes Go.ChangeAt Go.RowKit
open Go.ChangeMaps (open_string shut_string)
set_option linter.unusedVariables false
set_option linter.unusedSimpArgs false

theorem own : ownKnob Tryz.prog.godebug = none := by kernel_rfl
theorem laidOut : laidOutB Tryz.prog = true := by kernel_rfl

set_option maxRecDepth 100000 in
set_option maxHeartbeats 4000000 in
theorem walk (w : World) (x0 : DProg) (vs0 : List Value) (s0 : layProg.see w w.heap.size x0 vs0) (hC : Tabs w) :
    Calls Tryz.prog 3 #[.agg vs0.toArray] w fun e w' => e = .returned (.bool true) ∧ Below w.heap.size w w' := by
  obtain ⟨A0, n0, c0, A2, n2, c2, A3, n3, c3, rfl, -⟩ := seeProg s0
  have HC := Lib.hid hC
  clear hC
  have HS := Lib.hid (fun (W : World) (hW : Below (w.heap.size + 1) (w.alloc (.cells #[.slice A0 n0 c0, .int .i64 x0.fMus, .slice A2 n2 c2, .slice A3 n3 c3] 26)) W) => show layProg.see W w.heap.size x0 [.slice A0 n0 c0, .int .i64 x0.fMus, .slice A2 n2 c2, .slice A3 n3 c3] from layProg.keep s0 fun k hk => (hW.block k (by omega)).trans (Below.heap_alloc w _ k hk))
  have HB := Lib.hid (fun (W : World) (hW : Below (w.heap.size + 1) (w.alloc (.cells #[.slice A0 n0 c0, .int .i64 x0.fMus, .slice A2 n2 c2, .slice A3 n3 c3] 26)) W) => show w.heap.size + 1 ≤ W.heap.size ∧ Below w.heap.size w W from ⟨by simpa using hW.size, ((Below.refl _ _).alloc (Nat.le_refl _) _).trans (hW.mono (by omega))⟩)
  clear s0
  have hB0 : Below (w.heap.size + 1) (w.alloc (.cells #[.slice A0 n0 c0, .int .i64 x0.fMus, .slice A2 n2 c2, .slice A3 n3 c3] 26)) (w.alloc (.cells #[.slice A0 n0 c0, .int .i64 x0.fMus, .slice A2 n2 c2, .slice A3 n3 c3] 26)) := Below.refl _ _
  have hl : w.heap.size < w.heap.size + 1 := by omega
  go_enter Tryz.func3, Tryz.ntmps3
  go_wp2_with fail
  refine (szProg_any (l := 1048576) (HS.out _ hB0) (by simp) (Nat.le_refl _)).mono ?_
  rintro e w0 ⟨hb0, hcase⟩
  replace hB0 := hB0.trans (hb0.mono (by simp))
  obtain ⟨z0, hW0⟩ := HB.out _ hB0
  obtain ⟨hcl0, hfz0⟩ := bcell hB0
  have hl0 : w.heap.size < w0.heap.size := by omega
  clear hb0
  rcases hcase with ⟨hle, rfl⟩ | ⟨hle, rfl⟩
  · go_wp2_with fail
    refine (toProg_any (HS.out _ hB0) (by omega) hle).mono ?_
    rintro e w1 ⟨v1, rfl, own1, hb1⟩
    have hB1 := hB0.trans (hb1.mono z0)
    obtain ⟨z1, hW1⟩ := HB.out _ hB1
    obtain ⟨hcl1, hfz1⟩ := bcell hB1
    have hl1 : w.heap.size < w1.heap.size := by omega
    have see1 := layProg.seen (hi := w1.heap.size) own1 fun g hg => hg.2
    clear hB0 hb1 own1 hcl0 hfz0 hW0
    go_wp2_with fail
    refine (specProgText_any see1 (Nat.le_refl _) hle).mono ?_
    rintro e w2 ⟨rfl, hb2⟩
    have hB2 := hB1.trans (hb2.mono (by omega))
    obtain ⟨z2, hW2⟩ := HB.out _ hB2
    obtain ⟨hcl2, hfz2⟩ := bcell hB2
    have hl2 : w.heap.size < w2.heap.size := by omega
    clear hB1 hb2 see1 hcl1 hfz1 hW1
    go_wp2_with fail
    refine (toProg_any (HS.out _ hB2) (by omega) hle).mono ?_
    rintro e w3 ⟨v3, rfl, own3, hb3⟩
    have hB3 := hB2.trans (hb3.mono z2)
    obtain ⟨z3, hW3⟩ := HB.out _ hB3
    obtain ⟨hcl3, hfz3⟩ := bcell hB3
    have hl3 : w.heap.size < w3.heap.size := by omega
    have see3 := layProg.seen (hi := w3.heap.size) own3 fun g hg => hg.2
    clear hB2 hb3 own3 hcl2 hfz2 hW2
    obtain ⟨E0, e0, f0, E2, e2, f2, E3, e3, f3, rfl, -⟩ := seeProg see3
    have hD0 : Below w3.heap.size w3 (w3.alloc (.cells #[.slice E0 e0 f0, .int .i64 x0.fMus, .slice E2 e2 f2, .slice E3 e3 f3] 32)) := (Below.refl _ _).alloc (Nat.le_refl _) _
    have hX0 : Below (w3.heap.size + 1) (w3.alloc (.cells #[.slice E0 e0 f0, .int .i64 x0.fMus, .slice E2 e2 f2, .slice E3 e3 f3] 32)) (w3.alloc (.cells #[.slice E0 e0 f0, .int .i64 x0.fMus, .slice E2 e2 f2, .slice E3 e3 f3] 32)) := Below.refl _ _
    replace hB3 := hB3.trans (hD0.mono z3)
    replace hW3 := hW3.trans (hD0.mono (by omega))
    replace see3 := layProg.keep see3 fun k hk => hD0.block k hk
    go_wp2_with fail
    refine (implProgText_any see3 (by simp) hle (HC.out.below hW3 (Nat.le_refl _))).mono ?_
    rintro e w4 ⟨rfl, hb4⟩
    replace hX0 := hX0.trans (hb4.mono (by simp))
    replace see3 := layProg.keep see3 fun k hk => hb4.block k (by simp; omega)
    have hB4 := hB3.trans (hb4.mono (by simp; omega))
    obtain ⟨z4, hW4⟩ := HB.out _ hB4
    obtain ⟨hcl4, hfz4⟩ := bcell hB4
    obtain ⟨hxl4, hxf4⟩ := bcell hX0
    have hl4 : w.heap.size < w4.heap.size := by omega
    have hx4 : w3.heap.size < w4.heap.size := by have := hX0.size; simp at this; omega
    have hx3 : w3.heap.size < w3.heap.size + 1 := by omega
    clear hB3 hb4 hcl3 hfz3 hW3 hD0
    have hbb : (progText x0 != progText x0) = false := by simp
    have HT := Lib.hid (fun (W : World) (hW : Below w4.heap.size w4 W) => toProg_any (HS.out W (hB4.trans (hW.mono (by omega)))) (by have := hW.size; omega) hle)
    have HQ := Lib.hid (fun (W : World) (hW : Below w4.heap.size w4 W) (v5 : List Value) (own5 : layProg.own W (fun g => w4.heap.size ≤ g ∧ g < W.heap.size) x0 v5) => eqProg_same (layProg.keep see3 fun k hk => hW.block k (by omega)) (layProg.seen (hi := W.heap.size) own5 fun g hg => hg.2) (by have := hW.size; omega) (Nat.le_refl _) hle)
    go_wp2_with fail
    go_region_with (first | (go_at_call 8; refine (HT.out w4.drew ⟨rfl, rfl, rfl, Nat.le_refl _, fun _ _ => rfl⟩).mono ?_; rintro e w5 ⟨v5, rfl, own5, hb5⟩; have hY5 : Below w4.heap.size w4 w5 := ⟨hb5.os, hb5.tape, hb5.output, hb5.size, hb5.block⟩; have HO5 := Lib.hid own5; clear own5 hb5; obtain ⟨hyl5, hyf5⟩ := bcell hY5; have hl5 : w.heap.size < w5.heap.size := Nat.lt_of_lt_of_le hl4 hY5.size) | (go_at_call 10; refine (HQ.out w5 hY5 v5 HO5.out).mono ?_; rintro e w6 ⟨rfl, hb6⟩))
    all_goals
      have hB6 := hW4.trans ((hY5.mono (show w.heap.size ≤ w4.heap.size by omega)).trans (hb6.mono (by omega)))
      go_wp2_with fail
      go_ret
      exact ⟨rfl, hB6⟩
  · go_wp2_with fail
    go_ret
    exact ⟨rfl, hW0⟩

set_option maxRecDepth 100000 in
theorem door_met (os : Os) (args : Array Value) : laidMetH Tryz.prog Rows.fnExactProgTextRow.laid ((World.doorLaid Tryz.prog 400 os).forCall (fun _ _ => 0) ⟨#[], args, []⟩).memory :=
  laidMetH_of_parts3 (fuel := 8) (laidMet_of_run' 8 (by kernel_rfl) (by kernel_rfl)) (by kernel_rfl) (by kernel_rfl)

set_option maxRecDepth 100000 in
theorem lifted (os : Os) (started : os.Started) (H : Type) (enc : TypeId × Value → H) :
    ReturnsInHanded {} Tryz.checked os 3 .any (fun w args => (Rows.fnExactProgTextSpec.pre enc Tryz.prog Tryz.f3 [] false w args ∧ laidMetH Tryz.prog Rows.fnExactProgTextRow.laid w) ∧ sizedMet enc Tryz.prog Tryz.f3 (OpenSpec.ofChange Rows.fnExactProgTextSpec) false w args) (Rows.fnExactProgTextSpec.post enc Tryz.prog Tryz.f3 false true false false) := by
  refine returnsInHanded_of_change_and (C := Tryz.checked) (X := fun w _ => laidMetH Tryz.prog Rows.fnExactProgTextRow.laid w) (fun _ _ _ hh h => h.of_heap hh) own started (by kernel_rfl) Tryz.func3
    (ChangeSpec.witness_shaped (enc := enc) (C := Tryz.checked) (os := os) (X := fun w _ => laidMetH Tryz.prog Rows.fnExactProgTextRow.laid w) false (World.doorLaid Tryz.prog 400 os) #[.agg #[.slice none 0 0, .int .i64 0, .slice none 0 0, .slice none 0 0]] 8 rfl (World.shaped_of_RefB (by kernel_rfl) (by kernel_rfl)) (by kernel_rfl) (by kernel_rfl) (by kernel_rfl) (door_met os _)) ?_
  intro W base args ds gs before hval0 hW _ _ hL _
  have hval : ∀ (j : Nat) t v, Tryz.f3.params[j]? = some t → args[j]? = some v → Value.okWide Tryz.prog W .any base t v := hval0
  have hW' := hW
  obtain ⟨p, q, hA0, hV, rfl, hfz, hnd⟩ := hW
  have hA : DataW.TrodAll enc Tryz.prog W 0 (fun _ => true) true Tryz.f3.params.toList args.toList ds p := hA0
  rw [Tryz.params3] at hA hval
  obtain ⟨v0, vs0, d0, ds0, p0, q0, hargs, rfl, rfl, h0, r0⟩ := trodAll_cons hA
  obtain ⟨rfl, rfl, rfl⟩ := trodAll_nil r0
  obtain rfl : args = #[v0] := by cases args; simp_all
  have hV' := hV
  obtain ⟨_, _, _, _, g1, _, rfl, _⟩ := trodVars_one hV
  obtain ⟨cs0, rfl, _⟩ := okWide_struct Tryz.underlying26 (hval 0 26 v0 rfl rfl)
  obtain ⟨vc0, rfl⟩ : ∃ l : List Value, cs0 = l.toArray := ⟨cs0.toList, by simp⟩
  have k0 := h0
  have lt0 : ∀ x ∈ p0, x.block < W.heap.size := by obtain ⟨m, hm⟩ := k0; exact DataW.trod_lt m _ _ _ hm
  obtain ⟨x0, s0'⟩ := (opensProg).arg h0
  have s0 : layProg.see W W.heap.size x0 vc0 := by simpa [Value.cells] using s0'
  clear hA0 hval0
  refine (walk W x0 _ s0 (laid_text hL)).mono fun e W' ⟨he, bel⟩ => ?_
  subst he
  exact ⟨_, rfl, _, _, _, [], _, _, hW', trodAll_mk1 (shut_bool Tryz.underlying4 _), (trodAll_cons_mk (Below.trod laidOut (by kernel_rfl) (of_decide_eq_true (by kernel_rfl)) k0 bel lt0) trodAll_mk0), bel.trodVars laidOut (by kernel_rfl) hV', bel.frame _, fun h => by cases h⟩

theorem over : Rows.fnExactProgTextRow.holds Tryz.pinned (OpenSpec.ofChange Rows.fnExactProgTextSpec) :=
  OpenClaim.holds_of_wide 3 Tryz.f3 rfl rfl rfl rfl rfl rfl rfl ⟨rfl, rfl, rfl, rfl, rfl⟩ rfl rfl rfl rfl rfl (by kernel_rfl) Tryz.func3 (by kernel_rfl)
    (of_decide_eq_true (by kernel_rfl)) (by unfold Func.isWrapper; first | (rw [if_pos (by decide +kernel)]; kernel_rfl) | (rw [if_neg (by decide +kernel)]; exact ⟨rfl, rfl⟩))
    (fun os started H enc _ => lifted os started H enc)

theorem proved : Rows.FnExactProgTextCardSaid :=
  Claim7.holds_tied_plain_at .later [] [.data, .data, .data, .data] true (true, "e466181221deef6e34523c6bb023814789354f1e5f0f63156e1347b8e485b2f2") false
    over (fun _ h => by cases h) (by kernel_rfl) (fun _ h => by cases h) fnExactProgText_row_tie rfl ⟨rfl, rfl⟩ (by kernel_rfl) rfl
    (fun f fn hf hfn => by
      obtain rfl : f = 3 := Option.some.inj ((show Tryz.prog.funcNamed "loop.example/g00679/laws.FnExactProgText" = some 3 by kernel_rfl).symm.trans hf) |>.symm
      obtain rfl : fn = Tryz.f3 := (Option.some.inj (Tryz.func3.symm.trans hfn)).symm
      exact ⟨by kernel_rfl, fun j t ht => by
        rw [Tryz.params3] at ht
        rcases j with _ | j
        · have ht' : t = 26 := by simpa using ht.symm
          subst ht'
          exact (show Tryz.prog.wantsStandIn 26 = false by kernel_rfl)
        simp at ht
      ⟩)
    (by kernel_rfl)
#print axioms proved
end Go.Proofs.YtgfkadhojlddpaaGreatDoor.fnExactProgText
