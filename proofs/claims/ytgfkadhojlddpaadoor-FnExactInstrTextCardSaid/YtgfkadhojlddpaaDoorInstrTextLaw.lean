/- For every instruction, InstrText answers as its model. -/
import Derived.Test.YtgfkadhojlddpaaDoorRows
import Derived.WalkKit
import Derived.Test.YtgfkadhojlddpaaDoorCards
import Derived.Test.YtgfkadhojlddpaaDoorTie
import Derived.Lib.LaidTab
import Derived.SevenTiedAt
import Derived.Stop.Joined
import Derived.LaidMore
import Derived.ChangeVars
import Derived.OpenVars
import Derived.Test.YtgfkadhojlddpaaDoorInstrTextI
import Derived.Test.YtgfkadhojlddpaaDoorInstrTextS
import Derived.Test.YtgfkadhojlddpaaDoorLaidIn
import Derived.Test.YtgfkadhojlddpaaDoorGDProg
import Derived.Lib.Hide
import Derived.ProofKit
import Derived.OpenShut
import Derived.ShutString
import Derived.ChangeOld
import Derived.Below
namespace Go.Proofs.YtgfkadhojlddpaaDoor.fnExactInstrText
open Go.ChangeShapes Go.WideShapes Go.ChangeAt Go.RowKit
open Go.ChangeMaps (open_string shut_string)
set_option linter.unusedVariables false
set_option linter.unusedSimpArgs false

theorem own : ownKnob Tryd.prog.godebug = none := by kernel_rfl
theorem laidOut : laidOutB Tryd.prog = true := by kernel_rfl

set_option maxRecDepth 100000 in
set_option maxHeartbeats 4000000 in
theorem walk (w : World) (x0 : DInstr) (vs0 : List Value) (s0 : layInstr.see w w.heap.size x0 vs0) (hC : Tabs w) :
    Calls Tryd.prog 3 #[.agg vs0.toArray] w fun e w' => e = .returned (.bool true) ∧ Below w.heap.size w w' := by
  obtain ⟨rfl, hw0⟩ := s0
  obtain ⟨op, a, b, c⟩ := x0
  have HC := Lib.hid hC
  have HW := Lib.hid hw0
  clear hC hw0
  show Calls Tryd.prog 3 #[.agg #[.int .i64 op, .int .i64 a, .int .i64 b, .int .i64 c]] w _
  have hB0 : Below w.heap.size w (w.alloc (.cells #[.int .i64 op, .int .i64 a, .int .i64 b, .int .i64 c] 23)) := (Below.refl _ _).alloc (Nat.le_refl _) _
  have z0 : w.heap.size ≤ (w.alloc (.cells #[.int .i64 op, .int .i64 a, .int .i64 b, .int .i64 c] 23)).heap.size := hB0.size
  have HTI := Lib.hid (fun W : World => show Calls Tryd.prog 9 #[.agg #[.int .i64 op, .int .i64 a, .int .i64 b, .int .i64 c]] W (MadeL layInstr W ⟨op, a, b, c⟩) from toInstr_any (hi := W.heap.size) (x := ⟨op, a, b, c⟩) (vs := [.int .i64 op, .int .i64 a, .int .i64 b, .int .i64 c]) ⟨rfl, HW.out⟩)
  go_enter Tryd.func3, Tryd.ntmps3
  go_wp2_with fail
  refine (HTI.out _).mono ?_
  rintro e w1 ⟨v1, rfl, ⟨rfl, -⟩, hb1⟩
  have hW1 := hB0.trans (hb1.mono z0)
  have HX1 := Lib.hid (box_keep (box_new w #[.int .i64 op, .int .i64 a, .int .i64 b, .int .i64 c] 23) hb1 (by simp))
  clear hb1
  go_wp2_with fail
  refine (specInstrText_any op a b c _).mono ?_
  rintro e w2 ⟨rfl, hb2⟩
  have hW2 := hW1.trans (hb2.mono hW1.size)
  have hx2 := box_keep HX1.out hb2 (lt_of_block HX1.out)
  have c0 := box_cell (j := 0) hx2 rfl
  have c1 := box_cell (j := 1) hx2 rfl
  have c2 := box_cell (j := 2) hx2 rfl
  have c3 := box_cell (j := 3) hx2 rfl
  clear hb2 hx2
  go_wp2_with fail
  refine (HTI.out _).mono ?_
  rintro e w3 ⟨v3, rfl, ⟨rfl, -⟩, hb3⟩
  have hW3 := hW2.trans (hb3.mono hW2.size)
  clear hb3 c0 c1 c2 c3
  go_wp2_with fail
  refine (implInstrText_any op a b c _ (HC.out.below hW3 (Nat.le_refl _)) ⟨HW.out.2.1, HW.out.2.2.1, HW.out.2.2.2⟩).mono ?_
  rintro e w4 ⟨rfl, hb4⟩
  have hW4 := hW3.trans (hb4.mono hW3.size)
  have hbb : (instrText op a b c != instrText op a b c) = false := by simp
  clear hb4
  go_wp2_with fail
  go_ret
  exact ⟨rfl, hW4⟩

set_option maxRecDepth 100000 in
theorem door_met (os : Os) (args : Array Value) : laidMetH Tryd.prog Rows.fnExactInstrTextRow.laid ((World.doorLaid Tryd.prog 400 os).forCall (fun _ _ => 0) ⟨#[], args, []⟩).memory :=
  laidMetH_of_parts3 (fuel := 8) (laidMet_of_run' 8 (by kernel_rfl) (by kernel_rfl)) (by kernel_rfl) (by kernel_rfl)

set_option maxRecDepth 100000 in
theorem lifted (os : Os) (started : os.Started) (H : Type) (enc : TypeId × Value → H) :
    ReturnsInHanded {} Tryd.checked os 3 .any (fun w args => (Rows.fnExactInstrTextSpec.pre enc Tryd.prog Tryd.f3 [] false w args ∧ laidMetH Tryd.prog Rows.fnExactInstrTextRow.laid w) ∧ sizedMet enc Tryd.prog Tryd.f3 (OpenSpec.ofChange Rows.fnExactInstrTextSpec) false w args) (Rows.fnExactInstrTextSpec.post enc Tryd.prog Tryd.f3 false true false false) := by
  refine returnsInHanded_of_change_and (C := Tryd.checked) (X := fun w _ => laidMetH Tryd.prog Rows.fnExactInstrTextRow.laid w) (fun _ _ _ hh h => h.of_heap hh) own started (by kernel_rfl) Tryd.func3
    (ChangeSpec.witness_shaped (enc := enc) (C := Tryd.checked) (os := os) (X := fun w _ => laidMetH Tryd.prog Rows.fnExactInstrTextRow.laid w) false (World.doorLaid Tryd.prog 400 os) #[.agg #[.int .i64 0, .int .i64 0, .int .i64 0, .int .i64 0]] 8 rfl (World.shaped_of_RefB (by kernel_rfl) (by kernel_rfl)) (by kernel_rfl) (by kernel_rfl) (by kernel_rfl) (door_met os _)) ?_
  intro W base args ds gs before hval0 hW _ _ hL _
  have hval : ∀ (j : Nat) t v, Tryd.f3.params[j]? = some t → args[j]? = some v → Value.okWide Tryd.prog W .any base t v := hval0
  have hW' := hW
  obtain ⟨p, q, hA0, hV, rfl, hfz, hnd⟩ := hW
  have hA : DataW.TrodAll enc Tryd.prog W 0 (fun _ => true) true Tryd.f3.params.toList args.toList ds p := hA0
  rw [Tryd.params3] at hA hval
  obtain ⟨v0, vs0, d0, ds0, p0, q0, hargs, rfl, rfl, h0, r0⟩ := trodAll_cons hA
  obtain ⟨rfl, rfl, rfl⟩ := trodAll_nil r0
  obtain rfl : args = #[v0] := by cases args; simp_all
  have hV' := hV
  obtain ⟨_, _, _, _, g1, _, rfl, _⟩ := trodVars_one hV
  obtain ⟨cs0, rfl, _⟩ := okWide_struct Tryd.underlying23 (hval 0 23 v0 rfl rfl)
  obtain ⟨vc0, rfl⟩ : ∃ l : List Value, cs0 = l.toArray := ⟨cs0.toList, by simp⟩
  have k0 := h0
  have lt0 : ∀ x ∈ p0, x.block < W.heap.size := by obtain ⟨m, hm⟩ := k0; exact DataW.trod_lt m _ _ _ hm
  obtain ⟨x0, s0'⟩ := (opensInstr).arg h0
  have s0 : layInstr.see W W.heap.size x0 vc0 := by simpa [Value.cells] using s0'
  clear hA0 hval0
  refine (walk W x0 _ s0 (laid_text hL)).mono fun e W' ⟨he, bel⟩ => ?_
  subst he
  exact ⟨_, rfl, _, _, _, [], _, _, hW', trodAll_mk1 (shut_bool Tryd.underlying4 _), (trodAll_cons_mk (Below.trod laidOut (by kernel_rfl) (of_decide_eq_true (by kernel_rfl)) k0 bel lt0) trodAll_mk0), bel.trodVars laidOut (by kernel_rfl) hV', bel.frame _, fun h => by cases h⟩

theorem over : Rows.fnExactInstrTextRow.holds Tryd.pinned (OpenSpec.ofChange Rows.fnExactInstrTextSpec) :=
  OpenClaim.holds_of_wide 3 Tryd.f3 rfl rfl rfl rfl rfl rfl rfl ⟨rfl, rfl, rfl, rfl, rfl⟩ rfl rfl rfl rfl rfl (by kernel_rfl) Tryd.func3 (by kernel_rfl)
    (of_decide_eq_true (by kernel_rfl)) (by unfold Func.isWrapper; first | (rw [if_pos (by decide +kernel)]; kernel_rfl) | (rw [if_neg (by decide +kernel)]; exact ⟨rfl, rfl⟩))
    (fun os started H enc _ => lifted os started H enc)

theorem proved : Rows.FnExactInstrTextCardSaid :=
  Claim7.holds_tied_plain_at .later [] [.data, .data, .data, .data] true (true, "8d8fa13fe9e61912b1cd07b5fd58b60a8be084ef019df55bfe92f9b0a2206233") false
    over (fun _ h => by cases h) (by kernel_rfl) (fun _ h => by cases h) fnExactInstrText_row_tie rfl ⟨rfl, rfl⟩ (by kernel_rfl) rfl
    (fun f fn hf hfn => by
      obtain rfl : f = 3 := Option.some.inj ((show Tryd.prog.funcNamed "loop.example/g00679/laws.FnExactInstrText" = some 3 by kernel_rfl).symm.trans hf) |>.symm
      obtain rfl : fn = Tryd.f3 := (Option.some.inj (Tryd.func3.symm.trans hfn)).symm
      exact ⟨by kernel_rfl, fun j t ht => by
        rw [Tryd.params3] at ht
        rcases j with _ | j
        · have ht' : t = 23 := by simpa using ht.symm
          subst ht'
          exact (show Tryd.prog.wantsStandIn 23 = false by kernel_rfl)
        simp at ht
      ⟩)
    (by kernel_rfl)
#print axioms proved
end Go.Proofs.YtgfkadhojlddpaaDoor.fnExactInstrText
