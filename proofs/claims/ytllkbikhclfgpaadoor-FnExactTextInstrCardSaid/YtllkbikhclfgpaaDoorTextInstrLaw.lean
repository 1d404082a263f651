/- For every text, the law FnExactTextInstr answers true and changes nothing that was there: the program reads an instruction from a text just where, and as, the model does. Conditions: the listed package-level variables hold what the program lays in them. -/
import Derived.Test.YtllkbikhclfgpaaDoorRows
import Derived.WalkKit
import Derived.Test.YtllkbikhclfgpaaDoorCards
import Derived.Test.YtllkbikhclfgpaaDoorTie
import Derived.Lib.LaidTab
import Derived.SevenTiedAt
import Derived.Stop.Joined
import Derived.LaidMore
import Derived.ChangeOld
import Derived.Below
import Derived.ChangeVars
import Derived.OpenVars
import Derived.Lay
import Derived.Test.YtllkbikhclfgpaaDoorDInstr
import Derived.Test.YtllkbikhclfgpaaDoorBase
import Derived.Test.YtllkbikhclfgpaaDoorReadTabs
import Derived.Test.YtllkbikhclfgpaaDoorReadInstrI
import Derived.Test.YtllkbikhclfgpaaDoorTextInstrS
import Derived.ProofKit
import Derived.OpenShut
import Derived.ShutString
namespace Go.Proofs.YtllkbikhclfgpaaDoor.fnExactTextInstr
open Go.ChangeShapes Go.WideShapes Go.ChangeAt Go.RowKit
open Go.ChangeMaps (open_string shut_string)
set_option linter.unusedVariables false

theorem own : ownKnob Tryd.prog.godebug = none := by kernel_rfl

theorem laidOut : laidOutB Tryd.prog = true := by kernel_rfl

theorem walk (a0 : ByteArray) (w0 : a0.size ≤ maxLen) (w : World) (hL : TabsR w) :
    Calls Tryd.prog 4 #[.string a0] w fun e w' => e = .returned (.bool true) ∧ Below w.heap.size w w' := by
  have HT := Lib.hid hL
  clear hL
  by_cases hbig : a0.size ≤ 1048576
  · have HS := Lib.hid (specTextInstr_any a0 w hbig)
    have HI := Lib.hid (fun (W : World) (hW : Below w.heap.size w W) => implTextInstr_any a0 W hbig (HT.out.below hW (Nat.le_refl _)))
    generalize textInstr a0.data.toList = r at *
    obtain ⟨⟨op, a, b, c⟩, ok⟩ := r
    have HE := Lib.hid (fun W : World => show Calls Tryd.prog 12 #[.agg #[.int .i64 op, .int .i64 a, .int .i64 b, .int .i64 c], .agg #[.int .i64 op, .int .i64 a, .int .i64 b, .int .i64 c]] W (SaysTrue W) from eqInstr_same (w := W) ⟨op, a, b, c⟩)
    go_enter Tryd.func4, Tryd.ntmps4
    go_wp2_with fail
    refine HS.out.mono ?_
    rintro e w1 ⟨rfl, hb1⟩
    have hW1 : Below w.heap.size w (w1.alloc (.cells #[.int .i64 op, .int .i64 a, .int .i64 b, .int .i64 c] 25)) := hb1.alloc hb1.size _
    have HB1 := Lib.hid (box_new w1 #[.int .i64 op, .int .i64 a, .int .i64 b, .int .i64 c] 25)
    clear hb1
    go_wp2_with fail
    refine (HI.out _ hW1).mono ?_
    rintro e w2 ⟨rfl, hb2⟩
    have hx2 := box_keep HB1.out hb2 (lt_of_block HB1.out)
    have hW2 : Below w.heap.size w (w2.alloc (.cells #[.int .i64 op, .int .i64 a, .int .i64 b, .int .i64 c] 25)) := (hW1.trans (hb2.mono hW1.size)).alloc (Nat.le_trans hW1.size hb2.size) _
    have hl2 := lt_of_block hx2
    have c0 := box_cell (j := 0) hx2 rfl
    have c1 := box_cell (j := 1) hx2 rfl
    have c2 := box_cell (j := 2) hx2 rfl
    have c3 := box_cell (j := 3) hx2 rfl
    clear hb2 hx2
    go_wp2_with fail
    refine (HE.out _).mono ?_
    rintro e w3 ⟨rfl, hb3⟩
    have hW3 := hW2.trans (hb3.mono hW2.size)
    have hbb : (ok != ok) = false := by simp
    clear hb3 c0 c1 c2 c3 hl2
    go_wp2_with fail
    go_ret
    exact ⟨rfl, hW3⟩
  · go_enter Tryd.func4, Tryd.ntmps4
    go_wp2_with fail
    go_ret
    exact ⟨rfl, Below.refl _ _⟩

set_option maxRecDepth 100000 in
theorem lifted (os : Os) (started : os.Started) (H : Type) (enc : TypeId × Value → H) :
    ReturnsInHanded {} Tryd.checked os 4 .any (fun w args => (Rows.fnExactTextInstrSpec.pre enc Tryd.prog Tryd.f4 [] false w args ∧ laidMetH Tryd.prog Rows.fnExactTextInstrRow.laid w) ∧ sizedMet enc Tryd.prog Tryd.f4 (OpenSpec.ofChange Rows.fnExactTextInstrSpec) false w args) (Rows.fnExactTextInstrSpec.post enc Tryd.prog Tryd.f4 false true false false) := by
  refine returnsInHanded_of_change_both (C := Tryd.checked) (X := fun w _ => laidMetH Tryd.prog Rows.fnExactTextInstrRow.laid w) (fun _ _ _ hh h => h.of_heap hh) own started (by kernel_rfl) Tryd.func4
    (ChangeSpec.witness_shaped (enc := enc) (C := Tryd.checked) (os := os) (X := fun w _ => laidMetH Tryd.prog Rows.fnExactTextInstrRow.laid w) false (World.laidAll Tryd.prog os Rows.fnExactTextInstrRow.laid) #[.string ByteArray.empty] 8 (World.laidAll_os _ _ _) (World.shaped_of_ZipB (by kernel_rfl) (by kernel_rfl)) (by kernel_rfl) (by kernel_rfl) (by kernel_rfl) (by rw [MakeChecks.laidMetH_plain _ _ _ (by kernel_rfl)]; exact laidMet_laidAll _ (by kernel_rfl) (by kernel_rfl))) ?_
  intro W base args ds gs before hval0 hW hsh hL
  have hval : ∀ (j : Nat) t v, Tryd.f4.params[j]? = some t → args[j]? = some v → Value.okWide Tryd.prog W .any base t v := hval0
  have hW' := hW
  obtain ⟨p, q, hA0, hV, rfl, hfz, hnd⟩ := hW
  have hA : DataW.TrodAll enc Tryd.prog W 0 (fun _ => true) true Tryd.f4.params.toList args.toList ds p := hA0
  rw [Tryd.params4] at hA hval
  obtain ⟨v0, vs0, d0, ds0, p0, q0, hargs, rfl, rfl, h0, r0⟩ := trodAll_cons hA
  obtain ⟨rfl, rfl, rfl⟩ := trodAll_nil r0
  obtain rfl : args = #[v0] := by cases args; simp_all
  have hV' := hV
  obtain ⟨_, _, _, _, g1, _, rfl, _⟩ := trodVars_one hV
  obtain ⟨a0, rfl, rfl, rfl, w0⟩ := open_string Tryd.underlying9 (hval 0 9 v0 rfl rfl) h0
  clear hA0 hval0
  refine (walk a0 w0 W (laid_read (show laidMet Tryd.prog Rows.fnExactTextInstrRow.laid W from (MakeChecks.laidMetH_plain _ _ _ (by kernel_rfl)).mp hL) (Tryd.laysM146.s1_3 W hsh))).mono fun e W' ⟨he, bel⟩ => ?_
  subst he
  exact ⟨_, rfl, _, _, _, [], _, _, hW', trodAll_mk1 (shut_bool Tryd.underlying4 _), (trodAll_cons_mk (shut_string Tryd.underlying9 w0) trodAll_mk0), bel.trodVars laidOut (by kernel_rfl) hV', bel.frame _, fun h => by cases h⟩

theorem over : Rows.fnExactTextInstrRow.holds Tryd.pinned (OpenSpec.ofChange Rows.fnExactTextInstrSpec) :=
  OpenClaim.holds_of_wide 4 Tryd.f4 rfl rfl rfl rfl rfl rfl rfl ⟨rfl, rfl, rfl, rfl, rfl⟩ rfl rfl rfl rfl rfl (by kernel_rfl) Tryd.func4 (by kernel_rfl)
    (of_decide_eq_true (by kernel_rfl)) (by unfold Func.isWrapper; first | (rw [if_pos (by decide +kernel)]; kernel_rfl) | (rw [if_neg (by decide +kernel)]; exact ⟨rfl, rfl⟩))
    (fun os started H enc _ => lifted os started H enc)

theorem proved : Rows.FnExactTextInstrCardSaid :=
  Claim7.holds_tied_plain_at .later [] [.data, .data, .data, .data, .sentinel, .sentinel, .data, .pinned] true (true, "af027917504cf5f9473f1e5d5f3feee460b3ce08acd13b9122399eaded77c154") true
    over (fun _ h => by cases h) (by kernel_rfl) (fun _ h => by cases h) fnExactTextInstr_row_tie rfl ⟨rfl, rfl⟩ (by kernel_rfl) rfl
    (fun f fn hf hfn => by
      obtain rfl : f = 4 := Option.some.inj ((show Tryd.prog.funcNamed "loop.example/g00679/laws.FnExactTextInstr" = some 4 by kernel_rfl).symm.trans hf) |>.symm
      obtain rfl : fn = Tryd.f4 := (Option.some.inj (Tryd.func4.symm.trans hfn)).symm
      exact ⟨by kernel_rfl, fun j t ht => by
        rw [Tryd.params4] at ht
        rcases j with _ | j
        · have ht' : t = 9 := by simpa using ht.symm
          subst ht'
          exact (show Tryd.prog.wantsStandIn 9 = false by kernel_rfl)
        simp at ht
      ⟩)
    (by kernel_rfl)
#print axioms proved
end Go.Proofs.YtllkbikhclfgpaaDoor.fnExactTextInstr
