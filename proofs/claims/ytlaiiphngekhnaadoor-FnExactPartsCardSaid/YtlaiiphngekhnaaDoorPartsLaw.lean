/- For every text FnExactParts answers true: Parts answers as its model does, and its answer owns its memory. Condition: two tables of unicode/utf8 read as the library's text lays them (tied). -/
import Derived.Test.YtlaiiphngekhnaaDoorRows
import Derived.WalkKit
import Derived.Test.YtlaiiphngekhnaaDoorCards
import Derived.Test.YtlaiiphngekhnaaDoorTie
import Derived.Lib.LaidTab
import Derived.SevenTiedAt
import Derived.Stop.Joined
import Derived.LaidMore
import Derived.ChangeOld
import Derived.Below
import Derived.Lay
import Derived.Test.YtlaiiphngekhnaaDoorHandBoth
import Derived.Test.YtlaiiphngekhnaaDoorStrS
import Derived.Test.YtlaiiphngekhnaaDoorPartsI
import Derived.ProofKit
import Derived.OpenShut
import Derived.ShutString
namespace Go.Proofs.YtlaiiphngekhnaaDoor.fnExactParts
open Go.ChangeShapes Go.WideShapes Go.ChangeAt Go.RowKit
open Go.ChangeMaps (open_string shut_string)
set_option linter.unusedVariables false

theorem own : ownKnob Tryd.prog.godebug = none := by kernel_rfl

theorem walk (a0 : ByteArray) (w0 : a0.size ≤ maxLen) (w : World) (hL : ∃ m, w.cell? ⟨1, 0, none⟩ = some (.int .i64 m)) :
    Calls Tryd.prog 3 #[.string a0] w fun e w' => e = .returned (.bool true) ∧ Below w.heap.size w w' := by
  obtain ⟨m, hm⟩ := hL
  have HM := Lib.hid hm
  clear hm
  by_cases hbig : a0.size ≤ 1048576
  · have hlen := cutR_length 32 a0.data.toList []
    rw [show a0.data.toList.length = a0.size from rfl] at hlen
    generalize hss : cutR 32 [] a0.data.toList = ss at *
    have HSS := Lib.hid hss
    clear hss
    have hmb : ∀ W, Below w.heap.size w W → W.cell? ⟨1, 0, none⟩ = some (.int .i64 m) := fun W hW => by
      rw [hW.cell (p := ⟨_, 0, none⟩) (World.block_lt_of_cell? w _ HM.out)]; exact HM.out
    have HMB := Lib.hid hmb
    clear hmb
    go_enter Tryd.func3, Tryd.ntmps3
    go_wp2_with fail
    refine (specParts_any a0 _ hbig).mono ?_
    rw [HSS.out]
    rintro e w2 ⟨A2, n2, c2, rfl, own2, hb2⟩
    have z2 := hb2.size
    have e2 : Hid (n2 = ss.length) := Lib.hid (by have := own2.len; simpa using this.symm)
    have l2 : n2 ≤ 1048577 := by rw [e2.out]; omega
    go_wp2_with fail
    refine (implParts_any a0 m _ hbig (HMB.out _ hb2)).mono ?_
    rw [HSS.out]
    rintro e w4 ⟨A4, n4, c4, rfl, own4, hb4⟩
    have z4 := hb4.size
    replace own2 := own2.below hb4 (by omega)
    have hB4 := hb2.trans (hb4.mono (by omega))
    obtain rfl : n2 = n4 := own2.len.symm.trans own4.len
    clear hb2 hb4
    go_wp2_with fail
    refine (eqStringS_same own4.seen own2.seen (by omega)).mono ?_
    rintro e w5 ⟨rfl, hb5⟩
    have z5 := hb5.size
    replace own2 := own2.below hb5 (by omega)
    replace own4 := own4.below hb5 (by omega)
    have hB5 := hB4.trans (hb5.mono (by omega))
    clear hB4 hb5
    go_wp2_with fail
    refine (markStringS_any (k := 1) own4 (by omega) (by omega) (by omega) (by omega)).mono ?_
    rintro e w10 ⟨rfl, own4', ht10⟩
    have z10 := ht10.size
    replace own2 := own2.turned ht10 (by omega)
    have hB10 := hB5.trans (ht10.below (by omega) (by omega))
    clear hB5 ht10 own4
    go_wp2_with fail
    refine (heldStringS_any (k := 1) own4'.seen (by omega) (by omega) (by omega) (by omega)).mono ?_
    rintro e w11 ⟨rfl, hb11⟩
    have z11 := hb11.size
    replace own2 := own2.below hb11 (by omega)
    replace own4' := own4'.below hb11 (by omega)
    have hB11 := hB10.trans (hb11.mono (by omega))
    clear hB10 hb11
    go_wp2_with fail
    refine (implParts_any a0 m _ hbig (HMB.out _ hB11)).mono ?_
    rw [HSS.out]
    rintro e w12 ⟨A12, n12, c12, rfl, own12, hb12⟩
    have z12 := hb12.size
    replace own2 := own2.below hb12 (by omega)
    replace own4' := own4'.below hb12 (by omega)
    have hB12 := hB11.trans (hb12.mono (by omega))
    obtain rfl : n2 = n12 := own2.len.symm.trans own12.len
    clear hB11 hb12
    go_wp2_with fail
    refine (eqStringS_same own12.seen own2.seen (by omega)).mono ?_
    rintro e w13 ⟨rfl, hb13⟩
    have z13 := hb13.size
    replace own4' := own4'.below hb13 (by omega)
    have hB13 := hB12.trans (hb13.mono (by omega))
    clear hB12 hb13 own2 own12
    go_wp2_with fail
    refine (heldStringS_any (k := 1) own4'.seen (by omega) (by omega) (by omega) (by omega)).mono ?_
    rintro e w14 ⟨rfl, hb14⟩
    have hB14 := hB13.trans (hb14.mono (by omega))
    clear hB13 hb14
    go_wp2_with fail
    go_ret
    exact ⟨rfl, hB14⟩
  · clear HM
    go_enter Tryd.func3, Tryd.ntmps3
    go_wp2
    go_ret
    exact ⟨rfl, Below.refl _ _⟩

set_option maxRecDepth 100000 in
theorem lifted (os : Os) (started : os.Started) (H : Type) (enc : TypeId × Value → H) :
    ReturnsInHanded {} Tryd.checked os 3 .any (fun w args => (Rows.fnExactPartsSpec.pre enc Tryd.prog Tryd.f3 [] false w args ∧ laidMetH Tryd.prog Rows.fnExactPartsRow.laid w) ∧ sizedMet enc Tryd.prog Tryd.f3 (OpenSpec.ofChange Rows.fnExactPartsSpec) false w args) (Rows.fnExactPartsSpec.post enc Tryd.prog Tryd.f3 false true false false) := by
  refine returnsInHanded_of_change_both (C := Tryd.checked) (X := fun w _ => laidMetH Tryd.prog Rows.fnExactPartsRow.laid w) (fun _ _ _ hh h => h.of_heap hh) own started (by kernel_rfl) Tryd.func3
    (ChangeSpec.witness_shaped (enc := enc) (C := Tryd.checked) (os := os) (X := fun w _ => laidMetH Tryd.prog Rows.fnExactPartsRow.laid w) false (World.laidAll Tryd.prog os Rows.fnExactPartsRow.laid) #[.string ByteArray.empty] 8 (World.laidAll_os _ _ _) (World.shaped_of_ZipB (by kernel_rfl) (by kernel_rfl)) (by kernel_rfl) (by kernel_rfl) (by kernel_rfl) (by rw [MakeChecks.laidMetH_plain _ _ _ (by kernel_rfl)]; exact laidMet_laidAll _ (by kernel_rfl) (by kernel_rfl))) ?_
  intro W base args ds gs before hval0 hW hsh hL
  have hval : ∀ (j : Nat) t v, Tryd.f3.params[j]? = some t → args[j]? = some v → Value.okWide Tryd.prog W .any base t v := hval0
  have hW' := hW
  obtain ⟨p, q, hA0, hV, rfl, hfz, hnd⟩ := hW
  have hA : DataW.TrodAll enc Tryd.prog W 0 (fun _ => true) true Tryd.f3.params.toList args.toList ds p := hA0
  rw [Tryd.params3] at hA hval
  obtain ⟨v0, vs0, d0, ds0, p0, q0, hargs, rfl, rfl, h0, r0⟩ := trodAll_cons hA
  obtain ⟨rfl, rfl, rfl⟩ := trodAll_nil r0
  obtain rfl : args = #[v0] := by cases args; simp_all
  obtain ⟨rfl, rfl⟩ := trodVars_none hV
  obtain ⟨a0, rfl, rfl, rfl, w0⟩ := open_string Tryd.underlying9 (hval 0 9 v0 rfl rfl) h0
  clear hA0 hval0
  refine (walk a0 w0 W (Tryd.laysM146.s1_3 W hsh)).mono fun e W' ⟨he, bel⟩ => ?_
  subst he
  exact ⟨_, rfl, _, _, _, [], _, [], hW', trodAll_mk1 (shut_bool Tryd.underlying4 _), (trodAll_cons_mk (shut_string Tryd.underlying9 w0) trodAll_mk0), rfl, bel.frame _, fun h => by cases h⟩

theorem over : Rows.fnExactPartsRow.holds Tryd.pinned (OpenSpec.ofChange Rows.fnExactPartsSpec) :=
  OpenClaim.holds_of_wide 3 Tryd.f3 rfl rfl rfl rfl rfl rfl rfl ⟨rfl, rfl, rfl, rfl, rfl⟩ rfl rfl rfl rfl rfl (by kernel_rfl) Tryd.func3 (by kernel_rfl)
    (of_decide_eq_true (by kernel_rfl)) (by unfold Func.isWrapper; first | (rw [if_pos (by decide +kernel)]; kernel_rfl) | (rw [if_neg (by decide +kernel)]; exact ⟨rfl, rfl⟩))
    (fun os started H enc _ => lifted os started H enc)

theorem proved : Rows.FnExactPartsCardSaid :=
  Claim7.holds_tied_plain_at .later [] [.data, .pinned] true (true, "263573798479bd05c19e9cbaaa302540b4a70b6cd8cb3afc37f21ae18fde0f73") false
    over (fun _ h => by cases h) (by kernel_rfl) (fun _ h => by cases h) fnExactParts_row_tie rfl ⟨rfl, rfl⟩ (by kernel_rfl) rfl
    (fun f fn hf hfn => by
      obtain rfl : f = 3 := Option.some.inj ((show Tryd.prog.funcNamed "loop.example/g00679/laws.FnExactParts" = some 3 by kernel_rfl).symm.trans hf) |>.symm
      obtain rfl : fn = Tryd.f3 := (Option.some.inj (Tryd.func3.symm.trans hfn)).symm
      exact ⟨by kernel_rfl, fun j t ht => by
        rw [Tryd.params3] at ht
        rcases j with _ | j
        · have ht' : t = 9 := by simpa using ht.symm
          subst ht'
          exact (show Tryd.prog.wantsStandIn 9 = false by kernel_rfl)
        simp at ht
      ⟩)
    (by kernel_rfl)
#print axioms proved
end Go.Proofs.YtlaiiphngekhnaaDoor.fnExactParts
