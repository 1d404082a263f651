/- For every text, the law FnExactTextSelect answers true and changes nothing that was there: the program reads a select from a text just where, and as, the model does, its answer lies in memory of its own, and a second call leaves it alone. Conditions: the listed package-level variables hold what the program lays in them. -/
import Derived.Test.YtllkbikhclfgpaaDoorRows
import Derived.WalkKit
import Derived.Test.YtllkbikhclfgpaaDoorCards
import Derived.Test.YtllkbikhclfgpaaDoorTie
import Derived.Lib.LaidTab
import Derived.SevenTiedAt
import Derived.Stop.Joined
import Derived.LaidMore
import Derived.ChangeOld
import Derived.Below
import Derived.ChangeVars
import Derived.OpenVars
import Derived.Lay
import Derived.Test.YtllkbikhclfgpaaDoorMSelect
import Derived.Test.YtllkbikhclfgpaaDoorBase
import Derived.Test.YtllkbikhclfgpaaDoorReadTabs
import Derived.Test.YtllkbikhclfgpaaDoorTextSelI
import Derived.Test.YtllkbikhclfgpaaDoorTextSelS
import Derived.ProofKit
import Derived.OpenShut
import Derived.ShutString
namespace Go.Proofs.YtllkbikhclfgpaaDoor.fnExactTextSelect
open Go.ChangeShapes Go.WideShapes Go.ChangeAt Go.RowKit
open Go.ChangeMaps (open_string shut_string)
set_option linter.unusedVariables false

theorem own : ownKnob Tryd.prog.godebug = none := by kernel_rfl

theorem laidOut : laidOutB Tryd.prog = true := by kernel_rfl

theorem walk (a0 : ByteArray) (w0 : a0.size ≤ maxLen) (w : World) (hL : TabsR w) :
    Calls Tryd.prog 6 #[.string a0] w fun e w' => e = .returned (.bool true) ∧ Below w.heap.size w w' := by
  have HT := Lib.hid hL
  clear hL
  by_cases hbig : a0.size ≤ 1048576
  · have HS := Lib.hid (specTextSelect_any a0 w hbig)
    have HI := Lib.hid (fun (W : World) (hW : Below w.heap.size w W) => implTextSelect_any a0 W hbig (HT.out.below hW (Nat.le_refl _)))
    have hsz : szSelect (textSelect a0.data.toList).1 ≤ 1048576 := Nat.le_trans (textSelect_sz _) hbig
    generalize textSelect a0.data.toList = r at *
    obtain ⟨x, ok⟩ := r
    simp only at hsz
    have hvc : 0 ≤ vcntSelect x ∧ vcntSelect x ≤ 5242880 := by
      have h := hsz
      unfold szSelect at h
      unfold vcntSelect
      omega
    have hk0 : decide (1 + vcntSelect x < 0) = false := decide_eq_false (by omega)
    have hok : (ok != ok) = false := by simp
    go_enter Tryd.func6, Tryd.ntmps6
    go_wp2_with fail
    refine HS.out.mono ?_
    rintro e w1 ⟨v1, rfl, own1, hb1⟩
    have see1 := laySelect.seen (hi := w1.heap.size) own1 fun g hg => hg.2
    obtain ⟨A1, n1, c1, rfl, -⟩ := seeSelect see1
    have HX1 := Lib.hid (box_new w1 #[.slice A1 n1 c1, .int .i64 x.fElse] 39)
    have hW1 : Below w.heap.size w (w1.alloc (.cells #[.slice A1 n1 c1, .int .i64 x.fElse] 39)) := hb1.alloc hb1.size _
    have hz1 := hb1.size
    have HK := Lib.hid (fun (W : World) (hW : Below (w1.heap.size + 1) (w1.alloc (.cells #[.slice A1 n1 c1, .int .i64 x.fElse] 39)) W) =>
      show Below w.heap.size w W ∧ laySelect.see W w1.heap.size x [.slice A1 n1 c1, .int .i64 x.fElse] ∧ W.heap[w1.heap.size]? = some (.cells #[.slice A1 n1 c1, .int .i64 x.fElse] 39 (0, 0)) ∧ w1.heap.size + 1 ≤ W.heap.size from
      ⟨hW1.trans (hW.mono (by omega)), laySelect.keep see1 (fun k hk => (hW.block k (by omega)).trans (Below.heap_alloc w1 _ k hk)), (hW.block _ (by omega)).trans HX1.out, by have := hW.size; simpa using this⟩)
    have HW1 := Lib.hid hW1
    clear own1 hb1 see1 hW1
    go_wp2_with fail
    refine (HI.out _ HW1.out).mono ?_
    rintro e w2 ⟨v2, rfl, own2, hb2⟩
    have z2 : w1.heap.size + 1 ≤ w2.heap.size := by have := hb2.size; simpa using this
    have see2 := laySelect.seen (hi := w2.heap.size) own2 fun g hg => hg.2
    obtain ⟨A2, n2, c2, rfl, -⟩ := seeSelect see2
    simp only [World.size_alloc] at own2
    have hA2 : Below (w1.heap.size + 1) (w1.alloc (.cells #[.slice A1 n1 c1, .int .i64 x.fElse] 39)) (w2.alloc (.cells #[.slice A2 n2 c2, .int .i64 x.fElse] 39)) := (hb2.mono (by simp)).alloc z2 _
    have HO2 := Lib.hid (laySelect.stay (w' := w2.alloc (.cells #[.slice A2 n2 c2, .int .i64 x.fElse] 39)) own2 (fun g hg hlt => Below.heap_alloc w2 _ g hlt) (by simp))
    have HA2 := Lib.hid hA2
    have HX2 := Lib.hid (box_new w2 #[.slice A2 n2 c2, .int .i64 x.fElse] 39)
    have HX1b := Lib.hid (box_keep HX1.out hb2 (by simp))
    have p0 := box_cell (j := 0) HX1b.out rfl
    have p1 := box_cell (j := 1) HX1b.out rfl
    have hl2 : w1.heap.size < w2.heap.size := by omega
    have HS2 := Lib.hid (laySelect.keep see2 (w' := w2.alloc (.cells #[.slice A2 n2 c2, .int .i64 x.fElse] 39)) fun k hk => Below.heap_alloc w2 _ k hk)
    have HE2 := Lib.hid (eqSelect_same (w := w2.alloc (.cells #[.slice A2 n2 c2, .int .i64 x.fElse] 39)) HS2.out (HK.out _ HA2.out).2.1 (by simp) (by simp; omega) hsz)
    clear own2 hb2 see2 hA2
    go_wp2_with fail
    refine HE2.out.mono ?_
    rintro e w3 ⟨rfl, hb3⟩
    have hz3 : w2.heap.size + 1 ≤ w3.heap.size := by have := hb3.size; simpa using this
    have HA3 := Lib.hid (HA2.out.trans (hb3.mono (by simp; omega)))
    have HO3 := Lib.hid (laySelect.stay (w' := w3) HO2.out (fun g hg hlt => hb3.block g hlt) hb3.size)
    have HX3 := Lib.hid (box_keep HX2.out hb3 (by simp))
    have q0 := box_cell (j := 0) HX3.out rfl
    have q1 := box_cell (j := 1) HX3.out rfl
    have HM := Lib.hid (markSelect_any (k := 1) HO3.out (fun g hg => by omega) hsz (by omega) (by omega))
    clear hb3 p0 p1
    go_wp2_with fail
    refine HM.out.mono ?_
    rintro e w4 ⟨rfl, own4, ht4⟩
    have hz4 := ht4.size
    have HA4 := Lib.hid (HA3.out.trans (ht4.below (fun g hg => hg.1) (by omega)))
    have HX4 := Lib.hid ((ht4.block w2.heap.size (by omega) (fun hF => by omega)).trans HX3.out)
    have HS4 := Lib.hid (laySelect.seen (hi := w2.heap.size) own4 fun g hg => hg.2)
    have r0 := box_cell (j := 0) HX4.out rfl
    have r1 := box_cell (j := 1) HX4.out rfl
    have HH := Lib.hid (heldSelect_any (k := 1) HS4.out (by omega) hsz (by omega) (by omega))
    clear own4 ht4 q0 q1
    go_wp2_with fail
    refine HH.out.mono ?_
    rintro e w5 ⟨rfl, hb5⟩
    have hz5 := hb5.size
    have HA5 := Lib.hid (HA4.out.trans (hb5.mono (by omega)))
    have HX5 := Lib.hid (box_keep HX4.out hb5 (by omega))
    have HS5 := Lib.hid (laySelect.keep HS4.out fun k hk => hb5.block k (by omega))
    clear hb5 r0 r1
    go_wp2_with fail
    refine (HI.out _ (HK.out _ HA5.out).1).mono ?_
    rintro e w6 ⟨v6, rfl, own6, hb6⟩
    have see6 := laySelect.seen (hi := w6.heap.size) own6 fun g hg => hg.2
    obtain ⟨A6, n6, c6, rfl, -⟩ := seeSelect see6
    have hz6 := hb6.size
    have HA6 := Lib.hid (show Below (w1.heap.size + 1) (w1.alloc (.cells #[.slice A1 n1 c1, .int .i64 x.fElse] 39)) (w6.alloc (.cells #[.slice A6 n6 c6, .int .i64 x.fElse] 39)) from (HA5.out.trans (hb6.mono (by omega))).alloc (by omega) _)
    have HA6b := Lib.hid (HA5.out.trans (hb6.mono (by omega)))
    have hx1 := (HK.out _ HA6b.out).2.2.1
    have p0 := box_cell (j := 0) hx1 rfl
    have p1 := box_cell (j := 1) hx1 rfl
    have hl6 : w1.heap.size < w6.heap.size := by omega
    have HX6 := Lib.hid (box_keep HX5.out hb6 (by omega))
    have HS6 := Lib.hid (laySelect.keep HS5.out (w' := w6.alloc (.cells #[.slice A6 n6 c6, .int .i64 x.fElse] 39)) fun k hk => (Below.heap_alloc w6 _ k (by omega)).trans (hb6.block k (by omega)))
    have HX6b := Lib.hid (box_keep (w' := w6.alloc (.cells #[.slice A6 n6 c6, .int .i64 x.fElse] 39)) HX6.out ((Below.refl _ _).alloc (Nat.le_refl _) _) (by omega))
    have HE6 := Lib.hid (eqSelect_same (w := w6.alloc (.cells #[.slice A6 n6 c6, .int .i64 x.fElse] 39)) (laySelect.keep see6 fun k hk => Below.heap_alloc w6 _ k hk) (HK.out _ HA6.out).2.1 (by simp) (by simp; omega) hsz)
    clear own6 hb6 see6 hx1
    go_wp2_with fail
    refine HE6.out.mono ?_
    rintro e w7 ⟨rfl, hb7⟩
    have hz7 : w6.heap.size + 1 ≤ w7.heap.size := by have := hb7.size; simpa using this
    have HA7 := Lib.hid (HA6.out.trans (hb7.mono (by simp; omega)))
    have HX7 := Lib.hid (box_keep HX6b.out hb7 (by simp; omega))
    have HS7 := Lib.hid (laySelect.keep HS6.out (w' := w7) fun k hk => hb7.block k (by simp; omega))
    have r0 := box_cell (j := 0) HX7.out rfl
    have r1 := box_cell (j := 1) HX7.out rfl
    have HH7 := Lib.hid (heldSelect_any (k := 1) HS7.out (by omega) hsz (by omega) (by omega))
    clear hb7 p0 p1
    go_wp2_with fail
    refine HH7.out.mono ?_
    rintro e w8 ⟨rfl, hb8⟩
    have HA8 := Lib.hid (HA7.out.trans (hb8.mono (by omega)))
    clear hb8 r0 r1
    go_wp2_with fail
    go_ret
    exact ⟨rfl, (HK.out _ HA8.out).1⟩
  · go_enter Tryd.func6, Tryd.ntmps6
    go_wp2_with fail
    go_ret
    exact ⟨rfl, Below.refl _ _⟩

set_option maxRecDepth 100000 in
theorem lifted (os : Os) (started : os.Started) (H : Type) (enc : TypeId × Value → H) :
    ReturnsInHanded {} Tryd.checked os 6 .any (fun w args => (Rows.fnExactTextSelectSpec.pre enc Tryd.prog Tryd.f6 [] false w args ∧ laidMetH Tryd.prog Rows.fnExactTextSelectRow.laid w) ∧ sizedMet enc Tryd.prog Tryd.f6 (OpenSpec.ofChange Rows.fnExactTextSelectSpec) false w args) (Rows.fnExactTextSelectSpec.post enc Tryd.prog Tryd.f6 false true false false) := by
  refine returnsInHanded_of_change_both (C := Tryd.checked) (X := fun w _ => laidMetH Tryd.prog Rows.fnExactTextSelectRow.laid w) (fun _ _ _ hh h => h.of_heap hh) own started (by kernel_rfl) Tryd.func6
    (ChangeSpec.witness_shaped (enc := enc) (C := Tryd.checked) (os := os) (X := fun w _ => laidMetH Tryd.prog Rows.fnExactTextSelectRow.laid w) false (World.laidAll Tryd.prog os Rows.fnExactTextSelectRow.laid) #[.string ByteArray.empty] 8 (World.laidAll_os _ _ _) (World.shaped_of_ZipB (by kernel_rfl) (by kernel_rfl)) (by kernel_rfl) (by kernel_rfl) (by kernel_rfl) (by rw [MakeChecks.laidMetH_plain _ _ _ (by kernel_rfl)]; exact laidMet_laidAll _ (by kernel_rfl) (by kernel_rfl))) ?_
  intro W base args ds gs before hval0 hW hsh hL
  have hval : ∀ (j : Nat) t v, Tryd.f6.params[j]? = some t → args[j]? = some v → Value.okWide Tryd.prog W .any base t v := hval0
  have hW' := hW
  obtain ⟨p, q, hA0, hV, rfl, hfz, hnd⟩ := hW
  have hA : DataW.TrodAll enc Tryd.prog W 0 (fun _ => true) true Tryd.f6.params.toList args.toList ds p := hA0
  rw [Tryd.params6] at hA hval
  obtain ⟨v0, vs0, d0, ds0, p0, q0, hargs, rfl, rfl, h0, r0⟩ := trodAll_cons hA
  obtain ⟨rfl, rfl, rfl⟩ := trodAll_nil r0
  obtain rfl : args = #[v0] := by cases args; simp_all
  have hV' := hV
  obtain ⟨_, _, _, _, g1, _, rfl, _⟩ := trodVars_one hV
  obtain ⟨a0, rfl, rfl, rfl, w0⟩ := open_string Tryd.underlying9 (hval 0 9 v0 rfl rfl) h0
  clear hA0 hval0
  refine (walk a0 w0 W (laid_read (show laidMet Tryd.prog Rows.fnExactTextSelectRow.laid W from (MakeChecks.laidMetH_plain _ _ _ (by kernel_rfl)).mp hL) (Tryd.laysM146.s1_3 W hsh))).mono fun e W' ⟨he, bel⟩ => ?_
  subst he
  exact ⟨_, rfl, _, _, _, [], _, _, hW', trodAll_mk1 (shut_bool Tryd.underlying4 _), (trodAll_cons_mk (shut_string Tryd.underlying9 w0) trodAll_mk0), bel.trodVars laidOut (by kernel_rfl) hV', bel.frame _, fun h => by cases h⟩

theorem over : Rows.fnExactTextSelectRow.holds Tryd.pinned (OpenSpec.ofChange Rows.fnExactTextSelectSpec) :=
  OpenClaim.holds_of_wide 6 Tryd.f6 rfl rfl rfl rfl rfl rfl rfl ⟨rfl, rfl, rfl, rfl, rfl⟩ rfl rfl rfl rfl rfl (by kernel_rfl) Tryd.func6 (by kernel_rfl)
    (of_decide_eq_true (by kernel_rfl)) (by unfold Func.isWrapper; first | (rw [if_pos (by decide +kernel)]; kernel_rfl) | (rw [if_neg (by decide +kernel)]; exact ⟨rfl, rfl⟩))
    (fun os started H enc _ => lifted os started H enc)

theorem proved : Rows.FnExactTextSelectCardSaid :=
  Claim7.holds_tied_plain_at .later [] [.data, .data, .data, .data, .sentinel, .sentinel, .data, .pinned] true (true, "af027917504cf5f9473f1e5d5f3feee460b3ce08acd13b9122399eaded77c154") true
    over (fun _ h => by cases h) (by kernel_rfl) (fun _ h => by cases h) fnExactTextSelect_row_tie rfl ⟨rfl, rfl⟩ (by kernel_rfl) rfl
    (fun f fn hf hfn => by
      obtain rfl : f = 6 := Option.some.inj ((show Tryd.prog.funcNamed "loop.example/g00679/laws.FnExactTextSelect" = some 6 by kernel_rfl).symm.trans hf) |>.symm
      obtain rfl : fn = Tryd.f6 := (Option.some.inj (Tryd.func6.symm.trans hfn)).symm
      exact ⟨by kernel_rfl, fun j t ht => by
        rw [Tryd.params6] at ht
        rcases j with _ | j
        · have ht' : t = 9 := by simpa using ht.symm
          subst ht'
          exact (show Tryd.prog.wantsStandIn 9 = false by kernel_rfl)
        simp at ht
      ⟩)
    (by kernel_rfl)
#print axioms proved
end Go.Proofs.YtllkbikhclfgpaaDoor.fnExactTextSelect
