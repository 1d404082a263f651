/- For every row of bytes FnNumbers answers true: numbers are read as they were written. The listed package-level variables are laid as the program's text lays them (the card ties them). -/
import Derived.Test.YtbogonfamflpdaaDoorRows
import Derived.WalkKit
import Derived.Test.YtbogonfamflpdaaDoorCards
import Derived.Test.YtbogonfamflpdaaDoorTie
import Derived.Lib.LaidTab
import Derived.SevenTiedAt
import Derived.Stop.Joined
import Derived.LaidMore
import Derived.Test.YtbogonfamflpdaaDoorLaidErr
import Derived.Test.YtbogonfamflpdaaDoorTextNum
import Derived.Test.YtbogonfamflpdaaDoorPutZig
import Derived.Test.YtbogonfamflpdaaDoorGetZig
import Derived.Test.YtbogonfamflpdaaDoorCrc
import Derived.Test.YtbogonfamflpdaaDoorMakeBytes
import Derived.Test.YtbogonfamflpdaaDoorNumbers
import Derived.ProofKit
import Derived.OpenShut
import Derived.ShutString
import Derived.ChangeOld
import Derived.Below
namespace Go.Proofs.YtbogonfamflpdaaDoor.fnNumbers
open Go.ChangeShapes Go.WideShapes Go.ChangeAt Go.RowKit
open Go.ChangeMaps (open_string shut_string)
set_option linter.unusedVariables false

theorem own : ownKnob Tryd.prog.godebug = none := by kernel_rfl
theorem laidOut : laidOutB Tryd.prog = true := by kernel_rfl

def IsRow (k : IntKind) (w : World) (a : Option Addr) (len cap : Nat) (zs : List Int) : Prop :=
  (a = none ∧ len = 0 ∧ cap = 0 ∧ zs = []) ∨
  ∃ x, a = some x ∧ len ≤ cap ∧ cap ≤ maxLen ∧ zs.length = cap ∧ (∀ i, i < zs.length → w.cell? (x.add i) = some (.int k (zs.getD i 0))) ∧ ∀ n ∈ zs, (Lit.int k n).wf = true

theorem walk (a0 : Option Addr) (len0 cap0 : Nat) (z0 : List Int) (w : World) (hL : laidMetH Tryd.prog Rows.fnNumbersRow.laid w) (w0 : IsRow .u8 w a0 len0 cap0 z0) :
    Calls Tryd.prog 3 #[.slice a0 len0 cap0] w fun e w' => e = .returned (.bool true) ∧ Below w.heap.size w w' := by
  have htab := tab_of_laid hL
  obtain ⟨p2, hv2⟩ := range_of_laid hL
  obtain ⟨p1, hv1⟩ := syn_of_laid hL
  have HT := Lib.hid htab
  have HV1 := Lib.hid hv1
  have HV2 := Lib.hid hv2
  clear hL htab hv1 hv2
  by_cases hbig : len0 ≤ 1048576
  · obtain ⟨bs, hs⟩ := seen_of_ints w0
    clear w0
    go_enter Tryd.func3, Tryd.ntmps3
    go_wp2_with fail
    refine (MakeBytes_any hs (Nat.le_refl _) (by omega)).mono ?_
    rintro e w1 ⟨A1, m, c1, ds, hm, rfl, own1, hb1⟩
    have z1 := hb1.size
    have hlen := own1.len
    rw [List.length_map] at hlen
    have HL := Lib.hid hlen
    clear hlen hs
    go_wp2_with fail
    refine (implCrc_any own1.seen (Nat.le_refl _) (by omega)).mono ?_
    rintro e w2 ⟨rfl, hb2⟩
    have z2 := hb2.size
    have hB2 := hb1.trans (hb2.mono z1)
    replace own1 := own1.below hb2 (Nat.le_refl _)
    have hn := crc_lt ds
    generalize crc ds = n at *
    have hn' : n ≤ 4294967295 := by omega
    clear hn hb1 hb2
    have hP := Lib.hid (putVar_nat ds hn')
    have hG := Lib.hid (getVar_put ds hn')
    have hPZ := Lib.hid (putZig_down (ds ++ digits n) hn')
    have hGZ := Lib.hid (getZig_down (ds ++ digits n) hn')
    have hd1 := digits_length n 4 (by omega)
    have hd2 := digits_length (zigNum n) 4 (by unfold zigNum; split <;> omega)
    go_wp2_with fail
    refine (implPutVar_any (n : Int) own1.seen (by omega) (by omega)).mono ?_
    rw [hP.out]
    rintro e w3 ⟨A3, n3, c3, rfl, own3, hb3⟩
    have z3 := hb3.size
    have hB3 := hB2.trans (hb3.mono (by omega))
    have hl3 : (ds ++ digits n).length = n3 := by have := own3.len; simpa using this
    rw [List.length_append, HL.out] at hl3
    have HL3 := Lib.hid hl3
    have hn3 : n3 ≤ 45 := by omega
    clear hl3 hB2 hb3 own1
    have HLL := Lib.hid (show (ds ++ digits n).length = n3 by rw [List.length_append, HL.out]; exact HL3.out)
    go_wp2_with fail
    refine (implGetVar_any (m : Int) own3.seen (by omega)).mono ?_
    have HG' := Lib.hid (show getVar (ds ++ digits n) (m : Int) = ((n : Int), (n3 : Int), true) by have := hG.out; rwa [HL.out, HLL.out] at this)
    rw [HG'.out]
    rintro e w' ⟨rfl, rfl⟩
    go_wp2_with fail
    refine (implPutZig_any (-((n : Int) / 4)) own3.seen (Nat.le_refl _) (by omega)).mono ?_
    rw [hPZ.out]
    rintro e w5 ⟨A5, n5, c5, rfl, own5, hb5⟩
    have z5 := hb5.size
    have hB5 := hB3.trans (hb5.mono (by omega))
    have HL5 := Lib.hid (show (ds ++ digits n ++ digits (zigNum n)).length = n5 by have := own5.len; simpa using this)
    have hn5 : n5 ≤ 50 := by have := HL5.out; rw [List.length_append, HLL.out] at this; omega
    clear hB3 hb5 own3
    go_wp2_with fail
    refine (implGetZig_any (n3 : Int) own5.seen (by omega)).mono ?_
    have HGZ' := Lib.hid (show getZig (ds ++ digits n ++ digits (zigNum n)) (n3 : Int) = (-((n : Int) / 4), (n5 : Int), true) by have := hGZ.out; rwa [HLL.out, HL5.out] at this)
    rw [HGZ'.out]
    rintro e w' ⟨rfl, rfl⟩
    clear own5
    go_wp2_with fail
    refine (implNumText_any (n : Int) _ (tab_below HT.out hB5 (Nat.le_refl _))).mono ?_
    rintro e w6 ⟨rfl, hb6⟩
    have z6 := hb6.size
    have hB6 := hB5.trans (hb6.mono (by omega))
    clear hB5 hb6
    have hds := decDigits_short n hn'
    have htn := Lib.hid (textNum_yes hn' (rfl : Lib.decDigits n = Lib.decDigits n))
    rw [numText_nat hn']
    go_wp2_with fail
    refine (implTextNum_any _ _ (by show (Lib.decDigits n).length ≤ _; omega) (tab_below HT.out hB6 (Nat.le_refl _)) (var_below (g := 0) (by kernel_rfl) HV1.out hB6) (var_below (g := 1) (by kernel_rfl) HV2.out hB6)).mono ?_
    rw [show textNum (ByteArray.data ⟨(Lib.decDigits n).toArray⟩).toList = ((n : Int), true) from htn.out]
    rintro e w7 ⟨rfl, hb7⟩
    have hB7 := hB6.trans (hb7.mono (by omega))
    clear hB6 hb7
    go_wp2_with fail
    refine (implMod7_any hn' _).mono ?_
    rintro e w' ⟨r, ⟨hr7, hr0⟩, rfl, rfl⟩
    have hr1 : ((n : Int) + (r : Int)) % 7 = 0 := by omega
    clear hr0
    go_wp2_with fail
    go_ret
    refine ⟨?_, hB7⟩
    first
      | rfl
      | (simp; done)
      | (simp; omega)
  · clear w0
    go_enter Tryd.func3, Tryd.ntmps3
    go_wp2
    go_ret
    exact ⟨rfl, Below.refl _ _⟩

set_option maxRecDepth 100000 in
theorem door_met (os : Os) (args : Array Value) : laidMetH Tryd.prog Rows.fnNumbersRow.laid ((World.doorLaid Tryd.prog 400 os).forCall (fun _ _ => 0) ⟨#[], args, []⟩).memory :=
  laidMetH_of_parts3 (fuel := 8) (laidMet_of_run' 8 (by kernel_rfl) (by kernel_rfl)) (by kernel_rfl) (by kernel_rfl)

set_option maxRecDepth 100000 in
theorem lifted (os : Os) (started : os.Started) (H : Type) (enc : TypeId × Value → H) :
    ReturnsInHanded {} Tryd.checked os 3 .any (fun w args => (Rows.fnNumbersSpec.pre enc Tryd.prog Tryd.f3 [] false w args ∧ laidMetH Tryd.prog Rows.fnNumbersRow.laid w) ∧ sizedMet enc Tryd.prog Tryd.f3 (OpenSpec.ofChange Rows.fnNumbersSpec) false w args) (Rows.fnNumbersSpec.post enc Tryd.prog Tryd.f3 false true false false) := by
  refine returnsInHanded_of_change_and (C := Tryd.checked) (X := fun w _ => laidMetH Tryd.prog Rows.fnNumbersRow.laid w) (fun _ _ _ hh h => h.of_heap hh) own started (by kernel_rfl) Tryd.func3
    (ChangeSpec.witness_shaped (enc := enc) (C := Tryd.checked) (os := os) (X := fun w _ => laidMetH Tryd.prog Rows.fnNumbersRow.laid w) false (World.doorLaid Tryd.prog 400 os) #[.slice none 0 0] 8 rfl (World.shaped_of_RefB (by kernel_rfl) (by kernel_rfl)) (by kernel_rfl) (by kernel_rfl) (by kernel_rfl) (door_met os _)) ?_
  intro W base args ds gs before hval0 hW _ _ hL _
  have hval : ∀ (j : Nat) t v, Tryd.f3.params[j]? = some t → args[j]? = some v → Value.okWide Tryd.prog W .any base t v := hval0
  have hW' := hW
  obtain ⟨p, q, hA0, hV, rfl, hfz, hnd⟩ := hW
  have hA : DataW.TrodAll enc Tryd.prog W 0 (fun _ => true) true Tryd.f3.params.toList args.toList ds p := hA0
  rw [Tryd.params3] at hA hval
  obtain ⟨v0, vs0, d0, ds0, p0, q0, hargs, rfl, rfl, h0, r0⟩ := trodAll_cons hA
  obtain ⟨rfl, rfl, rfl⟩ := trodAll_nil r0
  obtain rfl : args = #[v0] := by cases args; simp_all
  obtain ⟨rfl, rfl⟩ := trodVars_none hV
  obtain ⟨a0, len0, cap0, rfl⟩ := okWide_slice Tryd.underlying22 (hval 0 22 v0 rfl rfl)
  have k0 := h0
  have lt0 : ∀ x ∈ p0, x.block < W.heap.size := by obtain ⟨m, hm⟩ := k0; exact DataW.trod_lt m _ _ _ hm
  obtain ⟨z0, w0⟩ : ∃ zs, IsRow .u8 W a0 len0 cap0 zs := by
    obtain ⟨fuel, hf⟩ := h0
    rcases open_ints Tryd.underlying22 Tryd.underlying5 (by kernel_rfl) hf with ⟨hcs, _⟩ | ⟨x, l, c, zs, hcs, _, hl, hm, hz, _, hcell, hwz⟩
    · simp [Value.cells] at hcs
      obtain ⟨rfl, rfl, rfl⟩ := hcs
      exact ⟨[], .inl ⟨rfl, rfl, rfl, rfl⟩⟩
    · simp [Value.cells] at hcs
      obtain ⟨rfl, rfl, rfl⟩ := hcs
      exact ⟨zs, .inr ⟨_, rfl, hl, hm, by simpa using hz, hcell, hwz⟩⟩
  clear hA0 hval0
  refine (walk a0 len0 cap0 z0 W hL w0).mono fun e W' ⟨he, bel⟩ => ?_
  subst he
  exact ⟨_, rfl, _, _, _, [], _, [], hW', trodAll_mk1 (shut_bool Tryd.underlying4 _), (trodAll_cons_mk (Below.trod laidOut (by kernel_rfl) (of_decide_eq_true (by kernel_rfl)) k0 bel lt0) trodAll_mk0), rfl, bel.frame _, fun h => by cases h⟩

theorem over : Rows.fnNumbersRow.holds Tryd.pinned (OpenSpec.ofChange Rows.fnNumbersSpec) :=
  OpenClaim.holds_of_wide 3 Tryd.f3 rfl rfl rfl rfl rfl rfl rfl ⟨rfl, rfl, rfl, rfl, rfl⟩ rfl rfl rfl rfl rfl (by kernel_rfl) Tryd.func3 (by kernel_rfl)
    (of_decide_eq_true (by kernel_rfl)) (by unfold Func.isWrapper; first | (rw [if_pos (by decide +kernel)]; kernel_rfl) | (rw [if_neg (by decide +kernel)]; exact ⟨rfl, rfl⟩))
    (fun os started H enc _ => lifted os started H enc)

theorem proved : Rows.FnNumbersCardSaid :=
  Claim7.holds_tied_plain_at .later [] [.data, .data, .data, .sentinel, .sentinel] true (true, "629c9ff96fbb704104ec40ecc5db659ae7672414eb526ba1c12b0a0ea985ac64") true
    over (fun _ h => by cases h) (by kernel_rfl) (fun _ h => by cases h) fnNumbers_row_tie rfl ⟨rfl, rfl⟩ (by kernel_rfl) rfl
    (fun f fn hf hfn => by
      obtain rfl : f = 3 := Option.some.inj ((show Tryd.prog.funcNamed "loop.example/g00679/laws.FnNumbers" = some 3 by kernel_rfl).symm.trans hf) |>.symm
      obtain rfl : fn = Tryd.f3 := (Option.some.inj (Tryd.func3.symm.trans hfn)).symm
      exact ⟨by kernel_rfl, fun j t ht => by
        rw [Tryd.params3] at ht
        rcases j with _ | j
        · have ht' : t = 22 := by simpa using ht.symm
          subst ht'
          exact (show Tryd.prog.wantsStandIn 22 = false by kernel_rfl)
        simp at ht
      ⟩)
    (by kernel_rfl)
#print axioms proved
end Go.Proofs.YtbogonfamflpdaaDoor.fnNumbers
