
/- The contracts of the model's InstrOk (all instructions) and l04Proc. -/

import Derived.Test.YtghkdkagnibkgaaGreatDoorInstrOkA

import Derived.Test.YtghkdkagnibkgaaGreatDoorInstrOkB

import Derived.Test.YtghkdkagnibkgaaGreatDoorInstrOkC

import Derived.Test.YtghkdkagnibkgaaGreatDoorSelectS

namespace Go.Proofs.YtghkdkagnibkgaaGreatDoor
set_option linter.unusedSimpArgs false
set_option linter.unusedVariables false
open Go.RowKit

/-- What the document asks of an instruction. -/
def instrOkB (n0 n2 n3 : Nat) (mus n op a b c : Int) : Bool :=
  if op = 1 then restB a b c 0
  else if op = 2 then restB a b c 2 && regB a && valB b
  else if op = 3 ∨ op = 4 ∨ op = 5 then restB a b c 3 && regB a && regB b && regB c
  else if op = 6 then restB a b c 1 && inB a 0 (n - 1)
  else if op = 7 then restB a b c 2 && regB a && inB b 0 (n - 1)
  else if op = 8 then restB a b c 2 && inB a (-1) ((n0 : Int) - 1) && regB b
  else if op = 9 then restB a b c 3 && inB a (-1) ((n0 : Int) - 1) && regB b && regB c
  else if op = 10 then restB a b c 1 && inB a (-1) ((n0 : Int) - 1)
  else if op = 11 then restB a b c 1 && inB a 0 ((n2 : Int) - 1)
  else if op = 12 ∨ op = 13 then restB a b c 1 && inB a 0 (mus - 1)
  else if op = 14 then restB a b c 2 && inB a 0 ((n3 : Int) - 1) && regB b
  else if op = 15 then restB a b c 1 && regB a
  else false

set_option maxRecDepth 100000 in
set_option maxHeartbeats 1000000 in
theorem specInstrOk_any {A0 A2 A3 : Option Addr} {n0 c0 n2 c2 n3 c3 : Nat} {mus n op a b c : Int} {w : World} (hn0 : n0 ≤ 1048576) (hn2 : n2 ≤ 1048576) (hn3 : n3 ≤ 1048576) (hm : 0 ≤ mus + 9223372036854775807) (hm2 : mus ≤ 9223372036854775807) (hn : 0 ≤ n) (hn' : n ≤ 1048576) :
    Calls Tryz.prog 148 #[.agg #[.slice A0 n0 c0, .int .i64 mus, .slice A2 n2 c2, .slice A3 n3 c3], .int .i64 n, .agg #[.int .i64 op, .int .i64 a, .int .i64 b, .int .i64 c]] w fun e w' => e = .returned (.bool (instrOkB n0 n2 n3 mus n op a b c)) ∧ Below w.heap.size w w' := by
  by_cases h : 1 ≤ op ∧ op ≤ 15
  · rcases op_cases h with rfl | rfl | rfl | rfl | rfl | rfl | rfl | rfl | rfl | rfl | rfl | rfl | rfl | rfl | rfl
    · exact specInstrOk_1 hn0 hn2 hn3 hm hm2 hn hn'
    · exact specInstrOk_2 hn0 hn2 hn3 hm hm2 hn hn'
    · exact specInstrOk_3 hn0 hn2 hn3 hm hm2 hn hn'
    · exact specInstrOk_4 hn0 hn2 hn3 hm hm2 hn hn'
    · exact specInstrOk_5 hn0 hn2 hn3 hm hm2 hn hn'
    · exact specInstrOk_6 hn0 hn2 hn3 hm hm2 hn hn'
    · exact specInstrOk_7 hn0 hn2 hn3 hm hm2 hn hn'
    · exact specInstrOk_8 hn0 hn2 hn3 hm hm2 hn hn'
    · exact specInstrOk_9 hn0 hn2 hn3 hm hm2 hn hn'
    · exact specInstrOk_10 hn0 hn2 hn3 hm hm2 hn hn'
    · exact specInstrOk_11 hn0 hn2 hn3 hm hm2 hn hn'
    · exact specInstrOk_12 hn0 hn2 hn3 hm hm2 hn hn'
    · exact specInstrOk_13 hn0 hn2 hn3 hm hm2 hn hn'
    · exact specInstrOk_14 hn0 hn2 hn3 hm hm2 hn hn'
    · exact specInstrOk_15 hn0 hn2 hn3 hm hm2 hn hn'
  · have hno := Lib.hid (show instrOkB n0 n2 n3 mus n op a b c = false by
      unfold instrOkB
      repeat (rw [if_neg (by omega)]))
    have HF := Lib.hid (fun W : World => show Calls Tryz.prog 166 #[.int .i64 op] W fun e w' => e = .returned (.int .i64 (-1)) ∧ W = w' from by
      have := specFields_any op W
      rwa [opField, if_neg h] at this)
    clear h
    go_enter Tryz.func148, Tryz.ntmps148
    go_wp2_with fail
    refine (HF.out _).mono ?_
    rintro e w0 ⟨rfl, rfl⟩
    go_wp2_with fail
    go_ret
    exact ⟨by rw [hno.out]; rfl, by go_grown⟩

def instrOk (p : DProg) (n : Int) (i : DInstr) : Bool := instrOkB p.fCaps.length p.fSels.length p.fProcs.length p.fMus n i.fOp i.fA i.fB i.fC
/-- The select that an instruction names may be met there. -/
def namesB (p : DProg) (n : Int) (i : DInstr) : Bool := match p.fSels[i.fA.toNat]? with | some s => selectB p.fCaps.length n s | none => false
def stepB (p : DProg) (n : Int) (i : DInstr) : Bool := instrOk p n i && (!(i.fOp == 11) || namesB p n i)
def endB (code : List DInstr) : Bool := match code[code.length - 1]? with | some i => (i.fOp == 1) || (i.fOp == 6) | none => false
def procB (p : DProg) (code : List DInstr) : Bool := decide (1 ≤ code.length ∧ code.length ≤ 40) && (code.all (stepB p code.length) && endB code)

theorem procB_len {p : DProg} {code : List DInstr} (h : code.length < 1 ∨ 40 < code.length) : procB p code = false := by
  rw [procB, decide_eq_false (by omega), Bool.false_and]
theorem procB_step {p : DProg} {code : List DInstr} {k : Nat} {i : DInstr} (hk : code[k]? = some i) (h : stepB p code.length i = false) : procB p code = false := by
  have : code.all (stepB p code.length) = false := by
    rw [List.all_eq_false]
    exact ⟨i, List.mem_of_getElem? hk, by rw [h]; exact Bool.false_ne_true⟩
  rw [procB, this, Bool.false_and, Bool.and_false]
theorem procB_end {p : DProg} {code : List DInstr} (hl : 1 ≤ code.length ∧ code.length ≤ 40) (h : ∀ (k : Nat) (i : DInstr), code[k]? = some i → stepB p code.length i = true) : procB p code = endB code := by
  have : code.all (stepB p code.length) = true := by
    rw [List.all_eq_true]
    intro i hi
    obtain ⟨k, hk⟩ := List.getElem?_of_mem hi
    exact h k i hk
  rw [procB, decide_eq_true hl, this, Bool.true_and, Bool.true_and]

set_option maxRecDepth 100000 in
set_option maxHeartbeats 4000000 in
theorem specProc_any {w : World} {hi : Nat} {p : DProg} {code : List DInstr} {A0 A2 A3 A : Option Addr} {n0 c0 n2 c2 n3 c3 n c : Nat} (hl0 : p.fCaps.length = n0) (hs2 : SeenR laySelect w hi A2 n2 p.fSels) (hl3 : p.fProcs.length = n3)
    (hc : SeenR layInstr w hi A n code) (hhi : hi ≤ w.heap.size) (hn0 : n0 ≤ 1048576) (hn2 : n2 ≤ 1048576) (hn3 : n3 ≤ 1048576) (hm : 0 ≤ p.fMus + 9223372036854775807) (hm2 : p.fMus ≤ 9223372036854775807) (hsz : (p.fSels.map szSelect).sum ≤ 1048576) (hn : n ≤ 1048576) :
    Calls Tryz.prog 114 #[.agg #[.slice A0 n0 c0, .int .i64 p.fMus, .slice A2 n2 c2, .slice A3 n3 c3], .slice A n c] w fun e w' => e = .returned (.bool (procB p code)) ∧ Below w.heap.size w w' := by
  have LC := Lib.hid hc.1
  have L0 := Lib.hid hl0
  have L2 := Lib.hid hs2.1
  have L3 := Lib.hid hl3
  clear hl0 hl3
  by_cases hlen : 1 ≤ n ∧ n ≤ 40
  · obtain ⟨hn1, hn40⟩ := hlen
    go_enter Tryz.func114, Tryz.ntmps114
    go_wp2_with fail
    go_loopw [18] (fun i wr => ∃ k : Nat, k ≤ n ∧ i = .int .i64 k ∧ Hid (∀ (j : Nat) (x : DInstr), j < k → code[j]? = some x → stepB p code.length x = true) ∧ Below (w.heap.size + 1) (w.alloc (.cells #[.slice A0 n0 c0, .int .i64 p.fMus, .slice A2 n2 c2, .slice A3 n3 c3] 38)) wr) (fun i _ => n - (intOf i).toNat)
    case atStart => exact ⟨0, Nat.zero_le _, rfl, Lib.hid (fun j x hj => by omega), by simpa using Below.refl _ _⟩
    case round =>
      rename World => wo
      obtain ⟨k, hk, rfl, hall, hb⟩ := hrel
      have z := hb.size
      simp only [World.size_alloc] at z
      obtain ⟨hcl0, hfz0⟩ := bcell hb
      have hl0a : w.heap.size < w.heap.size + 1 := by omega
      have hz0a : w.heap.size < wo.heap.size := by omega
      have hbw : Below w.heap.size w wo := Below.trans (by go_grown) (hb.mono (by omega))
      by_cases hlt : k < n
      · obtain ⟨hx, g, o, vs, rfl, hg, ⟨rfl, hw⟩, hcell⟩ := (hc.below hbw hhi).at_ hlt
        have cc0 := hcell 0 _ rfl
        have cc1 := hcell 1 _ rfl
        have cc2 := hcell 2 _ rfl
        have cc3 := hcell 3 _ rfl
        simp only [show layInstr.size = 4 from rfl, ← Nat.add_assoc, Nat.add_zero, Nat.mul_one] at cc0 cc1 cc2 cc3
        clear hcell hw
        have hdk := Lib.hid (List.getElem?_eq_getElem hx)
        generalize code[k] = x at *
        clear hx
        obtain ⟨op, a, b, c'⟩ := x
        simp only at cc0 cc1 cc2 cc3
        have hi' := Lib.hid (show instrOk p (n : Int) ⟨op, a, b, c'⟩ = instrOkB n0 n2 n3 p.fMus (n : Int) op a b c' by unfold instrOk; rw [L0.out, L2.out, L3.out])
        go_wp2_with fail
        refine (specInstrOk_any hn0 hn2 hn3 hm hm2 (by omega) (by omega)).mono ?_
        rintro e w1 ⟨rfl, hb1⟩
        obtain ⟨hcl1, hfz1⟩ := bcell hb1
        have z1 := hb1.size
        simp only [World.size_alloc] at z1
        have hz1a : w.heap.size < w1.heap.size := by omega
        have hz1c : wo.heap.size < w1.heap.size := by omega
        have hbx : Below wo.heap.size wo w1 := by
          refine Below.trans ?_ (hb1.mono ?_)
          · go_grown
          · simp
        have hB1 := hb.trans (hbx.mono (by omega))
        have hb2 : Below w.heap.size w w1 := hbw.trans (hbx.mono (by omega))
        cases ti : instrOkB n0 n2 n3 p.fMus (n : Int) op a b c'
        · have hno := Lib.hid (procB_step (p := p) hdk.out (by rw [LC.out]; simp only [stepB, hi'.out, ti, Bool.false_and]))
          go_wp2_with fail
          go_ret
          exact ⟨by rw [hno.out]; rfl, hb2⟩
        · cases t11 : (op == 11)
          · have hyes := Lib.hid (show stepB p (n : Int) ⟨op, a, b, c'⟩ = true by simp only [stepB, hi'.out, ti, t11]; rfl)
            go_wp2_with fail
            go_quiet (fail)
            go_wp2_with fail
            go_roundw
            case rel =>
              refine ⟨k + 1, by omega, by go_num, Lib.hid (fun j x hj hx => ?_), below_drawn hB1 _⟩
              by_cases hjk : j = k
              · subst hjk
                obtain rfl := Option.some.inj (hdk.out.symm.trans hx)
                rw [LC.out]
                exact hyes.out
              · exact hall.out j x (by omega) hx
            case measure => simp [intOf]; omega
          · obtain rfl : op = 11 := by simpa using t11
            have HTI := Lib.hid ti
            have hti : restB a b c' 1 = true ∧ inB a 0 ((n2 : Int) - 1) = true := by simpa [instrOkB] using ti
            have hab : 0 ≤ a ∧ a ≤ (n2 : Int) - 1 := by have := hti.2; simpa [inB] using this
            obtain ⟨q, rfl⟩ : ∃ q : Nat, a = q := ⟨a.toNat, by omega⟩
            have hq : q < n2 := by omega
            obtain ⟨hxs, g2, o2, vs2, rfl, hg2, hsee, hcell2⟩ := (hs2.below hb2 hhi).at_ hq
            have hds := Lib.hid (List.getElem?_eq_getElem hxs)
            have hsl : szSelect p.fSels[q] ≤ 1048576 := Nat.le_trans (sum_mem_le szSelect (List.getElem_mem hxs)) hsz
            generalize p.fSels[q] = s at *
            clear hxs
            have HE := Lib.hid (fun (W : World) (hW : Below w1.heap.size w1 W) => specSelectOk_any (w := W) (hi := hi) (s := s) (B0 := A0) (B2 := some ⟨g2, o2, none⟩) (B3 := A3) (m0 := n0) (b0 := c0) (m2 := n2) (b2 := c2) (m3 := n3) (b3 := c3) (mus := p.fMus) (n := (n : Int)) (laySelect.keep hsee fun k hk => hW.block k (by omega)) (by have := hW.size; omega) hn0 (by omega) (by omega) hsl)
            obtain ⟨B0, m0, b0, rfl, ⟨hc0, hm0, s0⟩, hw1⟩ := seeSelect hsee
            have ee0 := hcell2 0 _ rfl
            have ee1 := hcell2 1 _ rfl
            simp only [show laySelect.size = 2 from rfl, ← Nat.add_assoc, Nat.add_zero, Nat.mul_one] at ee0 ee1
            clear hcell2 hsee s0 ti hti
            have hi0 : (0 : Int) ≤ (q : Int) := by omega
            have hi1 : (q : Int) < (n2 : Int) := by omega
            have hb0 : Below w1.heap.size w1 w1.drew := (Below.refl _ _).drew
            have hnm := Lib.hid (show namesB p (n : Int) ⟨11, (q : Int), b, c'⟩ = selectB n0 (n : Int) s by simp only [namesB, Int.toNat_natCast, hds.out, L0.out])
            cases ts : selectB n0 (n : Int) s
            · have hno := Lib.hid (procB_step (p := p) hdk.out (by rw [LC.out]; simp only [stepB, hnm.out, ts]; simp))
              go_wp2_with fail
              go_region_with (go_at_call 113; refine (HE.out _ hb0).mono ?_; rintro e w2 ⟨rfl, hb5⟩)
              all_goals
                have hbz : Below w.heap.size w w2 := hb2.drew.trans (hb5.mono (show w.heap.size ≤ w1.heap.size by omega))
                go_wp2_with fail
                go_ret
                exact ⟨by rw [hno.out]; rfl, hbz⟩
            · have hyes := Lib.hid (show stepB p (n : Int) ⟨11, (q : Int), b, c'⟩ = true by simp only [stepB, hi'.out, HTI.out, hnm.out, ts]; rfl)
              go_wp2_with fail
              go_region_with (go_at_call 113; refine (HE.out _ hb0).mono ?_; rintro e w2 ⟨rfl, hb5⟩)
              all_goals
                have hB5 := hB1.drew.trans (hb5.mono (show w.heap.size + 1 ≤ w1.heap.size by omega))
                go_wp2_with fail
                go_roundw
                case rel =>
                  refine ⟨k + 1, by omega, by go_num, Lib.hid (fun j x hj hx => ?_), hB5⟩
                  by_cases hjk : j = k
                  · subst hjk
                    obtain rfl := Option.some.inj (hdk.out.symm.trans hx)
                    rw [LC.out]
                    exact hyes.out
                  · exact hall.out j x (by omega) hx
                case measure => simp [intOf]; omega
      · obtain rfl : k = n := by omega
        obtain ⟨m, rfl⟩ : ∃ m, k = m + 1 := ⟨k - 1, by omega⟩
        have hend := Lib.hid (procB_end (p := p) (code := code) (by rw [LC.out]; omega) (fun j x hj => hall.out j x (by have := (List.getElem?_eq_some_iff.1 hj).1; rw [LC.out] at this; exact this) hj))
        obtain ⟨hx, g, o, vs, rfl, hg, ⟨rfl, hw⟩, hcell⟩ := (hc.below hbw hhi).at_ (show m < m + 1 by omega)
        have cc0 := hcell 0 _ rfl
        simp only [show layInstr.size = 4 from rfl, ← Nat.add_assoc, Nat.add_zero, Nat.mul_one] at cc0
        have hdk := Lib.hid (List.getElem?_eq_getElem hx)
        clear hcell hw
        generalize code[m] = x at *
        have he := Lib.hid (show endB code = ((x.fOp == 1) || (x.fOp == 6)) by simp only [endB, LC.out, Nat.add_sub_cancel, hdk.out])
        clear hx
        cases t1 : (x.fOp == 1)
        · cases t6 : (x.fOp == 6)
          all_goals
            go_wp2_with fail
            go_ret
            exact ⟨by rw [hend.out, he.out, t1, t6]; rfl, hbw⟩
        · go_wp2_with fail
          go_ret
          exact ⟨by rw [hend.out, he.out, t1]; rfl, hbw⟩
  · have hno := Lib.hid (procB_len (p := p) (code := code) (by rw [LC.out]; omega))
    clear hc
    by_cases h1 : n < 1
    · go_enter Tryz.func114, Tryz.ntmps114
      go_wp2_with fail
      go_ret
      exact ⟨by rw [hno.out]; rfl, by go_grown⟩
    · have h2 : 40 < n := by omega
      go_enter Tryz.func114, Tryz.ntmps114
      go_wp2_with fail
      go_ret
      exact ⟨by rw [hno.out]; rfl, by go_grown⟩
end Go.Proofs.YtghkdkagnibkgaaGreatDoor
