
/- The contract of the model's SelectOk. -/

import Derived.Test.YtghkdkagnibkgaaGreatDoorGInstrS

import Derived.Test.YtghkdkagnibkgaaGreatDoorGBase

namespace Go.Proofs.YtghkdkagnibkgaaGreatDoor
set_option linter.unusedSimpArgs false
set_option linter.unusedVariables false
open Go.RowKit

/-- A case by itself. -/
def caseB (nch : Nat) (n : Int) (x : DCase) : Bool := inB x.fChan (-1) ((nch : Int) - 1) && (regB x.fReg && (regB x.fOk && (!(x.fSend && (x.fOk != 0)) && inB x.fTo 0 (n - 1))))
/-- Two cases of one channel. -/
def meetB (x y : DCase) : Bool := decide (0 ≤ x.fChan) && (x.fChan == y.fChan)
/-- The case in place k. -/
def caseAt (nch : Nat) (n : Int) (cs : List DCase) (k : Nat) : Bool :=
  match cs[k]? with
  | some x => caseB nch n x && (cs.take k).all fun y => !meetB x y
  | none => true
def selectB (nch : Nat) (n : Int) (s : DSelect) : Bool := (List.range s.fCases.length).all (caseAt nch n s.fCases) && inB s.fElse (-1) (n - 1)

theorem selectB_no {nch : Nat} {n : Int} {s : DSelect} {k : Nat} (hk : k < s.fCases.length) (h : caseAt nch n s.fCases k = false) : selectB nch n s = false := by
  have : (List.range s.fCases.length).all (caseAt nch n s.fCases) = false := by
    rw [List.all_eq_false]
    exact ⟨k, List.mem_range.2 hk, by rw [h]; exact Bool.false_ne_true⟩
  rw [selectB, this, Bool.false_and]
theorem selectB_all {nch : Nat} {n : Int} {s : DSelect} (h : ∀ k, k < s.fCases.length → caseAt nch n s.fCases k = true) : selectB nch n s = inB s.fElse (-1) (n - 1) := by
  have : (List.range s.fCases.length).all (caseAt nch n s.fCases) = true := by
    rw [List.all_eq_true]
    exact fun k hk => h k (List.mem_range.1 hk)
  rw [selectB, this, Bool.true_and]
theorem caseAt_case {nch : Nat} {n : Int} {cs : List DCase} {k : Nat} {x : DCase} (hx : cs[k]? = some x) (h : caseB nch n x = false) : caseAt nch n cs k = false := by
  simp [caseAt, hx, h]
theorem caseAt_meet {nch : Nat} {n : Int} {cs : List DCase} {k j : Nat} {x y : DCase} (hx : cs[k]? = some x) (hj : j < k) (hy : cs[j]? = some y) (h : meetB x y = true) : caseAt nch n cs k = false := by
  have hm : y ∈ cs.take k := List.mem_of_getElem? (i := j) (by rw [List.getElem?_take, if_pos hj, hy])
  simp only [caseAt, hx]
  have : (cs.take k).all (fun y => !meetB x y) = false := by
    rw [List.all_eq_false]
    exact ⟨y, hm, by rw [h]; decide⟩
  rw [this, Bool.and_false]
theorem caseAt_yes {nch : Nat} {n : Int} {cs : List DCase} {k : Nat} {x : DCase} (hx : cs[k]? = some x) (h : caseB nch n x = true) (hm : ∀ j y, j < k → cs[j]? = some y → meetB x y = false) : caseAt nch n cs k = true := by
  simp only [caseAt, hx, h, Bool.true_and, List.all_eq_true]
  intro y hy
  obtain ⟨j, hj⟩ := List.getElem?_of_mem hy
  rw [List.getElem?_take] at hj
  split at hj
  · rw [hm j y ‹_› hj]; rfl
  · cases hj

theorem size_case : ∀ w, (Go.sizeOf 89).run Tryz.prog w = .ok 5 w := fun _ => by kernel_rfl

set_option maxRecDepth 100000 in
set_option maxHeartbeats 4000000 in
theorem specSelectOk_any {w : World} {hi : Nat} {s : DSelect} {vs : List Value} {B0 B2 B3 : Option Addr} {m0 b0 m2 b2 m3 b3 : Nat} {mus n : Int} (h : laySelect.see w hi s vs) (hhi : hi ≤ w.heap.size) (hm0 : m0 ≤ 1048576) (hn : 0 ≤ n) (hn' : n ≤ 1048576) (hs : szSelect s ≤ 1048576) :
    Calls Tryz.prog 113 #[.agg #[.slice B0 m0 b0, .int .i64 mus, .slice B2 m2 b2, .slice B3 m3 b3], .int .i64 n, .agg vs.toArray] w fun e w' => e = .returned (.bool (selectB m0 n s)) ∧ Below w.heap.size w w' := by
  obtain ⟨A0, n0, c0, rfl, ⟨hc0, hm0', s0⟩, hw1⟩ := seeSelect h
  have L0 := Lib.hid s0.1
  have hs0 := hs
  unfold szSelect at hs0
  rw [L0.out] at hs0
  go_enter Tryz.func113, Tryz.ntmps113
  go_wp2_with fail
  go_loopw [14] (fun i wr => ∃ k : Nat, k ≤ n0 ∧ i = .int .i64 k ∧ Hid (∀ j, j < k → caseAt m0 n s.fCases j = true) ∧ Below (w.heap.size + 2) ((w.alloc (.cells #[.slice B0 m0 b0, .int .i64 mus, .slice B2 m2 b2, .slice B3 m3 b3] 38)).alloc (.cells #[.slice A0 n0 c0, .int .i64 s.fElse] 93)) wr) (fun i _ => n0 - (intOf i).toNat)
  case atStart => exact ⟨0, Nat.zero_le _, rfl, Lib.hid (fun j hj => by omega), by simpa using Below.refl _ _⟩
  case round =>
    rename World => wo
    obtain ⟨k, hk, rfl, hall, hb⟩ := hrel
    have z := hb.size
    simp only [World.size_alloc] at z
    obtain ⟨hcl0, hfz0⟩ := bcell hb
    have hl0a : w.heap.size < w.heap.size + 2 := by omega
    have hl0b : w.heap.size + 1 < w.heap.size + 2 := by omega
    have hz0a : w.heap.size < wo.heap.size := by omega
    have hz0b : w.heap.size + 1 < wo.heap.size := by omega
    have hbw : Below w.heap.size w wo := Below.trans (by go_grown) (hb.mono (by omega))
    by_cases hlt : k < n0
    · obtain ⟨hx, g, o, vs, rfl, hg, ⟨rfl, hw⟩, hcell⟩ := (s0.below hbw hhi).at_ hlt
      have cc0 := hcell 0 _ rfl
      have cc1 := hcell 1 _ rfl
      have cc2 := hcell 2 _ rfl
      have cc3 := hcell 3 _ rfl
      have cc4 := hcell 4 _ rfl
      simp only [show layCase.size = 5 from rfl, ← Nat.add_assoc, Nat.add_zero, Nat.mul_one] at cc0 cc1 cc2 cc3 cc4
      clear hcell hw
      have hdk := Lib.hid (List.getElem?_eq_getElem hx)
      have hlt' := Lib.hid (show k < s.fCases.length from hx)
      generalize s.fCases[k] = x at *
      clear hx
      cases t1 : inB x.fChan (-1) ((m0 : Int) - 1)
      · have hno := Lib.hid (selectB_no (n := n) hlt'.out (caseAt_case (nch := m0) (n := n) hdk.out (by simp [caseB, t1])))
        go_wp2_with fail
        refine (l04Chan_any _ _ _ _ _ _ _ _ _ _ _ _ (by omega)).mono ?_
        rintro e w1 ⟨rfl, hb1⟩
        obtain ⟨hcl1, hfz1⟩ := bcell hb1
        have z1 := hb1.size
        simp only [World.size_alloc] at z1
        have hz1a : w.heap.size < w1.heap.size := by omega
        have hz1b : w.heap.size + 1 < w1.heap.size := by omega
        have hz1c : wo.heap.size < w1.heap.size := by omega
        have hbx : Below wo.heap.size wo w1 := by
          refine Below.trans ?_ (hb1.mono ?_)
          · go_grown
          · simp
        have hB1 : Below (w.heap.size + 2) ((w.alloc (.cells #[.slice B0 m0 b0, .int .i64 mus, .slice B2 m2 b2, .slice B3 m3 b3] 38)).alloc (.cells #[.slice (some ⟨g, o, none⟩) n0 c0, .int .i64 s.fElse] 93)) w1 := hb.trans (hbx.mono (by omega))
        have hb2 : Below w.heap.size w w1 := hbw.trans (hbx.mono (by omega))
        go_wp2_with fail
        go_ret
        exact ⟨by rw [hno.out]; rfl, hb2⟩
      cases t2 : regB x.fReg
      · have hno := Lib.hid (selectB_no (n := n) hlt'.out (caseAt_case (nch := m0) (n := n) hdk.out (by simp [caseB, t1, t2])))
        go_wp2_with fail
        refine (l04Chan_any _ _ _ _ _ _ _ _ _ _ _ _ (by omega)).mono ?_
        rintro e w1 ⟨rfl, hb1⟩
        obtain ⟨hcl1, hfz1⟩ := bcell hb1
        have z1 := hb1.size
        simp only [World.size_alloc] at z1
        have hz1a : w.heap.size < w1.heap.size := by omega
        have hz1b : w.heap.size + 1 < w1.heap.size := by omega
        have hz1c : wo.heap.size < w1.heap.size := by omega
        have hbx : Below wo.heap.size wo w1 := by
          refine Below.trans ?_ (hb1.mono ?_)
          · go_grown
          · simp
        have hB1 : Below (w.heap.size + 2) ((w.alloc (.cells #[.slice B0 m0 b0, .int .i64 mus, .slice B2 m2 b2, .slice B3 m3 b3] 38)).alloc (.cells #[.slice (some ⟨g, o, none⟩) n0 c0, .int .i64 s.fElse] 93)) w1 := hb.trans (hbx.mono (by omega))
        have hb2 : Below w.heap.size w w1 := hbw.trans (hbx.mono (by omega))
        go_wp2_with fail
        refine (l03Reg_any _ _).mono ?_
        rintro e w9 ⟨rfl, rfl⟩
        go_wp2_with fail
        go_ret
        exact ⟨by rw [hno.out]; rfl, hb2⟩
      cases t3 : regB x.fOk
      · have hno := Lib.hid (selectB_no (n := n) hlt'.out (caseAt_case (nch := m0) (n := n) hdk.out (by simp [caseB, t1, t2, t3])))
        go_wp2_with fail
        refine (l04Chan_any _ _ _ _ _ _ _ _ _ _ _ _ (by omega)).mono ?_
        rintro e w1 ⟨rfl, hb1⟩
        obtain ⟨hcl1, hfz1⟩ := bcell hb1
        have z1 := hb1.size
        simp only [World.size_alloc] at z1
        have hz1a : w.heap.size < w1.heap.size := by omega
        have hz1b : w.heap.size + 1 < w1.heap.size := by omega
        have hz1c : wo.heap.size < w1.heap.size := by omega
        have hbx : Below wo.heap.size wo w1 := by
          refine Below.trans ?_ (hb1.mono ?_)
          · go_grown
          · simp
        have hB1 : Below (w.heap.size + 2) ((w.alloc (.cells #[.slice B0 m0 b0, .int .i64 mus, .slice B2 m2 b2, .slice B3 m3 b3] 38)).alloc (.cells #[.slice (some ⟨g, o, none⟩) n0 c0, .int .i64 s.fElse] 93)) w1 := hb.trans (hbx.mono (by omega))
        have hb2 : Below w.heap.size w w1 := hbw.trans (hbx.mono (by omega))
        go_wp2_with fail
        refine (l03Reg_any _ _).mono ?_
        rintro e w9 ⟨rfl, rfl⟩
        go_wp2_with fail
        refine (l03Reg_any _ _).mono ?_
        rintro e w9 ⟨rfl, rfl⟩
        go_wp2_with fail
        go_ret
        exact ⟨by rw [hno.out]; rfl, hb2⟩
      by_cases t4 : x.fSend = true ∧ ¬ x.fOk = 0
      · obtain ⟨t4a, t4b⟩ := t4
        have t4c : (x.fOk != 0) = true := by simpa using t4b
        have t4d : (x.fOk == 0) = false := by simpa using t4b
        have hno := Lib.hid (selectB_no (n := n) hlt'.out (caseAt_case (nch := m0) (n := n) hdk.out (by simp [caseB, t1, t2, t3, t4a, t4c])))
        clear t4b
        go_wp2_with fail
        refine (l04Chan_any _ _ _ _ _ _ _ _ _ _ _ _ (by omega)).mono ?_
        rintro e w1 ⟨rfl, hb1⟩
        obtain ⟨hcl1, hfz1⟩ := bcell hb1
        have z1 := hb1.size
        simp only [World.size_alloc] at z1
        have hz1a : w.heap.size < w1.heap.size := by omega
        have hz1b : w.heap.size + 1 < w1.heap.size := by omega
        have hz1c : wo.heap.size < w1.heap.size := by omega
        have hbx : Below wo.heap.size wo w1 := by
          refine Below.trans ?_ (hb1.mono ?_)
          · go_grown
          · simp
        have hB1 : Below (w.heap.size + 2) ((w.alloc (.cells #[.slice B0 m0 b0, .int .i64 mus, .slice B2 m2 b2, .slice B3 m3 b3] 38)).alloc (.cells #[.slice (some ⟨g, o, none⟩) n0 c0, .int .i64 s.fElse] 93)) w1 := hb.trans (hbx.mono (by omega))
        have hb2 : Below w.heap.size w w1 := hbw.trans (hbx.mono (by omega))
        go_wp2_with fail
        refine (l03Reg_any _ _).mono ?_
        rintro e w9 ⟨rfl, rfl⟩
        go_wp2_with fail
        refine (l03Reg_any _ _).mono ?_
        rintro e w9 ⟨rfl, rfl⟩
        go_wp2_with fail
        go_ret
        exact ⟨by rw [hno.out]; rfl, hb2⟩
      have t4s : (x.fSend && (x.fOk != 0)) = false := by
        cases hs : x.fSend
        · rfl
        · simp [hs] at t4
          simp [t4]
      cases t5 : inB x.fTo 0 (n - 1)
      · have hno := Lib.hid (selectB_no (n := n) hlt'.out (caseAt_case (nch := m0) (n := n) hdk.out (by simp [caseB, t1, t2, t3, t4s, t5])))
        cases t6 : x.fSend
        all_goals
          first
          | (have t7 : (x.fOk != 0) = false := by simpa [t6] using t4s)
          | skip
          clear t4 t4s
          go_wp2_with fail
          refine (l04Chan_any _ _ _ _ _ _ _ _ _ _ _ _ (by omega)).mono ?_
          rintro e w1 ⟨rfl, hb1⟩
          obtain ⟨hcl1, hfz1⟩ := bcell hb1
          have z1 := hb1.size
          simp only [World.size_alloc] at z1
          have hz1a : w.heap.size < w1.heap.size := by omega
          have hz1b : w.heap.size + 1 < w1.heap.size := by omega
          have hz1c : wo.heap.size < w1.heap.size := by omega
          have hbx : Below wo.heap.size wo w1 := by
            refine Below.trans ?_ (hb1.mono ?_)
            · go_grown
            · simp
          have hB1 : Below (w.heap.size + 2) ((w.alloc (.cells #[.slice B0 m0 b0, .int .i64 mus, .slice B2 m2 b2, .slice B3 m3 b3] 38)).alloc (.cells #[.slice (some ⟨g, o, none⟩) n0 c0, .int .i64 s.fElse] 93)) w1 := hb.trans (hbx.mono (by omega))
          have hb2 : Below w.heap.size w w1 := hbw.trans (hbx.mono (by omega))
          go_wp2_with fail
          refine (l03Reg_any _ _).mono ?_
          rintro e w9 ⟨rfl, rfl⟩
          go_wp2_with fail
          refine (l03Reg_any _ _).mono ?_
          rintro e w9 ⟨rfl, rfl⟩
          go_wp2_with fail
          refine (l04In_any _ _ _ _).mono ?_
          rintro e w9 ⟨rfl, rfl⟩
          go_wp2_with fail
          go_ret
          exact ⟨by rw [hno.out]; rfl, hb2⟩
      · have hyes := Lib.hid (show caseB m0 n x = true by simp only [caseB, t1, t2, t3, t4s, t5]; rfl)
        have hcut : ∀ W, (Instr.slice 75 (.slice (some ⟨g, o, none⟩) n0 c0) none (some (.int .i64 (k : Int))) none).run Tryz.prog W = .ok (.slice (some ⟨g, o, none⟩) k c0) W := fun W => by
          have ht' : Tryz.prog.underlying 75 = some (.slice (Tryz.prog.elem 75)) := by simp [Program.elem, Tryz.underlying75]
          have he : Tryz.prog.elem 75 = 89 := by simp [Program.elem, Tryz.underlying75]
          rw [run_slice_h W 75 _ _ _ ht' .i64 _ (by omega) (by omega), he, size_case]
          simp [Result.andThen, sliced, add_plain]
        cases t6 : x.fSend
        all_goals
          first
          | (have t7 : (x.fOk != 0) = false := by simpa [t6] using t4s)
          | skip
          clear t4 t4s
          go_wp2_with fail
          refine (l04Chan_any _ _ _ _ _ _ _ _ _ _ _ _ (by omega)).mono ?_
          rintro e w1 ⟨rfl, hb1⟩
          obtain ⟨hcl1, hfz1⟩ := bcell hb1
          have z1 := hb1.size
          simp only [World.size_alloc] at z1
          have hz1a : w.heap.size < w1.heap.size := by omega
          have hz1b : w.heap.size + 1 < w1.heap.size := by omega
          have hz1c : wo.heap.size < w1.heap.size := by omega
          have hbx : Below wo.heap.size wo w1 := by
            refine Below.trans ?_ (hb1.mono ?_)
            · go_grown
            · simp
          have hB1 : Below (w.heap.size + 2) ((w.alloc (.cells #[.slice B0 m0 b0, .int .i64 mus, .slice B2 m2 b2, .slice B3 m3 b3] 38)).alloc (.cells #[.slice (some ⟨g, o, none⟩) n0 c0, .int .i64 s.fElse] 93)) w1 := hb.trans (hbx.mono (by omega))
          have hb2 : Below w.heap.size w w1 := hbw.trans (hbx.mono (by omega))
          go_wp2_with fail
          refine (l03Reg_any _ _).mono ?_
          rintro e w9 ⟨rfl, rfl⟩
          go_wp2_with fail
          refine (l03Reg_any _ _).mono ?_
          rintro e w9 ⟨rfl, rfl⟩
          go_wp2_with fail
          refine (l04In_any _ _ _ _).mono ?_
          rintro e w9 ⟨rfl, rfl⟩
          go_wp2_with fail
          go_loopw [58] (fun i wr => ∃ m : Nat, m ≤ k ∧ i = .int .i64 m ∧ Hid (∀ j y, j < m → s.fCases[j]? = some y → meetB x y = false) ∧ Below w1.heap.size w1 wr) (fun i _ => k - (intOf i).toNat)
          case atStart => exact ⟨0, Nat.zero_le _, rfl, Lib.hid (fun j y hj => by omega), Below.refl _ _⟩
          case round =>
            obtain ⟨m, hm, rfl, hmeet, hb3⟩ := hrel
            obtain ⟨hcl3, hfz3⟩ := bcell hb3
            have z3 := hb3.size
            have hz3a : w.heap.size < wr.heap.size := by omega
            have hz3b : w.heap.size + 1 < wr.heap.size := by omega
            have hz3c : wo.heap.size < wr.heap.size := by omega
            have hb4 : Below w.heap.size w wr := hb2.trans (hb3.mono (by omega))
            by_cases hml : m < k
            · obtain ⟨hxm, g', o', vs', hA', hg', ⟨rfl, hw'⟩, hcell'⟩ := (s0.below hb4 hhi).at_ (show m < n0 by omega)
              injection hA' with hA'
              injection hA' with hA1 hA2
              subst hA1 hA2
              have dd0 := hcell' 0 _ rfl
              have dd1 := hcell' 1 _ rfl
              have dd2 := hcell' 2 _ rfl
              have dd3 := hcell' 3 _ rfl
              have dd4 := hcell' 4 _ rfl
              simp only [show layCase.size = 5 from rfl, ← Nat.add_assoc, Nat.add_zero, Nat.mul_one] at dd0 dd1 dd2 dd3 dd4
              clear hcell' hw' cc0 cc1 cc2 cc3 cc4
              have hy := Lib.hid (List.getElem?_eq_getElem hxm)
              generalize s.fCases[m] = y at *
              have hbn : Below w1.heap.size w1 (wr.alloc (.cells #[.bool y.fSend, .int .i64 y.fChan, .int .i64 y.fReg, .int .i64 y.fOk, .int .i64 y.fTo] 89)) := hb3.alloc z3 _
              have hbn2 : Below w.heap.size w (wr.alloc (.cells #[.bool y.fSend, .int .i64 y.fChan, .int .i64 y.fReg, .int .i64 y.fOk, .int .i64 y.fTo] 89)) := hb4.alloc (by omega) _
              by_cases hge : 0 ≤ x.fChan
              · cases heq : (x.fChan == y.fChan)
                · have hmt := Lib.hid (show meetB x y = false by simp [meetB, heq])
                  go_wp2_with fail
                  go_roundw
                  case rel =>
                    refine ⟨m + 1, by omega, by go_num, Lib.hid (fun j z hj hz => ?_), hbn⟩
                    by_cases hjm : j = m
                    · subst hjm
                      obtain rfl : y = z := Option.some.inj (hy.out.symm.trans hz)
                      exact hmt.out
                    · exact hmeet.out j z (by omega) hz
                  case measure => simp [intOf]; omega
                · have hmt := Lib.hid (show meetB x y = true by simp [meetB, heq, hge])
                  have hno := Lib.hid (selectB_no (n := n) hlt'.out (caseAt_meet (nch := m0) (n := n) hdk.out hml hy.out hmt.out))
                  go_wp2_with fail
                  go_ret
                  exact ⟨by rw [hno.out]; rfl, hbn2⟩
              · have hge' : decide (0 ≤ x.fChan) = false := decide_eq_false hge
                have hmt := Lib.hid (show meetB x y = false by simp [meetB, hge'])
                clear hge
                go_wp2_with fail
                go_roundw
                case rel =>
                  refine ⟨m + 1, by omega, by go_num, Lib.hid (fun j z hj hz => ?_), hbn⟩
                  by_cases hjm : j = m
                  · subst hjm
                    obtain rfl : y = z := Option.some.inj (hy.out.symm.trans hz)
                    exact hmt.out
                  · exact hmeet.out j z (by omega) hz
                case measure => simp [intOf]; omega
            · go_wp2_with fail
              obtain rfl : m = k := by omega
              go_roundw
              case rel =>
                refine ⟨m + 1, by omega, by go_num, Lib.hid (fun j hj => ?_), hB1.trans (hb3.mono (by omega))⟩
                by_cases hjm : j = m
                · subst hjm
                  exact caseAt_yes hdk.out hyes.out hmeet.out
                · exact hall.out j (by omega)
              case measure => simp [intOf]; omega
    · obtain rfl : k = n0 := by omega
      have hyes := Lib.hid (selectB_all (nch := m0) (n := n) (s := s) (by rw [L0.out]; exact hall.out))
      go_wp2_with fail
      refine (l04In_any _ _ _ _).mono ?_
      rintro e w9 ⟨rfl, rfl⟩
      go_wp2_with fail
      go_ret
      exact ⟨by rw [hyes.out]; rfl, hbw⟩
end Go.Proofs.YtghkdkagnibkgaaGreatDoor
