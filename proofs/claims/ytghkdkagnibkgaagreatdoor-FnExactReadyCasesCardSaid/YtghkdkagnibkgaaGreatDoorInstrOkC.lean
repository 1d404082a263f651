
/- The contract of the model's InstrOk, instructions 9, 12, 13, 14, 15. Laid by wip/tools/geninstr.py. -/

import Derived.Test.YtghkdkagnibkgaaGreatDoorGInstrS

namespace Go.Proofs.YtghkdkagnibkgaaGreatDoor
set_option linter.unusedSimpArgs false
set_option linter.unusedVariables false
open Go.RowKit

set_option maxRecDepth 100000 in
set_option maxHeartbeats 2000000 in
theorem specInstrOk_9 {A0 A2 A3 : Option Addr} {n0 c0 n2 c2 n3 c3 : Nat} {mus n a b c : Int} {w : World} (hn0 : n0 ≤ 1048576) (hn2 : n2 ≤ 1048576) (hn3 : n3 ≤ 1048576) (hm : 0 ≤ mus + 9223372036854775807) (hm2 : mus ≤ 9223372036854775807) (hn : 0 ≤ n) (hn' : n ≤ 1048576) :
    Calls Tryz.prog 148 #[.agg #[.slice A0 n0 c0, .int .i64 mus, .slice A2 n2 c2, .slice A3 n3 c3], .int .i64 n, .agg #[.int .i64 9, .int .i64 a, .int .i64 b, .int .i64 c]] w fun e w' => e = .returned (.bool ((restB a b c 3) && (inB a (-1) ((n0 : Int) - 1)) && (regB b) && (regB c))) ∧ Below w.heap.size w w' := by
  have HF := Lib.hid (fun W : World => show Calls Tryz.prog 166 #[.int .i64 9] W fun e w' => e = .returned (.int .i64 3) ∧ W = w' from specFields_any 9 W)
  cases r0 : restB a b c 3
  · have r1 : restB a b c 3 = false := r0
    go_enter Tryz.func148, Tryz.ntmps148
    go_wp2_with fail
    refine (HF.out _).mono ?_
    rintro e w0 ⟨rfl, rfl⟩
    go_wp2_with fail
    refine (l04Rest_any _ _ _ _ _ _ (by omega)).mono ?_
    rintro e w1 ⟨rfl, hb1⟩
    have z1 := hb1.size
    simp only [World.size_alloc] at z1
    obtain ⟨hcl1, hfz1⟩ := bcell hb1
    have hl1a : w.heap.size < w1.heap.size := by omega
    have hl1b : w.heap.size + 1 < w1.heap.size := by omega
    have hB1 : Below w.heap.size w w1 := Below.trans (by go_grown) (hb1.mono (by simp; omega))
    go_wp2_with fail
    go_ret
    exact ⟨rfl, hB1⟩
  · cases t0 : inB a (-1) ((n0 : Int) - 1)
    · go_enter Tryz.func148, Tryz.ntmps148
      go_wp2_with fail
      refine (HF.out _).mono ?_
      rintro e w0 ⟨rfl, rfl⟩
      go_wp2_with fail
      refine (l04Rest_any _ _ _ _ _ _ (by omega)).mono ?_
      rintro e w1 ⟨rfl, hb1⟩
      have z1 := hb1.size
      simp only [World.size_alloc] at z1
      obtain ⟨hcl1, hfz1⟩ := bcell hb1
      have hl1a : w.heap.size < w1.heap.size := by omega
      have hl1b : w.heap.size + 1 < w1.heap.size := by omega
      have hB1 : Below w.heap.size w w1 := Below.trans (by go_grown) (hb1.mono (by simp; omega))
      go_wp2_with fail
      refine (l04Chan_any _ _ _ _ _ _ _ _ _ _ _ _ (by omega)).mono ?_
      rintro e w2 ⟨rfl, hb2⟩
      have z2 := hb2.size
      obtain ⟨hcl2, hfz2⟩ := bcell hb2
      have hl2a : w.heap.size < w2.heap.size := by omega
      have hl2b : w.heap.size + 1 < w2.heap.size := by omega
      have hB2 : Below w.heap.size w w2 := hB1.trans (hb2.mono (by omega))
      go_wp2_with fail
      go_ret
      exact ⟨rfl, hB2⟩
    · cases t1 : regB b
      · go_enter Tryz.func148, Tryz.ntmps148
        go_wp2_with fail
        refine (HF.out _).mono ?_
        rintro e w0 ⟨rfl, rfl⟩
        go_wp2_with fail
        refine (l04Rest_any _ _ _ _ _ _ (by omega)).mono ?_
        rintro e w1 ⟨rfl, hb1⟩
        have z1 := hb1.size
        simp only [World.size_alloc] at z1
        obtain ⟨hcl1, hfz1⟩ := bcell hb1
        have hl1a : w.heap.size < w1.heap.size := by omega
        have hl1b : w.heap.size + 1 < w1.heap.size := by omega
        have hB1 : Below w.heap.size w w1 := Below.trans (by go_grown) (hb1.mono (by simp; omega))
        go_wp2_with fail
        refine (l04Chan_any _ _ _ _ _ _ _ _ _ _ _ _ (by omega)).mono ?_
        rintro e w2 ⟨rfl, hb2⟩
        have z2 := hb2.size
        obtain ⟨hcl2, hfz2⟩ := bcell hb2
        have hl2a : w.heap.size < w2.heap.size := by omega
        have hl2b : w.heap.size + 1 < w2.heap.size := by omega
        have hB2 : Below w.heap.size w w2 := hB1.trans (hb2.mono (by omega))
        go_wp2_with fail
        refine (l03Reg_any _ _).mono ?_
        rintro e w9 ⟨rfl, rfl⟩
        go_wp2_with fail
        go_ret
        exact ⟨rfl, hB2⟩
      · cases t2 : regB c
        · go_enter Tryz.func148, Tryz.ntmps148
          go_wp2_with fail
          refine (HF.out _).mono ?_
          rintro e w0 ⟨rfl, rfl⟩
          go_wp2_with fail
          refine (l04Rest_any _ _ _ _ _ _ (by omega)).mono ?_
          rintro e w1 ⟨rfl, hb1⟩
          have z1 := hb1.size
          simp only [World.size_alloc] at z1
          obtain ⟨hcl1, hfz1⟩ := bcell hb1
          have hl1a : w.heap.size < w1.heap.size := by omega
          have hl1b : w.heap.size + 1 < w1.heap.size := by omega
          have hB1 : Below w.heap.size w w1 := Below.trans (by go_grown) (hb1.mono (by simp; omega))
          go_wp2_with fail
          refine (l04Chan_any _ _ _ _ _ _ _ _ _ _ _ _ (by omega)).mono ?_
          rintro e w2 ⟨rfl, hb2⟩
          have z2 := hb2.size
          obtain ⟨hcl2, hfz2⟩ := bcell hb2
          have hl2a : w.heap.size < w2.heap.size := by omega
          have hl2b : w.heap.size + 1 < w2.heap.size := by omega
          have hB2 : Below w.heap.size w w2 := hB1.trans (hb2.mono (by omega))
          go_wp2_with fail
          refine (l03Reg_any _ _).mono ?_
          rintro e w9 ⟨rfl, rfl⟩
          go_wp2_with fail
          refine (l03Reg_any _ _).mono ?_
          rintro e w9 ⟨rfl, rfl⟩
          go_wp2_with fail
          go_ret
          exact ⟨rfl, hB2⟩
        · go_enter Tryz.func148, Tryz.ntmps148
          go_wp2_with fail
          refine (HF.out _).mono ?_
          rintro e w0 ⟨rfl, rfl⟩
          go_wp2_with fail
          refine (l04Rest_any _ _ _ _ _ _ (by omega)).mono ?_
          rintro e w1 ⟨rfl, hb1⟩
          have z1 := hb1.size
          simp only [World.size_alloc] at z1
          obtain ⟨hcl1, hfz1⟩ := bcell hb1
          have hl1a : w.heap.size < w1.heap.size := by omega
          have hl1b : w.heap.size + 1 < w1.heap.size := by omega
          have hB1 : Below w.heap.size w w1 := Below.trans (by go_grown) (hb1.mono (by simp; omega))
          go_wp2_with fail
          refine (l04Chan_any _ _ _ _ _ _ _ _ _ _ _ _ (by omega)).mono ?_
          rintro e w2 ⟨rfl, hb2⟩
          have z2 := hb2.size
          obtain ⟨hcl2, hfz2⟩ := bcell hb2
          have hl2a : w.heap.size < w2.heap.size := by omega
          have hl2b : w.heap.size + 1 < w2.heap.size := by omega
          have hB2 : Below w.heap.size w w2 := hB1.trans (hb2.mono (by omega))
          go_wp2_with fail
          refine (l03Reg_any _ _).mono ?_
          rintro e w9 ⟨rfl, rfl⟩
          go_wp2_with fail
          refine (l03Reg_any _ _).mono ?_
          rintro e w9 ⟨rfl, rfl⟩
          go_wp2_with fail
          go_ret
          exact ⟨rfl, hB2⟩

set_option maxRecDepth 100000 in
set_option maxHeartbeats 2000000 in
theorem specInstrOk_12 {A0 A2 A3 : Option Addr} {n0 c0 n2 c2 n3 c3 : Nat} {mus n a b c : Int} {w : World} (hn0 : n0 ≤ 1048576) (hn2 : n2 ≤ 1048576) (hn3 : n3 ≤ 1048576) (hm : 0 ≤ mus + 9223372036854775807) (hm2 : mus ≤ 9223372036854775807) (hn : 0 ≤ n) (hn' : n ≤ 1048576) :
    Calls Tryz.prog 148 #[.agg #[.slice A0 n0 c0, .int .i64 mus, .slice A2 n2 c2, .slice A3 n3 c3], .int .i64 n, .agg #[.int .i64 12, .int .i64 a, .int .i64 b, .int .i64 c]] w fun e w' => e = .returned (.bool ((restB a b c 1) && (inB a 0 (mus - 1)))) ∧ Below w.heap.size w w' := by
  have HF := Lib.hid (fun W : World => show Calls Tryz.prog 166 #[.int .i64 12] W fun e w' => e = .returned (.int .i64 1) ∧ W = w' from specFields_any 12 W)
  cases r0 : restB a b c 1
  · have r1 : restB a b c 1 = false := r0
    go_enter Tryz.func148, Tryz.ntmps148
    go_wp2_with fail
    refine (HF.out _).mono ?_
    rintro e w0 ⟨rfl, rfl⟩
    go_wp2_with fail
    refine (l04Rest_any _ _ _ _ _ _ (by omega)).mono ?_
    rintro e w1 ⟨rfl, hb1⟩
    have z1 := hb1.size
    simp only [World.size_alloc] at z1
    obtain ⟨hcl1, hfz1⟩ := bcell hb1
    have hl1a : w.heap.size < w1.heap.size := by omega
    have hl1b : w.heap.size + 1 < w1.heap.size := by omega
    have hB1 : Below w.heap.size w w1 := Below.trans (by go_grown) (hb1.mono (by simp; omega))
    go_wp2_with fail
    go_ret
    exact ⟨rfl, hB1⟩
  · cases t0 : inB a 0 (mus - 1)
    · go_enter Tryz.func148, Tryz.ntmps148
      go_wp2_with fail
      refine (HF.out _).mono ?_
      rintro e w0 ⟨rfl, rfl⟩
      go_wp2_with fail
      refine (l04Rest_any _ _ _ _ _ _ (by omega)).mono ?_
      rintro e w1 ⟨rfl, hb1⟩
      have z1 := hb1.size
      simp only [World.size_alloc] at z1
      obtain ⟨hcl1, hfz1⟩ := bcell hb1
      have hl1a : w.heap.size < w1.heap.size := by omega
      have hl1b : w.heap.size + 1 < w1.heap.size := by omega
      have hB1 : Below w.heap.size w w1 := Below.trans (by go_grown) (hb1.mono (by simp; omega))
      go_wp2_with fail
      refine (l04In_any _ _ _ _).mono ?_
      rintro e w9 ⟨rfl, rfl⟩
      go_wp2_with fail
      go_ret
      exact ⟨rfl, hB1⟩
    · go_enter Tryz.func148, Tryz.ntmps148
      go_wp2_with fail
      refine (HF.out _).mono ?_
      rintro e w0 ⟨rfl, rfl⟩
      go_wp2_with fail
      refine (l04Rest_any _ _ _ _ _ _ (by omega)).mono ?_
      rintro e w1 ⟨rfl, hb1⟩
      have z1 := hb1.size
      simp only [World.size_alloc] at z1
      obtain ⟨hcl1, hfz1⟩ := bcell hb1
      have hl1a : w.heap.size < w1.heap.size := by omega
      have hl1b : w.heap.size + 1 < w1.heap.size := by omega
      have hB1 : Below w.heap.size w w1 := Below.trans (by go_grown) (hb1.mono (by simp; omega))
      go_wp2_with fail
      refine (l04In_any _ _ _ _).mono ?_
      rintro e w9 ⟨rfl, rfl⟩
      go_wp2_with fail
      go_ret
      exact ⟨rfl, hB1⟩

set_option maxRecDepth 100000 in
set_option maxHeartbeats 2000000 in
theorem specInstrOk_13 {A0 A2 A3 : Option Addr} {n0 c0 n2 c2 n3 c3 : Nat} {mus n a b c : Int} {w : World} (hn0 : n0 ≤ 1048576) (hn2 : n2 ≤ 1048576) (hn3 : n3 ≤ 1048576) (hm : 0 ≤ mus + 9223372036854775807) (hm2 : mus ≤ 9223372036854775807) (hn : 0 ≤ n) (hn' : n ≤ 1048576) :
    Calls Tryz.prog 148 #[.agg #[.slice A0 n0 c0, .int .i64 mus, .slice A2 n2 c2, .slice A3 n3 c3], .int .i64 n, .agg #[.int .i64 13, .int .i64 a, .int .i64 b, .int .i64 c]] w fun e w' => e = .returned (.bool ((restB a b c 1) && (inB a 0 (mus - 1)))) ∧ Below w.heap.size w w' := by
  have HF := Lib.hid (fun W : World => show Calls Tryz.prog 166 #[.int .i64 13] W fun e w' => e = .returned (.int .i64 1) ∧ W = w' from specFields_any 13 W)
  cases r0 : restB a b c 1
  · have r1 : restB a b c 1 = false := r0
    go_enter Tryz.func148, Tryz.ntmps148
    go_wp2_with fail
    refine (HF.out _).mono ?_
    rintro e w0 ⟨rfl, rfl⟩
    go_wp2_with fail
    refine (l04Rest_any _ _ _ _ _ _ (by omega)).mono ?_
    rintro e w1 ⟨rfl, hb1⟩
    have z1 := hb1.size
    simp only [World.size_alloc] at z1
    obtain ⟨hcl1, hfz1⟩ := bcell hb1
    have hl1a : w.heap.size < w1.heap.size := by omega
    have hl1b : w.heap.size + 1 < w1.heap.size := by omega
    have hB1 : Below w.heap.size w w1 := Below.trans (by go_grown) (hb1.mono (by simp; omega))
    go_wp2_with fail
    go_ret
    exact ⟨rfl, hB1⟩
  · cases t0 : inB a 0 (mus - 1)
    · go_enter Tryz.func148, Tryz.ntmps148
      go_wp2_with fail
      refine (HF.out _).mono ?_
      rintro e w0 ⟨rfl, rfl⟩
      go_wp2_with fail
      refine (l04Rest_any _ _ _ _ _ _ (by omega)).mono ?_
      rintro e w1 ⟨rfl, hb1⟩
      have z1 := hb1.size
      simp only [World.size_alloc] at z1
      obtain ⟨hcl1, hfz1⟩ := bcell hb1
      have hl1a : w.heap.size < w1.heap.size := by omega
      have hl1b : w.heap.size + 1 < w1.heap.size := by omega
      have hB1 : Below w.heap.size w w1 := Below.trans (by go_grown) (hb1.mono (by simp; omega))
      go_wp2_with fail
      refine (l04In_any _ _ _ _).mono ?_
      rintro e w9 ⟨rfl, rfl⟩
      go_wp2_with fail
      go_ret
      exact ⟨rfl, hB1⟩
    · go_enter Tryz.func148, Tryz.ntmps148
      go_wp2_with fail
      refine (HF.out _).mono ?_
      rintro e w0 ⟨rfl, rfl⟩
      go_wp2_with fail
      refine (l04Rest_any _ _ _ _ _ _ (by omega)).mono ?_
      rintro e w1 ⟨rfl, hb1⟩
      have z1 := hb1.size
      simp only [World.size_alloc] at z1
      obtain ⟨hcl1, hfz1⟩ := bcell hb1
      have hl1a : w.heap.size < w1.heap.size := by omega
      have hl1b : w.heap.size + 1 < w1.heap.size := by omega
      have hB1 : Below w.heap.size w w1 := Below.trans (by go_grown) (hb1.mono (by simp; omega))
      go_wp2_with fail
      refine (l04In_any _ _ _ _).mono ?_
      rintro e w9 ⟨rfl, rfl⟩
      go_wp2_with fail
      go_ret
      exact ⟨rfl, hB1⟩

set_option maxRecDepth 100000 in
set_option maxHeartbeats 2000000 in
theorem specInstrOk_14 {A0 A2 A3 : Option Addr} {n0 c0 n2 c2 n3 c3 : Nat} {mus n a b c : Int} {w : World} (hn0 : n0 ≤ 1048576) (hn2 : n2 ≤ 1048576) (hn3 : n3 ≤ 1048576) (hm : 0 ≤ mus + 9223372036854775807) (hm2 : mus ≤ 9223372036854775807) (hn : 0 ≤ n) (hn' : n ≤ 1048576) :
    Calls Tryz.prog 148 #[.agg #[.slice A0 n0 c0, .int .i64 mus, .slice A2 n2 c2, .slice A3 n3 c3], .int .i64 n, .agg #[.int .i64 14, .int .i64 a, .int .i64 b, .int .i64 c]] w fun e w' => e = .returned (.bool ((restB a b c 2) && (inB a 0 ((n3 : Int) - 1)) && (regB b))) ∧ Below w.heap.size w w' := by
  have HF := Lib.hid (fun W : World => show Calls Tryz.prog 166 #[.int .i64 14] W fun e w' => e = .returned (.int .i64 2) ∧ W = w' from specFields_any 14 W)
  cases r0 : restB a b c 2
  · have r1 : restB a b c 2 = false := r0
    go_enter Tryz.func148, Tryz.ntmps148
    go_wp2_with fail
    refine (HF.out _).mono ?_
    rintro e w0 ⟨rfl, rfl⟩
    go_wp2_with fail
    refine (l04Rest_any _ _ _ _ _ _ (by omega)).mono ?_
    rintro e w1 ⟨rfl, hb1⟩
    have z1 := hb1.size
    simp only [World.size_alloc] at z1
    obtain ⟨hcl1, hfz1⟩ := bcell hb1
    have hl1a : w.heap.size < w1.heap.size := by omega
    have hl1b : w.heap.size + 1 < w1.heap.size := by omega
    have hB1 : Below w.heap.size w w1 := Below.trans (by go_grown) (hb1.mono (by simp; omega))
    go_wp2_with fail
    go_ret
    exact ⟨rfl, hB1⟩
  · cases t0 : inB a 0 ((n3 : Int) - 1)
    · go_enter Tryz.func148, Tryz.ntmps148
      go_wp2_with fail
      refine (HF.out _).mono ?_
      rintro e w0 ⟨rfl, rfl⟩
      go_wp2_with fail
      refine (l04Rest_any _ _ _ _ _ _ (by omega)).mono ?_
      rintro e w1 ⟨rfl, hb1⟩
      have z1 := hb1.size
      simp only [World.size_alloc] at z1
      obtain ⟨hcl1, hfz1⟩ := bcell hb1
      have hl1a : w.heap.size < w1.heap.size := by omega
      have hl1b : w.heap.size + 1 < w1.heap.size := by omega
      have hB1 : Below w.heap.size w w1 := Below.trans (by go_grown) (hb1.mono (by simp; omega))
      go_wp2_with fail
      refine (l04In_any _ _ _ _).mono ?_
      rintro e w9 ⟨rfl, rfl⟩
      go_wp2_with fail
      go_ret
      exact ⟨rfl, hB1⟩
    · cases t1 : regB b
      · go_enter Tryz.func148, Tryz.ntmps148
        go_wp2_with fail
        refine (HF.out _).mono ?_
        rintro e w0 ⟨rfl, rfl⟩
        go_wp2_with fail
        refine (l04Rest_any _ _ _ _ _ _ (by omega)).mono ?_
        rintro e w1 ⟨rfl, hb1⟩
        have z1 := hb1.size
        simp only [World.size_alloc] at z1
        obtain ⟨hcl1, hfz1⟩ := bcell hb1
        have hl1a : w.heap.size < w1.heap.size := by omega
        have hl1b : w.heap.size + 1 < w1.heap.size := by omega
        have hB1 : Below w.heap.size w w1 := Below.trans (by go_grown) (hb1.mono (by simp; omega))
        go_wp2_with fail
        refine (l04In_any _ _ _ _).mono ?_
        rintro e w9 ⟨rfl, rfl⟩
        go_wp2_with fail
        refine (l03Reg_any _ _).mono ?_
        rintro e w9 ⟨rfl, rfl⟩
        go_wp2_with fail
        go_ret
        exact ⟨rfl, hB1⟩
      · go_enter Tryz.func148, Tryz.ntmps148
        go_wp2_with fail
        refine (HF.out _).mono ?_
        rintro e w0 ⟨rfl, rfl⟩
        go_wp2_with fail
        refine (l04Rest_any _ _ _ _ _ _ (by omega)).mono ?_
        rintro e w1 ⟨rfl, hb1⟩
        have z1 := hb1.size
        simp only [World.size_alloc] at z1
        obtain ⟨hcl1, hfz1⟩ := bcell hb1
        have hl1a : w.heap.size < w1.heap.size := by omega
        have hl1b : w.heap.size + 1 < w1.heap.size := by omega
        have hB1 : Below w.heap.size w w1 := Below.trans (by go_grown) (hb1.mono (by simp; omega))
        go_wp2_with fail
        refine (l04In_any _ _ _ _).mono ?_
        rintro e w9 ⟨rfl, rfl⟩
        go_wp2_with fail
        refine (l03Reg_any _ _).mono ?_
        rintro e w9 ⟨rfl, rfl⟩
        go_wp2_with fail
        go_ret
        exact ⟨rfl, hB1⟩

set_option maxRecDepth 100000 in
set_option maxHeartbeats 2000000 in
theorem specInstrOk_15 {A0 A2 A3 : Option Addr} {n0 c0 n2 c2 n3 c3 : Nat} {mus n a b c : Int} {w : World} (hn0 : n0 ≤ 1048576) (hn2 : n2 ≤ 1048576) (hn3 : n3 ≤ 1048576) (hm : 0 ≤ mus + 9223372036854775807) (hm2 : mus ≤ 9223372036854775807) (hn : 0 ≤ n) (hn' : n ≤ 1048576) :
    Calls Tryz.prog 148 #[.agg #[.slice A0 n0 c0, .int .i64 mus, .slice A2 n2 c2, .slice A3 n3 c3], .int .i64 n, .agg #[.int .i64 15, .int .i64 a, .int .i64 b, .int .i64 c]] w fun e w' => e = .returned (.bool ((restB a b c 1) && (regB a))) ∧ Below w.heap.size w w' := by
  have HF := Lib.hid (fun W : World => show Calls Tryz.prog 166 #[.int .i64 15] W fun e w' => e = .returned (.int .i64 1) ∧ W = w' from specFields_any 15 W)
  cases r0 : restB a b c 1
  · have r1 : restB a b c 1 = false := r0
    go_enter Tryz.func148, Tryz.ntmps148
    go_wp2_with fail
    refine (HF.out _).mono ?_
    rintro e w0 ⟨rfl, rfl⟩
    go_wp2_with fail
    refine (l04Rest_any _ _ _ _ _ _ (by omega)).mono ?_
    rintro e w1 ⟨rfl, hb1⟩
    have z1 := hb1.size
    simp only [World.size_alloc] at z1
    obtain ⟨hcl1, hfz1⟩ := bcell hb1
    have hl1a : w.heap.size < w1.heap.size := by omega
    have hl1b : w.heap.size + 1 < w1.heap.size := by omega
    have hB1 : Below w.heap.size w w1 := Below.trans (by go_grown) (hb1.mono (by simp; omega))
    go_wp2_with fail
    go_ret
    exact ⟨rfl, hB1⟩
  · cases t0 : regB a
    · go_enter Tryz.func148, Tryz.ntmps148
      go_wp2_with fail
      refine (HF.out _).mono ?_
      rintro e w0 ⟨rfl, rfl⟩
      go_wp2_with fail
      refine (l04Rest_any _ _ _ _ _ _ (by omega)).mono ?_
      rintro e w1 ⟨rfl, hb1⟩
      have z1 := hb1.size
      simp only [World.size_alloc] at z1
      obtain ⟨hcl1, hfz1⟩ := bcell hb1
      have hl1a : w.heap.size < w1.heap.size := by omega
      have hl1b : w.heap.size + 1 < w1.heap.size := by omega
      have hB1 : Below w.heap.size w w1 := Below.trans (by go_grown) (hb1.mono (by simp; omega))
      go_wp2_with fail
      refine (l03Reg_any _ _).mono ?_
      rintro e w9 ⟨rfl, rfl⟩
      go_wp2_with fail
      go_ret
      exact ⟨rfl, hB1⟩
    · go_enter Tryz.func148, Tryz.ntmps148
      go_wp2_with fail
      refine (HF.out _).mono ?_
      rintro e w0 ⟨rfl, rfl⟩
      go_wp2_with fail
      refine (l04Rest_any _ _ _ _ _ _ (by omega)).mono ?_
      rintro e w1 ⟨rfl, hb1⟩
      have z1 := hb1.size
      simp only [World.size_alloc] at z1
      obtain ⟨hcl1, hfz1⟩ := bcell hb1
      have hl1a : w.heap.size < w1.heap.size := by omega
      have hl1b : w.heap.size + 1 < w1.heap.size := by omega
      have hB1 : Below w.heap.size w w1 := Below.trans (by go_grown) (hb1.mono (by simp; omega))
      go_wp2_with fail
      refine (l03Reg_any _ _).mono ?_
      rintro e w9 ⟨rfl, rfl⟩
      go_wp2_with fail
      go_ret
      exact ⟨rfl, hB1⟩

end Go.Proofs.YtghkdkagnibkgaaGreatDoor
