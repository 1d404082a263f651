
/- The contract of the model's InstrOk, instructions 1, 2, 3, 6, 7. Laid by wip/tools/geninstr.py. -/

import Derived.Test.YtghkdkagnibkgaaGreatDoorGInstrS

namespace Go.Proofs.YtghkdkagnibkgaaGreatDoor
set_option linter.unusedSimpArgs false
set_option linter.unusedVariables false
open Go.RowKit

set_option maxRecDepth 100000 in
set_option maxHeartbeats 2000000 in
theorem specInstrOk_1 {A0 A2 A3 : Option Addr} {n0 c0 n2 c2 n3 c3 : Nat} {mus n a b c : Int} {w : World} (hn0 : n0 ≤ 1048576) (hn2 : n2 ≤ 1048576) (hn3 : n3 ≤ 1048576) (hm : 0 ≤ mus + 9223372036854775807) (hm2 : mus ≤ 9223372036854775807) (hn : 0 ≤ n) (hn' : n ≤ 1048576) :
    Calls Tryz.prog 148 #[.agg #[.slice A0 n0 c0, .int .i64 mus, .slice A2 n2 c2, .slice A3 n3 c3], .int .i64 n, .agg #[.int .i64 1, .int .i64 a, .int .i64 b, .int .i64 c]] w fun e w' => e = .returned (.bool ((restB a b c 0))) ∧ Below w.heap.size w w' := by
  have HF := Lib.hid (fun W : World => show Calls Tryz.prog 166 #[.int .i64 1] W fun e w' => e = .returned (.int .i64 0) ∧ W = w' from specFields_any 1 W)
  cases r0 : restB a b c 0
  · have r1 : restB a b c 0 = false := r0
    go_enter Tryz.func148, Tryz.ntmps148
    go_wp2_with fail
    refine (HF.out _).mono ?_
    rintro e w0 ⟨rfl, rfl⟩
    go_wp2_with fail
    refine (l04Rest_any _ _ _ _ _ _ (by omega)).mono ?_
    rintro e w1 ⟨rfl, hb1⟩
    have z1 := hb1.size
    simp only [World.size_alloc] at z1
    obtain ⟨hcl1, hfz1⟩ := bcell hb1
    have hl1a : w.heap.size < w1.heap.size := by omega
    have hl1b : w.heap.size + 1 < w1.heap.size := by omega
    have hB1 : Below w.heap.size w w1 := Below.trans (by go_grown) (hb1.mono (by simp; omega))
    go_wp2_with fail
    go_ret
    exact ⟨rfl, hB1⟩
  · go_enter Tryz.func148, Tryz.ntmps148
    go_wp2_with fail
    refine (HF.out _).mono ?_
    rintro e w0 ⟨rfl, rfl⟩
    go_wp2_with fail
    refine (l04Rest_any _ _ _ _ _ _ (by omega)).mono ?_
    rintro e w1 ⟨rfl, hb1⟩
    have z1 := hb1.size
    simp only [World.size_alloc] at z1
    obtain ⟨hcl1, hfz1⟩ := bcell hb1
    have hl1a : w.heap.size < w1.heap.size := by omega
    have hl1b : w.heap.size + 1 < w1.heap.size := by omega
    have hB1 : Below w.heap.size w w1 := Below.trans (by go_grown) (hb1.mono (by simp; omega))
    go_wp2_with fail
    go_ret
    exact ⟨rfl, hB1⟩

set_option maxRecDepth 100000 in
set_option maxHeartbeats 2000000 in
theorem specInstrOk_2 {A0 A2 A3 : Option Addr} {n0 c0 n2 c2 n3 c3 : Nat} {mus n a b c : Int} {w : World} (hn0 : n0 ≤ 1048576) (hn2 : n2 ≤ 1048576) (hn3 : n3 ≤ 1048576) (hm : 0 ≤ mus + 9223372036854775807) (hm2 : mus ≤ 9223372036854775807) (hn : 0 ≤ n) (hn' : n ≤ 1048576) :
    Calls Tryz.prog 148 #[.agg #[.slice A0 n0 c0, .int .i64 mus, .slice A2 n2 c2, .slice A3 n3 c3], .int .i64 n, .agg #[.int .i64 2, .int .i64 a, .int .i64 b, .int .i64 c]] w fun e w' => e = .returned (.bool ((restB a b c 2) && (regB a) && (valB b))) ∧ Below w.heap.size w w' := by
  have HF := Lib.hid (fun W : World => show Calls Tryz.prog 166 #[.int .i64 2] W fun e w' => e = .returned (.int .i64 2) ∧ W = w' from specFields_any 2 W)
  cases r0 : restB a b c 2
  · have r1 : restB a b c 2 = false := r0
    go_enter Tryz.func148, Tryz.ntmps148
    go_wp2_with fail
    refine (HF.out _).mono ?_
    rintro e w0 ⟨rfl, rfl⟩
    go_wp2_with fail
    refine (l04Rest_any _ _ _ _ _ _ (by omega)).mono ?_
    rintro e w1 ⟨rfl, hb1⟩
    have z1 := hb1.size
    simp only [World.size_alloc] at z1
    obtain ⟨hcl1, hfz1⟩ := bcell hb1
    have hl1a : w.heap.size < w1.heap.size := by omega
    have hl1b : w.heap.size + 1 < w1.heap.size := by omega
    have hB1 : Below w.heap.size w w1 := Below.trans (by go_grown) (hb1.mono (by simp; omega))
    go_wp2_with fail
    go_ret
    exact ⟨rfl, hB1⟩
  · cases t0 : regB a
    · go_enter Tryz.func148, Tryz.ntmps148
      go_wp2_with fail
      refine (HF.out _).mono ?_
      rintro e w0 ⟨rfl, rfl⟩
      go_wp2_with fail
      refine (l04Rest_any _ _ _ _ _ _ (by omega)).mono ?_
      rintro e w1 ⟨rfl, hb1⟩
      have z1 := hb1.size
      simp only [World.size_alloc] at z1
      obtain ⟨hcl1, hfz1⟩ := bcell hb1
      have hl1a : w.heap.size < w1.heap.size := by omega
      have hl1b : w.heap.size + 1 < w1.heap.size := by omega
      have hB1 : Below w.heap.size w w1 := Below.trans (by go_grown) (hb1.mono (by simp; omega))
      go_wp2_with fail
      refine (l03Reg_any _ _).mono ?_
      rintro e w9 ⟨rfl, rfl⟩
      go_wp2_with fail
      go_ret
      exact ⟨rfl, hB1⟩
    · cases t1 : valB b
      · go_enter Tryz.func148, Tryz.ntmps148
        go_wp2_with fail
        refine (HF.out _).mono ?_
        rintro e w0 ⟨rfl, rfl⟩
        go_wp2_with fail
        refine (l04Rest_any _ _ _ _ _ _ (by omega)).mono ?_
        rintro e w1 ⟨rfl, hb1⟩
        have z1 := hb1.size
        simp only [World.size_alloc] at z1
        obtain ⟨hcl1, hfz1⟩ := bcell hb1
        have hl1a : w.heap.size < w1.heap.size := by omega
        have hl1b : w.heap.size + 1 < w1.heap.size := by omega
        have hB1 : Below w.heap.size w w1 := Below.trans (by go_grown) (hb1.mono (by simp; omega))
        go_wp2_with fail
        refine (l03Reg_any _ _).mono ?_
        rintro e w9 ⟨rfl, rfl⟩
        go_wp2_with fail
        refine (l03Val_any _ _).mono ?_
        rintro e w9 ⟨rfl, rfl⟩
        go_wp2_with fail
        go_ret
        exact ⟨rfl, hB1⟩
      · go_enter Tryz.func148, Tryz.ntmps148
        go_wp2_with fail
        refine (HF.out _).mono ?_
        rintro e w0 ⟨rfl, rfl⟩
        go_wp2_with fail
        refine (l04Rest_any _ _ _ _ _ _ (by omega)).mono ?_
        rintro e w1 ⟨rfl, hb1⟩
        have z1 := hb1.size
        simp only [World.size_alloc] at z1
        obtain ⟨hcl1, hfz1⟩ := bcell hb1
        have hl1a : w.heap.size < w1.heap.size := by omega
        have hl1b : w.heap.size + 1 < w1.heap.size := by omega
        have hB1 : Below w.heap.size w w1 := Below.trans (by go_grown) (hb1.mono (by simp; omega))
        go_wp2_with fail
        refine (l03Reg_any _ _).mono ?_
        rintro e w9 ⟨rfl, rfl⟩
        go_wp2_with fail
        refine (l03Val_any _ _).mono ?_
        rintro e w9 ⟨rfl, rfl⟩
        go_wp2_with fail
        go_ret
        exact ⟨rfl, hB1⟩

set_option maxRecDepth 100000 in
set_option maxHeartbeats 2000000 in
theorem specInstrOk_3 {A0 A2 A3 : Option Addr} {n0 c0 n2 c2 n3 c3 : Nat} {mus n a b c : Int} {w : World} (hn0 : n0 ≤ 1048576) (hn2 : n2 ≤ 1048576) (hn3 : n3 ≤ 1048576) (hm : 0 ≤ mus + 9223372036854775807) (hm2 : mus ≤ 9223372036854775807) (hn : 0 ≤ n) (hn' : n ≤ 1048576) :
    Calls Tryz.prog 148 #[.agg #[.slice A0 n0 c0, .int .i64 mus, .slice A2 n2 c2, .slice A3 n3 c3], .int .i64 n, .agg #[.int .i64 3, .int .i64 a, .int .i64 b, .int .i64 c]] w fun e w' => e = .returned (.bool ((restB a b c 3) && (regB a) && (regB b) && (regB c))) ∧ Below w.heap.size w w' := by
  have HF := Lib.hid (fun W : World => show Calls Tryz.prog 166 #[.int .i64 3] W fun e w' => e = .returned (.int .i64 3) ∧ W = w' from specFields_any 3 W)
  cases r0 : restB a b c 3
  · have r1 : restB a b c 3 = false := r0
    go_enter Tryz.func148, Tryz.ntmps148
    go_wp2_with fail
    refine (HF.out _).mono ?_
    rintro e w0 ⟨rfl, rfl⟩
    go_wp2_with fail
    refine (l04Rest_any _ _ _ _ _ _ (by omega)).mono ?_
    rintro e w1 ⟨rfl, hb1⟩
    have z1 := hb1.size
    simp only [World.size_alloc] at z1
    obtain ⟨hcl1, hfz1⟩ := bcell hb1
    have hl1a : w.heap.size < w1.heap.size := by omega
    have hl1b : w.heap.size + 1 < w1.heap.size := by omega
    have hB1 : Below w.heap.size w w1 := Below.trans (by go_grown) (hb1.mono (by simp; omega))
    go_wp2_with fail
    go_ret
    exact ⟨rfl, hB1⟩
  · cases t0 : regB a
    · go_enter Tryz.func148, Tryz.ntmps148
      go_wp2_with fail
      refine (HF.out _).mono ?_
      rintro e w0 ⟨rfl, rfl⟩
      go_wp2_with fail
      refine (l04Rest_any _ _ _ _ _ _ (by omega)).mono ?_
      rintro e w1 ⟨rfl, hb1⟩
      have z1 := hb1.size
      simp only [World.size_alloc] at z1
      obtain ⟨hcl1, hfz1⟩ := bcell hb1
      have hl1a : w.heap.size < w1.heap.size := by omega
      have hl1b : w.heap.size + 1 < w1.heap.size := by omega
      have hB1 : Below w.heap.size w w1 := Below.trans (by go_grown) (hb1.mono (by simp; omega))
      go_wp2_with fail
      refine (l03Reg_any _ _).mono ?_
      rintro e w9 ⟨rfl, rfl⟩
      go_wp2_with fail
      go_ret
      exact ⟨rfl, hB1⟩
    · cases t1 : regB b
      · go_enter Tryz.func148, Tryz.ntmps148
        go_wp2_with fail
        refine (HF.out _).mono ?_
        rintro e w0 ⟨rfl, rfl⟩
        go_wp2_with fail
        refine (l04Rest_any _ _ _ _ _ _ (by omega)).mono ?_
        rintro e w1 ⟨rfl, hb1⟩
        have z1 := hb1.size
        simp only [World.size_alloc] at z1
        obtain ⟨hcl1, hfz1⟩ := bcell hb1
        have hl1a : w.heap.size < w1.heap.size := by omega
        have hl1b : w.heap.size + 1 < w1.heap.size := by omega
        have hB1 : Below w.heap.size w w1 := Below.trans (by go_grown) (hb1.mono (by simp; omega))
        go_wp2_with fail
        refine (l03Reg_any _ _).mono ?_
        rintro e w9 ⟨rfl, rfl⟩
        go_wp2_with fail
        refine (l03Reg_any _ _).mono ?_
        rintro e w9 ⟨rfl, rfl⟩
        go_wp2_with fail
        go_ret
        exact ⟨rfl, hB1⟩
      · cases t2 : regB c
        · go_enter Tryz.func148, Tryz.ntmps148
          go_wp2_with fail
          refine (HF.out _).mono ?_
          rintro e w0 ⟨rfl, rfl⟩
          go_wp2_with fail
          refine (l04Rest_any _ _ _ _ _ _ (by omega)).mono ?_
          rintro e w1 ⟨rfl, hb1⟩
          have z1 := hb1.size
          simp only [World.size_alloc] at z1
          obtain ⟨hcl1, hfz1⟩ := bcell hb1
          have hl1a : w.heap.size < w1.heap.size := by omega
          have hl1b : w.heap.size + 1 < w1.heap.size := by omega
          have hB1 : Below w.heap.size w w1 := Below.trans (by go_grown) (hb1.mono (by simp; omega))
          go_wp2_with fail
          refine (l03Reg_any _ _).mono ?_
          rintro e w9 ⟨rfl, rfl⟩
          go_wp2_with fail
          refine (l03Reg_any _ _).mono ?_
          rintro e w9 ⟨rfl, rfl⟩
          go_wp2_with fail
          refine (l03Reg_any _ _).mono ?_
          rintro e w9 ⟨rfl, rfl⟩
          go_wp2_with fail
          go_ret
          exact ⟨rfl, hB1⟩
        · go_enter Tryz.func148, Tryz.ntmps148
          go_wp2_with fail
          refine (HF.out _).mono ?_
          rintro e w0 ⟨rfl, rfl⟩
          go_wp2_with fail
          refine (l04Rest_any _ _ _ _ _ _ (by omega)).mono ?_
          rintro e w1 ⟨rfl, hb1⟩
          have z1 := hb1.size
          simp only [World.size_alloc] at z1
          obtain ⟨hcl1, hfz1⟩ := bcell hb1
          have hl1a : w.heap.size < w1.heap.size := by omega
          have hl1b : w.heap.size + 1 < w1.heap.size := by omega
          have hB1 : Below w.heap.size w w1 := Below.trans (by go_grown) (hb1.mono (by simp; omega))
          go_wp2_with fail
          refine (l03Reg_any _ _).mono ?_
          rintro e w9 ⟨rfl, rfl⟩
          go_wp2_with fail
          refine (l03Reg_any _ _).mono ?_
          rintro e w9 ⟨rfl, rfl⟩
          go_wp2_with fail
          refine (l03Reg_any _ _).mono ?_
          rintro e w9 ⟨rfl, rfl⟩
          go_wp2_with fail
          go_ret
          exact ⟨rfl, hB1⟩

set_option maxRecDepth 100000 in
set_option maxHeartbeats 2000000 in
theorem specInstrOk_6 {A0 A2 A3 : Option Addr} {n0 c0 n2 c2 n3 c3 : Nat} {mus n a b c : Int} {w : World} (hn0 : n0 ≤ 1048576) (hn2 : n2 ≤ 1048576) (hn3 : n3 ≤ 1048576) (hm : 0 ≤ mus + 9223372036854775807) (hm2 : mus ≤ 9223372036854775807) (hn : 0 ≤ n) (hn' : n ≤ 1048576) :
    Calls Tryz.prog 148 #[.agg #[.slice A0 n0 c0, .int .i64 mus, .slice A2 n2 c2, .slice A3 n3 c3], .int .i64 n, .agg #[.int .i64 6, .int .i64 a, .int .i64 b, .int .i64 c]] w fun e w' => e = .returned (.bool ((restB a b c 1) && (inB a 0 (n - 1)))) ∧ Below w.heap.size w w' := by
  have HF := Lib.hid (fun W : World => show Calls Tryz.prog 166 #[.int .i64 6] W fun e w' => e = .returned (.int .i64 1) ∧ W = w' from specFields_any 6 W)
  cases r0 : restB a b c 1
  · have r1 : restB a b c 1 = false := r0
    go_enter Tryz.func148, Tryz.ntmps148
    go_wp2_with fail
    refine (HF.out _).mono ?_
    rintro e w0 ⟨rfl, rfl⟩
    go_wp2_with fail
    refine (l04Rest_any _ _ _ _ _ _ (by omega)).mono ?_
    rintro e w1 ⟨rfl, hb1⟩
    have z1 := hb1.size
    simp only [World.size_alloc] at z1
    obtain ⟨hcl1, hfz1⟩ := bcell hb1
    have hl1a : w.heap.size < w1.heap.size := by omega
    have hl1b : w.heap.size + 1 < w1.heap.size := by omega
    have hB1 : Below w.heap.size w w1 := Below.trans (by go_grown) (hb1.mono (by simp; omega))
    go_wp2_with fail
    go_ret
    exact ⟨rfl, hB1⟩
  · cases t0 : inB a 0 (n - 1)
    · go_enter Tryz.func148, Tryz.ntmps148
      go_wp2_with fail
      refine (HF.out _).mono ?_
      rintro e w0 ⟨rfl, rfl⟩
      go_wp2_with fail
      refine (l04Rest_any _ _ _ _ _ _ (by omega)).mono ?_
      rintro e w1 ⟨rfl, hb1⟩
      have z1 := hb1.size
      simp only [World.size_alloc] at z1
      obtain ⟨hcl1, hfz1⟩ := bcell hb1
      have hl1a : w.heap.size < w1.heap.size := by omega
      have hl1b : w.heap.size + 1 < w1.heap.size := by omega
      have hB1 : Below w.heap.size w w1 := Below.trans (by go_grown) (hb1.mono (by simp; omega))
      go_wp2_with fail
      refine (l04In_any _ _ _ _).mono ?_
      rintro e w9 ⟨rfl, rfl⟩
      go_wp2_with fail
      go_ret
      exact ⟨rfl, hB1⟩
    · go_enter Tryz.func148, Tryz.ntmps148
      go_wp2_with fail
      refine (HF.out _).mono ?_
      rintro e w0 ⟨rfl, rfl⟩
      go_wp2_with fail
      refine (l04Rest_any _ _ _ _ _ _ (by omega)).mono ?_
      rintro e w1 ⟨rfl, hb1⟩
      have z1 := hb1.size
      simp only [World.size_alloc] at z1
      obtain ⟨hcl1, hfz1⟩ := bcell hb1
      have hl1a : w.heap.size < w1.heap.size := by omega
      have hl1b : w.heap.size + 1 < w1.heap.size := by omega
      have hB1 : Below w.heap.size w w1 := Below.trans (by go_grown) (hb1.mono (by simp; omega))
      go_wp2_with fail
      refine (l04In_any _ _ _ _).mono ?_
      rintro e w9 ⟨rfl, rfl⟩
      go_wp2_with fail
      go_ret
      exact ⟨rfl, hB1⟩

set_option maxRecDepth 100000 in
set_option maxHeartbeats 2000000 in
theorem specInstrOk_7 {A0 A2 A3 : Option Addr} {n0 c0 n2 c2 n3 c3 : Nat} {mus n a b c : Int} {w : World} (hn0 : n0 ≤ 1048576) (hn2 : n2 ≤ 1048576) (hn3 : n3 ≤ 1048576) (hm : 0 ≤ mus + 9223372036854775807) (hm2 : mus ≤ 9223372036854775807) (hn : 0 ≤ n) (hn' : n ≤ 1048576) :
    Calls Tryz.prog 148 #[.agg #[.slice A0 n0 c0, .int .i64 mus, .slice A2 n2 c2, .slice A3 n3 c3], .int .i64 n, .agg #[.int .i64 7, .int .i64 a, .int .i64 b, .int .i64 c]] w fun e w' => e = .returned (.bool ((restB a b c 2) && (regB a) && (inB b 0 (n - 1)))) ∧ Below w.heap.size w w' := by
  have HF := Lib.hid (fun W : World => show Calls Tryz.prog 166 #[.int .i64 7] W fun e w' => e = .returned (.int .i64 2) ∧ W = w' from specFields_any 7 W)
  cases r0 : restB a b c 2
  · have r1 : restB a b c 2 = false := r0
    go_enter Tryz.func148, Tryz.ntmps148
    go_wp2_with fail
    refine (HF.out _).mono ?_
    rintro e w0 ⟨rfl, rfl⟩
    go_wp2_with fail
    refine (l04Rest_any _ _ _ _ _ _ (by omega)).mono ?_
    rintro e w1 ⟨rfl, hb1⟩
    have z1 := hb1.size
    simp only [World.size_alloc] at z1
    obtain ⟨hcl1, hfz1⟩ := bcell hb1
    have hl1a : w.heap.size < w1.heap.size := by omega
    have hl1b : w.heap.size + 1 < w1.heap.size := by omega
    have hB1 : Below w.heap.size w w1 := Below.trans (by go_grown) (hb1.mono (by simp; omega))
    go_wp2_with fail
    go_ret
    exact ⟨rfl, hB1⟩
  · cases t0 : regB a
    · go_enter Tryz.func148, Tryz.ntmps148
      go_wp2_with fail
      refine (HF.out _).mono ?_
      rintro e w0 ⟨rfl, rfl⟩
      go_wp2_with fail
      refine (l04Rest_any _ _ _ _ _ _ (by omega)).mono ?_
      rintro e w1 ⟨rfl, hb1⟩
      have z1 := hb1.size
      simp only [World.size_alloc] at z1
      obtain ⟨hcl1, hfz1⟩ := bcell hb1
      have hl1a : w.heap.size < w1.heap.size := by omega
      have hl1b : w.heap.size + 1 < w1.heap.size := by omega
      have hB1 : Below w.heap.size w w1 := Below.trans (by go_grown) (hb1.mono (by simp; omega))
      go_wp2_with fail
      refine (l03Reg_any _ _).mono ?_
      rintro e w9 ⟨rfl, rfl⟩
      go_wp2_with fail
      go_ret
      exact ⟨rfl, hB1⟩
    · cases t1 : inB b 0 (n - 1)
      · go_enter Tryz.func148, Tryz.ntmps148
        go_wp2_with fail
        refine (HF.out _).mono ?_
        rintro e w0 ⟨rfl, rfl⟩
        go_wp2_with fail
        refine (l04Rest_any _ _ _ _ _ _ (by omega)).mono ?_
        rintro e w1 ⟨rfl, hb1⟩
        have z1 := hb1.size
        simp only [World.size_alloc] at z1
        obtain ⟨hcl1, hfz1⟩ := bcell hb1
        have hl1a : w.heap.size < w1.heap.size := by omega
        have hl1b : w.heap.size + 1 < w1.heap.size := by omega
        have hB1 : Below w.heap.size w w1 := Below.trans (by go_grown) (hb1.mono (by simp; omega))
        go_wp2_with fail
        refine (l03Reg_any _ _).mono ?_
        rintro e w9 ⟨rfl, rfl⟩
        go_wp2_with fail
        refine (l04In_any _ _ _ _).mono ?_
        rintro e w9 ⟨rfl, rfl⟩
        go_wp2_with fail
        go_ret
        exact ⟨rfl, hB1⟩
      · go_enter Tryz.func148, Tryz.ntmps148
        go_wp2_with fail
        refine (HF.out _).mono ?_
        rintro e w0 ⟨rfl, rfl⟩
        go_wp2_with fail
        refine (l04Rest_any _ _ _ _ _ _ (by omega)).mono ?_
        rintro e w1 ⟨rfl, hb1⟩
        have z1 := hb1.size
        simp only [World.size_alloc] at z1
        obtain ⟨hcl1, hfz1⟩ := bcell hb1
        have hl1a : w.heap.size < w1.heap.size := by omega
        have hl1b : w.heap.size + 1 < w1.heap.size := by omega
        have hB1 : Below w.heap.size w w1 := Below.trans (by go_grown) (hb1.mono (by simp; omega))
        go_wp2_with fail
        refine (l03Reg_any _ _).mono ?_
        rintro e w9 ⟨rfl, rfl⟩
        go_wp2_with fail
        refine (l04In_any _ _ _ _).mono ?_
        rintro e w9 ⟨rfl, rfl⟩
        go_wp2_with fail
        go_ret
        exact ⟨rfl, hB1⟩

end Go.Proofs.YtghkdkagnibkgaaGreatDoor
