
/- The contract of the program's InstrOk. -/

import Derived.Test.YtgfkadhojlddpaaDoorFieldI

namespace Go.Proofs.YtgfkadhojlddpaaDoor
set_option linter.unusedSimpArgs false
set_option linter.unusedVariables false
open Go.RowKit

set_option maxRecDepth 100000 in
set_option maxHeartbeats 2000000 in
theorem implInstrOk_at {A0 A2 A3 : Option Addr} {n0 c0 n2 c2 n3 c3 : Nat} {mus n a b c n1 n2' n3' : Int} {w : World} (z : Nat) (hz : 1 ≤ z) (hz2 : z ≤ 15) (h1 : 0 ≤ n1 ∧ n1 ≤ 7) (h2 : 0 ≤ n2' ∧ n2' ≤ 7) (h3 : 0 ≤ n3' ∧ n3' ≤ 7)
    (c1 : w.cell? ⟨0, z * 4 + 1, none⟩ = some (.int .i64 n1)) (c2' : w.cell? ⟨0, z * 4 + 1 + 1, none⟩ = some (.int .i64 n2')) (c3' : w.cell? ⟨0, z * 4 + 1 + 2, none⟩ = some (.int .i64 n3')) :
    Calls Tryd.prog 150 #[.agg #[.slice A0 n0 c0, .int .i64 mus, .slice A2 n2 c2, .slice A3 n3 c3], .int .i64 n, .agg #[.int .i64 (z : Int), .int .i64 a, .int .i64 b, .int .i64 c]] w fun e w' => e = .returned (.bool (fieldB n0 n2 n3 mus n n1 a && (fieldB n0 n2 n3 mus n n2' b && fieldB n0 n2 n3 mus n n3' c))) ∧ Below w.heap.size w w' := by
  have hg0 : 0 < w.heap.size := World.block_lt_of_cell? w _ c1
  have hgz : ¬ w.heap.size = 0 := by omega
  have hgp : 0 < w.heap.size := by omega
  have e1 := inB_yes (n := (z : Int)) (lo := 1) (hi := 15) (by omega)
  have step : ∀ (nm v : Int) (W : World), 0 ≤ nm ∧ nm ≤ 7 → Calls Tryd.prog 156 #[.agg #[.slice A0 n0 c0, .int .i64 mus, .slice A2 n2 c2, .slice A3 n3 c3], .int .i64 n, .int .i64 nm, .int .i64 v] W fun e w' => e = .returned (.bool (fieldB n0 n2 n3 mus n nm v)) ∧ Below W.heap.size W w' := fun nm v W h => fieldOk_any W h
  have HS := Lib.hid step
  clear step
  generalize hF1 : fieldB n0 n2 n3 mus n n1 a = F1
  generalize hF2 : fieldB n0 n2 n3 mus n n2' b = F2
  generalize hF3 : fieldB n0 n2 n3 mus n n3' c = F3
  have G1 := Lib.hid hF1
  have G2 := Lib.hid hF2
  have G3 := Lib.hid hF3
  clear hF1 hF2 hF3
  go_enter Tryd.func150, Tryd.ntmps150
  go_wp2_with fail
  refine (isOp_any _ _).mono ?_
  rw [e1]
  rintro e w1 ⟨rfl, rfl⟩
  go_wp2_with fail
  refine (HS.out _ _ _ h1).mono ?_
  rw [G1.out]
  rintro e wa ⟨rfl, hba⟩
  have za := hba.size
  simp only [World.size_alloc] at za
  obtain ⟨hcla, hfza⟩ := bcell hba
  have hla0 : w.heap.size < wa.heap.size := by omega
  have hla1 : w.heap.size + 1 < wa.heap.size := by omega
  have hla2 : w.heap.size + 1 + 1 < wa.heap.size := by omega
  have hBa : Below w.heap.size w wa := Below.trans (by go_grown) (hba.mono (by simp; omega))
  clear hba
  cases F1
  · go_wp2_with fail
    go_ret
    exact ⟨rfl, hBa⟩
  · go_wp2_with fail
    refine (HS.out _ _ _ h2).mono ?_
    rw [G2.out]
    rintro e wb ⟨rfl, hbb⟩
    have zb := hbb.size
    obtain ⟨hclb, hfzb⟩ := bcell hbb
    have hlb0 : w.heap.size < wb.heap.size := by omega
    have hlb1 : w.heap.size + 1 < wb.heap.size := by omega
    have hlb2 : w.heap.size + 1 + 1 < wb.heap.size := by omega
    have hBb : Below w.heap.size w wb := hBa.trans (hbb.mono (by omega))
    clear hbb
    cases F2
    · go_wp2_with fail
      go_ret
      exact ⟨rfl, hBb⟩
    · go_wp2_with fail
      refine (HS.out _ _ _ h3).mono ?_
      rw [G3.out]
      rintro e wc ⟨rfl, hbc⟩
      have hBc : Below w.heap.size w wc := hBb.trans (hbc.mono (by omega))
      clear hbc
      go_wp2_with fail
      go_ret
      exact ⟨rfl, hBc⟩

theorem instr_names {n0 n2 n3 : Nat} {mus n a b c : Int} :
    (fieldB n0 n2 n3 mus n 0 a && (fieldB n0 n2 n3 mus n 0 b && fieldB n0 n2 n3 mus n 0 c)) = instrOkB n0 n2 n3 mus n 1 a b c ∧
    (fieldB n0 n2 n3 mus n 1 a && (fieldB n0 n2 n3 mus n 2 b && fieldB n0 n2 n3 mus n 0 c)) = instrOkB n0 n2 n3 mus n 2 a b c ∧
    (fieldB n0 n2 n3 mus n 1 a && (fieldB n0 n2 n3 mus n 1 b && fieldB n0 n2 n3 mus n 1 c)) = instrOkB n0 n2 n3 mus n 3 a b c ∧
    (fieldB n0 n2 n3 mus n 1 a && (fieldB n0 n2 n3 mus n 1 b && fieldB n0 n2 n3 mus n 1 c)) = instrOkB n0 n2 n3 mus n 4 a b c ∧
    (fieldB n0 n2 n3 mus n 1 a && (fieldB n0 n2 n3 mus n 1 b && fieldB n0 n2 n3 mus n 1 c)) = instrOkB n0 n2 n3 mus n 5 a b c ∧
    (fieldB n0 n2 n3 mus n 3 a && (fieldB n0 n2 n3 mus n 0 b && fieldB n0 n2 n3 mus n 0 c)) = instrOkB n0 n2 n3 mus n 6 a b c ∧
    (fieldB n0 n2 n3 mus n 1 a && (fieldB n0 n2 n3 mus n 3 b && fieldB n0 n2 n3 mus n 0 c)) = instrOkB n0 n2 n3 mus n 7 a b c ∧
    (fieldB n0 n2 n3 mus n 4 a && (fieldB n0 n2 n3 mus n 1 b && fieldB n0 n2 n3 mus n 0 c)) = instrOkB n0 n2 n3 mus n 8 a b c ∧
    (fieldB n0 n2 n3 mus n 4 a && (fieldB n0 n2 n3 mus n 1 b && fieldB n0 n2 n3 mus n 1 c)) = instrOkB n0 n2 n3 mus n 9 a b c ∧
    (fieldB n0 n2 n3 mus n 4 a && (fieldB n0 n2 n3 mus n 0 b && fieldB n0 n2 n3 mus n 0 c)) = instrOkB n0 n2 n3 mus n 10 a b c ∧
    (fieldB n0 n2 n3 mus n 5 a && (fieldB n0 n2 n3 mus n 0 b && fieldB n0 n2 n3 mus n 0 c)) = instrOkB n0 n2 n3 mus n 11 a b c ∧
    (fieldB n0 n2 n3 mus n 6 a && (fieldB n0 n2 n3 mus n 0 b && fieldB n0 n2 n3 mus n 0 c)) = instrOkB n0 n2 n3 mus n 12 a b c ∧
    (fieldB n0 n2 n3 mus n 6 a && (fieldB n0 n2 n3 mus n 0 b && fieldB n0 n2 n3 mus n 0 c)) = instrOkB n0 n2 n3 mus n 13 a b c ∧
    (fieldB n0 n2 n3 mus n 7 a && (fieldB n0 n2 n3 mus n 1 b && fieldB n0 n2 n3 mus n 0 c)) = instrOkB n0 n2 n3 mus n 14 a b c ∧
    (fieldB n0 n2 n3 mus n 1 a && (fieldB n0 n2 n3 mus n 0 b && fieldB n0 n2 n3 mus n 0 c)) = instrOkB n0 n2 n3 mus n 15 a b c := by
  refine ⟨?_, ?_, ?_, ?_, ?_, ?_, ?_, ?_, ?_, ?_, ?_, ?_, ?_, ?_, ?_⟩
  all_goals
    rw [Bool.eq_iff_iff]
    simp [fieldB, instrOkB, restB, inB, regB, valB]
    try omega

set_option maxRecDepth 100000 in
set_option maxHeartbeats 2000000 in
theorem implInstrOk_any {A0 A2 A3 : Option Addr} {n0 c0 n2 c2 n3 c3 : Nat} {mus n op a b c : Int} {w : World} (hC : OpCells w) :
    Calls Tryd.prog 150 #[.agg #[.slice A0 n0 c0, .int .i64 mus, .slice A2 n2 c2, .slice A3 n3 c3], .int .i64 n, .agg #[.int .i64 op, .int .i64 a, .int .i64 b, .int .i64 c]] w fun e w' => e = .returned (.bool (instrOkB n0 n2 n3 mus n op a b c)) ∧ Below w.heap.size w w' := by
  by_cases h : 1 ≤ op ∧ op ≤ 15
  · have E := @instr_names n0 n2 n3 mus n a b c
    obtain ⟨e1, e2, e3, e4, e5, e6, e7, e8, e9, e10, e11, e12, e13, e14, e15⟩ := E
    rcases op_cases h with rfl | rfl | rfl | rfl | rfl | rfl | rfl | rfl | rfl | rfl | rfl | rfl | rfl | rfl | rfl
    · rw [← e1]
      exact implInstrOk_at (n1 := 0) (n2' := 0) (n3' := 0) 1 (by decide) (by decide) (by decide) (by decide) (by decide) (hC 0 (by decide)).2.1 (hC 0 (by decide)).2.2.1 (hC 0 (by decide)).2.2.2
    · rw [← e2]
      exact implInstrOk_at (n1 := 1) (n2' := 2) (n3' := 0) 2 (by decide) (by decide) (by decide) (by decide) (by decide) (hC 1 (by decide)).2.1 (hC 1 (by decide)).2.2.1 (hC 1 (by decide)).2.2.2
    · rw [← e3]
      exact implInstrOk_at (n1 := 1) (n2' := 1) (n3' := 1) 3 (by decide) (by decide) (by decide) (by decide) (by decide) (hC 2 (by decide)).2.1 (hC 2 (by decide)).2.2.1 (hC 2 (by decide)).2.2.2
    · rw [← e4]
      exact implInstrOk_at (n1 := 1) (n2' := 1) (n3' := 1) 4 (by decide) (by decide) (by decide) (by decide) (by decide) (hC 3 (by decide)).2.1 (hC 3 (by decide)).2.2.1 (hC 3 (by decide)).2.2.2
    · rw [← e5]
      exact implInstrOk_at (n1 := 1) (n2' := 1) (n3' := 1) 5 (by decide) (by decide) (by decide) (by decide) (by decide) (hC 4 (by decide)).2.1 (hC 4 (by decide)).2.2.1 (hC 4 (by decide)).2.2.2
    · rw [← e6]
      exact implInstrOk_at (n1 := 3) (n2' := 0) (n3' := 0) 6 (by decide) (by decide) (by decide) (by decide) (by decide) (hC 5 (by decide)).2.1 (hC 5 (by decide)).2.2.1 (hC 5 (by decide)).2.2.2
    · rw [← e7]
      exact implInstrOk_at (n1 := 1) (n2' := 3) (n3' := 0) 7 (by decide) (by decide) (by decide) (by decide) (by decide) (hC 6 (by decide)).2.1 (hC 6 (by decide)).2.2.1 (hC 6 (by decide)).2.2.2
    · rw [← e8]
      exact implInstrOk_at (n1 := 4) (n2' := 1) (n3' := 0) 8 (by decide) (by decide) (by decide) (by decide) (by decide) (hC 7 (by decide)).2.1 (hC 7 (by decide)).2.2.1 (hC 7 (by decide)).2.2.2
    · rw [← e9]
      exact implInstrOk_at (n1 := 4) (n2' := 1) (n3' := 1) 9 (by decide) (by decide) (by decide) (by decide) (by decide) (hC 8 (by decide)).2.1 (hC 8 (by decide)).2.2.1 (hC 8 (by decide)).2.2.2
    · rw [← e10]
      exact implInstrOk_at (n1 := 4) (n2' := 0) (n3' := 0) 10 (by decide) (by decide) (by decide) (by decide) (by decide) (hC 9 (by decide)).2.1 (hC 9 (by decide)).2.2.1 (hC 9 (by decide)).2.2.2
    · rw [← e11]
      exact implInstrOk_at (n1 := 5) (n2' := 0) (n3' := 0) 11 (by decide) (by decide) (by decide) (by decide) (by decide) (hC 10 (by decide)).2.1 (hC 10 (by decide)).2.2.1 (hC 10 (by decide)).2.2.2
    · rw [← e12]
      exact implInstrOk_at (n1 := 6) (n2' := 0) (n3' := 0) 12 (by decide) (by decide) (by decide) (by decide) (by decide) (hC 11 (by decide)).2.1 (hC 11 (by decide)).2.2.1 (hC 11 (by decide)).2.2.2
    · rw [← e13]
      exact implInstrOk_at (n1 := 6) (n2' := 0) (n3' := 0) 13 (by decide) (by decide) (by decide) (by decide) (by decide) (hC 12 (by decide)).2.1 (hC 12 (by decide)).2.2.1 (hC 12 (by decide)).2.2.2
    · rw [← e14]
      exact implInstrOk_at (n1 := 7) (n2' := 1) (n3' := 0) 14 (by decide) (by decide) (by decide) (by decide) (by decide) (hC 13 (by decide)).2.1 (hC 13 (by decide)).2.2.1 (hC 13 (by decide)).2.2.2
    · rw [← e15]
      exact implInstrOk_at (n1 := 1) (n2' := 0) (n3' := 0) 15 (by decide) (by decide) (by decide) (by decide) (by decide) (hC 14 (by decide)).2.1 (hC 14 (by decide)).2.2.1 (hC 14 (by decide)).2.2.2
  · have e0 : instrOkB n0 n2 n3 mus n op a b c = false := by
      unfold instrOkB
      repeat rw [if_neg (by omega)]
    rw [e0]
    have e1 := inB_no h
    clear h hC e0
    go_enter Tryd.func150, Tryd.ntmps150
    go_wp2_with fail
    refine (isOp_any _ _).mono ?_
    rw [e1]
    rintro e w1 ⟨rfl, rfl⟩
    go_wp2_with fail
    go_ret
    exact ⟨rfl, by go_grown⟩
end Go.Proofs.YtgfkadhojlddpaaDoor
