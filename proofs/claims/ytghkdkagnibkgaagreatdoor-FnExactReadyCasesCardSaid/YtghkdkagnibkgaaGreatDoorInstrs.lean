
/- The contracts of Instrs, the program's and the model's. -/

import Derived.Test.YtghkdkagnibkgaaGreatDoorGDProg

namespace Go.Proofs.YtghkdkagnibkgaaGreatDoor
set_option linter.unusedSimpArgs false
set_option linter.unusedVariables false
open Go.RowKit

/-- How many instructions the procedure has. -/
def instrsZ (p : DProg) (q : Int) : Int := if 0 ≤ q ∧ q < p.fProcs.length then (match p.fProcs[q.toNat]? with | some x => (x.fCode.length : Int) | none => 0) else 0

theorem isPlace_any (v c : Int) (w : World) : Calls Tryz.prog 65 #[.int .i64 v, .int .i64 c] w fun e w' => e = .returned (.bool (decide (0 ≤ v ∧ v < c))) ∧ w = w' := by
  by_cases h0 : 0 ≤ v
  · by_cases h1 : v < c
    · rw [decide_eq_true (show 0 ≤ v ∧ v < c from ⟨h0, h1⟩)]
      go_enter Tryz.func65, Tryz.ntmps65
      go_wp2
      go_ret
      exact ⟨rfl, rfl⟩
    · rw [decide_eq_false (show ¬ (0 ≤ v ∧ v < c) by omega)]
      have h2 : decide (v < c) = false := decide_eq_false h1
      clear h1
      go_enter Tryz.func65, Tryz.ntmps65
      go_wp2
      go_ret
      exact ⟨rfl, rfl⟩
  · rw [decide_eq_false (show ¬ (0 ≤ v ∧ v < c) by omega)]
    have h2 : decide (0 ≤ v) = false := decide_eq_false h0
    clear h0
    go_enter Tryz.func65, Tryz.ntmps65
    go_wp2
    go_ret
    exact ⟨rfl, rfl⟩

set_option maxRecDepth 100000 in
set_option maxHeartbeats 1000000 in
theorem specInstrs_any {w : World} {hi : Nat} {p : DProg} {vs : List Value} {q : Int} (h : layProg.see w hi p vs) (hhi : hi ≤ w.heap.size) (hn : szProg p ≤ 1048576) :
    Calls Tryz.prog 116 #[.agg vs.toArray, .int .i64 q] w fun e w' => e = .returned (.int .i64 (instrsZ p q)) ∧ Below w.heap.size w w' := by
  obtain ⟨A0, n0, c0, A2, n2, c2, A3, n3, c3, rfl, ⟨hc0, hm0, s0⟩, hw1, ⟨hc2, hm2, s2⟩, ⟨hc3, hm3, s3⟩⟩ := seeProg h
  have L3 := Lib.hid s3.1
  clear h hw1
  by_cases hq : 0 ≤ q ∧ q < (n3 : Int)
  · obtain ⟨m, rfl⟩ : ∃ m : Nat, q = m := ⟨q.toNat, by omega⟩
    have hlt : m < n3 := by omega
    obtain ⟨hx, g, o, vs, rfl, hg, hsee, hcell⟩ := s3.at_ hlt
    have hz := Lib.hid (show instrsZ p (m : Int) = (p.fProcs[m].fCode.length : Int) by
      unfold instrsZ
      rw [if_pos (by rw [L3.out]; omega)]
      simp [List.getElem?_eq_getElem hx])
    generalize p.fProcs[m] = x at *
    obtain ⟨B0, m0, b0, rfl, hd0, he0, t0⟩ := seeProc hsee
    have hzz : instrsZ p (m : Int) = (m0 : Int) := by rw [hz.out, t0.1]
    have cc0 := hcell 0 _ rfl
    simp only [show layProc.size = 1 from rfl, ← Nat.add_assoc, Nat.add_zero, Nat.mul_one] at cc0
    clear hcell hsee t0 hx
    have hm1 : (m : Int) < (n3 : Int) := by omega
    have hgw : g < w.heap.size := by omega
    have hm2 : decide ((m : Int) < 0) = false := decide_eq_false (by omega)
    have hm3 : decide ((n3 : Int) ≤ (m : Int)) = false := decide_eq_false (by omega)
    rw [hzz]
    clear hzz hz hq s0 s2 s3
    go_enter Tryz.func116, Tryz.ntmps116
    go_wp2_with fail
    try (go_quiet (fail); go_wp2_with fail)
    go_ret
    exact ⟨rfl, by first | go_grown | exact below_drawn (by go_grown) _⟩
  · have hz : instrsZ p q = 0 := by unfold instrsZ; rw [if_neg (by rw [L3.out]; exact hq)]
    rw [hz]
    clear hz s0 s2 s3
    by_cases h1 : q < 0
    · clear hq
      go_enter Tryz.func116, Tryz.ntmps116
      go_wp2_with fail
      go_ret
      exact ⟨rfl, by go_grown⟩
    · have h2 : (n3 : Int) ≤ q := by omega
      have h3 : decide (q < 0) = false := decide_eq_false h1
      clear hq h1
      go_enter Tryz.func116, Tryz.ntmps116
      go_wp2_with fail
      go_ret
      exact ⟨rfl, by go_grown⟩

set_option maxRecDepth 100000 in
set_option maxHeartbeats 1000000 in
theorem implInstrs_any {w : World} {hi : Nat} {p : DProg} {vs : List Value} {q : Int} (h : layProg.see w hi p vs) (hhi : hi ≤ w.heap.size) (hn : szProg p ≤ 1048576) :
    Calls Tryz.prog 153 #[.agg vs.toArray, .int .i64 q] w fun e w' => e = .returned (.int .i64 (instrsZ p q)) ∧ Below w.heap.size w w' := by
  obtain ⟨A0, n0, c0, A2, n2, c2, A3, n3, c3, rfl, ⟨hc0, hm0, s0⟩, hw1, ⟨hc2, hm2, s2⟩, ⟨hc3, hm3, s3⟩⟩ := seeProg h
  have L3 := Lib.hid s3.1
  clear h hw1
  by_cases hq : 0 ≤ q ∧ q < (n3 : Int)
  · have hd := Lib.hid (decide_eq_true hq)
    obtain ⟨m, rfl⟩ : ∃ m : Nat, q = m := ⟨q.toNat, by omega⟩
    have hlt : m < n3 := by omega
    obtain ⟨hx, g, o, vs, rfl, hg, hsee, hcell⟩ := s3.at_ hlt
    have hz := Lib.hid (show instrsZ p (m : Int) = (p.fProcs[m].fCode.length : Int) by
      unfold instrsZ
      rw [if_pos (by rw [L3.out]; omega)]
      simp [List.getElem?_eq_getElem hx])
    generalize p.fProcs[m] = x at *
    obtain ⟨B0, m0, b0, rfl, hd0, he0, t0⟩ := seeProc hsee
    have hzz : instrsZ p (m : Int) = (m0 : Int) := by rw [hz.out, t0.1]
    have cc0 := hcell 0 _ rfl
    simp only [show layProc.size = 1 from rfl, ← Nat.add_assoc, Nat.add_zero, Nat.mul_one] at cc0
    clear hcell hsee t0 hx
    have hm1 : (m : Int) < (n3 : Int) := by omega
    have hgw : g < w.heap.size := by omega
    rw [hzz]
    clear hzz hz hq s0 s2 s3
    go_enter Tryz.func153, Tryz.ntmps153
    go_wp2_with fail
    refine (isPlace_any _ _ _).mono ?_
    rw [hd.out]
    rintro e w1 ⟨rfl, rfl⟩
    go_wp2_with fail
    try (go_quiet (fail); go_wp2_with fail)
    go_ret
    exact ⟨rfl, by first | go_grown | exact below_drawn (by go_grown) _⟩
  · have hd := Lib.hid (decide_eq_false hq)
    have hz : instrsZ p q = 0 := by unfold instrsZ; rw [if_neg (by rw [L3.out]; exact hq)]
    rw [hz]
    clear hz s0 s2 s3 hq
    go_enter Tryz.func153, Tryz.ntmps153
    go_wp2_with fail
    refine (isPlace_any _ _ _).mono ?_
    rw [hd.out]
    rintro e w1 ⟨rfl, rfl⟩
    go_wp2_with fail
    go_ret
    exact ⟨rfl, by go_grown⟩
end Go.Proofs.YtghkdkagnibkgaaGreatDoor
