
/- OpsS, InstrS, IsOp, merged for claims. -/

import Derived.Test.YtghkdkagnibkgaaGreatDoorGTabs

import Derived.Handy

import Derived.Test.YtghkdkagnibkgaaGreatDoorGDProg

namespace Go.Proofs.YtghkdkagnibkgaaGreatDoor

open Go.RowKit

set_option maxRecDepth 100000 in
set_option maxHeartbeats 1000000 in
theorem specFields_any (z : Int) (w : World) :
    Calls Tryz.prog 166 #[.int .i64 z] w fun e w' => e = .returned (.int .i64 (opField z)) ∧ w = w' := by
  by_cases h : 1 ≤ z ∧ z ≤ 15
  · rcases op_cases h with rfl | rfl | rfl | rfl | rfl | rfl | rfl | rfl | rfl | rfl | rfl | rfl | rfl | rfl | rfl
    all_goals
      clear h
      go_enter Tryz.func166, Tryz.ntmps166
      go_wp2
      go_ret
      exact ⟨rfl, rfl⟩
  · have ho : opField z = -1 := by rw [opField, if_neg h]
    rw [ho]
    clear ho
    by_cases h1 : z < 1
    · clear h
      go_enter Tryz.func166, Tryz.ntmps166
      go_wp2
      go_ret
      exact ⟨rfl, rfl⟩
    · have h2 : 15 < z := by omega
      clear h
      go_enter Tryz.func166, Tryz.ntmps166
      go_wp2
      go_ret
      exact ⟨rfl, rfl⟩
end Go.Proofs.YtghkdkagnibkgaaGreatDoor

namespace Go.Proofs.YtghkdkagnibkgaaGreatDoor
set_option linter.unusedSimpArgs false
set_option linter.unusedVariables false
open Go.RowKit

/-- From lo to hi. -/
def inB (n lo hi : Int) : Bool := decide (lo ≤ n ∧ n ≤ hi)
def regB (n : Int) : Bool := decide (0 ≤ n ∧ n ≤ 5)
def valB (n : Int) : Bool := decide (0 ≤ n ∧ n ≤ 999)

theorem inB_yes {n lo hi : Int} (h : lo ≤ n ∧ n ≤ hi) : inB n lo hi = true := decide_eq_true h
theorem inB_no {n lo hi : Int} (h : ¬ (lo ≤ n ∧ n ≤ hi)) : inB n lo hi = false := decide_eq_false h
theorem regB_yes {n : Int} (h : 0 ≤ n ∧ n ≤ 5) : regB n = true := decide_eq_true h
theorem regB_no {n : Int} (h : ¬ (0 ≤ n ∧ n ≤ 5)) : regB n = false := decide_eq_false h
theorem valB_yes {n : Int} (h : 0 ≤ n ∧ n ≤ 999) : valB n = true := decide_eq_true h
theorem valB_no {n : Int} (h : ¬ (0 ≤ n ∧ n ≤ 999)) : valB n = false := decide_eq_false h

theorem l04In_any (n lo hi : Int) (w : World) : Calls Tryz.prog 147 #[.int .i64 n, .int .i64 lo, .int .i64 hi] w fun e w' => e = .returned (.bool (inB n lo hi)) ∧ w = w' := by
  by_cases h0 : lo ≤ n
  · by_cases h1 : n ≤ hi
    · rw [inB_yes ⟨h0, h1⟩]
      go_enter Tryz.func147, Tryz.ntmps147
      go_wp2
      go_ret
      exact ⟨rfl, rfl⟩
    · rw [inB_no (by omega)]
      have h2 : decide (n ≤ hi) = false := decide_eq_false h1
      clear h1
      go_enter Tryz.func147, Tryz.ntmps147
      go_wp2
      go_ret
      exact ⟨rfl, rfl⟩
  · rw [inB_no (by omega)]
    have h2 : decide (lo ≤ n) = false := decide_eq_false h0
    clear h0
    go_enter Tryz.func147, Tryz.ntmps147
    go_wp2
    go_ret
    exact ⟨rfl, rfl⟩

theorem l03Reg_any (n : Int) (w : World) : Calls Tryz.prog 146 #[.int .i64 n] w fun e w' => e = .returned (.bool (regB n)) ∧ w = w' := by
  by_cases h0 : 0 ≤ n
  · by_cases h1 : n < 6
    · rw [regB_yes (by omega)]
      go_enter Tryz.func146, Tryz.ntmps146
      go_wp2
      go_ret
      exact ⟨rfl, rfl⟩
    · rw [regB_no (by omega)]
      have h2 : decide (n < 6) = false := decide_eq_false h1
      clear h1
      go_enter Tryz.func146, Tryz.ntmps146
      go_wp2
      go_ret
      exact ⟨rfl, rfl⟩
  · rw [regB_no (by omega)]
    have h2 : decide (0 ≤ n) = false := decide_eq_false h0
    clear h0
    go_enter Tryz.func146, Tryz.ntmps146
    go_wp2
    go_ret
    exact ⟨rfl, rfl⟩

theorem l03Val_any (n : Int) (w : World) : Calls Tryz.prog 117 #[.int .i64 n] w fun e w' => e = .returned (.bool (valB n)) ∧ w = w' := by
  by_cases h0 : 0 ≤ n
  · by_cases h1 : n ≤ 999
    · rw [valB_yes (by omega)]
      go_enter Tryz.func117, Tryz.ntmps117
      go_wp2
      go_ret
      exact ⟨rfl, rfl⟩
    · rw [valB_no (by omega)]
      have h2 : decide (n ≤ 999) = false := decide_eq_false h1
      clear h1
      go_enter Tryz.func117, Tryz.ntmps117
      go_wp2
      go_ret
      exact ⟨rfl, rfl⟩
  · rw [valB_no (by omega)]
    have h2 : decide (0 ≤ n) = false := decide_eq_false h0
    clear h0
    go_enter Tryz.func117, Tryz.ntmps117
    go_wp2
    go_ret
    exact ⟨rfl, rfl⟩

theorem l04Chan_any (A0 A2 A3 : Option Addr) (n0 c0 n2 c2 n3 c3 : Nat) (mus ch : Int) (w : World) (hn : n0 ≤ 1048576) :
    Calls Tryz.prog 145 #[.agg #[.slice A0 n0 c0, .int .i64 mus, .slice A2 n2 c2, .slice A3 n3 c3], .int .i64 ch] w fun e w' => e = .returned (.bool (inB ch (-1) ((n0 : Int) - 1))) ∧ Below w.heap.size w w' := by
  go_enter Tryz.func145, Tryz.ntmps145
  go_wp2_with fail
  refine (l04In_any _ _ _ _).mono ?_
  rintro e w1 ⟨rfl, rfl⟩
  go_wp2_with fail
  go_ret
  exact ⟨rfl, by go_grown⟩

/-- The fields from the k-th on are 0. -/
def restB (a b c : Int) (k : Int) : Bool := decide ((k > 0 ∨ a = 0) ∧ (k > 1 ∨ b = 0) ∧ (k > 2 ∨ c = 0))

set_option maxRecDepth 100000 in
set_option maxHeartbeats 1000000 in
theorem l04Rest_any (op a b c : Int) (k : Int) (w : World) (hk : 0 ≤ k ∧ k ≤ 3) :
    Calls Tryz.prog 167 #[.agg #[.int .i64 op, .int .i64 a, .int .i64 b, .int .i64 c], .int .i64 k] w fun e w' => e = .returned (.bool (restB a b c k)) ∧ Below w.heap.size w w' := by
  have hk' : k = 0 ∨ k = 1 ∨ k = 2 ∨ k = 3 := by omega
  have go : ∀ (ba bb bc : Bool), (a == 0) = ba → (b == 0) = bb → (c == 0) = bc → Calls Tryz.prog 167 #[.agg #[.int .i64 op, .int .i64 a, .int .i64 b, .int .i64 c], .int .i64 k] w fun e w' => e = .returned (.bool ((decide (k > 0) || ba) && (decide (k > 1) || bb) && (decide (k > 2) || bc))) ∧ Below w.heap.size w w' := by
    intro ba bb bc ha hb hc
    clear hk
    rcases hk' with rfl | rfl | rfl | rfl
    · cases ba
      · clear hb hc
        go_enter Tryz.func167, Tryz.ntmps167
        go_wp2
        go_ret
        exact ⟨rfl, by go_grown⟩
      · cases bb <;> cases bc
        all_goals
          go_enter Tryz.func167, Tryz.ntmps167
          go_wp2
          go_ret
          exact ⟨rfl, by go_grown⟩
    · clear ha
      cases bb <;> cases bc
      all_goals
        go_enter Tryz.func167, Tryz.ntmps167
        go_wp2
        go_ret
        exact ⟨by simp, by go_grown⟩
    · clear ha hb
      cases bc
      all_goals
        go_enter Tryz.func167, Tryz.ntmps167
        go_wp2
        go_ret
        exact ⟨by simp, by go_grown⟩
    · clear ha hb hc
      go_enter Tryz.func167, Tryz.ntmps167
      go_wp2
      go_ret
      exact ⟨by simp, by go_grown⟩
  have h := go _ _ _ rfl rfl rfl
  have e : restB a b c k = ((decide (k > 0) || (a == 0)) && (decide (k > 1) || (b == 0)) && (decide (k > 2) || (c == 0))) := by
    unfold restB
    rw [Bool.eq_iff_iff]
    simp [and_assoc]
  rw [e]
  exact h
end Go.Proofs.YtghkdkagnibkgaaGreatDoor

namespace Go.Proofs.YtghkdkagnibkgaaGreatDoor

open Go.RowKit

theorem isOp_any (v : Int) (w : World) : Calls Tryz.prog 177 #[.int .i64 v] w fun e w' => e = .returned (.bool (inB v 1 15)) ∧ w = w' := by
  by_cases h0 : 1 ≤ v
  · by_cases h1 : v ≤ 15
    · rw [inB_yes (by omega)]
      go_enter Tryz.func177, Tryz.ntmps177
      go_wp2
      go_ret
      exact ⟨rfl, rfl⟩
    · rw [inB_no (by omega)]
      have h2 : decide (v ≤ 15) = false := decide_eq_false h1
      clear h1
      go_enter Tryz.func177, Tryz.ntmps177
      go_wp2
      go_ret
      exact ⟨rfl, rfl⟩
  · rw [inB_no (by omega)]
    have h2 : decide (1 ≤ v) = false := decide_eq_false h0
    clear h0
    go_enter Tryz.func177, Tryz.ntmps177
    go_wp2
    go_ret
    exact ⟨rfl, rfl⟩
end Go.Proofs.YtghkdkagnibkgaaGreatDoor
