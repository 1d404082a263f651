
/- The program's own looks at one field: ranges, values, operations, what a field may name. -/

import Derived.Test.YtgfkadhojlddpaaDoorProcS

import Derived.Test.YtgfkadhojlddpaaDoorIsOp

namespace Go.Proofs.YtgfkadhojlddpaaDoor
set_option linter.unusedSimpArgs false
set_option linter.unusedVariables false
open Go.RowKit

theorem isPlaceIn_any (v c : Int) (w : World) : Calls Tryd.prog 105 #[.int .i64 v, .int .i64 c] w fun e w' => e = .returned (.bool (inB v 0 (c - 1))) ∧ w = w' := by
  by_cases h0 : 0 ≤ v
  · by_cases h1 : v < c
    · rw [inB_yes (by omega)]
      go_enter Tryd.func105, Tryd.ntmps105
      go_wp2
      go_ret
      exact ⟨rfl, rfl⟩
    · rw [inB_no (by omega)]
      have h2 : decide (v < c) = false := decide_eq_false h1
      clear h1
      go_enter Tryd.func105, Tryd.ntmps105
      go_wp2
      go_ret
      exact ⟨rfl, rfl⟩
  · rw [inB_no (by omega)]
    have h2 : decide (0 ≤ v) = false := decide_eq_false h0
    clear h0
    go_enter Tryd.func105, Tryd.ntmps105
    go_wp2
    go_ret
    exact ⟨rfl, rfl⟩

theorem isVal_any (v : Int) (w : World) : Calls Tryd.prog 108 #[.int .i64 v] w fun e w' => e = .returned (.bool (valB v)) ∧ w = w' := by
  by_cases h0 : 0 ≤ v
  · by_cases h1 : v ≤ 999
    · rw [valB_yes (by omega)]
      go_enter Tryd.func108, Tryd.ntmps108
      go_wp2
      go_ret
      exact ⟨rfl, rfl⟩
    · rw [valB_no (by omega)]
      have h2 : decide (v ≤ 999) = false := decide_eq_false h1
      clear h1
      go_enter Tryd.func108, Tryd.ntmps108
      go_wp2
      go_ret
      exact ⟨rfl, rfl⟩
  · rw [valB_no (by omega)]
    have h2 : decide (0 ≤ v) = false := decide_eq_false h0
    clear h0
    go_enter Tryd.func108, Tryd.ntmps108
    go_wp2
    go_ret
    exact ⟨rfl, rfl⟩

/-- What the document asks of a field that names so. -/
def fieldB (n0 n2 n3 : Nat) (mus n name v : Int) : Bool :=
  if name = 1 then regB v
  else if name = 2 then valB v
  else if name = 3 then inB v 0 (n - 1)
  else if name = 4 then inB v (-1) ((n0 : Int) - 1)
  else if name = 5 then inB v 0 ((n2 : Int) - 1)
  else if name = 6 then inB v 0 (mus - 1)
  else if name = 7 then inB v 0 ((n3 : Int) - 1)
  else v == 0

set_option maxRecDepth 100000 in
set_option maxHeartbeats 2000000 in
theorem fieldOk_any {A0 A2 A3 : Option Addr} {n0 c0 n2 c2 n3 c3 : Nat} {mus n name v : Int} (w : World) (hname : 0 ≤ name ∧ name ≤ 7) :
    Calls Tryd.prog 156 #[.agg #[.slice A0 n0 c0, .int .i64 mus, .slice A2 n2 c2, .slice A3 n3 c3], .int .i64 n, .int .i64 name, .int .i64 v] w fun e w' => e = .returned (.bool (fieldB n0 n2 n3 mus n name v)) ∧ Below w.heap.size w w' := by
  have hn : name = 0 ∨ name = 1 ∨ name = 2 ∨ name = 3 ∨ name = 4 ∨ name = 5 ∨ name = 6 ∨ name = 7 := by omega
  clear hname
  rcases hn with rfl | rfl | rfl | rfl | rfl | rfl | rfl | rfl
  · have e0 : fieldB n0 n2 n3 mus n 0 v = (v == 0) := rfl
    rw [e0]
    go_enter Tryd.func156, Tryd.ntmps156
    go_wp2_with fail
    go_ret
    exact ⟨rfl, by go_grown⟩
  · have e0 : fieldB n0 n2 n3 mus n 1 v = inB v 0 (6 - 1) := rfl
    rw [e0]
    go_enter Tryd.func156, Tryd.ntmps156
    go_wp2_with fail
    refine (isPlaceIn_any _ _ _).mono ?_
    rintro e w1 ⟨rfl, rfl⟩
    go_wp2_with fail
    go_ret
    exact ⟨rfl, by go_grown⟩
  · have e0 : fieldB n0 n2 n3 mus n 2 v = valB v := rfl
    rw [e0]
    go_enter Tryd.func156, Tryd.ntmps156
    go_wp2_with fail
    refine (isVal_any _ _).mono ?_
    rintro e w1 ⟨rfl, rfl⟩
    go_wp2_with fail
    go_ret
    exact ⟨rfl, by go_grown⟩
  · have e0 : fieldB n0 n2 n3 mus n 3 v = inB v 0 (n - 1) := rfl
    rw [e0]
    go_enter Tryd.func156, Tryd.ntmps156
    go_wp2_with fail
    refine (isPlaceIn_any _ _ _).mono ?_
    rintro e w1 ⟨rfl, rfl⟩
    go_wp2_with fail
    go_ret
    exact ⟨rfl, by go_grown⟩
  · have e0 : fieldB n0 n2 n3 mus n 4 v = inB v (-1) ((n0 : Int) - 1) := rfl
    rw [e0]
    by_cases hv : v = -1
    · subst hv
      rw [inB_yes (by omega)]
      go_enter Tryd.func156, Tryd.ntmps156
      go_wp2_with fail
      go_ret
      exact ⟨rfl, by go_grown⟩
    · have e1 : inB v (-1) ((n0 : Int) - 1) = inB v 0 ((n0 : Int) - 1) := by unfold inB; exact decide_eq_decide.2 (by omega)
      have e2 : (v == -1) = false := by simpa using hv
      rw [e1]
      clear hv e1 e0
      go_enter Tryd.func156, Tryd.ntmps156
      go_wp2_with fail
      refine (isPlaceIn_any _ _ _).mono ?_
      rintro e w1 ⟨rfl, rfl⟩
      go_wp2_with fail
      go_ret
      exact ⟨rfl, by go_grown⟩
  · have e0 : fieldB n0 n2 n3 mus n 5 v = inB v 0 ((n2 : Int) - 1) := rfl
    rw [e0]
    go_enter Tryd.func156, Tryd.ntmps156
    go_wp2_with fail
    refine (isPlaceIn_any _ _ _).mono ?_
    rintro e w1 ⟨rfl, rfl⟩
    go_wp2_with fail
    go_ret
    exact ⟨rfl, by go_grown⟩
  · have e0 : fieldB n0 n2 n3 mus n 6 v = inB v 0 (mus - 1) := rfl
    rw [e0]
    go_enter Tryd.func156, Tryd.ntmps156
    go_wp2_with fail
    refine (isPlaceIn_any _ _ _).mono ?_
    rintro e w1 ⟨rfl, rfl⟩
    go_wp2_with fail
    go_ret
    exact ⟨rfl, by go_grown⟩
  · have e0 : fieldB n0 n2 n3 mus n 7 v = inB v 0 ((n3 : Int) - 1) := rfl
    rw [e0]
    go_enter Tryd.func156, Tryd.ntmps156
    go_wp2_with fail
    refine (isPlaceIn_any _ _ _).mono ?_
    rintro e w1 ⟨rfl, rfl⟩
    go_wp2_with fail
    go_ret
    exact ⟨rfl, by go_grown⟩
end Go.Proofs.YtgfkadhojlddpaaDoor
