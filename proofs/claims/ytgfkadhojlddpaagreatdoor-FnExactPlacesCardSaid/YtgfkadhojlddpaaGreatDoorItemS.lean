
/- ItemOk: the model's. -/

import Derived.Test.YtgfkadhojlddpaaGreatDoorItemI

namespace Go.Proofs.YtgfkadhojlddpaaGreatDoor
set_option linter.unusedSimpArgs false
set_option linter.unusedVariables false
open Go.RowKit

set_option maxRecDepth 100000 in
set_option maxHeartbeats 4000000 in
theorem specItemOk_any {w : World} {x : DItem} :
    Calls Tryz.prog 167 #[.agg #[.int .i64 x.fKind, .int .i64 x.fObj, .int .i64 x.fVal, .bool x.fOk]] w fun e w' => e = .returned (.bool (itemOkB x)) ∧ Below w.heap.size w w' := by
  obtain ⟨k, obj, val, ok⟩ := x
  simp only
  obtain ⟨r, hr⟩ : ∃ r, r = itemOkB ⟨k, obj, val, ok⟩ := ⟨_, rfl⟩
  rw [← hr]
  have HR := Lib.hid hr
  clear hr
  have hVal := Lib.hid (fun W => l03ValT_any val W)
  by_cases q1 : k < 1
  · go_enter Tryz.func167, Tryz.ntmps167
    go_wp2_with fail
    go_ret
    exact ⟨by rw [HR.out]; simp [itemOkB]; omega, by go_grown⟩
  by_cases q2 : k > 10
  · go_enter Tryz.func167, Tryz.ntmps167
    go_wp2_with fail
    go_ret
    exact ⟨by rw [HR.out]; simp [itemOkB]; omega, by go_grown⟩
  by_cases q3 : obj < 0
  · have b1 : decide (k < 1) = false := decide_eq_false q1
    have b2 : decide (k > 10) = false := decide_eq_false q2
    clear q1 q2
    go_enter Tryz.func167, Tryz.ntmps167
    go_wp2_with fail
    go_ret
    exact ⟨by rw [HR.out]; simp [itemOkB]; omega, by go_grown⟩
  have hk : k = 1 ∨ k = 2 ∨ k = 3 ∨ k = 4 ∨ k = 5 ∨ k = 6 ∨ k = 7 ∨ k = 8 ∨ k = 9 ∨ k = 10 := by omega
  have b3 : decide (obj < 0) = false := decide_eq_false q3
  have hge : 0 ≤ obj := by omega
  clear q1 q2 q3
  rcases hk with rfl | rfl | rfl | rfl | rfl | rfl | rfl | rfl | rfl | rfl
  · skip
    cases ok
    · skip
      go_enter Tryz.func167, Tryz.ntmps167
      go_wp2_with fail
      refine (hVal.out _).mono ?_
      rintro e w5 ⟨rfl, rfl⟩
      go_wp2_with fail
      go_ret
      exact ⟨by rw [HR.out]; simp [itemOkB, kindB, hge]; try first | omega | rfl, by go_grown⟩
    · skip
      go_enter Tryz.func167, Tryz.ntmps167
      go_wp2_with fail
      go_ret
      exact ⟨by rw [HR.out]; simp [itemOkB, kindB, hge]; try first | omega | rfl, by go_grown⟩
  · skip
    cases hq : okV val
    · have HQ := Lib.hid hq
      clear hq
      cases ok
      · skip
        go_enter Tryz.func167, Tryz.ntmps167
        go_wp2_with fail
        refine (hVal.out _).mono ?_
        rw [HQ.out]
        rintro e w5 ⟨rfl, rfl⟩
        go_wp2_with fail
        go_ret
        exact ⟨by rw [HR.out]; simp [itemOkB, kindB, hge, HQ.out]; try first | omega | rfl, by go_grown⟩
      · skip
        go_enter Tryz.func167, Tryz.ntmps167
        go_wp2_with fail
        refine (hVal.out _).mono ?_
        rw [HQ.out]
        rintro e w5 ⟨rfl, rfl⟩
        go_wp2_with fail
        go_ret
        exact ⟨by rw [HR.out]; simp [itemOkB, kindB, hge, HQ.out]; try first | omega | rfl, by go_grown⟩
    · have HQ := Lib.hid hq
      clear hq
      cases ok
      · skip
        go_enter Tryz.func167, Tryz.ntmps167
        go_wp2_with fail
        refine (hVal.out _).mono ?_
        rw [HQ.out]
        rintro e w5 ⟨rfl, rfl⟩
        go_wp2_with fail
        go_ret
        exact ⟨by rw [HR.out]; simp [itemOkB, kindB, hge, HQ.out]; try first | omega | rfl, by go_grown⟩
      · skip
        go_enter Tryz.func167, Tryz.ntmps167
        go_wp2_with fail
        refine (hVal.out _).mono ?_
        rw [HQ.out]
        rintro e w5 ⟨rfl, rfl⟩
        go_wp2_with fail
        go_ret
        exact ⟨by rw [HR.out]; simp [itemOkB, kindB, hge, HQ.out]; try first | omega | rfl, by go_grown⟩
  · skip
    cases ok
    · skip
      go_enter Tryz.func167, Tryz.ntmps167
      go_wp2_with fail
      go_ret
      exact ⟨by rw [HR.out]; simp [itemOkB, kindB, hge]; try first | omega | rfl, by go_grown⟩
    · skip
      go_enter Tryz.func167, Tryz.ntmps167
      go_wp2_with fail
      go_ret
      exact ⟨by rw [HR.out]; simp [itemOkB, kindB, hge]; try first | omega | rfl, by go_grown⟩
  · skip
    cases ok
    · skip
      go_enter Tryz.func167, Tryz.ntmps167
      go_wp2_with fail
      go_ret
      exact ⟨by rw [HR.out]; simp [itemOkB, kindB, hge]; try first | omega | rfl, by go_grown⟩
    · skip
      go_enter Tryz.func167, Tryz.ntmps167
      go_wp2_with fail
      go_ret
      exact ⟨by rw [HR.out]; simp [itemOkB, kindB, hge]; try first | omega | rfl, by go_grown⟩
  · skip
    cases ok
    · skip
      go_enter Tryz.func167, Tryz.ntmps167
      go_wp2_with fail
      go_ret
      exact ⟨by rw [HR.out]; simp [itemOkB, kindB, hge]; try first | omega | rfl, by go_grown⟩
    · skip
      go_enter Tryz.func167, Tryz.ntmps167
      go_wp2_with fail
      go_ret
      exact ⟨by rw [HR.out]; simp [itemOkB, kindB, hge]; try first | omega | rfl, by go_grown⟩
  · skip
    cases ok
    · skip
      go_enter Tryz.func167, Tryz.ntmps167
      go_wp2_with fail
      go_ret
      exact ⟨by rw [HR.out]; simp [itemOkB, kindB, hge]; try first | omega | rfl, by go_grown⟩
    · skip
      go_enter Tryz.func167, Tryz.ntmps167
      go_wp2_with fail
      go_ret
      exact ⟨by rw [HR.out]; simp [itemOkB, kindB, hge]; try first | omega | rfl, by go_grown⟩
  · skip
    cases ok
    · skip
      go_enter Tryz.func167, Tryz.ntmps167
      go_wp2_with fail
      go_ret
      exact ⟨by rw [HR.out]; simp [itemOkB, kindB, hge]; try first | omega | rfl, by go_grown⟩
    · skip
      go_enter Tryz.func167, Tryz.ntmps167
      go_wp2_with fail
      go_ret
      exact ⟨by rw [HR.out]; simp [itemOkB, kindB, hge]; try first | omega | rfl, by go_grown⟩
  · skip
    by_cases q4 : obj = 0
    · subst q4
      cases ok
      · skip
        go_enter Tryz.func167, Tryz.ntmps167
        go_wp2_with fail
        refine (hVal.out _).mono ?_
        rintro e w5 ⟨rfl, rfl⟩
        go_wp2_with fail
        go_ret
        exact ⟨by rw [HR.out]; simp [itemOkB, kindB, hge]; try first | omega | rfl, by go_grown⟩
      · skip
        go_enter Tryz.func167, Tryz.ntmps167
        go_wp2_with fail
        go_ret
        exact ⟨by rw [HR.out]; simp [itemOkB, kindB, hge]; try first | omega | rfl, by go_grown⟩
    · have b4 : (obj != 0) = true := by simpa using q4
      go_enter Tryz.func167, Tryz.ntmps167
      go_wp2_with fail
      go_ret
      exact ⟨by rw [HR.out]; simp [itemOkB, kindB, hge, q4]; try first | omega | rfl, by go_grown⟩
  · skip
    by_cases q4 : obj = 0
    · subst q4
      cases ok
      · skip
        go_enter Tryz.func167, Tryz.ntmps167
        go_wp2_with fail
        go_ret
        exact ⟨by rw [HR.out]; simp [itemOkB, kindB, hge]; try first | omega | rfl, by go_grown⟩
      · skip
        go_enter Tryz.func167, Tryz.ntmps167
        go_wp2_with fail
        go_ret
        exact ⟨by rw [HR.out]; simp [itemOkB, kindB, hge]; try first | omega | rfl, by go_grown⟩
    · have b4 : (obj != 0) = true := by simpa using q4
      go_enter Tryz.func167, Tryz.ntmps167
      go_wp2_with fail
      go_ret
      exact ⟨by rw [HR.out]; simp [itemOkB, kindB, hge, q4]; try first | omega | rfl, by go_grown⟩
  · skip
    by_cases q4 : obj = 0
    · subst q4
      cases ok
      · by_cases q6 : val ≥ 1
        · have b6 : decide (val ≥ 1) = true := decide_eq_true q6
          go_enter Tryz.func167, Tryz.ntmps167
          go_wp2_with fail
          go_ret
          exact ⟨by rw [HR.out]; simp [itemOkB, kindB, hge, q6]; try first | omega | rfl, by go_grown⟩
        · have b6 : decide (val ≥ 1) = false := decide_eq_false q6
          have q7 : val ≤ 0 := by omega
          clear q6
          go_enter Tryz.func167, Tryz.ntmps167
          go_wp2_with fail
          go_ret
          exact ⟨by rw [HR.out]; simp [itemOkB, kindB, hge]; try first | omega | rfl, by go_grown⟩
      · skip
        go_enter Tryz.func167, Tryz.ntmps167
        go_wp2_with fail
        go_ret
        exact ⟨by rw [HR.out]; simp [itemOkB, kindB, hge]; try first | omega | rfl, by go_grown⟩
    · have b4 : (obj != 0) = true := by simpa using q4
      go_enter Tryz.func167, Tryz.ntmps167
      go_wp2_with fail
      go_ret
      exact ⟨by rw [HR.out]; simp [itemOkB, kindB, hge, q4]; try first | omega | rfl, by go_grown⟩
end Go.Proofs.YtgfkadhojlddpaaGreatDoor
