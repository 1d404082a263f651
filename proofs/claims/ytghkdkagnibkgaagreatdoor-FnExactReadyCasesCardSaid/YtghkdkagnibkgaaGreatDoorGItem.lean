
/- ItemI, ItemS, merged for claims. -/

import Derived.Test.YtghkdkagnibkgaaGreatDoorGTabs

namespace Go.Proofs.YtghkdkagnibkgaaGreatDoor
set_option linter.unusedSimpArgs false
set_option linter.unusedVariables false
open Go.RowKit

theorem l03ValT_any (v : Int) (w : World) : Calls Tryz.prog 117 #[.int .i64 v] w fun e w' => e = .returned (.bool (okV v)) ∧ w = w' := by
  by_cases h0 : 0 ≤ v
  · by_cases h1 : v ≤ 999
    · rw [okV_yes (by omega)]
      go_enter Tryz.func117, Tryz.ntmps117
      go_wp2
      go_ret
      exact ⟨rfl, rfl⟩
    · rw [okV_no (by omega)]
      have h2 : decide (v ≤ 999) = false := decide_eq_false h1
      clear h1
      go_enter Tryz.func117, Tryz.ntmps117
      go_wp2
      go_ret
      exact ⟨rfl, rfl⟩
  · rw [okV_no (by omega)]
    have h2 : decide (0 ≤ v) = false := decide_eq_false h0
    clear h0
    go_enter Tryz.func117, Tryz.ntmps117
    go_wp2
    go_ret
    exact ⟨rfl, rfl⟩

set_option maxRecDepth 100000 in
set_option maxHeartbeats 4000000 in
theorem implItem_at {obj val lo hi : Int} {ok hb : Bool} {s : List UInt8} {w : World} (z : Nat) (h1 : 1 ≤ z) (h2 : z ≤ 10)
    (c0 : w.cell? ⟨1, z * 4, none⟩ = some (Tx s)) (c1 : w.cell? ⟨1, z * 4 + 1, none⟩ = some (.bool hb)) (c2 : w.cell? ⟨1, z * 4 + 2, none⟩ = some (.int .i64 lo)) (c3 : w.cell? ⟨1, z * 4 + 3, none⟩ = some (.int .i64 hi)) :
    Calls Tryz.prog 173 #[.agg #[.int .i64 (z : Int), .int .i64 obj, .int .i64 val, .bool ok]] w fun e w' => e = .returned (.bool (rowB z obj val ok hb lo hi)) ∧ Below w.heap.size w w' := by
  have hg0 : 1 < w.heap.size := World.block_lt_of_cell? w _ c1
  have hz1 : ¬ ((z : Int) < 1) := by omega
  have hz2 : ¬ ((z : Int) > 10) := by omega
  have hz3 : (z : Int) ≤ 10 := by omega
  have hz4 : (1 : Int) ≤ (z : Int) := by omega
  obtain ⟨r, hr⟩ : ∃ r, r = rowB z obj val ok hb lo hi := ⟨_, rfl⟩
  rw [← hr]
  have HR := Lib.hid hr
  clear hr
  by_cases q1 : obj < 0
  · go_enter Tryz.func173, Tryz.ntmps173
    go_wp2_with fail
    go_ret
    exact ⟨by rw [HR.out]; simp [rowB, q1], by go_grown⟩
  · have hb1 : decide (obj < 0) = false := decide_eq_false q1
    by_cases q2 : obj > 0
    · have hb2 : decide (obj > 0) = true := decide_eq_true q2
      cases hb
      · go_enter Tryz.func173, Tryz.ntmps173
        go_wp2_with fail
        go_ret
        exact ⟨by rw [HR.out]; simp [rowB, q1, q2], by go_grown⟩
      · skip
        by_cases q3 : val < lo
        · go_enter Tryz.func173, Tryz.ntmps173
          go_wp2_with fail
          go_ret
          exact ⟨by rw [HR.out]; simp [rowB, q1, q2, q3], by go_grown⟩
        · have hb3 : decide (val < lo) = false := decide_eq_false q3
          by_cases q4 : val > hi
          · go_enter Tryz.func173, Tryz.ntmps173
            go_wp2_with fail
            go_ret
            exact ⟨by rw [HR.out]; simp [rowB, q1, q2, q3, q4], by go_grown⟩
          · have hb4 : decide (val > hi) = false := decide_eq_false q4
            by_cases q5 : (z : Int) = 2
            · obtain rfl : z = 2 := by omega
              simp only [Nat.reduceMul, Nat.reduceAdd] at c0 c1 c2 c3
              clear hz1 hz2 hz3 hz4 q5
              cases ok
              · go_enter Tryz.func173, Tryz.ntmps173
                go_wp2_with fail
                go_ret
                exact ⟨by rw [HR.out]; unfold rowB; rw [hb1, hb2, hb3, hb4]; simp [show (val == 0) = decide (val = 0) from rfl], by go_grown⟩
              · go_enter Tryz.func173, Tryz.ntmps173
                go_wp2_with fail
                go_ret
                exact ⟨by rw [HR.out]; simp [rowB, q1, q2, q3, q4], by go_grown⟩
            · go_enter Tryz.func173, Tryz.ntmps173
              go_wp2_with fail
              go_ret
              exact ⟨by rw [HR.out]; simp [rowB, q1, q2, q3, q4, q5], by go_grown⟩
    · have hb2 : decide (obj > 0) = false := decide_eq_false q2
      by_cases q3 : val < lo
      · go_enter Tryz.func173, Tryz.ntmps173
        go_wp2_with fail
        go_ret
        exact ⟨by rw [HR.out]; simp [rowB, q1, q2, q3], by go_grown⟩
      · have hb3 : decide (val < lo) = false := decide_eq_false q3
        by_cases q4 : val > hi
        · go_enter Tryz.func173, Tryz.ntmps173
          go_wp2_with fail
          go_ret
          exact ⟨by rw [HR.out]; simp [rowB, q1, q2, q3, q4], by go_grown⟩
        · have hb4 : decide (val > hi) = false := decide_eq_false q4
          by_cases q5 : (z : Int) = 2
          · obtain rfl : z = 2 := by omega
            simp only [Nat.reduceMul, Nat.reduceAdd] at c0 c1 c2 c3
            clear hz1 hz2 hz3 hz4 q5
            cases ok
            · go_enter Tryz.func173, Tryz.ntmps173
              go_wp2_with fail
              go_ret
              exact ⟨by rw [HR.out]; unfold rowB; rw [hb1, hb2, hb3, hb4]; simp [show (val == 0) = decide (val = 0) from rfl], by go_grown⟩
            · go_enter Tryz.func173, Tryz.ntmps173
              go_wp2_with fail
              go_ret
              exact ⟨by rw [HR.out]; simp [rowB, q1, q2, q3, q4], by go_grown⟩
          · go_enter Tryz.func173, Tryz.ntmps173
            go_wp2_with fail
            go_ret
            exact ⟨by rw [HR.out]; simp [rowB, q1, q2, q3, q4, q5], by go_grown⟩

set_option maxRecDepth 100000 in
set_option maxHeartbeats 4000000 in
theorem implItemOk_any {w : World} {x : DItem} (hC : ItemCells w) (hv : (Lit.int .i64 x.fVal).wf = true) :
    Calls Tryz.prog 173 #[.agg #[.int .i64 x.fKind, .int .i64 x.fObj, .int .i64 x.fVal, .bool x.fOk]] w fun e w' => e = .returned (.bool (itemOkB x)) ∧ Below w.heap.size w w' := by
  obtain ⟨k, obj, val, ok⟩ := x
  simp only at *
  by_cases hk : 1 ≤ k ∧ k ≤ 10
  · obtain ⟨z, rfl⟩ := Int.eq_ofNat_of_zero_le (show 0 ≤ k by omega)
    have h := hC z (by omega) (by omega)
    rw [← row_is (k := z) (by omega) (by omega) hv]
    exact implItem_at z (by omega) (by omega) h.1 h.2.1 h.2.2.1 h.2.2.2
  · rw [show itemOkB ⟨k, obj, val, ok⟩ = false by unfold itemOkB; rw [show decide (1 ≤ k ∧ k ≤ 10 ∧ 0 ≤ obj) = false from decide_eq_false (by omega)]; rfl]
    clear hC hv
    by_cases h1 : k < 1
    · go_enter Tryz.func173, Tryz.ntmps173
      go_wp2_with fail
      go_ret
      exact ⟨rfl, by go_grown⟩
    · have h2 : k > 10 := by omega
      clear hk
      go_enter Tryz.func173, Tryz.ntmps173
      go_wp2_with fail
      go_ret
      exact ⟨rfl, by go_grown⟩
end Go.Proofs.YtghkdkagnibkgaaGreatDoor

namespace Go.Proofs.YtghkdkagnibkgaaGreatDoor
set_option linter.unusedSimpArgs false
set_option linter.unusedVariables false
open Go.RowKit

set_option maxRecDepth 100000 in
set_option maxHeartbeats 4000000 in
theorem specItemOk_any {w : World} {x : DItem} :
    Calls Tryz.prog 150 #[.agg #[.int .i64 x.fKind, .int .i64 x.fObj, .int .i64 x.fVal, .bool x.fOk]] w fun e w' => e = .returned (.bool (itemOkB x)) ∧ Below w.heap.size w w' := by
  obtain ⟨k, obj, val, ok⟩ := x
  simp only
  obtain ⟨r, hr⟩ : ∃ r, r = itemOkB ⟨k, obj, val, ok⟩ := ⟨_, rfl⟩
  rw [← hr]
  have HR := Lib.hid hr
  clear hr
  have hVal := Lib.hid (fun W => l03ValT_any val W)
  by_cases q1 : k < 1
  · go_enter Tryz.func150, Tryz.ntmps150
    go_wp2_with fail
    go_ret
    exact ⟨by rw [HR.out]; simp [itemOkB]; omega, by go_grown⟩
  by_cases q2 : k > 10
  · go_enter Tryz.func150, Tryz.ntmps150
    go_wp2_with fail
    go_ret
    exact ⟨by rw [HR.out]; simp [itemOkB]; omega, by go_grown⟩
  by_cases q3 : obj < 0
  · have b1 : decide (k < 1) = false := decide_eq_false q1
    have b2 : decide (k > 10) = false := decide_eq_false q2
    clear q1 q2
    go_enter Tryz.func150, Tryz.ntmps150
    go_wp2_with fail
    go_ret
    exact ⟨by rw [HR.out]; simp [itemOkB]; omega, by go_grown⟩
  have hk : k = 1 ∨ k = 2 ∨ k = 3 ∨ k = 4 ∨ k = 5 ∨ k = 6 ∨ k = 7 ∨ k = 8 ∨ k = 9 ∨ k = 10 := by omega
  have b3 : decide (obj < 0) = false := decide_eq_false q3
  have hge : 0 ≤ obj := by omega
  clear q1 q2 q3
  rcases hk with rfl | rfl | rfl | rfl | rfl | rfl | rfl | rfl | rfl | rfl
  · skip
    cases ok
    · skip
      go_enter Tryz.func150, Tryz.ntmps150
      go_wp2_with fail
      refine (hVal.out _).mono ?_
      rintro e w5 ⟨rfl, rfl⟩
      go_wp2_with fail
      go_ret
      exact ⟨by rw [HR.out]; simp [itemOkB, kindB, hge]; try first | omega | rfl, by go_grown⟩
    · skip
      go_enter Tryz.func150, Tryz.ntmps150
      go_wp2_with fail
      go_ret
      exact ⟨by rw [HR.out]; simp [itemOkB, kindB, hge]; try first | omega | rfl, by go_grown⟩
  · skip
    cases hq : okV val
    · have HQ := Lib.hid hq
      clear hq
      cases ok
      · skip
        go_enter Tryz.func150, Tryz.ntmps150
        go_wp2_with fail
        refine (hVal.out _).mono ?_
        rw [HQ.out]
        rintro e w5 ⟨rfl, rfl⟩
        go_wp2_with fail
        go_ret
        exact ⟨by rw [HR.out]; simp [itemOkB, kindB, hge, HQ.out]; try first | omega | rfl, by go_grown⟩
      · skip
        go_enter Tryz.func150, Tryz.ntmps150
        go_wp2_with fail
        refine (hVal.out _).mono ?_
        rw [HQ.out]
        rintro e w5 ⟨rfl, rfl⟩
        go_wp2_with fail
        go_ret
        exact ⟨by rw [HR.out]; simp [itemOkB, kindB, hge, HQ.out]; try first | omega | rfl, by go_grown⟩
    · have HQ := Lib.hid hq
      clear hq
      cases ok
      · skip
        go_enter Tryz.func150, Tryz.ntmps150
        go_wp2_with fail
        refine (hVal.out _).mono ?_
        rw [HQ.out]
        rintro e w5 ⟨rfl, rfl⟩
        go_wp2_with fail
        go_ret
        exact ⟨by rw [HR.out]; simp [itemOkB, kindB, hge, HQ.out]; try first | omega | rfl, by go_grown⟩
      · skip
        go_enter Tryz.func150, Tryz.ntmps150
        go_wp2_with fail
        refine (hVal.out _).mono ?_
        rw [HQ.out]
        rintro e w5 ⟨rfl, rfl⟩
        go_wp2_with fail
        go_ret
        exact ⟨by rw [HR.out]; simp [itemOkB, kindB, hge, HQ.out]; try first | omega | rfl, by go_grown⟩
  · skip
    cases ok
    · skip
      go_enter Tryz.func150, Tryz.ntmps150
      go_wp2_with fail
      go_ret
      exact ⟨by rw [HR.out]; simp [itemOkB, kindB, hge]; try first | omega | rfl, by go_grown⟩
    · skip
      go_enter Tryz.func150, Tryz.ntmps150
      go_wp2_with fail
      go_ret
      exact ⟨by rw [HR.out]; simp [itemOkB, kindB, hge]; try first | omega | rfl, by go_grown⟩
  · skip
    cases ok
    · skip
      go_enter Tryz.func150, Tryz.ntmps150
      go_wp2_with fail
      go_ret
      exact ⟨by rw [HR.out]; simp [itemOkB, kindB, hge]; try first | omega | rfl, by go_grown⟩
    · skip
      go_enter Tryz.func150, Tryz.ntmps150
      go_wp2_with fail
      go_ret
      exact ⟨by rw [HR.out]; simp [itemOkB, kindB, hge]; try first | omega | rfl, by go_grown⟩
  · skip
    cases ok
    · skip
      go_enter Tryz.func150, Tryz.ntmps150
      go_wp2_with fail
      go_ret
      exact ⟨by rw [HR.out]; simp [itemOkB, kindB, hge]; try first | omega | rfl, by go_grown⟩
    · skip
      go_enter Tryz.func150, Tryz.ntmps150
      go_wp2_with fail
      go_ret
      exact ⟨by rw [HR.out]; simp [itemOkB, kindB, hge]; try first | omega | rfl, by go_grown⟩
  · skip
    cases ok
    · skip
      go_enter Tryz.func150, Tryz.ntmps150
      go_wp2_with fail
      go_ret
      exact ⟨by rw [HR.out]; simp [itemOkB, kindB, hge]; try first | omega | rfl, by go_grown⟩
    · skip
      go_enter Tryz.func150, Tryz.ntmps150
      go_wp2_with fail
      go_ret
      exact ⟨by rw [HR.out]; simp [itemOkB, kindB, hge]; try first | omega | rfl, by go_grown⟩
  · skip
    cases ok
    · skip
      go_enter Tryz.func150, Tryz.ntmps150
      go_wp2_with fail
      go_ret
      exact ⟨by rw [HR.out]; simp [itemOkB, kindB, hge]; try first | omega | rfl, by go_grown⟩
    · skip
      go_enter Tryz.func150, Tryz.ntmps150
      go_wp2_with fail
      go_ret
      exact ⟨by rw [HR.out]; simp [itemOkB, kindB, hge]; try first | omega | rfl, by go_grown⟩
  · skip
    by_cases q4 : obj = 0
    · subst q4
      cases ok
      · skip
        go_enter Tryz.func150, Tryz.ntmps150
        go_wp2_with fail
        refine (hVal.out _).mono ?_
        rintro e w5 ⟨rfl, rfl⟩
        go_wp2_with fail
        go_ret
        exact ⟨by rw [HR.out]; simp [itemOkB, kindB, hge]; try first | omega | rfl, by go_grown⟩
      · skip
        go_enter Tryz.func150, Tryz.ntmps150
        go_wp2_with fail
        go_ret
        exact ⟨by rw [HR.out]; simp [itemOkB, kindB, hge]; try first | omega | rfl, by go_grown⟩
    · have b4 : (obj != 0) = true := by simpa using q4
      go_enter Tryz.func150, Tryz.ntmps150
      go_wp2_with fail
      go_ret
      exact ⟨by rw [HR.out]; simp [itemOkB, kindB, hge, q4]; try first | omega | rfl, by go_grown⟩
  · skip
    by_cases q4 : obj = 0
    · subst q4
      cases ok
      · skip
        go_enter Tryz.func150, Tryz.ntmps150
        go_wp2_with fail
        go_ret
        exact ⟨by rw [HR.out]; simp [itemOkB, kindB, hge]; try first | omega | rfl, by go_grown⟩
      · skip
        go_enter Tryz.func150, Tryz.ntmps150
        go_wp2_with fail
        go_ret
        exact ⟨by rw [HR.out]; simp [itemOkB, kindB, hge]; try first | omega | rfl, by go_grown⟩
    · have b4 : (obj != 0) = true := by simpa using q4
      go_enter Tryz.func150, Tryz.ntmps150
      go_wp2_with fail
      go_ret
      exact ⟨by rw [HR.out]; simp [itemOkB, kindB, hge, q4]; try first | omega | rfl, by go_grown⟩
  · skip
    by_cases q4 : obj = 0
    · subst q4
      cases ok
      · by_cases q6 : val ≥ 1
        · have b6 : decide (val ≥ 1) = true := decide_eq_true q6
          go_enter Tryz.func150, Tryz.ntmps150
          go_wp2_with fail
          go_ret
          exact ⟨by rw [HR.out]; simp [itemOkB, kindB, hge, q6]; try first | omega | rfl, by go_grown⟩
        · have b6 : decide (val ≥ 1) = false := decide_eq_false q6
          have q7 : val ≤ 0 := by omega
          clear q6
          go_enter Tryz.func150, Tryz.ntmps150
          go_wp2_with fail
          go_ret
          exact ⟨by rw [HR.out]; simp [itemOkB, kindB, hge]; try first | omega | rfl, by go_grown⟩
      · skip
        go_enter Tryz.func150, Tryz.ntmps150
        go_wp2_with fail
        go_ret
        exact ⟨by rw [HR.out]; simp [itemOkB, kindB, hge]; try first | omega | rfl, by go_grown⟩
    · have b4 : (obj != 0) = true := by simpa using q4
      go_enter Tryz.func150, Tryz.ntmps150
      go_wp2_with fail
      go_ret
      exact ⟨by rw [HR.out]; simp [itemOkB, kindB, hge, q4]; try first | omega | rfl, by go_grown⟩
end Go.Proofs.YtghkdkagnibkgaaGreatDoor
