
/- The model's ItemText: kinds 6 to 10, and the whole. Laid by wip/gen8/itemtxs.py. -/

import Derived.Test.YtakogbpjijbpeaaDoorItemTxS

namespace Go.Proofs.YtakogbpjijbpeaaDoor
set_option linter.unusedSimpArgs false
set_option linter.unusedVariables false
open Go.RowKit

set_option maxRecDepth 100000 in
set_option maxHeartbeats 4000000 in
theorem specItem_6 {obj val : Int} {ok : Bool} {w : World} (hok : itemOkB ⟨6, obj, val, ok⟩ = true) :
    Calls Tryd.prog 9 #[.agg #[.int .i64 6, .int .i64 obj, .int .i64 val, .bool ok]] w fun e w' => e = .returned (Tx (modelT (itWords.getD 6 []) true false false obj val)) ∧ Below w.heap.size w w' := by
  have hnO := numTextI_len obj
  have hnW : (numW true elseIW val).1.length ≤ 10 := by rw [valT_numW]; exact valT_len val
  have HIO := Lib.hid (fun (W : World) => specItemOk_any (w := W) (x := ⟨6, obj, val, ok⟩))
  rw [hok] at HIO
  clear hok
  obtain ⟨R, hR⟩ : ∃ R, R = modelT (itWords.getD 6 []) true false false obj val := ⟨_, rfl⟩
  rw [← hR]
  have HR := Lib.hid hR
  clear hR
  have hb0 : Below w.heap.size w (w.alloc (.cells #[.int .i64 6, .int .i64 obj, .int .i64 val, .bool ok] 25)) := (Below.refl _ _).alloc (Nat.le_refl _) _
  have HB0 := Lib.hid hb0
  have HX0 := Lib.hid (box_new w #[.int .i64 6, .int .i64 obj, .int .i64 val, .bool ok] 25)
  clear hb0
  cases ho : isNumB obj
  · skip
    go_enter Tryd.func9, Tryd.ntmps9
    go_wp2_with fail
    refine (HIO.out _).mono ?_
    rintro e w1 ⟨rfl, hb1⟩
    have hz1 := hb1.size
    simp only [World.size_alloc] at hz1
    have hlt1 : w.heap.size < w1.heap.size := by omega
    have HX1 := Lib.hid (box_keep HX0.out hb1 (by simp))
    have HB1 := Lib.hid (HB0.out.trans (hb1.mono (by simp)))
    clear hb1 HX0 HB0
    have q0 := box_cell (j := 0) HX1.out rfl
    have q1 := box_cell (j := 1) HX1.out rfl
    have q2 := box_cell (j := 2) HX1.out rfl
    have q3 := box_cell (j := 3) HX1.out rfl
    go_wp2_with fail
    refine (l01Num_is obj _).mono ?_
    rintro e w2 ⟨rfl, rfl⟩
    rw [ho]
    go_wp2_with fail
    go_ret
    exact ⟨by rw [HR.out]; unfold modelT; simp [ho], HB1.out⟩
  · by_cases hm : val = -1
    · subst hm
      go_enter Tryd.func9, Tryd.ntmps9
      go_wp2_with fail
      refine (HIO.out _).mono ?_
      rintro e w1 ⟨rfl, hb1⟩
      have hz1 := hb1.size
      simp only [World.size_alloc] at hz1
      have hlt1 : w.heap.size < w1.heap.size := by omega
      have HX1 := Lib.hid (box_keep HX0.out hb1 (by simp))
      have HB1 := Lib.hid (HB0.out.trans (hb1.mono (by simp)))
      clear hb1 HX0 HB0
      have q0 := box_cell (j := 0) HX1.out rfl
      have q1 := box_cell (j := 1) HX1.out rfl
      have q2 := box_cell (j := 2) HX1.out rfl
      have q3 := box_cell (j := 3) HX1.out rfl
      go_wp2_with fail
      refine (l01Num_is obj _).mono ?_
      rintro e w2 ⟨rfl, rfl⟩
      rw [ho]
      go_wp2_with fail
      refine (specNumText_any obj _).mono ?_
      rintro e w3 ⟨rfl, hb3⟩
      have z3 := hb3.size
      try simp only [World.size_alloc] at z3
      have hbq : Below w1.heap.size w1 w3 := ((Below.refl _ _).alloc (Nat.le_refl _) _).trans (hb3.mono (by simp))
      have HX3 := Lib.hid (box_keep HX1.out hbq (by omega))
      have HB3 := Lib.hid (HB1.out.trans (hbq.mono (by omega)))
      clear hbq hb3 q0 q1 q2 q3 HX1 HB1
      have q0 := box_cell (j := 0) HX3.out rfl
      have q1 := box_cell (j := 1) HX3.out rfl
      have q2 := box_cell (j := 2) HX3.out rfl
      have q3 := box_cell (j := 3) HX3.out rfl
      go_wp2_with fail
      go_ret
      refine ⟨?_, HB3.out⟩
      rw [HR.out]
      unfold modelT
      simp only [ho, Tx_app, valT_numW, itWords, zeroIW, List.getD_cons_succ, List.getD_cons_zero, Bool.true_and, Bool.or_true, Bool.true_or, decide_true, if_true, Bool.false_eq_true, if_false, List.append_nil, Bool.not_false, Bool.not_true]
      try simp [Tx_app, ByteArray.mk_append_mk]
    · have hmb : (val == -1) = false := by simpa using hm
      have hmd : decide (val = -1) = false := decide_eq_false hm
      cases hn : isNumB val
      · skip
        go_enter Tryd.func9, Tryd.ntmps9
        go_wp2_with fail
        refine (HIO.out _).mono ?_
        rintro e w1 ⟨rfl, hb1⟩
        have hz1 := hb1.size
        simp only [World.size_alloc] at hz1
        have hlt1 : w.heap.size < w1.heap.size := by omega
        have HX1 := Lib.hid (box_keep HX0.out hb1 (by simp))
        have HB1 := Lib.hid (HB0.out.trans (hb1.mono (by simp)))
        clear hb1 HX0 HB0
        have q0 := box_cell (j := 0) HX1.out rfl
        have q1 := box_cell (j := 1) HX1.out rfl
        have q2 := box_cell (j := 2) HX1.out rfl
        have q3 := box_cell (j := 3) HX1.out rfl
        go_wp2_with fail
        refine (l01Num_is obj _).mono ?_
        rintro e w2 ⟨rfl, rfl⟩
        rw [ho]
        go_wp2_with fail
        refine (l01Num_is val _).mono ?_
        rintro e w2 ⟨rfl, rfl⟩
        rw [hn]
        go_wp2_with fail
        go_ret
        exact ⟨by rw [HR.out]; unfold modelT; simp [ho, hn, hm], HB1.out⟩
      · skip
        go_enter Tryd.func9, Tryd.ntmps9
        go_wp2_with fail
        refine (HIO.out _).mono ?_
        rintro e w1 ⟨rfl, hb1⟩
        have hz1 := hb1.size
        simp only [World.size_alloc] at hz1
        have hlt1 : w.heap.size < w1.heap.size := by omega
        have HX1 := Lib.hid (box_keep HX0.out hb1 (by simp))
        have HB1 := Lib.hid (HB0.out.trans (hb1.mono (by simp)))
        clear hb1 HX0 HB0
        have q0 := box_cell (j := 0) HX1.out rfl
        have q1 := box_cell (j := 1) HX1.out rfl
        have q2 := box_cell (j := 2) HX1.out rfl
        have q3 := box_cell (j := 3) HX1.out rfl
        go_wp2_with fail
        refine (l01Num_is obj _).mono ?_
        rintro e w2 ⟨rfl, rfl⟩
        rw [ho]
        go_wp2_with fail
        refine (l01Num_is val _).mono ?_
        rintro e w2 ⟨rfl, rfl⟩
        rw [hn]
        go_wp2_with fail
        refine (specNumText_any obj _).mono ?_
        rintro e w3 ⟨rfl, hb3⟩
        have z3 := hb3.size
        try simp only [World.size_alloc] at z3
        have hbq : Below w1.heap.size w1 w3 := ((Below.refl _ _).alloc (Nat.le_refl _) _).trans (hb3.mono (by simp))
        have HX3 := Lib.hid (box_keep HX1.out hbq (by omega))
        have HB3 := Lib.hid (HB1.out.trans (hbq.mono (by omega)))
        clear hbq hb3 q0 q1 q2 q3 HX1 HB1
        have q0 := box_cell (j := 0) HX3.out rfl
        have q1 := box_cell (j := 1) HX3.out rfl
        have q2 := box_cell (j := 2) HX3.out rfl
        have q3 := box_cell (j := 3) HX3.out rfl
        go_wp2_with fail
        go_ret
        refine ⟨?_, HB3.out⟩
        rw [HR.out]
        unfold modelT
        simp only [ho, hn, hmd, Tx_app, valT_numW, itWords, zeroIW, List.getD_cons_succ, List.getD_cons_zero, Bool.true_and, Bool.or_true, Bool.true_or, decide_true, if_true, Bool.false_eq_true, if_false, List.append_nil, Bool.not_false, Bool.not_true]
        try simp [Tx_app, ByteArray.mk_append_mk]
set_option maxRecDepth 100000 in
set_option maxHeartbeats 4000000 in
theorem specItem_7 {obj val : Int} {ok : Bool} {w : World} (hok : itemOkB ⟨7, obj, val, ok⟩ = true) :
    Calls Tryd.prog 9 #[.agg #[.int .i64 7, .int .i64 obj, .int .i64 val, .bool ok]] w fun e w' => e = .returned (Tx (modelT (itWords.getD 7 []) true true false obj val)) ∧ Below w.heap.size w w' := by
  have hnO := numTextI_len obj
  have hnW : (numW true elseIW val).1.length ≤ 10 := by rw [valT_numW]; exact valT_len val
  have HIO := Lib.hid (fun (W : World) => specItemOk_any (w := W) (x := ⟨7, obj, val, ok⟩))
  rw [hok] at HIO
  clear hok
  obtain ⟨R, hR⟩ : ∃ R, R = modelT (itWords.getD 7 []) true true false obj val := ⟨_, rfl⟩
  rw [← hR]
  have HR := Lib.hid hR
  clear hR
  have hb0 : Below w.heap.size w (w.alloc (.cells #[.int .i64 7, .int .i64 obj, .int .i64 val, .bool ok] 25)) := (Below.refl _ _).alloc (Nat.le_refl _) _
  have HB0 := Lib.hid hb0
  have HX0 := Lib.hid (box_new w #[.int .i64 7, .int .i64 obj, .int .i64 val, .bool ok] 25)
  clear hb0
  cases ho : isNumB obj
  · skip
    go_enter Tryd.func9, Tryd.ntmps9
    go_wp2_with fail
    refine (HIO.out _).mono ?_
    rintro e w1 ⟨rfl, hb1⟩
    have hz1 := hb1.size
    simp only [World.size_alloc] at hz1
    have hlt1 : w.heap.size < w1.heap.size := by omega
    have HX1 := Lib.hid (box_keep HX0.out hb1 (by simp))
    have HB1 := Lib.hid (HB0.out.trans (hb1.mono (by simp)))
    clear hb1 HX0 HB0
    have q0 := box_cell (j := 0) HX1.out rfl
    have q1 := box_cell (j := 1) HX1.out rfl
    have q2 := box_cell (j := 2) HX1.out rfl
    have q3 := box_cell (j := 3) HX1.out rfl
    go_wp2_with fail
    refine (l01Num_is obj _).mono ?_
    rintro e w2 ⟨rfl, rfl⟩
    rw [ho]
    go_wp2_with fail
    go_ret
    exact ⟨by rw [HR.out]; unfold modelT; simp [ho], HB1.out⟩
  · by_cases hm : val = -1
    · subst hm
      go_enter Tryd.func9, Tryd.ntmps9
      go_wp2_with fail
      refine (HIO.out _).mono ?_
      rintro e w1 ⟨rfl, hb1⟩
      have hz1 := hb1.size
      simp only [World.size_alloc] at hz1
      have hlt1 : w.heap.size < w1.heap.size := by omega
      have HX1 := Lib.hid (box_keep HX0.out hb1 (by simp))
      have HB1 := Lib.hid (HB0.out.trans (hb1.mono (by simp)))
      clear hb1 HX0 HB0
      have q0 := box_cell (j := 0) HX1.out rfl
      have q1 := box_cell (j := 1) HX1.out rfl
      have q2 := box_cell (j := 2) HX1.out rfl
      have q3 := box_cell (j := 3) HX1.out rfl
      go_wp2_with fail
      refine (l01Num_is obj _).mono ?_
      rintro e w2 ⟨rfl, rfl⟩
      rw [ho]
      go_wp2_with fail
      refine (specNumText_any obj _).mono ?_
      rintro e w3 ⟨rfl, hb3⟩
      have z3 := hb3.size
      try simp only [World.size_alloc] at z3
      have hbq : Below w1.heap.size w1 w3 := ((Below.refl _ _).alloc (Nat.le_refl _) _).trans (hb3.mono (by simp))
      have HX3 := Lib.hid (box_keep HX1.out hbq (by omega))
      have HB3 := Lib.hid (HB1.out.trans (hbq.mono (by omega)))
      clear hbq hb3 q0 q1 q2 q3 HX1 HB1
      have q0 := box_cell (j := 0) HX3.out rfl
      have q1 := box_cell (j := 1) HX3.out rfl
      have q2 := box_cell (j := 2) HX3.out rfl
      have q3 := box_cell (j := 3) HX3.out rfl
      go_wp2_with fail
      refine (l05Num_any (-1) true elseIW _).mono ?_
      rintro e w4 ⟨rfl, hb4⟩
      have z4 := hb4.size
      try simp only [World.size_alloc] at z4
      have hbq : Below w3.heap.size w3 w4 := hb4
      have HX4 := Lib.hid (box_keep HX3.out hbq (by omega))
      have HB4 := Lib.hid (HB3.out.trans (hbq.mono (by omega)))
      clear hbq hb4 q0 q1 q2 q3 HX3 HB3
      have q0 := box_cell (j := 0) HX4.out rfl
      have q1 := box_cell (j := 1) HX4.out rfl
      have q2 := box_cell (j := 2) HX4.out rfl
      have q3 := box_cell (j := 3) HX4.out rfl
      go_wp2_with fail
      go_ret
      refine ⟨?_, HB4.out⟩
      rw [HR.out]
      unfold modelT
      simp only [ho, Tx_app, valT_numW, itWords, zeroIW, List.getD_cons_succ, List.getD_cons_zero, Bool.true_and, Bool.or_true, Bool.true_or, decide_true, if_true, Bool.false_eq_true, if_false, List.append_nil, Bool.not_false, Bool.not_true]
      try simp [Tx_app, ByteArray.mk_append_mk]
    · have hmb : (val == -1) = false := by simpa using hm
      have hmd : decide (val = -1) = false := decide_eq_false hm
      cases hn : isNumB val
      · skip
        go_enter Tryd.func9, Tryd.ntmps9
        go_wp2_with fail
        refine (HIO.out _).mono ?_
        rintro e w1 ⟨rfl, hb1⟩
        have hz1 := hb1.size
        simp only [World.size_alloc] at hz1
        have hlt1 : w.heap.size < w1.heap.size := by omega
        have HX1 := Lib.hid (box_keep HX0.out hb1 (by simp))
        have HB1 := Lib.hid (HB0.out.trans (hb1.mono (by simp)))
        clear hb1 HX0 HB0
        have q0 := box_cell (j := 0) HX1.out rfl
        have q1 := box_cell (j := 1) HX1.out rfl
        have q2 := box_cell (j := 2) HX1.out rfl
        have q3 := box_cell (j := 3) HX1.out rfl
        go_wp2_with fail
        refine (l01Num_is obj _).mono ?_
        rintro e w2 ⟨rfl, rfl⟩
        rw [ho]
        go_wp2_with fail
        refine (l01Num_is val _).mono ?_
        rintro e w2 ⟨rfl, rfl⟩
        rw [hn]
        go_wp2_with fail
        go_ret
        exact ⟨by rw [HR.out]; unfold modelT; simp [ho, hn, hm], HB1.out⟩
      · skip
        go_enter Tryd.func9, Tryd.ntmps9
        go_wp2_with fail
        refine (HIO.out _).mono ?_
        rintro e w1 ⟨rfl, hb1⟩
        have hz1 := hb1.size
        simp only [World.size_alloc] at hz1
        have hlt1 : w.heap.size < w1.heap.size := by omega
        have HX1 := Lib.hid (box_keep HX0.out hb1 (by simp))
        have HB1 := Lib.hid (HB0.out.trans (hb1.mono (by simp)))
        clear hb1 HX0 HB0
        have q0 := box_cell (j := 0) HX1.out rfl
        have q1 := box_cell (j := 1) HX1.out rfl
        have q2 := box_cell (j := 2) HX1.out rfl
        have q3 := box_cell (j := 3) HX1.out rfl
        go_wp2_with fail
        refine (l01Num_is obj _).mono ?_
        rintro e w2 ⟨rfl, rfl⟩
        rw [ho]
        go_wp2_with fail
        refine (l01Num_is val _).mono ?_
        rintro e w2 ⟨rfl, rfl⟩
        rw [hn]
        go_wp2_with fail
        refine (specNumText_any obj _).mono ?_
        rintro e w3 ⟨rfl, hb3⟩
        have z3 := hb3.size
        try simp only [World.size_alloc] at z3
        have hbq : Below w1.heap.size w1 w3 := ((Below.refl _ _).alloc (Nat.le_refl _) _).trans (hb3.mono (by simp))
        have HX3 := Lib.hid (box_keep HX1.out hbq (by omega))
        have HB3 := Lib.hid (HB1.out.trans (hbq.mono (by omega)))
        clear hbq hb3 q0 q1 q2 q3 HX1 HB1
        have q0 := box_cell (j := 0) HX3.out rfl
        have q1 := box_cell (j := 1) HX3.out rfl
        have q2 := box_cell (j := 2) HX3.out rfl
        have q3 := box_cell (j := 3) HX3.out rfl
        go_wp2_with fail
        refine (l05Num_any val true elseIW _).mono ?_
        rintro e w4 ⟨rfl, hb4⟩
        have z4 := hb4.size
        try simp only [World.size_alloc] at z4
        have hbq : Below w3.heap.size w3 w4 := hb4
        have HX4 := Lib.hid (box_keep HX3.out hbq (by omega))
        have HB4 := Lib.hid (HB3.out.trans (hbq.mono (by omega)))
        clear hbq hb4 q0 q1 q2 q3 HX3 HB3
        have q0 := box_cell (j := 0) HX4.out rfl
        have q1 := box_cell (j := 1) HX4.out rfl
        have q2 := box_cell (j := 2) HX4.out rfl
        have q3 := box_cell (j := 3) HX4.out rfl
        go_wp2_with fail
        go_ret
        refine ⟨?_, HB4.out⟩
        rw [HR.out]
        unfold modelT
        simp only [ho, hn, hmd, Tx_app, valT_numW, itWords, zeroIW, List.getD_cons_succ, List.getD_cons_zero, Bool.true_and, Bool.or_true, Bool.true_or, decide_true, if_true, Bool.false_eq_true, if_false, List.append_nil, Bool.not_false, Bool.not_true]
        try simp [Tx_app, ByteArray.mk_append_mk]
set_option maxRecDepth 100000 in
set_option maxHeartbeats 4000000 in
theorem specItem_8 {obj val : Int} {ok : Bool} {w : World} (hok : itemOkB ⟨8, obj, val, ok⟩ = true) :
    Calls Tryd.prog 9 #[.agg #[.int .i64 8, .int .i64 obj, .int .i64 val, .bool ok]] w fun e w' => e = .returned (Tx (modelT (itWords.getD 8 []) false true false obj val)) ∧ Below w.heap.size w w' := by
  have hnO := numTextI_len obj
  have hnW : (numW true elseIW val).1.length ≤ 10 := by rw [valT_numW]; exact valT_len val
  have HIO := Lib.hid (fun (W : World) => specItemOk_any (w := W) (x := ⟨8, obj, val, ok⟩))
  rw [hok] at HIO
  clear hok
  obtain ⟨R, hR⟩ : ∃ R, R = modelT (itWords.getD 8 []) false true false obj val := ⟨_, rfl⟩
  rw [← hR]
  have HR := Lib.hid hR
  clear hR
  have hb0 : Below w.heap.size w (w.alloc (.cells #[.int .i64 8, .int .i64 obj, .int .i64 val, .bool ok] 25)) := (Below.refl _ _).alloc (Nat.le_refl _) _
  have HB0 := Lib.hid hb0
  have HX0 := Lib.hid (box_new w #[.int .i64 8, .int .i64 obj, .int .i64 val, .bool ok] 25)
  clear hb0
  cases ho : isNumB obj
  · skip
    go_enter Tryd.func9, Tryd.ntmps9
    go_wp2_with fail
    refine (HIO.out _).mono ?_
    rintro e w1 ⟨rfl, hb1⟩
    have hz1 := hb1.size
    simp only [World.size_alloc] at hz1
    have hlt1 : w.heap.size < w1.heap.size := by omega
    have HX1 := Lib.hid (box_keep HX0.out hb1 (by simp))
    have HB1 := Lib.hid (HB0.out.trans (hb1.mono (by simp)))
    clear hb1 HX0 HB0
    have q0 := box_cell (j := 0) HX1.out rfl
    have q1 := box_cell (j := 1) HX1.out rfl
    have q2 := box_cell (j := 2) HX1.out rfl
    have q3 := box_cell (j := 3) HX1.out rfl
    go_wp2_with fail
    refine (l01Num_is obj _).mono ?_
    rintro e w2 ⟨rfl, rfl⟩
    rw [ho]
    go_wp2_with fail
    go_ret
    exact ⟨by rw [HR.out]; unfold modelT; simp [ho], HB1.out⟩
  · by_cases hm : val = -1
    · subst hm
      go_enter Tryd.func9, Tryd.ntmps9
      go_wp2_with fail
      refine (HIO.out _).mono ?_
      rintro e w1 ⟨rfl, hb1⟩
      have hz1 := hb1.size
      simp only [World.size_alloc] at hz1
      have hlt1 : w.heap.size < w1.heap.size := by omega
      have HX1 := Lib.hid (box_keep HX0.out hb1 (by simp))
      have HB1 := Lib.hid (HB0.out.trans (hb1.mono (by simp)))
      clear hb1 HX0 HB0
      have q0 := box_cell (j := 0) HX1.out rfl
      have q1 := box_cell (j := 1) HX1.out rfl
      have q2 := box_cell (j := 2) HX1.out rfl
      have q3 := box_cell (j := 3) HX1.out rfl
      go_wp2_with fail
      refine (l01Num_is obj _).mono ?_
      rintro e w2 ⟨rfl, rfl⟩
      rw [ho]
      go_wp2_with fail
      refine (l05Num_any (-1) true elseIW _).mono ?_
      rintro e w4 ⟨rfl, hb4⟩
      have z4 := hb4.size
      try simp only [World.size_alloc] at z4
      have hbq : Below w1.heap.size w1 w4 := ((Below.refl _ _).alloc (Nat.le_refl _) _).trans (hb4.mono (by simp))
      have HX4 := Lib.hid (box_keep HX1.out hbq (by omega))
      have HB4 := Lib.hid (HB1.out.trans (hbq.mono (by omega)))
      clear hbq hb4 q0 q1 q2 q3 HX1 HB1
      have q0 := box_cell (j := 0) HX4.out rfl
      have q1 := box_cell (j := 1) HX4.out rfl
      have q2 := box_cell (j := 2) HX4.out rfl
      have q3 := box_cell (j := 3) HX4.out rfl
      go_wp2_with fail
      go_ret
      refine ⟨?_, HB4.out⟩
      rw [HR.out]
      unfold modelT
      simp only [ho, Tx_app, valT_numW, itWords, zeroIW, List.getD_cons_succ, List.getD_cons_zero, Bool.true_and, Bool.or_true, Bool.true_or, decide_true, if_true, Bool.false_eq_true, if_false, List.append_nil, Bool.not_false, Bool.not_true]
      try simp [Tx_app, ByteArray.mk_append_mk]
    · have hmb : (val == -1) = false := by simpa using hm
      have hmd : decide (val = -1) = false := decide_eq_false hm
      cases hn : isNumB val
      · skip
        go_enter Tryd.func9, Tryd.ntmps9
        go_wp2_with fail
        refine (HIO.out _).mono ?_
        rintro e w1 ⟨rfl, hb1⟩
        have hz1 := hb1.size
        simp only [World.size_alloc] at hz1
        have hlt1 : w.heap.size < w1.heap.size := by omega
        have HX1 := Lib.hid (box_keep HX0.out hb1 (by simp))
        have HB1 := Lib.hid (HB0.out.trans (hb1.mono (by simp)))
        clear hb1 HX0 HB0
        have q0 := box_cell (j := 0) HX1.out rfl
        have q1 := box_cell (j := 1) HX1.out rfl
        have q2 := box_cell (j := 2) HX1.out rfl
        have q3 := box_cell (j := 3) HX1.out rfl
        go_wp2_with fail
        refine (l01Num_is obj _).mono ?_
        rintro e w2 ⟨rfl, rfl⟩
        rw [ho]
        go_wp2_with fail
        refine (l01Num_is val _).mono ?_
        rintro e w2 ⟨rfl, rfl⟩
        rw [hn]
        go_wp2_with fail
        go_ret
        exact ⟨by rw [HR.out]; unfold modelT; simp [ho, hn, hm], HB1.out⟩
      · skip
        go_enter Tryd.func9, Tryd.ntmps9
        go_wp2_with fail
        refine (HIO.out _).mono ?_
        rintro e w1 ⟨rfl, hb1⟩
        have hz1 := hb1.size
        simp only [World.size_alloc] at hz1
        have hlt1 : w.heap.size < w1.heap.size := by omega
        have HX1 := Lib.hid (box_keep HX0.out hb1 (by simp))
        have HB1 := Lib.hid (HB0.out.trans (hb1.mono (by simp)))
        clear hb1 HX0 HB0
        have q0 := box_cell (j := 0) HX1.out rfl
        have q1 := box_cell (j := 1) HX1.out rfl
        have q2 := box_cell (j := 2) HX1.out rfl
        have q3 := box_cell (j := 3) HX1.out rfl
        go_wp2_with fail
        refine (l01Num_is obj _).mono ?_
        rintro e w2 ⟨rfl, rfl⟩
        rw [ho]
        go_wp2_with fail
        refine (l01Num_is val _).mono ?_
        rintro e w2 ⟨rfl, rfl⟩
        rw [hn]
        go_wp2_with fail
        refine (l05Num_any val true elseIW _).mono ?_
        rintro e w4 ⟨rfl, hb4⟩
        have z4 := hb4.size
        try simp only [World.size_alloc] at z4
        have hbq : Below w1.heap.size w1 w4 := ((Below.refl _ _).alloc (Nat.le_refl _) _).trans (hb4.mono (by simp))
        have HX4 := Lib.hid (box_keep HX1.out hbq (by omega))
        have HB4 := Lib.hid (HB1.out.trans (hbq.mono (by omega)))
        clear hbq hb4 q0 q1 q2 q3 HX1 HB1
        have q0 := box_cell (j := 0) HX4.out rfl
        have q1 := box_cell (j := 1) HX4.out rfl
        have q2 := box_cell (j := 2) HX4.out rfl
        have q3 := box_cell (j := 3) HX4.out rfl
        go_wp2_with fail
        go_ret
        refine ⟨?_, HB4.out⟩
        rw [HR.out]
        unfold modelT
        simp only [ho, hn, hmd, Tx_app, valT_numW, itWords, zeroIW, List.getD_cons_succ, List.getD_cons_zero, Bool.true_and, Bool.or_true, Bool.true_or, decide_true, if_true, Bool.false_eq_true, if_false, List.append_nil, Bool.not_false, Bool.not_true]
        try simp [Tx_app, ByteArray.mk_append_mk]
set_option maxRecDepth 100000 in
set_option maxHeartbeats 4000000 in
theorem specItem_9 {obj val : Int} {ok : Bool} {w : World} (hok : itemOkB ⟨9, obj, val, ok⟩ = true) :
    Calls Tryd.prog 9 #[.agg #[.int .i64 9, .int .i64 obj, .int .i64 val, .bool ok]] w fun e w' => e = .returned (Tx (modelT (itWords.getD 9 []) false false false obj val)) ∧ Below w.heap.size w w' := by
  have hnO := numTextI_len obj
  have hnW : (numW true elseIW val).1.length ≤ 10 := by rw [valT_numW]; exact valT_len val
  have HIO := Lib.hid (fun (W : World) => specItemOk_any (w := W) (x := ⟨9, obj, val, ok⟩))
  rw [hok] at HIO
  clear hok
  obtain ⟨R, hR⟩ : ∃ R, R = modelT (itWords.getD 9 []) false false false obj val := ⟨_, rfl⟩
  rw [← hR]
  have HR := Lib.hid hR
  clear hR
  have hb0 : Below w.heap.size w (w.alloc (.cells #[.int .i64 9, .int .i64 obj, .int .i64 val, .bool ok] 25)) := (Below.refl _ _).alloc (Nat.le_refl _) _
  have HB0 := Lib.hid hb0
  have HX0 := Lib.hid (box_new w #[.int .i64 9, .int .i64 obj, .int .i64 val, .bool ok] 25)
  clear hb0
  cases ho : isNumB obj
  · skip
    go_enter Tryd.func9, Tryd.ntmps9
    go_wp2_with fail
    refine (HIO.out _).mono ?_
    rintro e w1 ⟨rfl, hb1⟩
    have hz1 := hb1.size
    simp only [World.size_alloc] at hz1
    have hlt1 : w.heap.size < w1.heap.size := by omega
    have HX1 := Lib.hid (box_keep HX0.out hb1 (by simp))
    have HB1 := Lib.hid (HB0.out.trans (hb1.mono (by simp)))
    clear hb1 HX0 HB0
    have q0 := box_cell (j := 0) HX1.out rfl
    have q1 := box_cell (j := 1) HX1.out rfl
    have q2 := box_cell (j := 2) HX1.out rfl
    have q3 := box_cell (j := 3) HX1.out rfl
    go_wp2_with fail
    refine (l01Num_is obj _).mono ?_
    rintro e w2 ⟨rfl, rfl⟩
    rw [ho]
    go_wp2_with fail
    go_ret
    exact ⟨by rw [HR.out]; unfold modelT; simp [ho], HB1.out⟩
  · by_cases hm : val = -1
    · subst hm
      go_enter Tryd.func9, Tryd.ntmps9
      go_wp2_with fail
      refine (HIO.out _).mono ?_
      rintro e w1 ⟨rfl, hb1⟩
      have hz1 := hb1.size
      simp only [World.size_alloc] at hz1
      have hlt1 : w.heap.size < w1.heap.size := by omega
      have HX1 := Lib.hid (box_keep HX0.out hb1 (by simp))
      have HB1 := Lib.hid (HB0.out.trans (hb1.mono (by simp)))
      clear hb1 HX0 HB0
      have q0 := box_cell (j := 0) HX1.out rfl
      have q1 := box_cell (j := 1) HX1.out rfl
      have q2 := box_cell (j := 2) HX1.out rfl
      have q3 := box_cell (j := 3) HX1.out rfl
      go_wp2_with fail
      refine (l01Num_is obj _).mono ?_
      rintro e w2 ⟨rfl, rfl⟩
      rw [ho]
      go_wp2_with fail
      go_ret
      refine ⟨?_, (HB1.out.alloc (by omega) _)⟩
      rw [HR.out]
      unfold modelT
      simp only [ho, Tx_app, valT_numW, itWords, zeroIW, List.getD_cons_succ, List.getD_cons_zero, Bool.true_and, Bool.or_true, Bool.true_or, decide_true, if_true, Bool.false_eq_true, if_false, List.append_nil, Bool.not_false, Bool.not_true]
      try simp [Tx_app, ByteArray.mk_append_mk]
    · have hmb : (val == -1) = false := by simpa using hm
      have hmd : decide (val = -1) = false := decide_eq_false hm
      cases hn : isNumB val
      · skip
        go_enter Tryd.func9, Tryd.ntmps9
        go_wp2_with fail
        refine (HIO.out _).mono ?_
        rintro e w1 ⟨rfl, hb1⟩
        have hz1 := hb1.size
        simp only [World.size_alloc] at hz1
        have hlt1 : w.heap.size < w1.heap.size := by omega
        have HX1 := Lib.hid (box_keep HX0.out hb1 (by simp))
        have HB1 := Lib.hid (HB0.out.trans (hb1.mono (by simp)))
        clear hb1 HX0 HB0
        have q0 := box_cell (j := 0) HX1.out rfl
        have q1 := box_cell (j := 1) HX1.out rfl
        have q2 := box_cell (j := 2) HX1.out rfl
        have q3 := box_cell (j := 3) HX1.out rfl
        go_wp2_with fail
        refine (l01Num_is obj _).mono ?_
        rintro e w2 ⟨rfl, rfl⟩
        rw [ho]
        go_wp2_with fail
        refine (l01Num_is val _).mono ?_
        rintro e w2 ⟨rfl, rfl⟩
        rw [hn]
        go_wp2_with fail
        go_ret
        exact ⟨by rw [HR.out]; unfold modelT; simp [ho, hn, hm], HB1.out⟩
      · skip
        go_enter Tryd.func9, Tryd.ntmps9
        go_wp2_with fail
        refine (HIO.out _).mono ?_
        rintro e w1 ⟨rfl, hb1⟩
        have hz1 := hb1.size
        simp only [World.size_alloc] at hz1
        have hlt1 : w.heap.size < w1.heap.size := by omega
        have HX1 := Lib.hid (box_keep HX0.out hb1 (by simp))
        have HB1 := Lib.hid (HB0.out.trans (hb1.mono (by simp)))
        clear hb1 HX0 HB0
        have q0 := box_cell (j := 0) HX1.out rfl
        have q1 := box_cell (j := 1) HX1.out rfl
        have q2 := box_cell (j := 2) HX1.out rfl
        have q3 := box_cell (j := 3) HX1.out rfl
        go_wp2_with fail
        refine (l01Num_is obj _).mono ?_
        rintro e w2 ⟨rfl, rfl⟩
        rw [ho]
        go_wp2_with fail
        refine (l01Num_is val _).mono ?_
        rintro e w2 ⟨rfl, rfl⟩
        rw [hn]
        go_wp2_with fail
        go_ret
        refine ⟨?_, (HB1.out.alloc (by omega) _)⟩
        rw [HR.out]
        unfold modelT
        simp only [ho, hn, hmd, Tx_app, valT_numW, itWords, zeroIW, List.getD_cons_succ, List.getD_cons_zero, Bool.true_and, Bool.or_true, Bool.true_or, decide_true, if_true, Bool.false_eq_true, if_false, List.append_nil, Bool.not_false, Bool.not_true]
        try simp [Tx_app, ByteArray.mk_append_mk]
set_option maxRecDepth 100000 in
set_option maxHeartbeats 4000000 in
theorem specItem_10 {obj val : Int} {ok : Bool} {w : World} (hok : itemOkB ⟨10, obj, val, ok⟩ = true) :
    Calls Tryd.prog 9 #[.agg #[.int .i64 10, .int .i64 obj, .int .i64 val, .bool ok]] w fun e w' => e = .returned (Tx (modelT (itWords.getD 10 []) false true false obj val)) ∧ Below w.heap.size w w' := by
  have hnO := numTextI_len obj
  have hnW : (numW true elseIW val).1.length ≤ 10 := by rw [valT_numW]; exact valT_len val
  have HIO := Lib.hid (fun (W : World) => specItemOk_any (w := W) (x := ⟨10, obj, val, ok⟩))
  rw [hok] at HIO
  clear hok
  obtain ⟨R, hR⟩ : ∃ R, R = modelT (itWords.getD 10 []) false true false obj val := ⟨_, rfl⟩
  rw [← hR]
  have HR := Lib.hid hR
  clear hR
  have hb0 : Below w.heap.size w (w.alloc (.cells #[.int .i64 10, .int .i64 obj, .int .i64 val, .bool ok] 25)) := (Below.refl _ _).alloc (Nat.le_refl _) _
  have HB0 := Lib.hid hb0
  have HX0 := Lib.hid (box_new w #[.int .i64 10, .int .i64 obj, .int .i64 val, .bool ok] 25)
  clear hb0
  cases ho : isNumB obj
  · skip
    go_enter Tryd.func9, Tryd.ntmps9
    go_wp2_with fail
    refine (HIO.out _).mono ?_
    rintro e w1 ⟨rfl, hb1⟩
    have hz1 := hb1.size
    simp only [World.size_alloc] at hz1
    have hlt1 : w.heap.size < w1.heap.size := by omega
    have HX1 := Lib.hid (box_keep HX0.out hb1 (by simp))
    have HB1 := Lib.hid (HB0.out.trans (hb1.mono (by simp)))
    clear hb1 HX0 HB0
    have q0 := box_cell (j := 0) HX1.out rfl
    have q1 := box_cell (j := 1) HX1.out rfl
    have q2 := box_cell (j := 2) HX1.out rfl
    have q3 := box_cell (j := 3) HX1.out rfl
    go_wp2_with fail
    refine (l01Num_is obj _).mono ?_
    rintro e w2 ⟨rfl, rfl⟩
    rw [ho]
    go_wp2_with fail
    go_ret
    exact ⟨by rw [HR.out]; unfold modelT; simp [ho], HB1.out⟩
  · by_cases hm : val = -1
    · subst hm
      go_enter Tryd.func9, Tryd.ntmps9
      go_wp2_with fail
      refine (HIO.out _).mono ?_
      rintro e w1 ⟨rfl, hb1⟩
      have hz1 := hb1.size
      simp only [World.size_alloc] at hz1
      have hlt1 : w.heap.size < w1.heap.size := by omega
      have HX1 := Lib.hid (box_keep HX0.out hb1 (by simp))
      have HB1 := Lib.hid (HB0.out.trans (hb1.mono (by simp)))
      clear hb1 HX0 HB0
      have q0 := box_cell (j := 0) HX1.out rfl
      have q1 := box_cell (j := 1) HX1.out rfl
      have q2 := box_cell (j := 2) HX1.out rfl
      have q3 := box_cell (j := 3) HX1.out rfl
      go_wp2_with fail
      refine (l01Num_is obj _).mono ?_
      rintro e w2 ⟨rfl, rfl⟩
      rw [ho]
      go_wp2_with fail
      refine (l05Num_any (-1) true elseIW _).mono ?_
      rintro e w4 ⟨rfl, hb4⟩
      have z4 := hb4.size
      try simp only [World.size_alloc] at z4
      have hbq : Below w1.heap.size w1 w4 := ((Below.refl _ _).alloc (Nat.le_refl _) _).trans (hb4.mono (by simp))
      have HX4 := Lib.hid (box_keep HX1.out hbq (by omega))
      have HB4 := Lib.hid (HB1.out.trans (hbq.mono (by omega)))
      clear hbq hb4 q0 q1 q2 q3 HX1 HB1
      have q0 := box_cell (j := 0) HX4.out rfl
      have q1 := box_cell (j := 1) HX4.out rfl
      have q2 := box_cell (j := 2) HX4.out rfl
      have q3 := box_cell (j := 3) HX4.out rfl
      go_wp2_with fail
      go_ret
      refine ⟨?_, HB4.out⟩
      rw [HR.out]
      unfold modelT
      simp only [ho, Tx_app, valT_numW, itWords, zeroIW, List.getD_cons_succ, List.getD_cons_zero, Bool.true_and, Bool.or_true, Bool.true_or, decide_true, if_true, Bool.false_eq_true, if_false, List.append_nil, Bool.not_false, Bool.not_true]
      try simp [Tx_app, ByteArray.mk_append_mk]
    · have hmb : (val == -1) = false := by simpa using hm
      have hmd : decide (val = -1) = false := decide_eq_false hm
      cases hn : isNumB val
      · skip
        go_enter Tryd.func9, Tryd.ntmps9
        go_wp2_with fail
        refine (HIO.out _).mono ?_
        rintro e w1 ⟨rfl, hb1⟩
        have hz1 := hb1.size
        simp only [World.size_alloc] at hz1
        have hlt1 : w.heap.size < w1.heap.size := by omega
        have HX1 := Lib.hid (box_keep HX0.out hb1 (by simp))
        have HB1 := Lib.hid (HB0.out.trans (hb1.mono (by simp)))
        clear hb1 HX0 HB0
        have q0 := box_cell (j := 0) HX1.out rfl
        have q1 := box_cell (j := 1) HX1.out rfl
        have q2 := box_cell (j := 2) HX1.out rfl
        have q3 := box_cell (j := 3) HX1.out rfl
        go_wp2_with fail
        refine (l01Num_is obj _).mono ?_
        rintro e w2 ⟨rfl, rfl⟩
        rw [ho]
        go_wp2_with fail
        refine (l01Num_is val _).mono ?_
        rintro e w2 ⟨rfl, rfl⟩
        rw [hn]
        go_wp2_with fail
        go_ret
        exact ⟨by rw [HR.out]; unfold modelT; simp [ho, hn, hm], HB1.out⟩
      · skip
        go_enter Tryd.func9, Tryd.ntmps9
        go_wp2_with fail
        refine (HIO.out _).mono ?_
        rintro e w1 ⟨rfl, hb1⟩
        have hz1 := hb1.size
        simp only [World.size_alloc] at hz1
        have hlt1 : w.heap.size < w1.heap.size := by omega
        have HX1 := Lib.hid (box_keep HX0.out hb1 (by simp))
        have HB1 := Lib.hid (HB0.out.trans (hb1.mono (by simp)))
        clear hb1 HX0 HB0
        have q0 := box_cell (j := 0) HX1.out rfl
        have q1 := box_cell (j := 1) HX1.out rfl
        have q2 := box_cell (j := 2) HX1.out rfl
        have q3 := box_cell (j := 3) HX1.out rfl
        go_wp2_with fail
        refine (l01Num_is obj _).mono ?_
        rintro e w2 ⟨rfl, rfl⟩
        rw [ho]
        go_wp2_with fail
        refine (l01Num_is val _).mono ?_
        rintro e w2 ⟨rfl, rfl⟩
        rw [hn]
        go_wp2_with fail
        refine (l05Num_any val true elseIW _).mono ?_
        rintro e w4 ⟨rfl, hb4⟩
        have z4 := hb4.size
        try simp only [World.size_alloc] at z4
        have hbq : Below w1.heap.size w1 w4 := ((Below.refl _ _).alloc (Nat.le_refl _) _).trans (hb4.mono (by simp))
        have HX4 := Lib.hid (box_keep HX1.out hbq (by omega))
        have HB4 := Lib.hid (HB1.out.trans (hbq.mono (by omega)))
        clear hbq hb4 q0 q1 q2 q3 HX1 HB1
        have q0 := box_cell (j := 0) HX4.out rfl
        have q1 := box_cell (j := 1) HX4.out rfl
        have q2 := box_cell (j := 2) HX4.out rfl
        have q3 := box_cell (j := 3) HX4.out rfl
        go_wp2_with fail
        go_ret
        refine ⟨?_, HB4.out⟩
        rw [HR.out]
        unfold modelT
        simp only [ho, hn, hmd, Tx_app, valT_numW, itWords, zeroIW, List.getD_cons_succ, List.getD_cons_zero, Bool.true_and, Bool.or_true, Bool.true_or, decide_true, if_true, Bool.false_eq_true, if_false, List.append_nil, Bool.not_false, Bool.not_true]
        try simp [Tx_app, ByteArray.mk_append_mk]
theorem obj_zero {z obj val : Int} {ok : Bool} (h8 : 8 ≤ z) (hok : itemOkB ⟨z, obj, val, ok⟩ = true) : obj = 0 := by
  unfold itemOkB at hok
  simp at hok
  omega
theorem val_zero {z obj val : Int} {ok : Bool} (hz : z = 3 ∨ z = 5 ∨ z = 6 ∨ z = 9) (hok : itemOkB ⟨z, obj, val, ok⟩ = true) : val = 0 := by
  rcases hz with rfl | rfl | rfl | rfl <;> (unfold itemOkB kindB at hok; simp at hok; omega)
set_option maxHeartbeats 1000000 in
theorem specItemText_any {w : World} {x : DItem} :
    Calls Tryd.prog 9 #[.agg #[.int .i64 x.fKind, .int .i64 x.fObj, .int .i64 x.fVal, .bool x.fOk]] w fun e w' => e = .returned (Tx (itemT x)) ∧ Below w.heap.size w w' := by
  cases hok : itemOkB x
  · have e1 := Lib.hid (show itemT x = [] by unfold itemT; rw [hok]; rfl)
    have HIO := Lib.hid (fun (W : World) => specItemOk_any (w := W) (x := x))
    rw [hok] at HIO
    clear hok
    have hb0 : Below w.heap.size w (w.alloc (.cells #[.int .i64 x.fKind, .int .i64 x.fObj, .int .i64 x.fVal, .bool x.fOk] 25)) := (Below.refl _ _).alloc (Nat.le_refl _) _
    have HB0 := Lib.hid hb0
    clear hb0
    go_enter Tryd.func9, Tryd.ntmps9
    go_wp2_with fail
    refine (HIO.out _).mono ?_
    rintro e w1 ⟨rfl, hb1⟩
    have HB1 := Lib.hid (HB0.out.trans (hb1.mono (by simp)))
    clear hb1
    go_wp2_with fail
    go_ret
    exact ⟨by rw [e1.out]; rfl, HB1.out⟩
  · obtain ⟨k, obj, val, ok⟩ := x
    have hk : 1 ≤ k ∧ k ≤ 10 := by
      apply Classical.byContradiction
      intro h
      have : itemOkB ⟨k, obj, val, ok⟩ = false := by unfold itemOkB; rw [show decide (1 ≤ k ∧ k ≤ 10 ∧ 0 ≤ obj) = false from decide_eq_false (fun h' => h ⟨h'.1, h'.2.1⟩)]; rfl
      rw [this] at hok
      cases hok
    have hks : k = 1 ∨ k = 2 ∨ k = 3 ∨ k = 4 ∨ k = 5 ∨ k = 6 ∨ k = 7 ∨ k = 8 ∨ k = 9 ∨ k = 10 := by omega
    clear hk
    rcases hks with rfl | rfl | rfl | rfl | rfl | rfl | rfl | rfl | rfl | rfl
    · refine (specItem_1 (w := w) hok).mono fun e w' h9 => ⟨h9.1.trans ?_, h9.2⟩
      rw [modelT_is (by decide) (fun h => by cases h) (fun h => by cases h)]
      unfold itemT
      rw [hok]
      rfl
    · refine (specItem_2 (w := w) hok).mono fun e w' h9 => ⟨h9.1.trans ?_, h9.2⟩
      rw [modelT_is (by decide) (fun h => by cases h) (fun h => by cases h)]
      unfold itemT
      rw [hok]
      rfl
    · refine (specItem_3 (w := w) hok).mono fun e w' h9 => ⟨h9.1.trans ?_, h9.2⟩
      rw [modelT_is (by decide) (fun h => by cases h) (fun _ => by rw [val_zero (by decide) hok]; rfl)]
      unfold itemT
      rw [hok]
      rfl
    · refine (specItem_4 (w := w) hok).mono fun e w' h9 => ⟨h9.1.trans ?_, h9.2⟩
      rw [modelT_is (by decide) (fun h => by cases h) (fun h => by cases h)]
      unfold itemT
      rw [hok]
      rfl
    · refine (specItem_5 (w := w) hok).mono fun e w' h9 => ⟨h9.1.trans ?_, h9.2⟩
      rw [modelT_is (by decide) (fun h => by cases h) (fun _ => by rw [val_zero (by decide) hok]; rfl)]
      unfold itemT
      rw [hok]
      rfl
    · refine (specItem_6 (w := w) hok).mono fun e w' h9 => ⟨h9.1.trans ?_, h9.2⟩
      rw [modelT_is (by decide) (fun h => by cases h) (fun _ => by rw [val_zero (by decide) hok]; rfl)]
      unfold itemT
      rw [hok]
      rfl
    · refine (specItem_7 (w := w) hok).mono fun e w' h9 => ⟨h9.1.trans ?_, h9.2⟩
      rw [modelT_is (by decide) (fun h => by cases h) (fun h => by cases h)]
      unfold itemT
      rw [hok]
      rfl
    · refine (specItem_8 (w := w) hok).mono fun e w' h9 => ⟨h9.1.trans ?_, h9.2⟩
      rw [modelT_is (by decide) (fun _ => by rw [obj_zero (by decide) hok]; rfl) (fun h => by cases h)]
      unfold itemT
      rw [hok]
      rfl
    · refine (specItem_9 (w := w) hok).mono fun e w' h9 => ⟨h9.1.trans ?_, h9.2⟩
      rw [modelT_is (by decide) (fun _ => by rw [obj_zero (by decide) hok]; rfl) (fun _ => by rw [val_zero (by decide) hok]; rfl)]
      unfold itemT
      rw [hok]
      rfl
    · refine (specItem_10 (w := w) hok).mono fun e w' h9 => ⟨h9.1.trans ?_, h9.2⟩
      rw [modelT_is (by decide) (fun _ => by rw [obj_zero (by decide) hok]; rfl) (fun h => by cases h)]
      unfold itemT
      rw [hok]
      rfl
end Go.Proofs.YtakogbpjijbpeaaDoor
