
/- The model's ItemText, kind by kind; it comes to what the program writes. Laid by wip/gen8/itemtxs.py. -/

import Derived.Test.YtakogbpjijbpeaaDoorItemTxM

import Derived.Test.YtakogbpjijbpeaaDoorItemS

import Derived.Test.YtakogbpjijbpeaaDoorAsmS

import Derived.Deep.Cut

namespace Go.Proofs.YtakogbpjijbpeaaDoor
set_option linter.unusedSimpArgs false
set_option linter.unusedVariables false
open Go.RowKit

theorem numTextI_nil {z : Int} : numText z = [] ↔ isNumB z = false := by
  constructor
  · intro h
    cases hb : isNumB z
    · rfl
    · exact absurd h (numText_ne hb)
  · intro h
    rw [numText, if_neg]
    simpa [isNumB] using h
theorem valT_nil {z : Int} : valT z = [] ↔ z ≠ -1 ∧ isNumB z = false := by
  unfold valT
  split
  · rename_i h
    simp [h, elseIW]
  · rename_i h
    rw [numTextI_nil]
    simp [h]
theorem valT_numW (z : Int) : (numW true elseIW z).1 = valT z := by
  unfold numW valT
  by_cases h : z = -1
  · simp [h]
  · have : (z == -1) = false := by simpa using h
    simp [this, h]
/-- As the model writes it. -/
def modelT (s : List UInt8) (hb hv gz : Bool) (obj val : Int) : List UInt8 :=
  if isNumB obj && (decide (val = -1) || isNumB val) then s ++ ((if hb then 32 :: numText obj else []) ++ ((if hv then 32 :: valT val else []) ++ (if gz then 32 :: zeroIW else []))) else []
theorem modelT_is {s : List UInt8} {hb hv gz : Bool} {obj val : Int} (hs : s ≠ []) (ho : hb = false → isNumB obj = true) (hv' : hv = false → isNumB val = true) : modelT s hb hv gz obj val = lineT (partsT s hb hv gz obj val) [32] := by
  unfold modelT lineT partsT
  have h1 := @numTextI_nil obj
  have h2 := @valT_nil val
  cases hO : isNumB obj
  · cases hb
    · rw [ho rfl] at hO; cases hO
    · have : numText obj = [] := h1.2 hO
      simp [this]
  · have n1 : numText obj ≠ [] := fun h => by rw [h1.1 h] at hO; cases hO
    by_cases hm : val = -1
    · have n2 : valT val ≠ [] := fun h => (h2.1 h).1 hm
      cases hb <;> cases hv <;> cases gz <;> simp [hm, hs, Ne.symm hs, n1, Ne.symm n1, Lib.join, List.intercalate, List.intersperse, zeroIW] <;> simp [← hm, n2, Ne.symm n2]
    · cases hV : isNumB val
      · cases hv
        · rw [hv' rfl] at hV; cases hV
        · have : valT val = [] := h2.2 ⟨hm, hV⟩
          simp [hm, this]
      · have n2 : valT val ≠ [] := fun h => by rw [(h2.1 h).2] at hV; cases hV
        cases hb <;> cases hv <;> cases gz <;> simp [hm, hs, Ne.symm hs, n1, Ne.symm n1, n2, Ne.symm n2, Lib.join, List.intercalate, List.intersperse, zeroIW]

set_option maxRecDepth 100000 in
set_option maxHeartbeats 4000000 in
theorem specItem_1 {obj val : Int} {ok : Bool} {w : World} (hok : itemOkB ⟨1, obj, val, ok⟩ = true) :
    Calls Tryd.prog 9 #[.agg #[.int .i64 1, .int .i64 obj, .int .i64 val, .bool ok]] w fun e w' => e = .returned (Tx (modelT (itWords.getD 1 []) true true false obj val)) ∧ Below w.heap.size w w' := by
  have hnO := numTextI_len obj
  have hnW : (numW true elseIW val).1.length ≤ 10 := by rw [valT_numW]; exact valT_len val
  have HIO := Lib.hid (fun (W : World) => specItemOk_any (w := W) (x := ⟨1, obj, val, ok⟩))
  rw [hok] at HIO
  clear hok
  obtain ⟨R, hR⟩ : ∃ R, R = modelT (itWords.getD 1 []) true true false obj val := ⟨_, rfl⟩
  rw [← hR]
  have HR := Lib.hid hR
  clear hR
  have hb0 : Below w.heap.size w (w.alloc (.cells #[.int .i64 1, .int .i64 obj, .int .i64 val, .bool ok] 25)) := (Below.refl _ _).alloc (Nat.le_refl _) _
  have HB0 := Lib.hid hb0
  have HX0 := Lib.hid (box_new w #[.int .i64 1, .int .i64 obj, .int .i64 val, .bool ok] 25)
  clear hb0
  cases ho : isNumB obj
  · skip
    go_enter Tryd.func9, Tryd.ntmps9
    go_wp2_with fail
    refine (HIO.out _).mono ?_
    rintro e w1 ⟨rfl, hb1⟩
    have hz1 := hb1.size
    simp only [World.size_alloc] at hz1
    have hlt1 : w.heap.size < w1.heap.size := by omega
    have HX1 := Lib.hid (box_keep HX0.out hb1 (by simp))
    have HB1 := Lib.hid (HB0.out.trans (hb1.mono (by simp)))
    clear hb1 HX0 HB0
    have q0 := box_cell (j := 0) HX1.out rfl
    have q1 := box_cell (j := 1) HX1.out rfl
    have q2 := box_cell (j := 2) HX1.out rfl
    have q3 := box_cell (j := 3) HX1.out rfl
    go_wp2_with fail
    refine (l01Num_is obj _).mono ?_
    rintro e w2 ⟨rfl, rfl⟩
    rw [ho]
    go_wp2_with fail
    go_ret
    exact ⟨by rw [HR.out]; unfold modelT; simp [ho], HB1.out⟩
  · by_cases hm : val = -1
    · subst hm
      go_enter Tryd.func9, Tryd.ntmps9
      go_wp2_with fail
      refine (HIO.out _).mono ?_
      rintro e w1 ⟨rfl, hb1⟩
      have hz1 := hb1.size
      simp only [World.size_alloc] at hz1
      have hlt1 : w.heap.size < w1.heap.size := by omega
      have HX1 := Lib.hid (box_keep HX0.out hb1 (by simp))
      have HB1 := Lib.hid (HB0.out.trans (hb1.mono (by simp)))
      clear hb1 HX0 HB0
      have q0 := box_cell (j := 0) HX1.out rfl
      have q1 := box_cell (j := 1) HX1.out rfl
      have q2 := box_cell (j := 2) HX1.out rfl
      have q3 := box_cell (j := 3) HX1.out rfl
      go_wp2_with fail
      refine (l01Num_is obj _).mono ?_
      rintro e w2 ⟨rfl, rfl⟩
      rw [ho]
      go_wp2_with fail
      refine (specNumText_any obj _).mono ?_
      rintro e w3 ⟨rfl, hb3⟩
      have z3 := hb3.size
      try simp only [World.size_alloc] at z3
      have hbq : Below w1.heap.size w1 w3 := ((Below.refl _ _).alloc (Nat.le_refl _) _).trans (hb3.mono (by simp))
      have HX3 := Lib.hid (box_keep HX1.out hbq (by omega))
      have HB3 := Lib.hid (HB1.out.trans (hbq.mono (by omega)))
      clear hbq hb3 q0 q1 q2 q3 HX1 HB1
      have q0 := box_cell (j := 0) HX3.out rfl
      have q1 := box_cell (j := 1) HX3.out rfl
      have q2 := box_cell (j := 2) HX3.out rfl
      have q3 := box_cell (j := 3) HX3.out rfl
      go_wp2_with fail
      refine (l05Num_any (-1) true elseIW _).mono ?_
      rintro e w4 ⟨rfl, hb4⟩
      have z4 := hb4.size
      try simp only [World.size_alloc] at z4
      have hbq : Below w3.heap.size w3 w4 := hb4
      have HX4 := Lib.hid (box_keep HX3.out hbq (by omega))
      have HB4 := Lib.hid (HB3.out.trans (hbq.mono (by omega)))
      clear hbq hb4 q0 q1 q2 q3 HX3 HB3
      have q0 := box_cell (j := 0) HX4.out rfl
      have q1 := box_cell (j := 1) HX4.out rfl
      have q2 := box_cell (j := 2) HX4.out rfl
      have q3 := box_cell (j := 3) HX4.out rfl
      go_wp2_with fail
      go_ret
      refine ⟨?_, HB4.out⟩
      rw [HR.out]
      unfold modelT
      simp only [ho, Tx_app, valT_numW, itWords, zeroIW, List.getD_cons_succ, List.getD_cons_zero, Bool.true_and, Bool.or_true, Bool.true_or, decide_true, if_true, Bool.false_eq_true, if_false, List.append_nil, Bool.not_false, Bool.not_true]
      try simp [Tx_app, ByteArray.mk_append_mk]
    · have hmb : (val == -1) = false := by simpa using hm
      have hmd : decide (val = -1) = false := decide_eq_false hm
      cases hn : isNumB val
      · skip
        go_enter Tryd.func9, Tryd.ntmps9
        go_wp2_with fail
        refine (HIO.out _).mono ?_
        rintro e w1 ⟨rfl, hb1⟩
        have hz1 := hb1.size
        simp only [World.size_alloc] at hz1
        have hlt1 : w.heap.size < w1.heap.size := by omega
        have HX1 := Lib.hid (box_keep HX0.out hb1 (by simp))
        have HB1 := Lib.hid (HB0.out.trans (hb1.mono (by simp)))
        clear hb1 HX0 HB0
        have q0 := box_cell (j := 0) HX1.out rfl
        have q1 := box_cell (j := 1) HX1.out rfl
        have q2 := box_cell (j := 2) HX1.out rfl
        have q3 := box_cell (j := 3) HX1.out rfl
        go_wp2_with fail
        refine (l01Num_is obj _).mono ?_
        rintro e w2 ⟨rfl, rfl⟩
        rw [ho]
        go_wp2_with fail
        refine (l01Num_is val _).mono ?_
        rintro e w2 ⟨rfl, rfl⟩
        rw [hn]
        go_wp2_with fail
        go_ret
        exact ⟨by rw [HR.out]; unfold modelT; simp [ho, hn, hm], HB1.out⟩
      · skip
        go_enter Tryd.func9, Tryd.ntmps9
        go_wp2_with fail
        refine (HIO.out _).mono ?_
        rintro e w1 ⟨rfl, hb1⟩
        have hz1 := hb1.size
        simp only [World.size_alloc] at hz1
        have hlt1 : w.heap.size < w1.heap.size := by omega
        have HX1 := Lib.hid (box_keep HX0.out hb1 (by simp))
        have HB1 := Lib.hid (HB0.out.trans (hb1.mono (by simp)))
        clear hb1 HX0 HB0
        have q0 := box_cell (j := 0) HX1.out rfl
        have q1 := box_cell (j := 1) HX1.out rfl
        have q2 := box_cell (j := 2) HX1.out rfl
        have q3 := box_cell (j := 3) HX1.out rfl
        go_wp2_with fail
        refine (l01Num_is obj _).mono ?_
        rintro e w2 ⟨rfl, rfl⟩
        rw [ho]
        go_wp2_with fail
        refine (l01Num_is val _).mono ?_
        rintro e w2 ⟨rfl, rfl⟩
        rw [hn]
        go_wp2_with fail
        refine (specNumText_any obj _).mono ?_
        rintro e w3 ⟨rfl, hb3⟩
        have z3 := hb3.size
        try simp only [World.size_alloc] at z3
        have hbq : Below w1.heap.size w1 w3 := ((Below.refl _ _).alloc (Nat.le_refl _) _).trans (hb3.mono (by simp))
        have HX3 := Lib.hid (box_keep HX1.out hbq (by omega))
        have HB3 := Lib.hid (HB1.out.trans (hbq.mono (by omega)))
        clear hbq hb3 q0 q1 q2 q3 HX1 HB1
        have q0 := box_cell (j := 0) HX3.out rfl
        have q1 := box_cell (j := 1) HX3.out rfl
        have q2 := box_cell (j := 2) HX3.out rfl
        have q3 := box_cell (j := 3) HX3.out rfl
        go_wp2_with fail
        refine (l05Num_any val true elseIW _).mono ?_
        rintro e w4 ⟨rfl, hb4⟩
        have z4 := hb4.size
        try simp only [World.size_alloc] at z4
        have hbq : Below w3.heap.size w3 w4 := hb4
        have HX4 := Lib.hid (box_keep HX3.out hbq (by omega))
        have HB4 := Lib.hid (HB3.out.trans (hbq.mono (by omega)))
        clear hbq hb4 q0 q1 q2 q3 HX3 HB3
        have q0 := box_cell (j := 0) HX4.out rfl
        have q1 := box_cell (j := 1) HX4.out rfl
        have q2 := box_cell (j := 2) HX4.out rfl
        have q3 := box_cell (j := 3) HX4.out rfl
        go_wp2_with fail
        go_ret
        refine ⟨?_, HB4.out⟩
        rw [HR.out]
        unfold modelT
        simp only [ho, hn, hmd, Tx_app, valT_numW, itWords, zeroIW, List.getD_cons_succ, List.getD_cons_zero, Bool.true_and, Bool.or_true, Bool.true_or, decide_true, if_true, Bool.false_eq_true, if_false, List.append_nil, Bool.not_false, Bool.not_true]
        try simp [Tx_app, ByteArray.mk_append_mk]
set_option maxRecDepth 100000 in
set_option maxHeartbeats 4000000 in
theorem specItem_2 {obj val : Int} {ok : Bool} {w : World} (hok : itemOkB ⟨2, obj, val, ok⟩ = true) :
    Calls Tryd.prog 9 #[.agg #[.int .i64 2, .int .i64 obj, .int .i64 val, .bool ok]] w fun e w' => e = .returned (Tx (modelT (itWords.getD 2 []) true true (!ok) obj val)) ∧ Below w.heap.size w w' := by
  have hnO := numTextI_len obj
  have hnW : (numW true elseIW val).1.length ≤ 10 := by rw [valT_numW]; exact valT_len val
  have HIO := Lib.hid (fun (W : World) => specItemOk_any (w := W) (x := ⟨2, obj, val, ok⟩))
  rw [hok] at HIO
  clear hok
  obtain ⟨R, hR⟩ : ∃ R, R = modelT (itWords.getD 2 []) true true (!ok) obj val := ⟨_, rfl⟩
  rw [← hR]
  have HR := Lib.hid hR
  clear hR
  have hb0 : Below w.heap.size w (w.alloc (.cells #[.int .i64 2, .int .i64 obj, .int .i64 val, .bool ok] 25)) := (Below.refl _ _).alloc (Nat.le_refl _) _
  have HB0 := Lib.hid hb0
  have HX0 := Lib.hid (box_new w #[.int .i64 2, .int .i64 obj, .int .i64 val, .bool ok] 25)
  clear hb0
  cases ok
  · skip
    cases ho : isNumB obj
    · skip
      go_enter Tryd.func9, Tryd.ntmps9
      go_wp2_with fail
      refine (HIO.out _).mono ?_
      rintro e w1 ⟨rfl, hb1⟩
      have hz1 := hb1.size
      simp only [World.size_alloc] at hz1
      have hlt1 : w.heap.size < w1.heap.size := by omega
      have HX1 := Lib.hid (box_keep HX0.out hb1 (by simp))
      have HB1 := Lib.hid (HB0.out.trans (hb1.mono (by simp)))
      clear hb1 HX0 HB0
      have q0 := box_cell (j := 0) HX1.out rfl
      have q1 := box_cell (j := 1) HX1.out rfl
      have q2 := box_cell (j := 2) HX1.out rfl
      have q3 := box_cell (j := 3) HX1.out rfl
      go_wp2_with fail
      refine (l01Num_is obj _).mono ?_
      rintro e w2 ⟨rfl, rfl⟩
      rw [ho]
      go_wp2_with fail
      go_ret
      exact ⟨by rw [HR.out]; unfold modelT; simp [ho], HB1.out⟩
    · by_cases hm : val = -1
      · subst hm
        go_enter Tryd.func9, Tryd.ntmps9
        go_wp2_with fail
        refine (HIO.out _).mono ?_
        rintro e w1 ⟨rfl, hb1⟩
        have hz1 := hb1.size
        simp only [World.size_alloc] at hz1
        have hlt1 : w.heap.size < w1.heap.size := by omega
        have HX1 := Lib.hid (box_keep HX0.out hb1 (by simp))
        have HB1 := Lib.hid (HB0.out.trans (hb1.mono (by simp)))
        clear hb1 HX0 HB0
        have q0 := box_cell (j := 0) HX1.out rfl
        have q1 := box_cell (j := 1) HX1.out rfl
        have q2 := box_cell (j := 2) HX1.out rfl
        have q3 := box_cell (j := 3) HX1.out rfl
        go_wp2_with fail
        refine (l01Num_is obj _).mono ?_
        rintro e w2 ⟨rfl, rfl⟩
        rw [ho]
        go_wp2_with fail
        refine (specNumText_any obj _).mono ?_
        rintro e w3 ⟨rfl, hb3⟩
        have z3 := hb3.size
        try simp only [World.size_alloc] at z3
        have hbq : Below w1.heap.size w1 w3 := ((Below.refl _ _).alloc (Nat.le_refl _) _).trans (hb3.mono (by simp))
        have HX3 := Lib.hid (box_keep HX1.out hbq (by omega))
        have HB3 := Lib.hid (HB1.out.trans (hbq.mono (by omega)))
        clear hbq hb3 q0 q1 q2 q3 HX1 HB1
        have q0 := box_cell (j := 0) HX3.out rfl
        have q1 := box_cell (j := 1) HX3.out rfl
        have q2 := box_cell (j := 2) HX3.out rfl
        have q3 := box_cell (j := 3) HX3.out rfl
        go_wp2_with fail
        refine (l05Num_any (-1) true elseIW _).mono ?_
        rintro e w4 ⟨rfl, hb4⟩
        have z4 := hb4.size
        try simp only [World.size_alloc] at z4
        have hbq : Below w3.heap.size w3 w4 := hb4
        have HX4 := Lib.hid (box_keep HX3.out hbq (by omega))
        have HB4 := Lib.hid (HB3.out.trans (hbq.mono (by omega)))
        clear hbq hb4 q0 q1 q2 q3 HX3 HB3
        have q0 := box_cell (j := 0) HX4.out rfl
        have q1 := box_cell (j := 1) HX4.out rfl
        have q2 := box_cell (j := 2) HX4.out rfl
        have q3 := box_cell (j := 3) HX4.out rfl
        go_wp2_with fail
        go_ret
        refine ⟨?_, HB4.out⟩
        rw [HR.out]
        unfold modelT
        simp only [ho, Tx_app, valT_numW, itWords, zeroIW, List.getD_cons_succ, List.getD_cons_zero, Bool.true_and, Bool.or_true, Bool.true_or, decide_true, if_true, Bool.false_eq_true, if_false, List.append_nil, Bool.not_false, Bool.not_true]
        try simp [Tx_app, ByteArray.mk_append_mk]
      · have hmb : (val == -1) = false := by simpa using hm
        have hmd : decide (val = -1) = false := decide_eq_false hm
        cases hn : isNumB val
        · skip
          go_enter Tryd.func9, Tryd.ntmps9
          go_wp2_with fail
          refine (HIO.out _).mono ?_
          rintro e w1 ⟨rfl, hb1⟩
          have hz1 := hb1.size
          simp only [World.size_alloc] at hz1
          have hlt1 : w.heap.size < w1.heap.size := by omega
          have HX1 := Lib.hid (box_keep HX0.out hb1 (by simp))
          have HB1 := Lib.hid (HB0.out.trans (hb1.mono (by simp)))
          clear hb1 HX0 HB0
          have q0 := box_cell (j := 0) HX1.out rfl
          have q1 := box_cell (j := 1) HX1.out rfl
          have q2 := box_cell (j := 2) HX1.out rfl
          have q3 := box_cell (j := 3) HX1.out rfl
          go_wp2_with fail
          refine (l01Num_is obj _).mono ?_
          rintro e w2 ⟨rfl, rfl⟩
          rw [ho]
          go_wp2_with fail
          refine (l01Num_is val _).mono ?_
          rintro e w2 ⟨rfl, rfl⟩
          rw [hn]
          go_wp2_with fail
          go_ret
          exact ⟨by rw [HR.out]; unfold modelT; simp [ho, hn, hm], HB1.out⟩
        · skip
          go_enter Tryd.func9, Tryd.ntmps9
          go_wp2_with fail
          refine (HIO.out _).mono ?_
          rintro e w1 ⟨rfl, hb1⟩
          have hz1 := hb1.size
          simp only [World.size_alloc] at hz1
          have hlt1 : w.heap.size < w1.heap.size := by omega
          have HX1 := Lib.hid (box_keep HX0.out hb1 (by simp))
          have HB1 := Lib.hid (HB0.out.trans (hb1.mono (by simp)))
          clear hb1 HX0 HB0
          have q0 := box_cell (j := 0) HX1.out rfl
          have q1 := box_cell (j := 1) HX1.out rfl
          have q2 := box_cell (j := 2) HX1.out rfl
          have q3 := box_cell (j := 3) HX1.out rfl
          go_wp2_with fail
          refine (l01Num_is obj _).mono ?_
          rintro e w2 ⟨rfl, rfl⟩
          rw [ho]
          go_wp2_with fail
          refine (l01Num_is val _).mono ?_
          rintro e w2 ⟨rfl, rfl⟩
          rw [hn]
          go_wp2_with fail
          refine (specNumText_any obj _).mono ?_
          rintro e w3 ⟨rfl, hb3⟩
          have z3 := hb3.size
          try simp only [World.size_alloc] at z3
          have hbq : Below w1.heap.size w1 w3 := ((Below.refl _ _).alloc (Nat.le_refl _) _).trans (hb3.mono (by simp))
          have HX3 := Lib.hid (box_keep HX1.out hbq (by omega))
          have HB3 := Lib.hid (HB1.out.trans (hbq.mono (by omega)))
          clear hbq hb3 q0 q1 q2 q3 HX1 HB1
          have q0 := box_cell (j := 0) HX3.out rfl
          have q1 := box_cell (j := 1) HX3.out rfl
          have q2 := box_cell (j := 2) HX3.out rfl
          have q3 := box_cell (j := 3) HX3.out rfl
          go_wp2_with fail
          refine (l05Num_any val true elseIW _).mono ?_
          rintro e w4 ⟨rfl, hb4⟩
          have z4 := hb4.size
          try simp only [World.size_alloc] at z4
          have hbq : Below w3.heap.size w3 w4 := hb4
          have HX4 := Lib.hid (box_keep HX3.out hbq (by omega))
          have HB4 := Lib.hid (HB3.out.trans (hbq.mono (by omega)))
          clear hbq hb4 q0 q1 q2 q3 HX3 HB3
          have q0 := box_cell (j := 0) HX4.out rfl
          have q1 := box_cell (j := 1) HX4.out rfl
          have q2 := box_cell (j := 2) HX4.out rfl
          have q3 := box_cell (j := 3) HX4.out rfl
          go_wp2_with fail
          go_ret
          refine ⟨?_, HB4.out⟩
          rw [HR.out]
          unfold modelT
          simp only [ho, hn, hmd, Tx_app, valT_numW, itWords, zeroIW, List.getD_cons_succ, List.getD_cons_zero, Bool.true_and, Bool.or_true, Bool.true_or, decide_true, if_true, Bool.false_eq_true, if_false, List.append_nil, Bool.not_false, Bool.not_true]
          try simp [Tx_app, ByteArray.mk_append_mk]
  · skip
    cases ho : isNumB obj
    · skip
      go_enter Tryd.func9, Tryd.ntmps9
      go_wp2_with fail
      refine (HIO.out _).mono ?_
      rintro e w1 ⟨rfl, hb1⟩
      have hz1 := hb1.size
      simp only [World.size_alloc] at hz1
      have hlt1 : w.heap.size < w1.heap.size := by omega
      have HX1 := Lib.hid (box_keep HX0.out hb1 (by simp))
      have HB1 := Lib.hid (HB0.out.trans (hb1.mono (by simp)))
      clear hb1 HX0 HB0
      have q0 := box_cell (j := 0) HX1.out rfl
      have q1 := box_cell (j := 1) HX1.out rfl
      have q2 := box_cell (j := 2) HX1.out rfl
      have q3 := box_cell (j := 3) HX1.out rfl
      go_wp2_with fail
      refine (l01Num_is obj _).mono ?_
      rintro e w2 ⟨rfl, rfl⟩
      rw [ho]
      go_wp2_with fail
      go_ret
      exact ⟨by rw [HR.out]; unfold modelT; simp [ho], HB1.out⟩
    · by_cases hm : val = -1
      · subst hm
        go_enter Tryd.func9, Tryd.ntmps9
        go_wp2_with fail
        refine (HIO.out _).mono ?_
        rintro e w1 ⟨rfl, hb1⟩
        have hz1 := hb1.size
        simp only [World.size_alloc] at hz1
        have hlt1 : w.heap.size < w1.heap.size := by omega
        have HX1 := Lib.hid (box_keep HX0.out hb1 (by simp))
        have HB1 := Lib.hid (HB0.out.trans (hb1.mono (by simp)))
        clear hb1 HX0 HB0
        have q0 := box_cell (j := 0) HX1.out rfl
        have q1 := box_cell (j := 1) HX1.out rfl
        have q2 := box_cell (j := 2) HX1.out rfl
        have q3 := box_cell (j := 3) HX1.out rfl
        go_wp2_with fail
        refine (l01Num_is obj _).mono ?_
        rintro e w2 ⟨rfl, rfl⟩
        rw [ho]
        go_wp2_with fail
        refine (specNumText_any obj _).mono ?_
        rintro e w3 ⟨rfl, hb3⟩
        have z3 := hb3.size
        try simp only [World.size_alloc] at z3
        have hbq : Below w1.heap.size w1 w3 := ((Below.refl _ _).alloc (Nat.le_refl _) _).trans (hb3.mono (by simp))
        have HX3 := Lib.hid (box_keep HX1.out hbq (by omega))
        have HB3 := Lib.hid (HB1.out.trans (hbq.mono (by omega)))
        clear hbq hb3 q0 q1 q2 q3 HX1 HB1
        have q0 := box_cell (j := 0) HX3.out rfl
        have q1 := box_cell (j := 1) HX3.out rfl
        have q2 := box_cell (j := 2) HX3.out rfl
        have q3 := box_cell (j := 3) HX3.out rfl
        go_wp2_with fail
        refine (l05Num_any (-1) true elseIW _).mono ?_
        rintro e w4 ⟨rfl, hb4⟩
        have z4 := hb4.size
        try simp only [World.size_alloc] at z4
        have hbq : Below w3.heap.size w3 w4 := hb4
        have HX4 := Lib.hid (box_keep HX3.out hbq (by omega))
        have HB4 := Lib.hid (HB3.out.trans (hbq.mono (by omega)))
        clear hbq hb4 q0 q1 q2 q3 HX3 HB3
        have q0 := box_cell (j := 0) HX4.out rfl
        have q1 := box_cell (j := 1) HX4.out rfl
        have q2 := box_cell (j := 2) HX4.out rfl
        have q3 := box_cell (j := 3) HX4.out rfl
        go_wp2_with fail
        go_ret
        refine ⟨?_, HB4.out⟩
        rw [HR.out]
        unfold modelT
        simp only [ho, Tx_app, valT_numW, itWords, zeroIW, List.getD_cons_succ, List.getD_cons_zero, Bool.true_and, Bool.or_true, Bool.true_or, decide_true, if_true, Bool.false_eq_true, if_false, List.append_nil, Bool.not_false, Bool.not_true]
        try simp [Tx_app, ByteArray.mk_append_mk]
      · have hmb : (val == -1) = false := by simpa using hm
        have hmd : decide (val = -1) = false := decide_eq_false hm
        cases hn : isNumB val
        · skip
          go_enter Tryd.func9, Tryd.ntmps9
          go_wp2_with fail
          refine (HIO.out _).mono ?_
          rintro e w1 ⟨rfl, hb1⟩
          have hz1 := hb1.size
          simp only [World.size_alloc] at hz1
          have hlt1 : w.heap.size < w1.heap.size := by omega
          have HX1 := Lib.hid (box_keep HX0.out hb1 (by simp))
          have HB1 := Lib.hid (HB0.out.trans (hb1.mono (by simp)))
          clear hb1 HX0 HB0
          have q0 := box_cell (j := 0) HX1.out rfl
          have q1 := box_cell (j := 1) HX1.out rfl
          have q2 := box_cell (j := 2) HX1.out rfl
          have q3 := box_cell (j := 3) HX1.out rfl
          go_wp2_with fail
          refine (l01Num_is obj _).mono ?_
          rintro e w2 ⟨rfl, rfl⟩
          rw [ho]
          go_wp2_with fail
          refine (l01Num_is val _).mono ?_
          rintro e w2 ⟨rfl, rfl⟩
          rw [hn]
          go_wp2_with fail
          go_ret
          exact ⟨by rw [HR.out]; unfold modelT; simp [ho, hn, hm], HB1.out⟩
        · skip
          go_enter Tryd.func9, Tryd.ntmps9
          go_wp2_with fail
          refine (HIO.out _).mono ?_
          rintro e w1 ⟨rfl, hb1⟩
          have hz1 := hb1.size
          simp only [World.size_alloc] at hz1
          have hlt1 : w.heap.size < w1.heap.size := by omega
          have HX1 := Lib.hid (box_keep HX0.out hb1 (by simp))
          have HB1 := Lib.hid (HB0.out.trans (hb1.mono (by simp)))
          clear hb1 HX0 HB0
          have q0 := box_cell (j := 0) HX1.out rfl
          have q1 := box_cell (j := 1) HX1.out rfl
          have q2 := box_cell (j := 2) HX1.out rfl
          have q3 := box_cell (j := 3) HX1.out rfl
          go_wp2_with fail
          refine (l01Num_is obj _).mono ?_
          rintro e w2 ⟨rfl, rfl⟩
          rw [ho]
          go_wp2_with fail
          refine (l01Num_is val _).mono ?_
          rintro e w2 ⟨rfl, rfl⟩
          rw [hn]
          go_wp2_with fail
          refine (specNumText_any obj _).mono ?_
          rintro e w3 ⟨rfl, hb3⟩
          have z3 := hb3.size
          try simp only [World.size_alloc] at z3
          have hbq : Below w1.heap.size w1 w3 := ((Below.refl _ _).alloc (Nat.le_refl _) _).trans (hb3.mono (by simp))
          have HX3 := Lib.hid (box_keep HX1.out hbq (by omega))
          have HB3 := Lib.hid (HB1.out.trans (hbq.mono (by omega)))
          clear hbq hb3 q0 q1 q2 q3 HX1 HB1
          have q0 := box_cell (j := 0) HX3.out rfl
          have q1 := box_cell (j := 1) HX3.out rfl
          have q2 := box_cell (j := 2) HX3.out rfl
          have q3 := box_cell (j := 3) HX3.out rfl
          go_wp2_with fail
          refine (l05Num_any val true elseIW _).mono ?_
          rintro e w4 ⟨rfl, hb4⟩
          have z4 := hb4.size
          try simp only [World.size_alloc] at z4
          have hbq : Below w3.heap.size w3 w4 := hb4
          have HX4 := Lib.hid (box_keep HX3.out hbq (by omega))
          have HB4 := Lib.hid (HB3.out.trans (hbq.mono (by omega)))
          clear hbq hb4 q0 q1 q2 q3 HX3 HB3
          have q0 := box_cell (j := 0) HX4.out rfl
          have q1 := box_cell (j := 1) HX4.out rfl
          have q2 := box_cell (j := 2) HX4.out rfl
          have q3 := box_cell (j := 3) HX4.out rfl
          go_wp2_with fail
          go_ret
          refine ⟨?_, HB4.out⟩
          rw [HR.out]
          unfold modelT
          simp only [ho, hn, hmd, Tx_app, valT_numW, itWords, zeroIW, List.getD_cons_succ, List.getD_cons_zero, Bool.true_and, Bool.or_true, Bool.true_or, decide_true, if_true, Bool.false_eq_true, if_false, List.append_nil, Bool.not_false, Bool.not_true]
          try simp [Tx_app, ByteArray.mk_append_mk]
set_option maxRecDepth 100000 in
set_option maxHeartbeats 4000000 in
theorem specItem_3 {obj val : Int} {ok : Bool} {w : World} (hok : itemOkB ⟨3, obj, val, ok⟩ = true) :
    Calls Tryd.prog 9 #[.agg #[.int .i64 3, .int .i64 obj, .int .i64 val, .bool ok]] w fun e w' => e = .returned (Tx (modelT (itWords.getD 3 []) true false false obj val)) ∧ Below w.heap.size w w' := by
  have hnO := numTextI_len obj
  have hnW : (numW true elseIW val).1.length ≤ 10 := by rw [valT_numW]; exact valT_len val
  have HIO := Lib.hid (fun (W : World) => specItemOk_any (w := W) (x := ⟨3, obj, val, ok⟩))
  rw [hok] at HIO
  clear hok
  obtain ⟨R, hR⟩ : ∃ R, R = modelT (itWords.getD 3 []) true false false obj val := ⟨_, rfl⟩
  rw [← hR]
  have HR := Lib.hid hR
  clear hR
  have hb0 : Below w.heap.size w (w.alloc (.cells #[.int .i64 3, .int .i64 obj, .int .i64 val, .bool ok] 25)) := (Below.refl _ _).alloc (Nat.le_refl _) _
  have HB0 := Lib.hid hb0
  have HX0 := Lib.hid (box_new w #[.int .i64 3, .int .i64 obj, .int .i64 val, .bool ok] 25)
  clear hb0
  cases ho : isNumB obj
  · skip
    go_enter Tryd.func9, Tryd.ntmps9
    go_wp2_with fail
    refine (HIO.out _).mono ?_
    rintro e w1 ⟨rfl, hb1⟩
    have hz1 := hb1.size
    simp only [World.size_alloc] at hz1
    have hlt1 : w.heap.size < w1.heap.size := by omega
    have HX1 := Lib.hid (box_keep HX0.out hb1 (by simp))
    have HB1 := Lib.hid (HB0.out.trans (hb1.mono (by simp)))
    clear hb1 HX0 HB0
    have q0 := box_cell (j := 0) HX1.out rfl
    have q1 := box_cell (j := 1) HX1.out rfl
    have q2 := box_cell (j := 2) HX1.out rfl
    have q3 := box_cell (j := 3) HX1.out rfl
    go_wp2_with fail
    refine (l01Num_is obj _).mono ?_
    rintro e w2 ⟨rfl, rfl⟩
    rw [ho]
    go_wp2_with fail
    go_ret
    exact ⟨by rw [HR.out]; unfold modelT; simp [ho], HB1.out⟩
  · by_cases hm : val = -1
    · subst hm
      go_enter Tryd.func9, Tryd.ntmps9
      go_wp2_with fail
      refine (HIO.out _).mono ?_
      rintro e w1 ⟨rfl, hb1⟩
      have hz1 := hb1.size
      simp only [World.size_alloc] at hz1
      have hlt1 : w.heap.size < w1.heap.size := by omega
      have HX1 := Lib.hid (box_keep HX0.out hb1 (by simp))
      have HB1 := Lib.hid (HB0.out.trans (hb1.mono (by simp)))
      clear hb1 HX0 HB0
      have q0 := box_cell (j := 0) HX1.out rfl
      have q1 := box_cell (j := 1) HX1.out rfl
      have q2 := box_cell (j := 2) HX1.out rfl
      have q3 := box_cell (j := 3) HX1.out rfl
      go_wp2_with fail
      refine (l01Num_is obj _).mono ?_
      rintro e w2 ⟨rfl, rfl⟩
      rw [ho]
      go_wp2_with fail
      refine (specNumText_any obj _).mono ?_
      rintro e w3 ⟨rfl, hb3⟩
      have z3 := hb3.size
      try simp only [World.size_alloc] at z3
      have hbq : Below w1.heap.size w1 w3 := ((Below.refl _ _).alloc (Nat.le_refl _) _).trans (hb3.mono (by simp))
      have HX3 := Lib.hid (box_keep HX1.out hbq (by omega))
      have HB3 := Lib.hid (HB1.out.trans (hbq.mono (by omega)))
      clear hbq hb3 q0 q1 q2 q3 HX1 HB1
      have q0 := box_cell (j := 0) HX3.out rfl
      have q1 := box_cell (j := 1) HX3.out rfl
      have q2 := box_cell (j := 2) HX3.out rfl
      have q3 := box_cell (j := 3) HX3.out rfl
      go_wp2_with fail
      go_ret
      refine ⟨?_, HB3.out⟩
      rw [HR.out]
      unfold modelT
      simp only [ho, Tx_app, valT_numW, itWords, zeroIW, List.getD_cons_succ, List.getD_cons_zero, Bool.true_and, Bool.or_true, Bool.true_or, decide_true, if_true, Bool.false_eq_true, if_false, List.append_nil, Bool.not_false, Bool.not_true]
      try simp [Tx_app, ByteArray.mk_append_mk]
    · have hmb : (val == -1) = false := by simpa using hm
      have hmd : decide (val = -1) = false := decide_eq_false hm
      cases hn : isNumB val
      · skip
        go_enter Tryd.func9, Tryd.ntmps9
        go_wp2_with fail
        refine (HIO.out _).mono ?_
        rintro e w1 ⟨rfl, hb1⟩
        have hz1 := hb1.size
        simp only [World.size_alloc] at hz1
        have hlt1 : w.heap.size < w1.heap.size := by omega
        have HX1 := Lib.hid (box_keep HX0.out hb1 (by simp))
        have HB1 := Lib.hid (HB0.out.trans (hb1.mono (by simp)))
        clear hb1 HX0 HB0
        have q0 := box_cell (j := 0) HX1.out rfl
        have q1 := box_cell (j := 1) HX1.out rfl
        have q2 := box_cell (j := 2) HX1.out rfl
        have q3 := box_cell (j := 3) HX1.out rfl
        go_wp2_with fail
        refine (l01Num_is obj _).mono ?_
        rintro e w2 ⟨rfl, rfl⟩
        rw [ho]
        go_wp2_with fail
        refine (l01Num_is val _).mono ?_
        rintro e w2 ⟨rfl, rfl⟩
        rw [hn]
        go_wp2_with fail
        go_ret
        exact ⟨by rw [HR.out]; unfold modelT; simp [ho, hn, hm], HB1.out⟩
      · skip
        go_enter Tryd.func9, Tryd.ntmps9
        go_wp2_with fail
        refine (HIO.out _).mono ?_
        rintro e w1 ⟨rfl, hb1⟩
        have hz1 := hb1.size
        simp only [World.size_alloc] at hz1
        have hlt1 : w.heap.size < w1.heap.size := by omega
        have HX1 := Lib.hid (box_keep HX0.out hb1 (by simp))
        have HB1 := Lib.hid (HB0.out.trans (hb1.mono (by simp)))
        clear hb1 HX0 HB0
        have q0 := box_cell (j := 0) HX1.out rfl
        have q1 := box_cell (j := 1) HX1.out rfl
        have q2 := box_cell (j := 2) HX1.out rfl
        have q3 := box_cell (j := 3) HX1.out rfl
        go_wp2_with fail
        refine (l01Num_is obj _).mono ?_
        rintro e w2 ⟨rfl, rfl⟩
        rw [ho]
        go_wp2_with fail
        refine (l01Num_is val _).mono ?_
        rintro e w2 ⟨rfl, rfl⟩
        rw [hn]
        go_wp2_with fail
        refine (specNumText_any obj _).mono ?_
        rintro e w3 ⟨rfl, hb3⟩
        have z3 := hb3.size
        try simp only [World.size_alloc] at z3
        have hbq : Below w1.heap.size w1 w3 := ((Below.refl _ _).alloc (Nat.le_refl _) _).trans (hb3.mono (by simp))
        have HX3 := Lib.hid (box_keep HX1.out hbq (by omega))
        have HB3 := Lib.hid (HB1.out.trans (hbq.mono (by omega)))
        clear hbq hb3 q0 q1 q2 q3 HX1 HB1
        have q0 := box_cell (j := 0) HX3.out rfl
        have q1 := box_cell (j := 1) HX3.out rfl
        have q2 := box_cell (j := 2) HX3.out rfl
        have q3 := box_cell (j := 3) HX3.out rfl
        go_wp2_with fail
        go_ret
        refine ⟨?_, HB3.out⟩
        rw [HR.out]
        unfold modelT
        simp only [ho, hn, hmd, Tx_app, valT_numW, itWords, zeroIW, List.getD_cons_succ, List.getD_cons_zero, Bool.true_and, Bool.or_true, Bool.true_or, decide_true, if_true, Bool.false_eq_true, if_false, List.append_nil, Bool.not_false, Bool.not_true]
        try simp [Tx_app, ByteArray.mk_append_mk]
set_option maxRecDepth 100000 in
set_option maxHeartbeats 4000000 in
theorem specItem_4 {obj val : Int} {ok : Bool} {w : World} (hok : itemOkB ⟨4, obj, val, ok⟩ = true) :
    Calls Tryd.prog 9 #[.agg #[.int .i64 4, .int .i64 obj, .int .i64 val, .bool ok]] w fun e w' => e = .returned (Tx (modelT (itWords.getD 4 []) true true false obj val)) ∧ Below w.heap.size w w' := by
  have hnO := numTextI_len obj
  have hnW : (numW true elseIW val).1.length ≤ 10 := by rw [valT_numW]; exact valT_len val
  have HIO := Lib.hid (fun (W : World) => specItemOk_any (w := W) (x := ⟨4, obj, val, ok⟩))
  rw [hok] at HIO
  clear hok
  obtain ⟨R, hR⟩ : ∃ R, R = modelT (itWords.getD 4 []) true true false obj val := ⟨_, rfl⟩
  rw [← hR]
  have HR := Lib.hid hR
  clear hR
  have hb0 : Below w.heap.size w (w.alloc (.cells #[.int .i64 4, .int .i64 obj, .int .i64 val, .bool ok] 25)) := (Below.refl _ _).alloc (Nat.le_refl _) _
  have HB0 := Lib.hid hb0
  have HX0 := Lib.hid (box_new w #[.int .i64 4, .int .i64 obj, .int .i64 val, .bool ok] 25)
  clear hb0
  cases ho : isNumB obj
  · skip
    go_enter Tryd.func9, Tryd.ntmps9
    go_wp2_with fail
    refine (HIO.out _).mono ?_
    rintro e w1 ⟨rfl, hb1⟩
    have hz1 := hb1.size
    simp only [World.size_alloc] at hz1
    have hlt1 : w.heap.size < w1.heap.size := by omega
    have HX1 := Lib.hid (box_keep HX0.out hb1 (by simp))
    have HB1 := Lib.hid (HB0.out.trans (hb1.mono (by simp)))
    clear hb1 HX0 HB0
    have q0 := box_cell (j := 0) HX1.out rfl
    have q1 := box_cell (j := 1) HX1.out rfl
    have q2 := box_cell (j := 2) HX1.out rfl
    have q3 := box_cell (j := 3) HX1.out rfl
    go_wp2_with fail
    refine (l01Num_is obj _).mono ?_
    rintro e w2 ⟨rfl, rfl⟩
    rw [ho]
    go_wp2_with fail
    go_ret
    exact ⟨by rw [HR.out]; unfold modelT; simp [ho], HB1.out⟩
  · by_cases hm : val = -1
    · subst hm
      go_enter Tryd.func9, Tryd.ntmps9
      go_wp2_with fail
      refine (HIO.out _).mono ?_
      rintro e w1 ⟨rfl, hb1⟩
      have hz1 := hb1.size
      simp only [World.size_alloc] at hz1
      have hlt1 : w.heap.size < w1.heap.size := by omega
      have HX1 := Lib.hid (box_keep HX0.out hb1 (by simp))
      have HB1 := Lib.hid (HB0.out.trans (hb1.mono (by simp)))
      clear hb1 HX0 HB0
      have q0 := box_cell (j := 0) HX1.out rfl
      have q1 := box_cell (j := 1) HX1.out rfl
      have q2 := box_cell (j := 2) HX1.out rfl
      have q3 := box_cell (j := 3) HX1.out rfl
      go_wp2_with fail
      refine (l01Num_is obj _).mono ?_
      rintro e w2 ⟨rfl, rfl⟩
      rw [ho]
      go_wp2_with fail
      refine (specNumText_any obj _).mono ?_
      rintro e w3 ⟨rfl, hb3⟩
      have z3 := hb3.size
      try simp only [World.size_alloc] at z3
      have hbq : Below w1.heap.size w1 w3 := ((Below.refl _ _).alloc (Nat.le_refl _) _).trans (hb3.mono (by simp))
      have HX3 := Lib.hid (box_keep HX1.out hbq (by omega))
      have HB3 := Lib.hid (HB1.out.trans (hbq.mono (by omega)))
      clear hbq hb3 q0 q1 q2 q3 HX1 HB1
      have q0 := box_cell (j := 0) HX3.out rfl
      have q1 := box_cell (j := 1) HX3.out rfl
      have q2 := box_cell (j := 2) HX3.out rfl
      have q3 := box_cell (j := 3) HX3.out rfl
      go_wp2_with fail
      refine (l05Num_any (-1) true elseIW _).mono ?_
      rintro e w4 ⟨rfl, hb4⟩
      have z4 := hb4.size
      try simp only [World.size_alloc] at z4
      have hbq : Below w3.heap.size w3 w4 := hb4
      have HX4 := Lib.hid (box_keep HX3.out hbq (by omega))
      have HB4 := Lib.hid (HB3.out.trans (hbq.mono (by omega)))
      clear hbq hb4 q0 q1 q2 q3 HX3 HB3
      have q0 := box_cell (j := 0) HX4.out rfl
      have q1 := box_cell (j := 1) HX4.out rfl
      have q2 := box_cell (j := 2) HX4.out rfl
      have q3 := box_cell (j := 3) HX4.out rfl
      go_wp2_with fail
      go_ret
      refine ⟨?_, HB4.out⟩
      rw [HR.out]
      unfold modelT
      simp only [ho, Tx_app, valT_numW, itWords, zeroIW, List.getD_cons_succ, List.getD_cons_zero, Bool.true_and, Bool.or_true, Bool.true_or, decide_true, if_true, Bool.false_eq_true, if_false, List.append_nil, Bool.not_false, Bool.not_true]
      try simp [Tx_app, ByteArray.mk_append_mk]
    · have hmb : (val == -1) = false := by simpa using hm
      have hmd : decide (val = -1) = false := decide_eq_false hm
      cases hn : isNumB val
      · skip
        go_enter Tryd.func9, Tryd.ntmps9
        go_wp2_with fail
        refine (HIO.out _).mono ?_
        rintro e w1 ⟨rfl, hb1⟩
        have hz1 := hb1.size
        simp only [World.size_alloc] at hz1
        have hlt1 : w.heap.size < w1.heap.size := by omega
        have HX1 := Lib.hid (box_keep HX0.out hb1 (by simp))
        have HB1 := Lib.hid (HB0.out.trans (hb1.mono (by simp)))
        clear hb1 HX0 HB0
        have q0 := box_cell (j := 0) HX1.out rfl
        have q1 := box_cell (j := 1) HX1.out rfl
        have q2 := box_cell (j := 2) HX1.out rfl
        have q3 := box_cell (j := 3) HX1.out rfl
        go_wp2_with fail
        refine (l01Num_is obj _).mono ?_
        rintro e w2 ⟨rfl, rfl⟩
        rw [ho]
        go_wp2_with fail
        refine (l01Num_is val _).mono ?_
        rintro e w2 ⟨rfl, rfl⟩
        rw [hn]
        go_wp2_with fail
        go_ret
        exact ⟨by rw [HR.out]; unfold modelT; simp [ho, hn, hm], HB1.out⟩
      · skip
        go_enter Tryd.func9, Tryd.ntmps9
        go_wp2_with fail
        refine (HIO.out _).mono ?_
        rintro e w1 ⟨rfl, hb1⟩
        have hz1 := hb1.size
        simp only [World.size_alloc] at hz1
        have hlt1 : w.heap.size < w1.heap.size := by omega
        have HX1 := Lib.hid (box_keep HX0.out hb1 (by simp))
        have HB1 := Lib.hid (HB0.out.trans (hb1.mono (by simp)))
        clear hb1 HX0 HB0
        have q0 := box_cell (j := 0) HX1.out rfl
        have q1 := box_cell (j := 1) HX1.out rfl
        have q2 := box_cell (j := 2) HX1.out rfl
        have q3 := box_cell (j := 3) HX1.out rfl
        go_wp2_with fail
        refine (l01Num_is obj _).mono ?_
        rintro e w2 ⟨rfl, rfl⟩
        rw [ho]
        go_wp2_with fail
        refine (l01Num_is val _).mono ?_
        rintro e w2 ⟨rfl, rfl⟩
        rw [hn]
        go_wp2_with fail
        refine (specNumText_any obj _).mono ?_
        rintro e w3 ⟨rfl, hb3⟩
        have z3 := hb3.size
        try simp only [World.size_alloc] at z3
        have hbq : Below w1.heap.size w1 w3 := ((Below.refl _ _).alloc (Nat.le_refl _) _).trans (hb3.mono (by simp))
        have HX3 := Lib.hid (box_keep HX1.out hbq (by omega))
        have HB3 := Lib.hid (HB1.out.trans (hbq.mono (by omega)))
        clear hbq hb3 q0 q1 q2 q3 HX1 HB1
        have q0 := box_cell (j := 0) HX3.out rfl
        have q1 := box_cell (j := 1) HX3.out rfl
        have q2 := box_cell (j := 2) HX3.out rfl
        have q3 := box_cell (j := 3) HX3.out rfl
        go_wp2_with fail
        refine (l05Num_any val true elseIW _).mono ?_
        rintro e w4 ⟨rfl, hb4⟩
        have z4 := hb4.size
        try simp only [World.size_alloc] at z4
        have hbq : Below w3.heap.size w3 w4 := hb4
        have HX4 := Lib.hid (box_keep HX3.out hbq (by omega))
        have HB4 := Lib.hid (HB3.out.trans (hbq.mono (by omega)))
        clear hbq hb4 q0 q1 q2 q3 HX3 HB3
        have q0 := box_cell (j := 0) HX4.out rfl
        have q1 := box_cell (j := 1) HX4.out rfl
        have q2 := box_cell (j := 2) HX4.out rfl
        have q3 := box_cell (j := 3) HX4.out rfl
        go_wp2_with fail
        go_ret
        refine ⟨?_, HB4.out⟩
        rw [HR.out]
        unfold modelT
        simp only [ho, hn, hmd, Tx_app, valT_numW, itWords, zeroIW, List.getD_cons_succ, List.getD_cons_zero, Bool.true_and, Bool.or_true, Bool.true_or, decide_true, if_true, Bool.false_eq_true, if_false, List.append_nil, Bool.not_false, Bool.not_true]
        try simp [Tx_app, ByteArray.mk_append_mk]
set_option maxRecDepth 100000 in
set_option maxHeartbeats 4000000 in
theorem specItem_5 {obj val : Int} {ok : Bool} {w : World} (hok : itemOkB ⟨5, obj, val, ok⟩ = true) :
    Calls Tryd.prog 9 #[.agg #[.int .i64 5, .int .i64 obj, .int .i64 val, .bool ok]] w fun e w' => e = .returned (Tx (modelT (itWords.getD 5 []) true false false obj val)) ∧ Below w.heap.size w w' := by
  have hnO := numTextI_len obj
  have hnW : (numW true elseIW val).1.length ≤ 10 := by rw [valT_numW]; exact valT_len val
  have HIO := Lib.hid (fun (W : World) => specItemOk_any (w := W) (x := ⟨5, obj, val, ok⟩))
  rw [hok] at HIO
  clear hok
  obtain ⟨R, hR⟩ : ∃ R, R = modelT (itWords.getD 5 []) true false false obj val := ⟨_, rfl⟩
  rw [← hR]
  have HR := Lib.hid hR
  clear hR
  have hb0 : Below w.heap.size w (w.alloc (.cells #[.int .i64 5, .int .i64 obj, .int .i64 val, .bool ok] 25)) := (Below.refl _ _).alloc (Nat.le_refl _) _
  have HB0 := Lib.hid hb0
  have HX0 := Lib.hid (box_new w #[.int .i64 5, .int .i64 obj, .int .i64 val, .bool ok] 25)
  clear hb0
  cases ho : isNumB obj
  · skip
    go_enter Tryd.func9, Tryd.ntmps9
    go_wp2_with fail
    refine (HIO.out _).mono ?_
    rintro e w1 ⟨rfl, hb1⟩
    have hz1 := hb1.size
    simp only [World.size_alloc] at hz1
    have hlt1 : w.heap.size < w1.heap.size := by omega
    have HX1 := Lib.hid (box_keep HX0.out hb1 (by simp))
    have HB1 := Lib.hid (HB0.out.trans (hb1.mono (by simp)))
    clear hb1 HX0 HB0
    have q0 := box_cell (j := 0) HX1.out rfl
    have q1 := box_cell (j := 1) HX1.out rfl
    have q2 := box_cell (j := 2) HX1.out rfl
    have q3 := box_cell (j := 3) HX1.out rfl
    go_wp2_with fail
    refine (l01Num_is obj _).mono ?_
    rintro e w2 ⟨rfl, rfl⟩
    rw [ho]
    go_wp2_with fail
    go_ret
    exact ⟨by rw [HR.out]; unfold modelT; simp [ho], HB1.out⟩
  · by_cases hm : val = -1
    · subst hm
      go_enter Tryd.func9, Tryd.ntmps9
      go_wp2_with fail
      refine (HIO.out _).mono ?_
      rintro e w1 ⟨rfl, hb1⟩
      have hz1 := hb1.size
      simp only [World.size_alloc] at hz1
      have hlt1 : w.heap.size < w1.heap.size := by omega
      have HX1 := Lib.hid (box_keep HX0.out hb1 (by simp))
      have HB1 := Lib.hid (HB0.out.trans (hb1.mono (by simp)))
      clear hb1 HX0 HB0
      have q0 := box_cell (j := 0) HX1.out rfl
      have q1 := box_cell (j := 1) HX1.out rfl
      have q2 := box_cell (j := 2) HX1.out rfl
      have q3 := box_cell (j := 3) HX1.out rfl
      go_wp2_with fail
      refine (l01Num_is obj _).mono ?_
      rintro e w2 ⟨rfl, rfl⟩
      rw [ho]
      go_wp2_with fail
      refine (specNumText_any obj _).mono ?_
      rintro e w3 ⟨rfl, hb3⟩
      have z3 := hb3.size
      try simp only [World.size_alloc] at z3
      have hbq : Below w1.heap.size w1 w3 := ((Below.refl _ _).alloc (Nat.le_refl _) _).trans (hb3.mono (by simp))
      have HX3 := Lib.hid (box_keep HX1.out hbq (by omega))
      have HB3 := Lib.hid (HB1.out.trans (hbq.mono (by omega)))
      clear hbq hb3 q0 q1 q2 q3 HX1 HB1
      have q0 := box_cell (j := 0) HX3.out rfl
      have q1 := box_cell (j := 1) HX3.out rfl
      have q2 := box_cell (j := 2) HX3.out rfl
      have q3 := box_cell (j := 3) HX3.out rfl
      go_wp2_with fail
      go_ret
      refine ⟨?_, HB3.out⟩
      rw [HR.out]
      unfold modelT
      simp only [ho, Tx_app, valT_numW, itWords, zeroIW, List.getD_cons_succ, List.getD_cons_zero, Bool.true_and, Bool.or_true, Bool.true_or, decide_true, if_true, Bool.false_eq_true, if_false, List.append_nil, Bool.not_false, Bool.not_true]
      try simp [Tx_app, ByteArray.mk_append_mk]
    · have hmb : (val == -1) = false := by simpa using hm
      have hmd : decide (val = -1) = false := decide_eq_false hm
      cases hn : isNumB val
      · skip
        go_enter Tryd.func9, Tryd.ntmps9
        go_wp2_with fail
        refine (HIO.out _).mono ?_
        rintro e w1 ⟨rfl, hb1⟩
        have hz1 := hb1.size
        simp only [World.size_alloc] at hz1
        have hlt1 : w.heap.size < w1.heap.size := by omega
        have HX1 := Lib.hid (box_keep HX0.out hb1 (by simp))
        have HB1 := Lib.hid (HB0.out.trans (hb1.mono (by simp)))
        clear hb1 HX0 HB0
        have q0 := box_cell (j := 0) HX1.out rfl
        have q1 := box_cell (j := 1) HX1.out rfl
        have q2 := box_cell (j := 2) HX1.out rfl
        have q3 := box_cell (j := 3) HX1.out rfl
        go_wp2_with fail
        refine (l01Num_is obj _).mono ?_
        rintro e w2 ⟨rfl, rfl⟩
        rw [ho]
        go_wp2_with fail
        refine (l01Num_is val _).mono ?_
        rintro e w2 ⟨rfl, rfl⟩
        rw [hn]
        go_wp2_with fail
        go_ret
        exact ⟨by rw [HR.out]; unfold modelT; simp [ho, hn, hm], HB1.out⟩
      · skip
        go_enter Tryd.func9, Tryd.ntmps9
        go_wp2_with fail
        refine (HIO.out _).mono ?_
        rintro e w1 ⟨rfl, hb1⟩
        have hz1 := hb1.size
        simp only [World.size_alloc] at hz1
        have hlt1 : w.heap.size < w1.heap.size := by omega
        have HX1 := Lib.hid (box_keep HX0.out hb1 (by simp))
        have HB1 := Lib.hid (HB0.out.trans (hb1.mono (by simp)))
        clear hb1 HX0 HB0
        have q0 := box_cell (j := 0) HX1.out rfl
        have q1 := box_cell (j := 1) HX1.out rfl
        have q2 := box_cell (j := 2) HX1.out rfl
        have q3 := box_cell (j := 3) HX1.out rfl
        go_wp2_with fail
        refine (l01Num_is obj _).mono ?_
        rintro e w2 ⟨rfl, rfl⟩
        rw [ho]
        go_wp2_with fail
        refine (l01Num_is val _).mono ?_
        rintro e w2 ⟨rfl, rfl⟩
        rw [hn]
        go_wp2_with fail
        refine (specNumText_any obj _).mono ?_
        rintro e w3 ⟨rfl, hb3⟩
        have z3 := hb3.size
        try simp only [World.size_alloc] at z3
        have hbq : Below w1.heap.size w1 w3 := ((Below.refl _ _).alloc (Nat.le_refl _) _).trans (hb3.mono (by simp))
        have HX3 := Lib.hid (box_keep HX1.out hbq (by omega))
        have HB3 := Lib.hid (HB1.out.trans (hbq.mono (by omega)))
        clear hbq hb3 q0 q1 q2 q3 HX1 HB1
        have q0 := box_cell (j := 0) HX3.out rfl
        have q1 := box_cell (j := 1) HX3.out rfl
        have q2 := box_cell (j := 2) HX3.out rfl
        have q3 := box_cell (j := 3) HX3.out rfl
        go_wp2_with fail
        go_ret
        refine ⟨?_, HB3.out⟩
        rw [HR.out]
        unfold modelT
        simp only [ho, hn, hmd, Tx_app, valT_numW, itWords, zeroIW, List.getD_cons_succ, List.getD_cons_zero, Bool.true_and, Bool.or_true, Bool.true_or, decide_true, if_true, Bool.false_eq_true, if_false, List.append_nil, Bool.not_false, Bool.not_true]
        try simp [Tx_app, ByteArray.mk_append_mk]
end Go.Proofs.YtakogbpjijbpeaaDoor
