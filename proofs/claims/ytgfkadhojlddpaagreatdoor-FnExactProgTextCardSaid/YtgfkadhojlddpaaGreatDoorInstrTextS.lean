
/- The contract of the model's InstrText. -/

import Derived.Test.YtgfkadhojlddpaaGreatDoorAsmS

namespace Go.Proofs.YtgfkadhojlddpaaGreatDoor
set_option linter.unusedSimpArgs false
set_option linter.unusedVariables false
open Go.RowKit

theorem numText_len (z : Int) : (numText z).length ≤ 10 := by
  unfold numText
  split
  · exact decDigits_short _ (by omega)
  · simp
theorem numW_len (nil1 : Bool) (z : Int) : (numW nil1 nilW z).1.length ≤ 10 := by
  unfold numW
  split
  · simp [nilW]
  · exact numText_len z
theorem fieldsText_len {op : Int} : ∀ (l : List Int) (n : Nat) (t : List UInt8), fieldsText op n l = some t → t.length ≤ 11 * l.length
  | [], _, t, h => by
    simp only [fieldsText, Option.some.injEq] at h
    subst h
    simp
  | v :: l, n, t, h => by
    unfold fieldsText at h
    split at h
    · obtain ⟨t', ht', rfl⟩ := Option.map_eq_some_iff.1 h
      have h1 := fieldsText_len l (n + 1) t' ht'
      have h2 := numW_len (n == 0 && isChanOp op) v
      simp only [List.length_cons, List.length_append]
      omega
    · cases h
theorem opWord_len (op : Int) : (opWord op).length ≤ 6 := by
  by_cases h : 1 ≤ op ∧ op ≤ 15
  · rcases op_cases h with rfl | rfl | rfl | rfl | rfl | rfl | rfl | rfl | rfl | rfl | rfl | rfl | rfl | rfl | rfl <;> decide
  · rw [opWord, if_neg h]; simp
theorem instrText_len (op a b c : Int) : (instrText op a b c).length ≤ 39 := by
  unfold instrText
  split
  · simp
  · split
    · rename_i t ht
      have h1 := fieldsText_len _ _ _ ht
      have h2 := opWord_len op
      have h3 : ([a, b, c].take (opField op).toNat).length ≤ 3 := by rw [List.length_take]; simp; omega
      rw [List.length_append]
      omega
    · simp
theorem instrText_bad {op a b c x : Int} {m j : Nat} (hm : opField op = (m : Int)) (hj : j < m) (hx : [a, b, c][j]? = some x) (h : (numW (j == 0 && isChanOp op) nilW x).2 = false) : instrText op a b c = [] := by
  unfold instrText
  split
  · rfl
  · split
    · rename_i t ht
      have := fields_ok _ 0 t ht j x (by rw [hm, Int.toNat_natCast, List.getElem?_take, if_pos hj]; exact hx)
      rw [Nat.zero_add, h] at this
      cases this
    · rfl

set_option maxRecDepth 100000 in
set_option maxHeartbeats 4000000 in
theorem specInstrText_any (op a b c : Int) (w : World) :
    Calls Tryz.prog 78 #[.agg #[.int .i64 op, .int .i64 a, .int .i64 b, .int .i64 c]] w fun e w' => e = .returned (Tx (instrText op a b c)) ∧ Below w.heap.size w w' := by
  have hbw0 : Below w.heap.size w (w.alloc (.cells #[.int .i64 op, .int .i64 a, .int .i64 b, .int .i64 c] 85)) := (Below.refl _ _).alloc (Nat.le_refl _) _
  have hl : w.heap.size < w.heap.size + 1 := by omega
  by_cases hop : 1 ≤ op ∧ op ≤ 15
  · obtain ⟨_, _, _, _, hk0, hk3⟩ := opWord_words hop
    obtain ⟨m, hm⟩ : ∃ m : Nat, opField op = m := ⟨(opField op).toNat, by omega⟩
    have hm3 : m ≤ 3 := by omega
    have HF := Lib.hid (fun W : World => show Calls Tryz.prog 140 #[.int .i64 op] W fun e w' => e = .returned (.int .i64 (m : Int)) ∧ W = w' by rw [← hm]; exact specFields_any op W)
    have HR := Lib.hid (fun W : World => l04Rest_any op a b c (m : Int) W (by omega))
    have HM := Lib.hid hm
    have hOW := opWord_len op
    clear hk0 hk3 hm hop
    have hmn : decide ((m : Int) < 0) = false := decide_eq_false (by omega)
    go_enter Tryz.func78, Tryz.ntmps78
    go_wp2_with fail
    refine (HF.out _).mono ?_
    rintro e w1 ⟨rfl, rfl⟩
    go_wp2_with fail
    refine (HR.out _).mono ?_
    rintro e w1 ⟨rfl, hb1⟩
    have hB1 : Below (w.heap.size + 1) (w.alloc (.cells #[.int .i64 op, .int .i64 a, .int .i64 b, .int .i64 c] 85)) w1 := hb1.mono (by simp)
    obtain ⟨hcl1, hfz1⟩ := bcell hB1
    have z1 := hB1.size
    simp only [World.size_alloc] at z1
    have hl1 : w.heap.size < w1.heap.size := by omega
    have hW1 : Below w.heap.size w w1 := hbw0.trans (hB1.mono (by omega))
    clear hb1
    cases tr : restB a b c (m : Int)
    · have he := Lib.hid (show instrText op a b c = [] by rw [instrText, if_pos (.inr (by rw [HM.out]; exact tr))])
      go_wp2_with fail
      go_ret
      exact ⟨by rw [he.out]; rfl, hW1⟩
    · have TR := Lib.hid tr
      clear tr
      go_wp2_with fail
      refine (specOpWord_any op _).mono ?_
      rintro e w2 ⟨rfl, hb2⟩
      have hB2 := hB1.trans (hb2.mono z1)
      obtain ⟨hcl2, hfz2⟩ := bcell hB2
      have z2 := hB2.size
      simp only [World.size_alloc] at z2
      have hl2 : w.heap.size < w2.heap.size := by omega
      have hW2 : Below w.heap.size w w2 := hbw0.trans (hB2.mono (by omega))
      clear hb2 hcl1 hfz1 hB1 hW1
      have hm3' : (m : Int) ≤ 3 := by omega
      have hm0' : (0 : Int) ≤ (m : Int) := by omega
      go_wp2_with fail
      go_loopw [4, 33] (fun v i wr => ∃ (j : Nat) (t : List UInt8), j ≤ m ∧ i = .int .i64 (j : Int) ∧ v = Tx (opWord op ++ t) ∧ Hid (fieldsText op 0 ([a, b, c].take j) = some t) ∧ Below (w2.heap.size + 1) (w2.alloc (.cells #[.int .i64 a, .int .i64 b, .int .i64 c] 3)) wr) (fun _ i _ => m - (intOf i).toNat)
      case atStart => exact ⟨0, [], Nat.zero_le _, rfl, by rw [List.append_nil], Lib.hid rfl, by simpa using Below.refl _ _⟩
      case round =>
        obtain ⟨j, t, hj, rfl, rfl, HT, hb⟩ := hrel
        obtain ⟨hclr, hfzr⟩ := bcell hb
        have zr := hb.size
        simp only [World.size_alloc] at zr
        have hlr : w.heap.size < wr.heap.size := by omega
        have hlr2 : w2.heap.size < wr.heap.size := by omega
        have hl22 : w2.heap.size < w2.heap.size + 1 := by omega
        have hlw2 : w.heap.size < w2.heap.size + 1 := by omega
        have hWr : Below w.heap.size w wr := hW2.trans (((Below.refl _ _).alloc (by omega) _).trans (hb.mono (by omega)))
        have htl := fieldsText_len _ _ _ HT.out
        have htl2 : ([a, b, c].take j).length ≤ 3 := by rw [List.length_take]; simp; omega
        by_cases hlt : j < m
        · have hj3 : j = 0 ∨ j = 1 ∨ j = 2 := by omega
          have hbad := Lib.hid (fun x hx h => instrText_bad (op := op) (a := a) (b := b) (c := c) (x := x) HM.out hlt hx h)
          have hgood := Lib.hid (fun (x : Int) (hx : [a, b, c][j]? = some x) (h : (numW (j == 0 && isChanOp op) nilW x).2 = true) => show fieldsText op 0 ([a, b, c].take (j + 1)) = some (t ++ 32 :: (numW (j == 0 && isChanOp op) nilW x).1) by
            have h1 : ([a, b, c].take j).length = j := by rw [List.length_take]; simp; omega
            rw [List.take_add_one, hx, Option.toList_some, fieldsText_snoc, HT.out, Option.bind_some, Nat.zero_add, h1, if_pos h])
          rcases hj3 with rfl | rfl | rfl
          · have hs := hbad.out a rfl
            have hg := hgood.out a rfl
            have hln := numW_len ((0 == 0 && isChanOp op)) a
            have e0 : ((0 == 0 && isChanOp op)) = isChanOp op := by simp
            rw [e0] at hs hg hln
            have HS := Lib.hid hs
            have HG := Lib.hid hg
            have hjm : (0 : Int) < (m : Int) := by omega
            have cx : wr.cell? ⟨w2.heap.size, 0, none⟩ = some (.int .i64 a) := by rw [hclr _ _ hl22]; simp
            have HNUM := Lib.hid (fun W : World => l05Num_any a (isChanOp op) nilW W)
            clear hs hg hbad hgood e0
            generalize numW (isChanOp op) nilW a = r at *
            obtain ⟨rw', rb⟩ := r
            simp only at hln
            go_wp2_with fail
            refine (l05IsChan_any op _).mono ?_
            rintro e w9 ⟨rfl, rfl⟩
            go_wp2_with fail
            refine (HNUM.out _).mono ?_
            rintro e w5 ⟨rfl, hb5⟩
            have hB5 := hb.trans (hb5.mono zr)
            have hW5 := hWr.trans (hb5.mono (by omega))
            cases rb
            · have he := Lib.hid (HS.out rfl)
              go_wp2_with fail
              go_ret
              exact ⟨by rw [he.out]; rfl, hW5⟩
            · have he := Lib.hid (HG.out rfl)
              have hl1' : ¬ 9223372036854775807 < (opWord op ++ t).length + 1 := by rw [List.length_append]; simp only [List.length_append] at *; omega
              have hl2' : ¬ 9223372036854775807 < (opWord op ++ t ++ [32]).length + rw'.length := by simp only [List.length_append, List.length_cons, List.length_nil] at *; omega
              go_wp2_with fail
              go_roundw
              case rel => exact ⟨1, _, by omega, by go_num, by first | rfl | (rw [Tx_app, Tx_app]; simp), he, hB5⟩
              case measure => simp [intOf]; omega
          · have hs := hbad.out b rfl
            have hg := hgood.out b rfl
            have hln := numW_len ((1 == 0 && isChanOp op)) b
            have e0 : ((1 == 0 && isChanOp op)) = false := by simp
            rw [e0] at hs hg hln
            have HS := Lib.hid hs
            have HG := Lib.hid hg
            have hjm : (1 : Int) < (m : Int) := by omega
            have cx : wr.cell? ⟨w2.heap.size, 1, none⟩ = some (.int .i64 b) := by rw [hclr _ _ hl22]; simp
            have HNUM := Lib.hid (fun W : World => l05Num_any b (false) nilW W)
            clear hs hg hbad hgood e0
            generalize numW (false) nilW b = r at *
            obtain ⟨rw', rb⟩ := r
            simp only at hln
            go_wp2_with fail
            refine (HNUM.out _).mono ?_
            rintro e w5 ⟨rfl, hb5⟩
            have hB5 := hb.trans (hb5.mono zr)
            have hW5 := hWr.trans (hb5.mono (by omega))
            cases rb
            · have he := Lib.hid (HS.out rfl)
              go_wp2_with fail
              go_ret
              exact ⟨by rw [he.out]; rfl, hW5⟩
            · have he := Lib.hid (HG.out rfl)
              have hl1' : ¬ 9223372036854775807 < (opWord op ++ t).length + 1 := by rw [List.length_append]; simp only [List.length_append] at *; omega
              have hl2' : ¬ 9223372036854775807 < (opWord op ++ t ++ [32]).length + rw'.length := by simp only [List.length_append, List.length_cons, List.length_nil] at *; omega
              go_wp2_with fail
              go_roundw
              case rel => exact ⟨2, _, by omega, by go_num, by first | rfl | (rw [Tx_app, Tx_app]; simp), he, hB5⟩
              case measure => simp [intOf]; omega
          · have hs := hbad.out c rfl
            have hg := hgood.out c rfl
            have hln := numW_len ((2 == 0 && isChanOp op)) c
            have e0 : ((2 == 0 && isChanOp op)) = false := by simp
            rw [e0] at hs hg hln
            have HS := Lib.hid hs
            have HG := Lib.hid hg
            have hjm : (2 : Int) < (m : Int) := by omega
            have cx : wr.cell? ⟨w2.heap.size, 2, none⟩ = some (.int .i64 c) := by rw [hclr _ _ hl22]; simp
            have HNUM := Lib.hid (fun W : World => l05Num_any c (false) nilW W)
            clear hs hg hbad hgood e0
            generalize numW (false) nilW c = r at *
            obtain ⟨rw', rb⟩ := r
            simp only at hln
            go_wp2_with fail
            refine (HNUM.out _).mono ?_
            rintro e w5 ⟨rfl, hb5⟩
            have hB5 := hb.trans (hb5.mono zr)
            have hW5 := hWr.trans (hb5.mono (by omega))
            cases rb
            · have he := Lib.hid (HS.out rfl)
              go_wp2_with fail
              go_ret
              exact ⟨by rw [he.out]; rfl, hW5⟩
            · have he := Lib.hid (HG.out rfl)
              have hl1' : ¬ 9223372036854775807 < (opWord op ++ t).length + 1 := by rw [List.length_append]; simp only [List.length_append] at *; omega
              have hl2' : ¬ 9223372036854775807 < (opWord op ++ t ++ [32]).length + rw'.length := by simp only [List.length_append, List.length_cons, List.length_nil] at *; omega
              go_wp2_with fail
              go_roundw
              case rel => exact ⟨3, _, by omega, by go_num, by first | rfl | (rw [Tx_app, Tx_app]; simp), he, hB5⟩
              case measure => simp [intOf]; omega
        · obtain rfl : j = m := by omega
          have he := Lib.hid (show instrText op a b c = opWord op ++ t by
            rw [instrText, if_neg (by rw [HM.out, TR.out]; simp), HM.out, Int.toNat_natCast, HT.out])
          go_wp2_with fail
          go_ret
          exact ⟨by rw [he.out]; rfl, hWr⟩
  · have hk : opField op = -1 := opField_neg hop
    have he := Lib.hid (show instrText op a b c = [] by rw [instrText, if_pos (.inl (by rw [hk]; decide))])
    have HF := Lib.hid (fun W : World => show Calls Tryz.prog 140 #[.int .i64 op] W fun e w' => e = .returned (.int .i64 (-1)) ∧ W = w' by rw [← hk]; exact specFields_any op W)
    clear hop hk
    go_enter Tryz.func78, Tryz.ntmps78
    go_wp2_with fail
    refine (HF.out _).mono ?_
    rintro e w1 ⟨rfl, rfl⟩
    go_wp2_with fail
    go_ret
    exact ⟨by rw [he.out]; rfl, by go_grown⟩
end Go.Proofs.YtgfkadhojlddpaaGreatDoor
