
/- The plain mathematics of instructions as texts: writing, reading, and that what was written is read as it was. No program is walked here. -/

import Derived.Test.YtgfkadhojlddpaaGreatDoorBase

import Derived.Test.YtgfkadhojlddpaaGreatDoorInstrS

namespace Go.Proofs.YtgfkadhojlddpaaGreatDoor
set_option linter.unusedSimpArgs false
set_option linter.unusedVariables false
open Go.RowKit

def nilW : List UInt8 := [110, 105, 108]
def dashW : List UInt8 := [45]
def isNumB (z : Int) : Bool := decide (0 ≤ z ∧ z ≤ 4294967295)
/-- A number as a word, or a word for -1; and whether there is one. -/
def numW (nil1 : Bool) (word : List UInt8) (z : Int) : List UInt8 × Bool := if nil1 && z == -1 then (word, true) else (numText z, isNumB z)
/-- A word as a number, or -1 for that word. -/
def readW (word : List UInt8) (s : List UInt8) : Int := if s = word then -1 else (textNum s).1

theorem numText_digs (z : Int) : ∀ c ∈ numText z, IsDig c := by
  unfold numText
  split
  · exact (dec_digits _).2.1
  · intro c hc; cases hc
theorem numText_ne {z : Int} (h : isNumB z = true) : numText z ≠ [] := by
  unfold isNumB at h
  rw [numText, if_pos (by simpa using h)]
  exact (dec_digits _).2.2
theorem textNum_numText {z : Int} (h : isNumB z = true) : textNum (numText z) = (z, true) := by
  have h' : 0 ≤ z ∧ z ≤ 4294967295 := by simpa [isNumB] using h
  obtain ⟨n, rfl⟩ := Int.eq_ofNat_of_zero_le h'.1
  rw [numText, if_pos h', Int.toNat_natCast]
  exact textNum_yes (by omega) rfl
/-- A word with a byte that is no digit is no number's. -/
theorem numText_word {z : Int} {word : List UInt8} {c : UInt8} (hc : c ∈ word) (hd : ¬ IsDig c) : numText z ≠ word := fun e => hd (numText_digs z c (by rw [e]; exact hc))
theorem readW_numW {nil1 : Bool} {word : List UInt8} {z : Int} {c : UInt8} (hc : c ∈ word) (hd : ¬ IsDig c) (h : (numW nil1 word z).2 = true) : readW word (numW nil1 word z).1 = z := by
  unfold numW at h ⊢
  split
  · rename_i h1
    simp only [readW, if_true]
    simp at h1
    omega
  · rename_i h1
    rw [if_neg h1] at h
    rw [readW, if_neg (numText_word hc hd), textNum_numText h]
theorem readW_num {z : Int} (h : isNumB z = true) : readW [] (numText z) = z := by
  rw [readW, if_neg (numText_ne h), textNum_numText h]

theorem nil_not : (110 : UInt8) ∈ nilW ∧ ¬ IsDig 110 := ⟨by simp [nilW], by unfold IsDig; decide⟩
theorem dash_not : (45 : UInt8) ∈ dashW ∧ ¬ IsDig 45 := ⟨by simp [dashW], by unfold IsDig; decide⟩

/-- The words of an instruction's fields, each behind a blank, from the n-th field on. -/
def isChanOp (op : Int) : Bool := op == 8 || op == 9 || op == 10
def fieldsText (op : Int) : Nat → List Int → Option (List UInt8)
  | _, [] => some []
  | n, v :: r => if (numW (n == 0 && isChanOp op) nilW v).2 then (fieldsText op (n + 1) r).map (fun t => 32 :: (numW (n == 0 && isChanOp op) nilW v).1 ++ t) else none
theorem fieldsText_snoc (op : Int) (v : Int) : ∀ (l : List Int) (n : Nat), fieldsText op n (l ++ [v]) =
    (fieldsText op n l).bind fun t => if (numW (n + l.length == 0 && isChanOp op) nilW v).2 then some (t ++ 32 :: (numW (n + l.length == 0 && isChanOp op) nilW v).1) else none
  | [], n => by
    simp only [List.nil_append, fieldsText, List.length_nil, Nat.add_zero, Option.bind_some]
    split <;> simp
  | x :: l, n => by
    simp only [List.cons_append, fieldsText, List.length_cons]
    rw [fieldsText_snoc op v l (n + 1), show n + 1 + l.length = n + (l.length + 1) by omega]
    split
    · cases fieldsText op (n + 1) l with
      | none => simp
      | some t =>
        simp only [Option.bind_some, Option.map_some]
        split <;> simp
    · simp

/-- The text of an instruction. -/
def instrText (op a b c : Int) : List UInt8 :=
  if opField op < 0 ∨ restB a b c (opField op) = false then []
  else match fieldsText op 0 ([a, b, c].take (opField op).toNat) with
    | some t => opWord op ++ t
    | none => []

/-- The instruction that a word names; 0 for none. -/
def opOf (w : List UInt8) : Int := if w ∈ opWords then (opWords.idxOf w : Nat) + 1 else 0
/-- What may be an instruction's text, read. -/
def candI (s : List UInt8) : Int × Int × Int × Int :=
  (opOf ((cutR 32 [] s).getD 0 []), (if 1 < (cutR 32 [] s).length then readW nilW ((cutR 32 [] s).getD 1 []) else 0), (if 2 < (cutR 32 [] s).length then readW nilW ((cutR 32 [] s).getD 2 []) else 0), (if 3 < (cutR 32 [] s).length then readW nilW ((cutR 32 [] s).getD 3 []) else 0))
def textInstr (s : List UInt8) : (Int × Int × Int × Int) × Bool :=
  if s = [] ∨ instrText (candI s).1 (candI s).2.1 (candI s).2.2.1 (candI s).2.2.2 ≠ s then ((0, 0, 0, 0), false) else (candI s, true)

theorem opWord_words {op : Int} (h : 1 ≤ op ∧ op ≤ 15) : opWord op ∈ opWords ∧ opOf (opWord op) = op ∧ (32 : UInt8) ∉ opWord op ∧ opWord op ≠ [] ∧ 0 ≤ opField op ∧ opField op ≤ 3 := by
  rcases op_cases h with rfl | rfl | rfl | rfl | rfl | rfl | rfl | rfl | rfl | rfl | rfl | rfl | rfl | rfl | rfl <;> decide
theorem opField_neg {op : Int} (h : ¬ (1 ≤ op ∧ op ≤ 15)) : opField op = -1 := by rw [opField, if_neg h]
theorem numW_blank (nil1 : Bool) (z : Int) : (32 : UInt8) ∉ (numW nil1 nilW z).1 := by
  unfold numW
  split
  · decide
  · intro h
    have := numText_digs z 32 h
    unfold IsDig at this
    revert this
    decide

/-- The words of what was written. -/
theorem cut_fields {op : Int} : ∀ (l : List Int) (n : Nat) (w t : List UInt8), (32 : UInt8) ∉ w → fieldsText op n l = some t → cutR 32 [] (w ++ t) = w :: (l.mapIdx fun i v => (numW (n + i == 0 && isChanOp op) nilW v).1)
  | [], n, w, t, hw, h => by
    simp only [fieldsText, Option.some.injEq] at h
    subst h
    rw [List.append_nil, cutR_miss 32 w [] hw]
    simp
  | v :: l, n, w, t, hw, h => by
    unfold fieldsText at h
    split at h
    · obtain ⟨t', ht', rfl⟩ := Option.map_eq_some_iff.1 h
      rw [show w ++ (32 :: (numW (n == 0 && isChanOp op) nilW v).1 ++ t') = w ++ 32 :: ((numW (n == 0 && isChanOp op) nilW v).1 ++ t') by simp, cutR_hit 32 _ w [] hw, cut_fields l (n + 1) _ t' (numW_blank _ _) ht', List.nil_append]
      simp only [List.mapIdx_cons, Nat.add_zero, show ∀ i, n + 1 + i = n + (i + 1) from fun i => by omega]
    · cases h
theorem fields_ok {op : Int} : ∀ (l : List Int) (n : Nat) (t : List UInt8), fieldsText op n l = some t → ∀ (i : Nat) (v : Int), l[i]? = some v → (numW (n + i == 0 && isChanOp op) nilW v).2 = true
  | [], _, _, _, i, v, hv => by simp at hv
  | x :: l, n, t, h, i, v, hv => by
    unfold fieldsText at h
    split at h
    · rename_i h1
      obtain ⟨t', ht', _⟩ := Option.map_eq_some_iff.1 h
      cases i with
      | zero =>
        simp at hv
        subst hv
        simpa using h1
      | succ i =>
        have := fields_ok l (n + 1) t' ht' i v (by simpa using hv)
        rw [show n + 1 + i = n + (i + 1) by omega] at this
        exact this
    · cases h

/-- What was written is read as it was. -/
theorem candI_text {op a b c : Int} (h : instrText op a b c ≠ []) : candI (instrText op a b c) = (op, a, b, c) := by
  have hop : 1 ≤ op ∧ op ≤ 15 := by
    refine Decidable.byContradiction fun hn => h ?_
    rw [instrText, if_pos (.inl (by rw [opField_neg hn]; decide))]
  obtain ⟨_, h1, h2, _, h3, h4⟩ := opWord_words hop
  have hc : ¬ (opField op < 0 ∨ restB a b c (opField op) = false) := fun hh => h (by rw [instrText, if_pos hh])
  have hrest : restB a b c (opField op) = true := by
    cases hr : restB a b c (opField op)
    · exact absurd (.inr hr) hc
    · rfl
  cases ht : fieldsText op 0 ([a, b, c].take (opField op).toNat) with
  | none => exact absurd (by rw [instrText, if_neg hc, ht]) h
  | some t =>
    have he : instrText op a b c = opWord op ++ t := by rw [instrText, if_neg hc, ht]
    have hcut := cut_fields _ 0 (opWord op) t h2 ht
    have hok := fields_ok _ 0 t ht
    rw [he]
    unfold candI
    rw [hcut]
    have hk : opField op = 0 ∨ opField op = 1 ∨ opField op = 2 ∨ opField op = 3 := by omega
    simp only [restB, decide_eq_true_eq] at hrest
    rcases hk with hk | hk | hk | hk
    · rw [hk] at hrest ⊢
      simp at hrest
      simp [h1, hrest.1, hrest.2.1, hrest.2.2]
    · rw [hk] at hrest hok ⊢
      simp at hrest
      have e0 := readW_numW nil_not.1 nil_not.2 (hok 0 a (by simp))
      simp at e0
      simp [h1, hrest.1, hrest.2, e0]
    · rw [hk] at hrest hok ⊢
      simp at hrest
      have e0 := readW_numW nil_not.1 nil_not.2 (hok 0 a (by simp))
      have e1 := readW_numW nil_not.1 nil_not.2 (hok 1 b (by simp))
      simp at e0 e1
      simp [h1, hrest, e0, e1]
    · rw [hk] at hok ⊢
      have e0 := readW_numW nil_not.1 nil_not.2 (hok 0 a (by simp))
      have e1 := readW_numW nil_not.1 nil_not.2 (hok 1 b (by simp))
      have e2 := readW_numW nil_not.1 nil_not.2 (hok 2 c (by simp))
      simp at e0 e1 e2
      simp [h1, e0, e1, e2]

/-- TextInstr answers the instruction whose text it is, and nothing where there is none. -/
theorem textInstr_yes {s : List UInt8} {op a b c : Int} (hs : s ≠ []) (h : instrText op a b c = s) : textInstr s = ((op, a, b, c), true) := by
  subst h
  have := candI_text hs
  rw [textInstr, this, if_neg]
  simp [hs]
theorem textInstr_no {s : List UInt8} (h : ∀ op a b c, s ≠ [] → instrText op a b c ≠ s) : textInstr s = ((0, 0, 0, 0), false) := by
  rw [textInstr, if_pos]
  by_cases hs : s = []
  · exact .inl hs
  · exact .inr (h _ _ _ _ hs)
end Go.Proofs.YtgfkadhojlddpaaGreatDoor
