
/- The plain mathematics of texts that are words with a mark between them: an instruction's, a case's, a select's. No program is walked here. -/

import Derived.Test.YtgfkadhojlddpaaGreatDoorSelTextS

import Derived.Lib.Join

namespace Go.Proofs.YtgfkadhojlddpaaGreatDoor
set_option linter.unusedSimpArgs false
set_option linter.unusedVariables false
open Go.RowKit

/-- A field that names nm, as a word; empty where it can't be written. -/
def fieldT (nm v : Int) : List UInt8 := (numW (nm == 4) nilW v).1
/-- Words with a mark between them; empty if one of them is. -/
def wordsT (w0 : List UInt8) (mark : UInt8) (fs : List (List UInt8)) : List UInt8 := if [] ∈ w0 :: fs then [] else Lib.join (w0 :: fs) [mark]

theorem numText_nil {z : Int} : numText z = [] ↔ isNumB z = false := by
  constructor
  · intro h
    cases hb : isNumB z
    · rfl
    · exact absurd h (numText_ne hb)
  · intro h
    rw [numText, if_neg]
    simpa [isNumB] using h
theorem numW_nil {nil1 : Bool} {word : List UInt8} (hw : word ≠ []) {z : Int} : (numW nil1 word z).1 = [] ↔ (numW nil1 word z).2 = false := by
  unfold numW
  split
  · simp [hw]
  · exact numText_nil
theorem fieldT_nil {nm v : Int} : fieldT nm v = [] ↔ (numW (nm == 4) nilW v).2 = false := numW_nil (by decide)
theorem fieldT_len (nm v : Int) : (fieldT nm v).length ≤ 10 := numW_len _ _
theorem fieldT_num {nm v : Int} (h : (nm == 4) = false) : fieldT nm v = numText v := by rw [fieldT, numW, h]; rfl
theorem fieldT_chan (v : Int) : fieldT 4 v = (numW true nilW v).1 := rfl

theorem wordsT_0 {w0 : List UInt8} {mark : UInt8} : wordsT w0 mark [] = w0 := by
  unfold wordsT
  split
  · rename_i h
    simp at h
    exact h.symm
  · simp [Lib.join]
theorem wordsT_bad {w0 : List UInt8} {mark : UInt8} {fs : List (List UInt8)} (h : [] ∈ fs) : wordsT w0 mark fs = [] := by
  rw [wordsT, if_pos (List.mem_cons_of_mem _ h)]
theorem wordsT_ok {w0 : List UInt8} {mark : UInt8} {fs : List (List UInt8)} (h0 : w0 ≠ []) (h : [] ∉ fs) : wordsT w0 mark fs = w0 ++ Lib.joinTail [mark] fs := by
  rw [wordsT, if_neg, Lib.join_cons]
  intro hm
  rcases List.mem_cons.1 hm with h1 | h1
  · exact h0 h1.symm
  · exact h h1
theorem joinTail_cons (mark : UInt8) (x : List UInt8) (r : List (List UInt8)) : Lib.joinTail [mark] (x :: r) = mark :: x ++ Lib.joinTail [mark] r := by simp [Lib.joinTail]
theorem joinTail_nil (mark : UInt8) : Lib.joinTail [mark] [] = [] := rfl

/-- The names of an instruction, and how many it has. -/
def namesA (op : Int) : Int × Int × Int := opNames.getD (op.toNat - 1) (0, 0, 0)
/-- The words behind an instruction's own. -/
def fieldsA (op a b c : Int) : List (List UInt8) := ([fieldT (namesA op).1 a, fieldT (namesA op).2.1 b, fieldT (namesA op).2.2 c]).take (opField op).toNat

theorem fields_join (op : Int) (gs : List (Int × Int)) (n : Nat) (h : ∀ i p, gs[i]? = some p → (p.1 == 4) = (n + i == 0 && isChanOp op)) :
    fieldsText op n (gs.map (·.2)) = if [] ∈ gs.map (fun p => fieldT p.1 p.2) then none else some (Lib.joinTail [32] (gs.map fun p => fieldT p.1 p.2)) := by
  induction gs generalizing n with
  | nil => rfl
  | cons p r ih =>
    have h0 := h 0 p rfl
    rw [Nat.add_zero] at h0
    have hr := ih (n + 1) fun i q hq => by
      have := h (i + 1) q (by simpa using hq)
      rw [this, show n + (i + 1) = n + 1 + i by omega]
    simp only [List.map_cons, fieldsText, ← h0, hr]
    cases hb : (numW (p.1 == 4) nilW p.2).2
    · rw [if_neg (by simp), if_pos]
      exact List.mem_cons.2 (.inl (fieldT_nil.2 hb).symm)
    · have hne : ¬ fieldT p.1 p.2 = [] := fun e => by rw [fieldT_nil, hb] at e; cases e
      rw [if_pos rfl]
      by_cases hm : [] ∈ r.map fun p => fieldT p.1 p.2
      · rw [if_pos hm, if_pos (List.mem_cons_of_mem _ hm)]
        rfl
      · rw [if_neg hm, if_neg, joinTail_cons]
        · rfl
        · intro hh
          rcases List.mem_cons.1 hh with e | e
          · exact hne e.symm
          · exact hm e

theorem names_first {op : Int} (h : 1 ≤ op ∧ op ≤ 15) : ((namesA op).1 == 4) = isChanOp op ∧ ((namesA op).2.1 == 4) = false ∧ ((namesA op).2.2 == 4) = false := by
  rcases op_cases h with rfl | rfl | rfl | rfl | rfl | rfl | rfl | rfl | rfl | rfl | rfl | rfl | rfl | rfl | rfl <;> decide

theorem instrText_words {op : Int} (a b c : Int) (h : 1 ≤ op ∧ op ≤ 15) :
    instrText op a b c = if restB a b c (opField op) then wordsT (opWord op) 32 (fieldsA op a b c) else [] := by
  obtain ⟨_, h1, h2, h0, h3, h4⟩ := opWord_words h
  obtain ⟨e1, e2, e3⟩ := names_first h
  cases hr : restB a b c (opField op)
  · rw [instrText, if_pos (.inr hr)]
    simp
  · rw [if_pos rfl, instrText, if_neg (by simp [hr]; omega)]
    obtain ⟨m, hm⟩ : ∃ m : Nat, opField op = m := ⟨(opField op).toNat, by omega⟩
    have hj := fields_join op ((([((namesA op).1, a), ((namesA op).2.1, b), ((namesA op).2.2, c)] : List (Int × Int))).take m) 0 fun i p hp => by
      rw [List.getElem?_take] at hp
      split at hp
      · match i, hp with
        | 0, hp => simp at hp; subst hp; simpa using e1
        | 1, hp => simp at hp; subst hp; simpa using e2
        | 2, hp => simp at hp; subst hp; simpa using e3
        | k + 3, hp => simp at hp
      · cases hp
    rw [hm, Int.toNat_natCast]
    have hx : ([a, b, c] : List Int).take m = ((([((namesA op).1, a), ((namesA op).2.1, b), ((namesA op).2.2, c)] : List (Int × Int))).take m).map (·.2) := by rw [List.map_take]; rfl
    have hy : fieldsA op a b c = ((([((namesA op).1, a), ((namesA op).2.1, b), ((namesA op).2.2, c)] : List (Int × Int))).take m).map (fun p => fieldT p.1 p.2) := by rw [List.map_take, fieldsA, hm, Int.toNat_natCast]; rfl
    rw [hx, hj, hy]
    split
    · rename_i t ht
      split at ht
      · cases ht
      · rename_i hn
        simp only [Option.some.injEq] at ht
        rw [wordsT_ok h0 hn, ht]
    · rename_i ht
      split at ht
      · rename_i hn
        rw [wordsT_bad hn]
      · cases ht

def sendW : List UInt8 := [115, 101, 110, 100]
def recvW : List UInt8 := [114, 101, 99, 118]
theorem caseText_send (ch reg ok to : Int) : caseText ⟨true, ch, reg, ok, to⟩ = if ok = 0 then wordsT sendW 58 [fieldT 4 ch, fieldT 1 reg, fieldT 3 to] else [] := by
  unfold caseText caseOkT
  by_cases h0 : ok = 0
  · subst h0
    rw [if_pos rfl]
    cases h1 : (numW true nilW ch).2
    · rw [wordsT_bad]
      · simp
      · simp [fieldT_nil, h1]
    · cases h2 : isNumB reg
      · rw [wordsT_bad]
        · simp
        · simp [fieldT_num, numText_nil, h2]
      · cases h3 : isNumB to
        · rw [wordsT_bad]
          · simp
          · simp [fieldT_num, numText_nil, h3]
        · rw [wordsT_ok (by decide)]
          · simp [isNumB, sendC, sendW, fieldT_chan, fieldT_num, joinTail_cons, joinTail_nil]
          · simp only [List.mem_cons, List.not_mem_nil, or_false, not_or]
            exact ⟨(fun e => by rw [eq_comm, fieldT_chan, numW_nil (by decide), h1] at e; cases e), (fun e => by rw [eq_comm, fieldT_num (by decide), numText_nil, h2] at e; cases e), (fun e => by rw [eq_comm, fieldT_num (by decide), numText_nil, h3] at e; cases e)⟩
  · rw [if_neg h0, if_neg]
    simp [h0]
theorem caseText_recv (ch reg ok to : Int) : caseText ⟨false, ch, reg, ok, to⟩ = wordsT recvW 58 [fieldT 4 ch, fieldT 1 reg, fieldT 1 ok, fieldT 3 to] := by
  unfold caseText caseOkT
  cases h1 : (numW true nilW ch).2
  · rw [wordsT_bad]
    · simp
    · simp [fieldT_nil, h1]
  · cases h2 : isNumB reg
    · rw [wordsT_bad]
      · simp
      · simp [fieldT_num, numText_nil, h2]
    · cases h4 : isNumB ok
      · rw [wordsT_bad]
        · simp
        · simp [fieldT_num, numText_nil, h4]
      · cases h3 : isNumB to
        · rw [wordsT_bad]
          · simp
          · simp [fieldT_num, numText_nil, h3]
        · rw [wordsT_ok (by decide)]
          · simp [recvC, recvW, fieldT_chan, fieldT_num, joinTail_cons, joinTail_nil]
          · simp only [List.mem_cons, List.not_mem_nil, or_false, not_or]
            exact ⟨(fun e => by rw [eq_comm, fieldT_chan, numW_nil (by decide), h1] at e; cases e), (fun e => by rw [eq_comm, fieldT_num (by decide), numText_nil, h2] at e; cases e), (fun e => by rw [eq_comm, fieldT_num (by decide), numText_nil, h4] at e; cases e), (fun e => by rw [eq_comm, fieldT_num (by decide), numText_nil, h3] at e; cases e)⟩

theorem casesText_join : ∀ l : List DCase, casesText l = if [] ∈ l.map caseText then none else some (Lib.joinTail [32] (l.map caseText))
  | [] => rfl
  | x :: l => by
    rw [casesText, casesText_join l, List.map_cons]
    by_cases h : caseText x = []
    · rw [if_pos h, if_pos (List.mem_cons.2 (.inl h.symm))]
    · rw [if_neg h]
      by_cases hm : [] ∈ l.map caseText
      · rw [if_pos hm, if_pos (List.mem_cons_of_mem _ hm)]
        rfl
      · rw [if_neg hm, if_neg, joinTail_cons]
        · rfl
        · intro hh
          rcases List.mem_cons.1 hh with e | e
          · exact h e.symm
          · exact hm e
def selW : List UInt8 := [115, 101, 108, 101, 99, 116]
theorem selText_words (s : DSelect) : selText s = wordsT selW 32 ((numW true dashW s.fElse).1 :: s.fCases.map caseText) := by
  unfold selText
  cases hb : (numW true dashW s.fElse).2
  · rw [wordsT_bad]
    · simp
    · exact List.mem_cons.2 (.inl ((numW_nil (by decide)).2 hb).symm)
  · rw [if_pos rfl, casesText_join]
    by_cases hm : [] ∈ s.fCases.map caseText
    · rw [if_pos hm, wordsT_bad (List.mem_cons_of_mem _ hm)]
    · rw [if_neg hm, wordsT_ok (by decide), joinTail_cons]
      · simp [selectW, selW]
      · intro hh
        rcases List.mem_cons.1 hh with e | e
        · rw [eq_comm, numW_nil (by decide), hb] at e
          cases e
        · exact hm e
end Go.Proofs.YtgfkadhojlddpaaGreatDoor
