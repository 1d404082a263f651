
/- The mathematics of a right program's lines: joined, they are its text. No program is walked here. -/

import Derived.Test.YtgfkadhojlddpaaGreatDoorWordsMath

import Derived.Test.YtgfkadhojlddpaaGreatDoorTextMathP

import Derived.Test.YtgfkadhojlddpaaGreatDoorOkProgS

namespace Go.Proofs.YtgfkadhojlddpaaGreatDoor
set_option linter.unusedSimpArgs false
set_option linter.unusedVariables false
open Go.RowKit

def procWn : List UInt8 := [112, 114, 111, 99]
def codeLine (i : DInstr) : List UInt8 := instrText i.fOp i.fA i.fB i.fC
def procLines (x : DProc) : List (List UInt8) := procWn :: x.fCode.map codeLine
def headLines (p : DProg) : List (List UInt8) := [Lib.join (chansW :: p.fCaps.map numText) [32], mutexesW ++ 32 :: numText p.fMus]
def linesOf (p : DProg) : List (List UInt8) := headLines p ++ p.fSels.map selText ++ (p.fProcs.map procLines).flatten

theorem join_ends (mark : UInt8) : ∀ (l : List (List UInt8)) (x : List UInt8), Lib.join (x :: l) [mark] ++ [mark] = ((x :: l).map (· ++ [mark])).flatten
  | [], x => by simp [Lib.join_cons, joinTail_nil]
  | y :: l, x => by
    have ih := join_ends mark l y
    rw [Lib.join_cons] at ih
    rw [Lib.join_cons, joinTail_cons, List.map_cons, List.flatten_cons, ← ih]
    simp
theorem nums_line (word : List UInt8) (l : List Int) (h : ∀ z ∈ l, isNumB z = true) : Lib.join (word :: l.map numText) [32] = word ++ signsText l := by
  rw [Lib.join_cons]
  congr 1
  induction l with
  | nil => rfl
  | cons z l ih =>
    rw [List.map_cons, joinTail_cons, signsText, signText, h z (List.mem_cons_self), if_pos rfl, ih fun x hx => h x (List.mem_cons_of_mem _ hx)]
    simp
theorem procLines_text : ∀ l : List DProc, (((l.map procLines).flatten).map (· ++ [10])).flatten = procsText l
  | [] => rfl
  | x :: l => by
    rw [List.map_cons, List.flatten_cons, List.map_append, List.flatten_append, procLines_text l]
    simp only [procsText, List.map_cons, List.flatten_cons]
    congr 1
    simp only [procLines, List.map_cons, List.flatten_cons, codeText, List.map_map]
    rfl
theorem lines_text (p : DProg) (hc : ∀ z ∈ p.fCaps, isNumB z = true) (hm : isNumB p.fMus = true) : Lib.join (linesOf p) [10] ++ [10] = textOf p := by
  have hj : linesOf p = Lib.join (chansW :: p.fCaps.map numText) [32] :: ((mutexesW ++ 32 :: numText p.fMus) :: (p.fSels.map selText ++ (p.fProcs.map procLines).flatten)) := by simp [linesOf, headLines]
  rw [hj, join_ends, List.map_cons, List.map_cons, List.map_append, List.flatten_cons, List.flatten_cons, List.flatten_append, procLines_text, nums_line _ _ hc]
  simp [textOf, numsText, signsText, signText, hm, selsText, List.map_map, Function.comp_def]
theorem progOk_nums {p : DProg} (h : progOkB p = true) : (∀ z ∈ p.fCaps, isNumB z = true) ∧ isNumB p.fMus = true := by
  unfold progOkB at h
  simp only [Bool.and_eq_true] at h
  obtain ⟨h1, h2, -⟩ := h
  unfold countsB at h1
  rw [decide_eq_true_iff] at h1
  rw [List.all_eq_true] at h2
  refine ⟨fun z hz => ?_, ?_⟩
  · have := h2 z hz
    rw [decide_eq_true_iff] at this
    exact decide_eq_true (by omega)
  · exact decide_eq_true (by omega)
/-- What ProgText answers. -/
def progText (p : DProg) : List UInt8 := if progOkB p then textOf p else []
theorem progText_lines {p : DProg} (h : progOkB p = true) : progText p = Lib.join (linesOf p) [10] ++ [10] := by
  rw [progText, if_pos h, lines_text p (progOk_nums h).1 (progOk_nums h).2]
end Go.Proofs.YtgfkadhojlddpaaGreatDoor
