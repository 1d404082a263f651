
/- What makes a trace right: as the program goes through it, as the model does. -/

import Derived.Test.YtgfkadhojlddpaaGreatDoorItemTab

import Derived.Test.YtgfkadhojlddpaaGreatDoorGDEng

namespace Go.Proofs.YtgfkadhojlddpaaGreatDoor
set_option linter.unusedSimpArgs false
set_option linter.unusedVariables false
open Go.RowKit

def isEndB (i : DItem) : Bool := decide (i.fKind = 9) || decide (i.fKind = 10)
/-- The program's way: which end was met. -/
def trGo : Int → List DItem → Option Int
  | m, [] => some m
  | m, i :: t => if decide (m ≠ 0) || !itemOkB i then none else trGo (if isEndB i then i.fKind else m) t
def trRes (o : Option Int) (en : Int) : Bool := match o with | none => false | some m => decide (m = en)
def endK (st : Int) : Int := if st = 3 then 9 else if st = 4 then 10 else 0
/-- The model's way. -/
def okAt (n k : Nat) (i : DItem) : Bool := itemOkB i && !(isEndB i && decide ((k : Int) < (n : Int) - 1))
def allFrom (n : Nat) : Nat → List DItem → Bool
  | _, [] => true
  | k, i :: t => okAt n k i && allFrom n (k + 1) t
def lastK : List DItem → Int
  | [] => 0
  | [i] => i.fKind
  | _ :: j :: t => lastK (j :: t)
def trSpec (tr : List DItem) (st : Int) : Bool := allFrom tr.length 0 tr && ((decide (lastK tr = 9) == decide (st = 3)) && (decide (lastK tr = 10) == decide (st = 4)))
def eK (k : Int) : Int := if k = 9 ∨ k = 10 then k else 0

theorem trGo_is : ∀ (t : List DItem) (n k : Nat), n = k + t.length → trGo 0 t = if allFrom n k t then some (eK (lastK t)) else none
  | [], n, k, _ => by simp [trGo, allFrom, lastK, eK]
  | i :: t, n, k, hn => by
    simp only [List.length_cons] at hn
    cases hi : itemOkB i
    · simp [trGo, allFrom, okAt, hi]
    · cases he : isEndB i
      · have ih := trGo_is t n (k + 1) (by omega)
        have h1 : trGo 0 (i :: t) = trGo 0 t := by simp [trGo, hi, he]
        have h2 : allFrom n k (i :: t) = allFrom n (k + 1) t := by simp [allFrom, okAt, hi, he]
        rw [h1, h2, ih]
        cases t with
        | nil =>
          have : eK i.fKind = 0 := by
            unfold isEndB at he
            simp at he
            unfold eK
            rw [if_neg (by omega)]
          simp only [allFrom, lastK, this, if_true]
          rfl
        | cons j t => simp [lastK]
      · have hk : i.fKind = 9 ∨ i.fKind = 10 := by
          unfold isEndB at he
          simpa using he
        cases t with
        | nil =>
          simp only [List.length_nil] at hn
          have h2 : okAt n k i = true := by simp [okAt, hi]; right; omega
          simp [trGo, hi, he, allFrom, h2, lastK, eK, hk]
        | cons j t =>
          simp only [List.length_cons] at hn
          have h2 : okAt n k i = false := by
            simp only [okAt, hi, he, Bool.true_and]
            rw [show decide ((k : Int) < (n : Int) - 1) = true from decide_eq_true (by omega)]
            rfl
          have h3 : i.fKind ≠ 0 := by omega
          simp [trGo, hi, he, allFrom, h2, h3]
theorem tr_same {tr : List DItem} {st : Int} (h : 1 ≤ st ∧ st ≤ 4) : trRes (trGo 0 tr) (endK st) = trSpec tr st := by
  rw [trGo_is tr tr.length 0 (by omega)]
  unfold trSpec
  cases allFrom tr.length 0 tr
  · rfl
  · simp only [if_true, trRes, Bool.true_and]
    generalize lastK tr = L
    have hs : st = 1 ∨ st = 2 ∨ st = 3 ∨ st = 4 := by omega
    by_cases h9 : L = 9
    · subst h9
      rcases hs with rfl | rfl | rfl | rfl <;> decide
    · by_cases h10 : L = 10
      · subst h10
        rcases hs with rfl | rfl | rfl | rfl <;> decide
      · rw [show eK L = 0 from if_neg (by omega)]
        rw [show decide (L = 9) = false from decide_eq_false h9, show decide (L = 10) = false from decide_eq_false h10]
        rcases hs with rfl | rfl | rfl | rfl <;> decide
theorem lastK_get : ∀ (tr : List DItem) (h : 0 < tr.length), lastK tr = (tr[tr.length - 1]'(by omega)).fKind
  | [i], _ => rfl
  | _ :: j :: t, _ => by
    have := lastK_get (j :: t) (by simp)
    simp only [lastK, this]
    simp
/-- What asks no program. -/
def gorB (n : Int) (g : DGor) : Bool := decide (0 ≤ g.fPc ∧ g.fPc < n) && (decide (g.fRegs.length = 6) && (decide (1 ≤ g.fState ∧ g.fState ≤ 4) && (g.fRegs.all okV && trSpec g.fTrace g.fState)))
end Go.Proofs.YtgfkadhojlddpaaGreatDoor
