
/- The mathematics of the text of a program: its parts, how long they are. -/

import Derived.Test.YtgfkadhojlddpaaGreatDoorSelTextS

import Derived.Test.YtgfkadhojlddpaaGreatDoorNumsTextS

import Derived.Test.YtgfkadhojlddpaaGreatDoorGDProg

namespace Go.Proofs.YtgfkadhojlddpaaGreatDoor
set_option linter.unusedSimpArgs false
set_option linter.unusedVariables false
open Go.RowKit

def chansW : List UInt8 := [99, 104, 97, 110, 115]
def mutexesW : List UInt8 := [109, 117, 116, 101, 120, 101, 115]
def procW : List UInt8 := [112, 114, 111, 99, 10]
def selsText (l : List DSelect) : List UInt8 := (l.map fun s => selText s ++ [10]).flatten
def codeText (l : List DInstr) : List UInt8 := (l.map fun i => instrText i.fOp i.fA i.fB i.fC ++ [10]).flatten
def procsText (l : List DProc) : List UInt8 := (l.map fun p => procW ++ codeText p.fCode).flatten
/-- The text of a program, right or not. -/
def textOf (p : DProg) : List UInt8 := numsText chansW p.fCaps ++ numsText mutexesW [p.fMus] ++ selsText p.fSels ++ procsText p.fProcs

theorem flat_snoc {α : Type} (f : α → List UInt8) (l : List α) (x : α) : ((l ++ [x]).map f).flatten = (l.map f).flatten ++ f x := by simp
theorem flat_take {α : Type} (f : α → List UInt8) (l : List α) (j : Nat) : ((l.take j).map f).flatten.length ≤ (l.map f).flatten.length := by
  have : (l.map f).flatten = ((l.take j).map f).flatten ++ ((l.drop j).map f).flatten := by rw [← List.flatten_append, ← List.map_append, List.take_append_drop]
  rw [this, List.length_append]
  omega
theorem flat_len {α : Type} {f : α → List UInt8} {g : α → Nat} {a b : Nat} (h : ∀ x, (f x).length ≤ a + b * g x) : ∀ l : List α, (l.map f).flatten.length ≤ a * l.length + b * (l.map g).sum
  | [] => by simp
  | x :: l => by
    have h1 := h x
    have h2 := flat_len h l
    simp only [List.map_cons, List.flatten_cons, List.length_append, List.length_cons, List.sum_cons, Nat.mul_add, Nat.mul_one]
    omega
theorem selsText_len (l : List DSelect) : (selsText l).length ≤ 18 * l.length + 49 * (l.map szSelect).sum :=
  flat_len (fun s => by
    have := selText_len s
    rw [List.length_append, szSelect]
    simp only [List.length_cons, List.length_nil]
    omega) l
theorem codeText_len (l : List DInstr) : (codeText l).length ≤ 40 * l.length := by
  have := flat_len (f := fun i : DInstr => instrText i.fOp i.fA i.fB i.fC ++ [10]) (g := fun _ => 0) (a := 40) (b := 0) (fun i => by
    have := instrText_len i.fOp i.fA i.fB i.fC
    rw [List.length_append]
    simp only [List.length_cons, List.length_nil]
    omega) l
  unfold codeText
  omega
theorem procsText_len (l : List DProc) : (procsText l).length ≤ 5 * l.length + 40 * (l.map szProc).sum :=
  flat_len (fun p => by
    have := codeText_len p.fCode
    rw [List.length_append, szProc, show procW.length = 5 from rfl]
    omega) l
theorem numsText_len (word : List UInt8) (l : List Int) : (numsText word l).length ≤ word.length + 12 * l.length + 1 := by
  have := signsText_len l
  unfold numsText
  simp only [List.length_append, List.length_cons, List.length_nil]
  omega
theorem textOf_len (p : DProg) (h : szProg p ≤ 1048576) : (textOf p).length ≤ 200000000 := by
  have h1 := numsText_len chansW p.fCaps
  have h2 := numsText_len mutexesW [p.fMus]
  have h3 := selsText_len p.fSels
  have h4 := procsText_len p.fProcs
  rw [show chansW.length = 5 from rfl] at h1
  rw [show mutexesW.length = 7 from rfl] at h2
  simp only [List.length_cons, List.length_nil] at h2
  unfold szProg at h
  unfold textOf
  simp only [List.length_append]
  omega
end Go.Proofs.YtgfkadhojlddpaaGreatDoor
