
/- GorC, GorS, GorX, merged for claims. -/

import Derived.Test.YtghkdkagnibkgaaGreatDoorGDEng

import Derived.Test.YtghkdkagnibkgaaGreatDoorGQueue

import Derived.Lib.SliceRun

import Derived.Laws.CopyOwn

import Derived.BigFrame

import Derived.Deep.Cut

namespace Go.Proofs.YtghkdkagnibkgaaGreatDoor
set_option linter.unusedSimpArgs false
set_option linter.unusedVariables false
open Go.RowKit

abbrev zeros (n : Nat) : List Value := List.replicate n (.int .i64 0)
/-- A copy of a goroutine: the same, its slices in blocks of their own. -/
def CopiedG (x : DGor) (w : World) (e : Ending) (w' : World) : Prop :=
  Below w.heap.size w w' ∧ ∃ A2 c2 A4 c4 F2 F4, e = .returned (.agg #[.int .i64 x.fProc, .int .i64 x.fPc, .slice A2 x.fRegs.length c2, .int .i64 x.fState, .slice A4 x.fTrace.length c4]) ∧
    OwnR Lay.int 3 w' F2 A2 x.fRegs.length c2 x.fRegs ∧ OwnR layItem 164 w' F4 A4 x.fTrace.length c4 x.fTrace ∧
    (∀ g, F2 g ∨ F4 g → w.heap.size ≤ g ∧ g < w'.heap.size) ∧ (∀ g, F2 g → ¬ F4 g)

end Go.Proofs.YtghkdkagnibkgaaGreatDoor

namespace Go.Proofs.YtghkdkagnibkgaaGreatDoor
set_option linter.unusedSimpArgs false
set_option linter.unusedVariables false
open Go.RowKit

end Go.Proofs.YtghkdkagnibkgaaGreatDoor

namespace Go.Proofs.YtghkdkagnibkgaaGreatDoor
set_option linter.unusedSimpArgs false
set_option linter.unusedVariables false
open Go.RowKit

def setR (x : DGor) (r v : Int) : DGor := if (decide (0 ≤ r ∧ r < x.fRegs.length) && okV v) = true then { x with fRegs := x.fRegs.set r.toNat v } else x
def tellR (x : DGor) (i : DItem) : DGor := { x with fTrace := x.fTrace ++ [i] }
def regR (x : DGor) (r : Int) : Int := if 0 ≤ r ∧ r < x.fRegs.length then x.fRegs.getD r.toNat 0 else 0
def overR (x : DGor) (y : Int) : DGor := if y = 0 then tellR { x with fState := 3 } ⟨9, 0, 0, false⟩ else tellR { x with fState := 4 } ⟨10, 0, y, false⟩
def newG (p a : Int) : DGor := if p < 0 ∨ okV a = false then ⟨0, 0, [], 0, []⟩ else ⟨p, 0, [a, 0, 0, 0, 0, 0], 1, []⟩

def JoinedT (w : World) (A : Option Addr) (n : Nat) (xs : List DItem) (v : DItem) (e : Ending) (w' : World) : Prop :=
  ∃ A' c', e = .returned (.slice A' (n + 1) c') ∧ OwnR layItem 164 w' (fun g => blkA A' = some g) A' (n + 1) c' (xs ++ [v]) ∧ (blkA A' = blkA A ∨ ∃ g, blkA A' = some g ∧ w.heap.size ≤ g) ∧
    (∀ k, k < w.heap.size → blkA A ≠ some k → w'.heap[k]? = w.heap[k]?) ∧ Below 0 w w'
end Go.Proofs.YtghkdkagnibkgaaGreatDoor
