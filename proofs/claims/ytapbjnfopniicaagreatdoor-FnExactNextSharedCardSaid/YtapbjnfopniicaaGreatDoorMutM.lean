
/- When a mutex is right; a new one. As sentences about data. -/

import Derived.Test.YtapbjnfopniicaaGreatDoorGDEng

import Derived.Test.YtapbjnfopniicaaGreatDoorQueue

namespace Go.Proofs.YtapbjnfopniicaaGreatDoor
set_option linter.unusedSimpArgs false
set_option linter.unusedVariables false
open Go.RowKit

/-- The one at the place k may wait. -/
def okAtM (o : Int) (l : List Int) (k : Nat) : Bool := match l[k]? with
  | some d => decide (0 ≤ d) && !(o :: l.take k).contains d
  | none => false
theorem okAtM_of {o : Int} {l : List Int} {k : Nat} {d : Int} (h : l[k]? = some d) : okAtM o l k = (decide (0 ≤ d) && !(o :: l.take k).contains d) := by
  unfold okAtM
  rw [h]
def ownB (o : Int) (n : Nat) : Bool := decide (-1 ≤ o ∧ (o = -1 → n = 0))
def mutOkB (x : DMutex) : Bool := ownB x.fOwner x.fWait.length && (List.range x.fWait.length).all (okAtM x.fOwner x.fWait)

def newM : DMutex := ⟨-1, []⟩
theorem own_newM (w : World) (F : Nat → Prop) : layMutex.own w F newM [.int .i64 (-1), .slice none 0 0] :=
  ownMutex (x := newM) (by decide) (TailR.of (ownR_nil _ _ _)) (fun _ h => h.elim)
theorem see_newM (w : World) (hi : Nat) : layMutex.see w hi newM [.int .i64 (-1), .slice none 0 0] :=
  layMutex.seen (hi := hi) (own_newM w (fun _ => False)) fun g hg => hg.elim

end Go.Proofs.YtapbjnfopniicaaGreatDoor
