
/- Proc: how it lies, how it is opened as an argument; the contracts of the laws' helpers over it. Laid by wip/tools/gen.py. -/

import Derived.Test.YtllkbikhclfgpaaDoorDInstr

namespace Go.Proofs.YtllkbikhclfgpaaDoor
set_option linter.unusedSimpArgs false
set_option linter.unusedVariables false
open Go.RowKit

structure DProc where
  fCode : List DInstr
/-- How it lies: its slices in blocks of their own. -/
def layProc : Lay DProc := (layInstr.slice 25).via fun x => x.fCode
theorem seeProc {w : World} {hi : Nat} {x : DProc} {vs : List Value} (h : layProc.see w hi x vs) : ∃ A0 n0 c0, vs = [.slice A0 n0 c0] ∧ (n0 ≤ c0 ∧ c0 ≤ maxLen ∧ SeenR layInstr w hi A0 n0 x.fCode) := by
  have s0 := h
  obtain ⟨A0, n0, c0, rfl, h0⟩ := s0
  exact ⟨A0, n0, c0, rfl, h0⟩
theorem ownProc {w : World} {F : Nat → Prop} {x : DProc} {A0 : Option Addr} {n0 c0 : Nat} {F0 : Nat → Prop} (h0 : OwnR layInstr 25 w F0 A0 n0 c0 x.fCode) (k0 : ∀ g, F0 g → F g) : layProc.own w F x [.slice A0 n0 c0] := by
  exact ⟨A0, n0, c0, rfl, h0.wide k0⟩

/-- How much it holds. -/
def szProc (x : DProc) : Nat := x.fCode.length

end Go.Proofs.YtllkbikhclfgpaaDoor
