
/- DCase, DSelect, DInstr, DProc, DProg, merged for claims. -/

import Derived.Test.YtegbnmlipajclaaGBase

namespace Go.Proofs.Ytegbnmlipajclaa
set_option linter.unusedSimpArgs false
set_option linter.unusedVariables false
open Go.RowKit

structure DCase where
  fSend : Bool
  fChan : Int
  fReg : Int
  fOk : Int
  fTo : Int
/-- How it lies: in its cells alone. -/
def layCase : Lay DCase := Lay.flat 5 (fun x => [.bool x.fSend, .int .i64 x.fChan, .int .i64 x.fReg, .int .i64 x.fOk, .int .i64 x.fTo]) (fun x => (Lit.int .i64 x.fChan).wf = true ∧ (Lit.int .i64 x.fReg).wf = true ∧ (Lit.int .i64 x.fOk).wf = true ∧ (Lit.int .i64 x.fTo).wf = true) (fun _ => rfl)
end Go.Proofs.Ytegbnmlipajclaa

namespace Go.Proofs.Ytegbnmlipajclaa
set_option linter.unusedSimpArgs false
set_option linter.unusedVariables false
open Go.RowKit

structure DSelect where
  fCases : List DCase
  fElse : Int
/-- How much it holds. -/
def szSelect (x : DSelect) : Nat := x.fCases.length

end Go.Proofs.Ytegbnmlipajclaa

namespace Go.Proofs.Ytegbnmlipajclaa
set_option linter.unusedSimpArgs false
set_option linter.unusedVariables false
open Go.RowKit

structure DInstr where
  fOp : Int
  fA : Int
  fB : Int
  fC : Int
/-- How it lies: in its cells alone. -/
def layInstr : Lay DInstr := Lay.flat 4 (fun x => [.int .i64 x.fOp, .int .i64 x.fA, .int .i64 x.fB, .int .i64 x.fC]) (fun x => (Lit.int .i64 x.fOp).wf = true ∧ (Lit.int .i64 x.fA).wf = true ∧ (Lit.int .i64 x.fB).wf = true ∧ (Lit.int .i64 x.fC).wf = true) (fun _ => rfl)
theorem opensInstr : Opens Try.prog 23 layInstr := by
  refine Opens.to (opens_struct Try.underlying23 (by kernel_rfl) (.cons rfl (opens_int Try.underlying3 (by kernel_rfl)) (.cons rfl (opens_int Try.underlying3 (by kernel_rfl)) (.cons rfl (opens_int Try.underlying3 (by kernel_rfl)) (.one rfl (opens_int Try.underlying3 (by kernel_rfl))))))) rfl fun w hi a vs h => ?_
  obtain ⟨a0, a1, a2, a3⟩ := a
  obtain ⟨_, _, rfl, s0, ⟨_, _, rfl, s1, ⟨_, _, rfl, s2, s3⟩⟩⟩ := h
  obtain ⟨rfl, h0⟩ := s0
  obtain ⟨rfl, h1⟩ := s1
  obtain ⟨rfl, h2⟩ := s2
  obtain ⟨rfl, h3⟩ := s3
  exact ⟨⟨a0, a1, a2, a3⟩, rfl, h0, h1, h2, h3⟩

set_option maxRecDepth 100000 in
set_option maxHeartbeats 1000000 in
theorem toInstr_any {w : World} {hi : Nat} {x : DInstr} {vs : List Value} (h : layInstr.see w hi x vs) :
    Calls Try.prog 6 #[.agg vs.toArray] w (MadeL layInstr w x) := by
  obtain ⟨rfl, hw⟩ := h
  have HW := Lib.hid hw
  clear hw
  show Calls Try.prog 6 #[.agg #[.int .i64 x.fOp, .int .i64 x.fA, .int .i64 x.fB, .int .i64 x.fC]] w (MadeL layInstr w x)
  go_enter Try.func6, Try.ntmps6
  go_wp2
  refine bodyPost_ret (v := .agg #[.int .i64 x.fOp, .int .i64 x.fA, .int .i64 x.fB, .int .i64 x.fC]) (by simp [results, Try.results6, go_sem]) rfl ?_
  exact ⟨_, rfl, ⟨rfl, HW.out⟩, by go_grown⟩

theorem infoInstr : (Try.prog.info? 25).map (fun i => (i.zero, i.size, i.bytes)) = some (some (.agg #[.int .i64 0, .int .i64 0, .int .i64 0, .int .i64 0]), 4, 32) := by kernel_rfl

end Go.Proofs.Ytegbnmlipajclaa

namespace Go.Proofs.Ytegbnmlipajclaa
set_option linter.unusedSimpArgs false
set_option linter.unusedVariables false
open Go.RowKit

structure DProc where
  fCode : List DInstr
/-- How it lies: its slices in blocks of their own. -/
def layProc : Lay DProc := (layInstr.slice 25).via fun x => x.fCode
theorem seeProc {w : World} {hi : Nat} {x : DProc} {vs : List Value} (h : layProc.see w hi x vs) : ∃ A0 n0 c0, vs = [.slice A0 n0 c0] ∧ (n0 ≤ c0 ∧ c0 ≤ maxLen ∧ SeenR layInstr w hi A0 n0 x.fCode) := by
  have s0 := h
  obtain ⟨A0, n0, c0, rfl, h0⟩ := s0
  exact ⟨A0, n0, c0, rfl, h0⟩
theorem ownProc {w : World} {F : Nat → Prop} {x : DProc} {A0 : Option Addr} {n0 c0 : Nat} {F0 : Nat → Prop} (h0 : OwnR layInstr 25 w F0 A0 n0 c0 x.fCode) (k0 : ∀ g, F0 g → F g) : layProc.own w F x [.slice A0 n0 c0] := by
  exact ⟨A0, n0, c0, rfl, h0.wide k0⟩

/-- How much it holds. -/
def szProc (x : DProc) : Nat := x.fCode.length

end Go.Proofs.Ytegbnmlipajclaa

namespace Go.Proofs.Ytegbnmlipajclaa
set_option linter.unusedSimpArgs false
set_option linter.unusedVariables false
open Go.RowKit

structure DProg where
  fCaps : List Int
  fMus : Int
  fSels : List DSelect
  fProcs : List DProc
/-- How much it holds. -/
def szProg (x : DProg) : Nat := x.fCaps.length + (x.fSels.length + (x.fSels.map szSelect).sum) + (x.fProcs.length + (x.fProcs.map szProc).sum)

end Go.Proofs.Ytegbnmlipajclaa
