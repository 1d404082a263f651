
/- DCase, DSelect, DInstr, DProc, DProg, merged for claims. -/

import Derived.Test.YtghkdkagnibkgaaDInt

namespace Go.Proofs.Ytghkdkagnibkgaa
set_option linter.unusedSimpArgs false
set_option linter.unusedVariables false
open Go.RowKit

structure DCase where
  fSend : Bool
  fChan : Int
  fReg : Int
  fOk : Int
  fTo : Int
/-- How it lies: in its cells alone. -/
def layCase : Lay DCase := Lay.flat 5 (fun x => [.bool x.fSend, .int .i64 x.fChan, .int .i64 x.fReg, .int .i64 x.fOk, .int .i64 x.fTo]) (fun x => (Lit.int .i64 x.fChan).wf = true ∧ (Lit.int .i64 x.fReg).wf = true ∧ (Lit.int .i64 x.fOk).wf = true ∧ (Lit.int .i64 x.fTo).wf = true) (fun _ => rfl)
theorem opensCase : Opens Try.prog 28 layCase := by
  refine Opens.to (opens_struct Try.underlying28 (by kernel_rfl) (.cons rfl (opens_bool Try.underlying4 (by kernel_rfl)) (.cons rfl (opens_int Try.underlying3 (by kernel_rfl)) (.cons rfl (opens_int Try.underlying3 (by kernel_rfl)) (.cons rfl (opens_int Try.underlying3 (by kernel_rfl)) (.one rfl (opens_int Try.underlying3 (by kernel_rfl)))))))) rfl fun w hi a vs h => ?_
  obtain ⟨a0, a1, a2, a3, a4⟩ := a
  obtain ⟨_, _, rfl, s0, ⟨_, _, rfl, s1, ⟨_, _, rfl, s2, ⟨_, _, rfl, s3, s4⟩⟩⟩⟩ := h
  obtain ⟨rfl, h0⟩ := s0
  obtain ⟨rfl, h1⟩ := s1
  obtain ⟨rfl, h2⟩ := s2
  obtain ⟨rfl, h3⟩ := s3
  obtain ⟨rfl, h4⟩ := s4
  exact ⟨⟨a0, a1, a2, a3, a4⟩, rfl, h1, h2, h3, h4⟩

set_option maxRecDepth 100000 in
set_option maxHeartbeats 1000000 in
theorem toCase_any {w : World} {hi : Nat} {x : DCase} {vs : List Value} (h : layCase.see w hi x vs) :
    Calls Try.prog 7 #[.agg vs.toArray] w (MadeL layCase w x) := by
  obtain ⟨rfl, hw⟩ := h
  have HW := Lib.hid hw
  clear hw
  show Calls Try.prog 7 #[.agg #[.bool x.fSend, .int .i64 x.fChan, .int .i64 x.fReg, .int .i64 x.fOk, .int .i64 x.fTo]] w (MadeL layCase w x)
  go_enter Try.func7, Try.ntmps7
  go_wp2
  refine bodyPost_ret (v := .agg #[.bool x.fSend, .int .i64 x.fChan, .int .i64 x.fReg, .int .i64 x.fOk, .int .i64 x.fTo]) (by simp [results, Try.results7, go_sem]) rfl ?_
  exact ⟨_, rfl, ⟨rfl, HW.out⟩, by go_grown⟩

theorem infoCase : (Try.prog.info? 37).map (fun i => (i.zero, i.size, i.bytes)) = some (some (.agg #[.bool false, .int .i64 0, .int .i64 0, .int .i64 0, .int .i64 0]), 5, 40) := by kernel_rfl

end Go.Proofs.Ytghkdkagnibkgaa

namespace Go.Proofs.Ytghkdkagnibkgaa
set_option linter.unusedSimpArgs false
set_option linter.unusedVariables false
open Go.RowKit

structure DSelect where
  fCases : List DCase
  fElse : Int
/-- How it lies: its slices in blocks of their own. -/
def laySelect : Lay DSelect := ((layCase.slice 37).pair Lay.int).via fun x => (x.fCases, x.fElse)
theorem seeSelect {w : World} {hi : Nat} {x : DSelect} {vs : List Value} (h : laySelect.see w hi x vs) : ∃ A0 n0 c0, vs = [.slice A0 n0 c0, .int .i64 x.fElse] ∧ (n0 ≤ c0 ∧ c0 ≤ maxLen ∧ SeenR layCase w hi A0 n0 x.fCases) ∧ (Lit.int .i64 x.fElse).wf = true := by
  obtain ⟨_, _, rfl, s0, s1⟩ := h
  obtain ⟨A0, n0, c0, rfl, h0⟩ := s0
  obtain ⟨rfl, h1⟩ := s1
  exact ⟨A0, n0, c0, rfl, h0, h1⟩
theorem ownSelect {w : World} {F : Nat → Prop} {x : DSelect} {A0 : Option Addr} {n0 c0 : Nat} {F0 : Nat → Prop} (h0 : OwnR layCase 37 w F0 A0 n0 c0 x.fCases) (h1 : (Lit.int .i64 x.fElse).wf = true) (k0 : ∀ g, F0 g → F g) : laySelect.own w F x [.slice A0 n0 c0, .int .i64 x.fElse] := by
  exact ⟨_, _, F0, (fun _ => False), rfl, ⟨A0, n0, c0, rfl, h0⟩, ⟨rfl, h1⟩, k0, (fun _ h => h.elim), (fun g h h2 => h2)⟩

/-- How much it holds. -/
def szSelect (x : DSelect) : Nat := x.fCases.length

end Go.Proofs.Ytghkdkagnibkgaa

namespace Go.Proofs.Ytghkdkagnibkgaa
set_option linter.unusedSimpArgs false
set_option linter.unusedVariables false
open Go.RowKit

structure DInstr where
  fOp : Int
  fA : Int
  fB : Int
  fC : Int
/-- How it lies: in its cells alone. -/
def layInstr : Lay DInstr := Lay.flat 4 (fun x => [.int .i64 x.fOp, .int .i64 x.fA, .int .i64 x.fB, .int .i64 x.fC]) (fun x => (Lit.int .i64 x.fOp).wf = true ∧ (Lit.int .i64 x.fA).wf = true ∧ (Lit.int .i64 x.fB).wf = true ∧ (Lit.int .i64 x.fC).wf = true) (fun _ => rfl)
end Go.Proofs.Ytghkdkagnibkgaa

namespace Go.Proofs.Ytghkdkagnibkgaa
set_option linter.unusedSimpArgs false
set_option linter.unusedVariables false
open Go.RowKit

structure DProc where
  fCode : List DInstr
/-- How much it holds. -/
def szProc (x : DProc) : Nat := x.fCode.length

end Go.Proofs.Ytghkdkagnibkgaa

namespace Go.Proofs.Ytghkdkagnibkgaa
set_option linter.unusedSimpArgs false
set_option linter.unusedVariables false
open Go.RowKit

structure DProg where
  fCaps : List Int
  fMus : Int
  fSels : List DSelect
  fProcs : List DProc
/-- How much it holds. -/
def szProg (x : DProg) : Nat := x.fCaps.length + (x.fSels.length + (x.fSels.map szSelect).sum) + (x.fProcs.length + (x.fProcs.map szProc).sum)

end Go.Proofs.Ytghkdkagnibkgaa
