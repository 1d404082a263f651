
/- Instr: how it lies, how it is opened as an argument; the contracts of the laws' helpers over it. Laid by wip/tools/gen.py. -/

import Derived.Test.YtllkbikhclfgpaaDoorDInt

namespace Go.Proofs.YtllkbikhclfgpaaDoor
set_option linter.unusedSimpArgs false
set_option linter.unusedVariables false
open Go.RowKit

structure DInstr where
  fOp : Int
  fA : Int
  fB : Int
  fC : Int
/-- How it lies: in its cells alone. -/
def layInstr : Lay DInstr := Lay.flat 4 (fun x => [.int .i64 x.fOp, .int .i64 x.fA, .int .i64 x.fB, .int .i64 x.fC]) (fun x => (Lit.int .i64 x.fOp).wf = true ∧ (Lit.int .i64 x.fA).wf = true ∧ (Lit.int .i64 x.fB).wf = true ∧ (Lit.int .i64 x.fC).wf = true) (fun _ => rfl)
theorem opensInstr : Opens Tryd.prog 23 layInstr := by
  refine Opens.to (opens_struct Tryd.underlying23 (by kernel_rfl) (.cons rfl (opens_int Tryd.underlying3 (by kernel_rfl)) (.cons rfl (opens_int Tryd.underlying3 (by kernel_rfl)) (.cons rfl (opens_int Tryd.underlying3 (by kernel_rfl)) (.one rfl (opens_int Tryd.underlying3 (by kernel_rfl))))))) rfl fun w hi a vs h => ?_
  obtain ⟨a0, a1, a2, a3⟩ := a
  obtain ⟨_, _, rfl, s0, ⟨_, _, rfl, s1, ⟨_, _, rfl, s2, s3⟩⟩⟩ := h
  obtain ⟨rfl, h0⟩ := s0
  obtain ⟨rfl, h1⟩ := s1
  obtain ⟨rfl, h2⟩ := s2
  obtain ⟨rfl, h3⟩ := s3
  exact ⟨⟨a0, a1, a2, a3⟩, rfl, h0, h1, h2, h3⟩

set_option maxRecDepth 100000 in
set_option maxHeartbeats 1000000 in
theorem eqInstr_same {w : World} (x : DInstr) : Calls Tryd.prog 12 #[.agg #[.int .i64 x.fOp, .int .i64 x.fA, .int .i64 x.fB, .int .i64 x.fC], .agg #[.int .i64 x.fOp, .int .i64 x.fA, .int .i64 x.fB, .int .i64 x.fC]] w (SaysTrue w) := by
  have hb0 : Below w.heap.size w ((w.alloc (.cells #[.int .i64 x.fOp, .int .i64 x.fA, .int .i64 x.fB, .int .i64 x.fC] 25)).alloc (.cells #[.int .i64 x.fOp, .int .i64 x.fA, .int .i64 x.fB, .int .i64 x.fC] 25)) := ((Below.refl _ _).alloc (Nat.le_refl _) _).alloc (by simp) _
  go_enter Tryd.func12, Tryd.ntmps12
  go_wp2
  repeat (go_quiet (fail); go_wp2)
  go_ret
  exact ⟨rfl, by first | exact hb0 | exact below_drawn hb0 _ | go_grown⟩

set_option maxRecDepth 100000 in
set_option maxHeartbeats 1000000 in
theorem toInstr_any {w : World} {hi : Nat} {x : DInstr} {vs : List Value} (h : layInstr.see w hi x vs) :
    Calls Tryd.prog 8 #[.agg vs.toArray] w (MadeL layInstr w x) := by
  obtain ⟨rfl, hw⟩ := h
  have HW := Lib.hid hw
  clear hw
  show Calls Tryd.prog 8 #[.agg #[.int .i64 x.fOp, .int .i64 x.fA, .int .i64 x.fB, .int .i64 x.fC]] w (MadeL layInstr w x)
  go_enter Tryd.func8, Tryd.ntmps8
  go_wp2
  refine bodyPost_ret (v := .agg #[.int .i64 x.fOp, .int .i64 x.fA, .int .i64 x.fB, .int .i64 x.fC]) (by simp [results, Tryd.results8, go_sem]) rfl ?_
  exact ⟨_, rfl, ⟨rfl, HW.out⟩, by go_grown⟩

theorem infoInstr : (Tryd.prog.info? 25).map (fun i => (i.zero, i.size, i.bytes)) = some (some (.agg #[.int .i64 0, .int .i64 0, .int .i64 0, .int .i64 0]), 4, 32) := by kernel_rfl

end Go.Proofs.YtllkbikhclfgpaaDoor
