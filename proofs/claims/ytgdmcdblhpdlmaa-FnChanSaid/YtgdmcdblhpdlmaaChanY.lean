
/- What is received, as a pure function; how what is answered lies. -/

import Derived.Test.YtgdmcdblhpdlmaaChanX

namespace Go.Proofs.Ytgdmcdblhpdlmaa
set_option linter.unusedSimpArgs false
set_option linter.unusedVariables false
open Go.RowKit

def recvX (c : DChan) : DChan × Int × Bool × DWaiter :=
  match c.fSends with
  | [] => match c.fBuf with
    | [] => (⟨c.fCap, [], [], c.fRecvs, c.fClosed⟩, 0, false, noneW)
    | v :: vs => (⟨c.fCap, vs, [], c.fRecvs, c.fClosed⟩, v, true, noneW)
  | s :: ss => match c.fBuf ++ [s.fVal] with
    | [] => (⟨c.fCap, [], ss, c.fRecvs, c.fClosed⟩, 0, false, s)
    | v :: vs => (⟨c.fCap, vs, ss, c.fRecvs, c.fClosed⟩, v, true, s)
/-- What RecvFrom answers. -/
def recvR (c : DChan) : DChan × Int × Bool × DWaiter × Int := if recvC c = 0 then ((recvX c).1, (recvX c).2.1, (recvX c).2.2.1, (recvX c).2.2.2, 0) else (zeroC, 0, false, zeroW, recvC c)

def MadeD (w : World) (r : DChan × Int × Bool × DWaiter × Int) (e : Ending) (w' : World) : Prop :=
  ∃ vs, e = .returned (.tuple #[.agg vs.toArray, .int .i64 r.2.1, .bool r.2.2.1, .agg #[.int .i64 r.2.2.2.1.fG, .int .i64 r.2.2.2.1.fCase, .int .i64 r.2.2.2.1.fVal], .int .i64 r.2.2.2.2]) ∧ layChan.own w' (fun g => w.heap.size ≤ g ∧ g < w'.heap.size) r.1 vs ∧ Below w.heap.size w w'

theorem seenR_wf {α : Type} {w : World} {hi size n : Nat} {A : Option Addr} {cells : α → List Value} {wf : α → Prop} {hl : ∀ x, (cells x).length = size} {xs : List α} (h : SeenR (Lay.flat size cells wf hl) w hi A n xs) : ∀ x ∈ xs, wf x := by
  obtain ⟨hlen, rfl | ⟨g, o, rfl, hg, f, hf⟩⟩ := h
  · intro x hx; simp at hx
  · intro x hx
    obtain ⟨i, hi⟩ := List.mem_iff_getElem?.1 hx
    exact (hf i x hi).1.2
theorem wf_rows {w : World} {hi : Nat} {x : DChan} {vs : List Value} (h : layChan.see w hi x vs) : (∀ v ∈ x.fBuf, (Lit.int .i64 v).wf = true) ∧ (∀ d ∈ x.fSends, (Lit.int .i64 d.fVal).wf = true) ∧ ∀ d ∈ x.fRecvs, (Lit.int .i64 d.fVal).wf = true := by
  obtain ⟨A1, n1, c1, A2, n2, c2, A3, n3, c3, rfl, -, ⟨-, -, s1⟩, ⟨-, -, s2⟩, ⟨-, -, s3⟩⟩ := seeChan h
  exact ⟨seenR_wf s1, fun d hd => (seenR_wf s2 d hd).2.2, fun d hd => (seenR_wf s3 d hd).2.2⟩
end Go.Proofs.Ytgdmcdblhpdlmaa
