
/- What is sent, received and closed, as pure functions; how what is answered lies. -/

import Derived.Test.YtghkdkagnibkgaaQueue

import Derived.Test.YtghkdkagnibkgaaGChanI

namespace Go.Proofs.Ytghkdkagnibkgaa
set_option linter.unusedSimpArgs false
set_option linter.unusedVariables false
open Go.RowKit

def zeroC : DChan := ⟨0, [], [], [], false⟩
def zeroW : DWaiter := ⟨0, 0, 0⟩
def noneW : DWaiter := ⟨-1, 0, 0⟩
def sendC (c : DChan) (v : Int) : Int := if !(chanOkB c && okV v) then 1 else if c.fClosed then 2 else if !takesB c.fBuf.length c.fRecvs.length c.fCap c.fClosed then 3 else 0
def recvC (c : DChan) : Int := if !chanOkB c then 1 else if !givesB c.fBuf.length c.fSends.length c.fClosed then 3 else 0
def sendX (c : DChan) (v : Int) : DChan × DWaiter :=
  match c.fRecvs with
  | [] => (⟨c.fCap, c.fBuf ++ [v], c.fSends, [], c.fClosed⟩, noneW)
  | r :: rs => (⟨c.fCap, c.fBuf, c.fSends, rs, c.fClosed⟩, r)
/-- What SendTo answers. -/
def sendR (c : DChan) (v : Int) : DChan × DWaiter × Int := if sendC c v = 0 then ((sendX c v).1, (sendX c v).2, 0) else (zeroC, zeroW, sendC c v)

def MadeC (w : World) (r : DChan × DWaiter × Int) (e : Ending) (w' : World) : Prop :=
  ∃ vs, e = .returned (.tuple #[.agg vs.toArray, .agg #[.int .i64 r.2.1.fG, .int .i64 r.2.1.fCase, .int .i64 r.2.1.fVal], .int .i64 r.2.2]) ∧ layChan.own w' (fun g => w.heap.size ≤ g ∧ g < w'.heap.size) r.1 vs ∧ Below w.heap.size w w'

theorem own_zeroC (w : World) (F : Nat → Prop) : layChan.own w F zeroC [.int .i64 0, .slice none 0 0, .slice none 0 0, .slice none 0 0, .bool false] :=
  ownChan (x := zeroC) (by decide) (TailR.of (ownR_nil _ _ _)) (TailR.of (ownR_nil _ _ _)) (TailR.of (ownR_nil _ _ _)) (fun _ h => h.elim) (fun _ h => h.elim) (fun _ h => h.elim) (fun _ h => h.elim) (fun _ h => h.elim) (fun _ h => h.elim)
theorem wf_cap {w : World} {hi : Nat} {x : DChan} {vs : List Value} (h : layChan.see w hi x vs) : (Lit.int .i64 x.fCap).wf = true := by
  obtain ⟨_, _, _, _, _, _, _, _, _, _, hw, _⟩ := seeChan h
  exact hw
end Go.Proofs.Ytghkdkagnibkgaa
