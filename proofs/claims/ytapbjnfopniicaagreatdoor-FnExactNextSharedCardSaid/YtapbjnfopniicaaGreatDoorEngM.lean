
/- Engines: what is said of them. Mathematics alone. -/

import Derived.Test.YtapbjnfopniicaaGreatDoorGDEng

import Derived.Test.YtapbjnfopniicaaGreatDoorDPlace

import Derived.Test.YtapbjnfopniicaaGreatDoorGTrace

import Derived.Test.YtapbjnfopniicaaGreatDoorGChanI

import Derived.Test.YtapbjnfopniicaaGreatDoorMutM

import Derived.Test.YtapbjnfopniicaaGreatDoorOkProgS

import Derived.Test.YtapbjnfopniicaaGreatDoorInstrs

import Derived.Test.YtapbjnfopniicaaGreatDoorGGorX

namespace Go.Proofs.YtapbjnfopniicaaGreatDoor
set_option linter.unusedSimpArgs false
set_option linter.unusedVariables false
open Go.RowKit

/-- The instruction at which a goroutine stands. -/
def atI (p : DProg) (g : DGor) : DInstr := (((p.fProcs[g.fProc.toNat]?).getD ⟨[]⟩).fCode[g.fPc.toNat]?).getD ⟨0, 0, 0, 0⟩
def selI (p : DProg) (i : DInstr) : DSelect := (p.fSels[i.fA.toNat]?).getD ⟨[], 0⟩
/-- It may wait there. -/
def mayB (p : DProg) (g : DGor) : Bool := decide ((atI p g).fOp = 8) || (decide ((atI p g).fOp = 9) || (decide ((atI p g).fOp = 12) || (decide ((atI p g).fOp = 11) && decide ((selI p (atI p g)).fElse < 0))))

/-- The place of a case. -/
def casePl (g : DGor) (n k : Int) (c : DCase) : List DPlace := if c.fChan < 0 then [] else [⟨false, c.fChan, c.fSend, n, k, if c.fSend then regR g c.fReg else 0⟩]
def casesPl (g : DGor) (n : Int) (cs : List DCase) (k : Nat) : List DPlace := (List.range k).flatMap fun (j : Nat) => match cs[j]? with | some c => casePl g n j c | none => []
/-- The places of a goroutine by its instruction. -/
def placesL (p : DProg) (g : DGor) (n : Int) : List DPlace :=
  if (atI p g).fOp = 8 then (if (atI p g).fA < 0 then [] else [⟨false, (atI p g).fA, true, n, -1, regR g (atI p g).fB⟩])
  else if (atI p g).fOp = 9 then (if (atI p g).fA < 0 then [] else [⟨false, (atI p g).fA, false, n, -1, 0⟩])
  else if (atI p g).fOp = 11 then casesPl g n (selI p (atI p g)).fCases (selI p (atI p g)).fCases.length
  else if (atI p g).fOp = 12 then [⟨true, (atI p g).fA, false, n, -1, 0⟩]
  else []
def toldOf (p : DProg) (g : DGor) (n : Int) : List DPlace := if g.fState = 2 then placesL p g n else []
def gorOkB (p : DProg) (g : DGor) : Bool := progOkB p && gorB (instrsZ p g.fProc) g
def placesB (p : DProg) (g : DGor) (n : Int) : List DPlace := if gorOkB p g = true ∧ 0 ≤ n then toldOf p g n else []

/-- All that tell, all that are found. -/
def toldTo (p : DProg) (gs : List DGor) (k : Nat) : List DPlace := (List.range k).flatMap fun (j : Nat) => match gs[j]? with | some g => toldOf p g j | none => []
def plW (o : Int) (s : Bool) (w : DWaiter) : DPlace := ⟨false, o, s, w.fG, w.fCase, w.fVal⟩
def plM (o g : Int) : DPlace := ⟨true, o, false, g, -1, 0⟩
def atChan (k : Int) (c : DChan) : List DPlace := c.fSends.map (plW k true) ++ c.fRecvs.map (plW k false)
def foundC (cs : List DChan) (k : Nat) : List DPlace := (List.range k).flatMap fun (j : Nat) => match cs[j]? with | some c => atChan j c | none => []
def foundM (ms : List DMutex) (k : Nat) : List DPlace := (List.range k).flatMap fun (j : Nat) => match ms[j]? with | some m => m.fWait.map (plM j) | none => []
def foundL (e : DEng) : List DPlace := foundC e.fChans e.fChans.length ++ foundM e.fMus e.fMus.length
def toldL (p : DProg) (e : DEng) : List DPlace := toldTo p e.fGs e.fGs.length

def gorE (p : DProg) (g : DGor) : Bool := gorB (instrsZ p g.fProc) g && (!decide (g.fState = 2) || mayB p g)
def gorsB (p : DProg) (gs : List DGor) : Bool := decide (1 ≤ gs.length ∧ gs.length ≤ 10) && gs.all (gorE p)
def chanE (p : DProg) (cs : List DChan) (j : Nat) : Bool := match cs[j]?, p.fCaps[j]? with | some c, some v => chanOkB c && decide (c.fCap = v) | _, _ => false
def chansB (p : DProg) (cs : List DChan) : Bool := decide (cs.length = p.fCaps.length) && (List.range cs.length).all (chanE p cs)
def musE (n : Nat) (m : DMutex) : Bool := mutOkB m && decide (m.fOwner < (n : Int))
def musB (p : DProg) (n : Nat) (ms : List DMutex) : Bool := decide ((ms.length : Int) = p.fMus) && ms.all (musE n)
def engB (p : DProg) (e : DEng) : Bool := progOkB p && (gorsB p e.fGs && (chansB p e.fChans && (musB p e.fGs.length e.fMus && decide ((toldL p e).Perm (foundL e)))))

/-- A new engine. -/
def newE (p : DProg) : DEng := if progOkB p = true then ⟨[newG 0 0], p.fCaps.map fun v => ⟨v, [], [], [], false⟩, List.replicate p.fMus.toNat newM⟩ else ⟨[], [], []⟩

theorem flat_step {α : Type} (f : Nat → List α) (k : Nat) : (List.range (k + 1)).flatMap f = (List.range k).flatMap f ++ f k := by
  rw [List.range_succ, List.flatMap_append]
  simp

/-- Two lists of places have the same places, each as often: as the model asks. -/
theorem same_perm (a b : List DPlace) : (a.all (fun x => a.count x == b.count x) && (a.length == b.length)) = decide (a.Perm b) := by
  by_cases hp : a.Perm b
  · rw [decide_eq_true hp]
    simp only [Bool.and_eq_true, List.all_eq_true, beq_iff_eq]
    exact ⟨fun x _ => List.Perm.count_eq hp x, hp.length_eq⟩
  · rw [decide_eq_false hp, Bool.eq_false_iff]
    intro h
    simp only [Bool.and_eq_true, List.all_eq_true, beq_iff_eq] at h
    obtain ⟨h1, h2⟩ := h
    apply hp
    have hq : a.Perm (b.filter fun x => decide (x ∈ a)) := by
      rw [List.perm_iff_count]
      intro x
      by_cases hx : x ∈ a
      · rw [h1 x hx, List.count_filter (by simpa using hx)]
      · rw [List.count_eq_zero.2 hx, eq_comm, List.count_eq_zero]
        intro hm
        exact hx (by simpa using (List.mem_filter.1 hm).2)
    have hl : (b.filter fun x => decide (x ∈ a)).length = b.length := by rw [← hq.length_eq, h2]
    have hall := List.length_filter_eq_length_iff.1 hl
    rw [List.filter_eq_self.2 hall] at hq
    exact hq
/-- As the program asks. -/
theorem even_perm (a b : List DPlace) : a.Perm b ↔ ∀ x, (a.count x : Int) - (b.count x : Int) = 0 := by
  rw [List.perm_iff_count]
  exact ⟨fun h x => by rw [h x]; omega, fun h x => by have := h x; omega⟩
end Go.Proofs.YtapbjnfopniicaaGreatDoor
