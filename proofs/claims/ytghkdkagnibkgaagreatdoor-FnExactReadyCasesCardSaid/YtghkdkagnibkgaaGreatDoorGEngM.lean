
/- DPlace, EngM, EngX, StatesM, States, merged for claims. -/

import Derived.Test.YtghkdkagnibkgaaGreatDoorGBase

import Derived.Test.YtghkdkagnibkgaaGreatDoorGDEng

import Derived.Test.YtghkdkagnibkgaaGreatDoorGTrace

import Derived.Test.YtghkdkagnibkgaaGreatDoorGChanI

import Derived.Test.YtghkdkagnibkgaaGreatDoorGQueue

import Derived.Test.YtghkdkagnibkgaaGreatDoorOkProgS

import Derived.Test.YtghkdkagnibkgaaGreatDoorInstrs

import Derived.Test.YtghkdkagnibkgaaGreatDoorGGorX

import Derived.Test.YtghkdkagnibkgaaGreatDoorGInv

import Derived.Deep.Cut

namespace Go.Proofs.YtghkdkagnibkgaaGreatDoor
set_option linter.unusedSimpArgs false
set_option linter.unusedVariables false
open Go.RowKit

structure DPlace where
  fMutex : Bool
  fObj : Int
  fSend : Bool
  fG : Int
  fCase : Int
  fVal : Int
deriving DecidableEq
/-- How it lies: in its cells alone. -/
def layPlace : Lay DPlace := Lay.flat 6 (fun x => [.bool x.fMutex, .int .i64 x.fObj, .bool x.fSend, .int .i64 x.fG, .int .i64 x.fCase, .int .i64 x.fVal]) (fun x => (Lit.int .i64 x.fObj).wf = true ∧ (Lit.int .i64 x.fG).wf = true ∧ (Lit.int .i64 x.fCase).wf = true ∧ (Lit.int .i64 x.fVal).wf = true) (fun _ => rfl)
end Go.Proofs.YtghkdkagnibkgaaGreatDoor

namespace Go.Proofs.YtghkdkagnibkgaaGreatDoor
set_option linter.unusedSimpArgs false
set_option linter.unusedVariables false
open Go.RowKit

/-- The instruction at which a goroutine stands. -/
def atI (p : DProg) (g : DGor) : DInstr := (((p.fProcs[g.fProc.toNat]?).getD ⟨[]⟩).fCode[g.fPc.toNat]?).getD ⟨0, 0, 0, 0⟩
def selI (p : DProg) (i : DInstr) : DSelect := (p.fSels[i.fA.toNat]?).getD ⟨[], 0⟩
/-- It may wait there. -/
def mayB (p : DProg) (g : DGor) : Bool := decide ((atI p g).fOp = 8) || (decide ((atI p g).fOp = 9) || (decide ((atI p g).fOp = 12) || (decide ((atI p g).fOp = 11) && decide ((selI p (atI p g)).fElse < 0))))

/-- The place of a case. -/
def casePl (g : DGor) (n k : Int) (c : DCase) : List DPlace := if c.fChan < 0 then [] else [⟨false, c.fChan, c.fSend, n, k, if c.fSend then regR g c.fReg else 0⟩]
def casesPl (g : DGor) (n : Int) (cs : List DCase) (k : Nat) : List DPlace := (List.range k).flatMap fun (j : Nat) => match cs[j]? with | some c => casePl g n j c | none => []
/-- The places of a goroutine by its instruction. -/
def placesL (p : DProg) (g : DGor) (n : Int) : List DPlace :=
  if (atI p g).fOp = 8 then (if (atI p g).fA < 0 then [] else [⟨false, (atI p g).fA, true, n, -1, regR g (atI p g).fB⟩])
  else if (atI p g).fOp = 9 then (if (atI p g).fA < 0 then [] else [⟨false, (atI p g).fA, false, n, -1, 0⟩])
  else if (atI p g).fOp = 11 then casesPl g n (selI p (atI p g)).fCases (selI p (atI p g)).fCases.length
  else if (atI p g).fOp = 12 then [⟨true, (atI p g).fA, false, n, -1, 0⟩]
  else []
def toldOf (p : DProg) (g : DGor) (n : Int) : List DPlace := if g.fState = 2 then placesL p g n else []
def gorOkB (p : DProg) (g : DGor) : Bool := progOkB p && gorB (instrsZ p g.fProc) g
def placesB (p : DProg) (g : DGor) (n : Int) : List DPlace := if gorOkB p g = true ∧ 0 ≤ n then toldOf p g n else []

/-- All that tell, all that are found. -/
def toldTo (p : DProg) (gs : List DGor) (k : Nat) : List DPlace := (List.range k).flatMap fun (j : Nat) => match gs[j]? with | some g => toldOf p g j | none => []
def plW (o : Int) (s : Bool) (w : DWaiter) : DPlace := ⟨false, o, s, w.fG, w.fCase, w.fVal⟩
def plM (o g : Int) : DPlace := ⟨true, o, false, g, -1, 0⟩
def atChan (k : Int) (c : DChan) : List DPlace := c.fSends.map (plW k true) ++ c.fRecvs.map (plW k false)
def foundC (cs : List DChan) (k : Nat) : List DPlace := (List.range k).flatMap fun (j : Nat) => match cs[j]? with | some c => atChan j c | none => []
def foundM (ms : List DMutex) (k : Nat) : List DPlace := (List.range k).flatMap fun (j : Nat) => match ms[j]? with | some m => m.fWait.map (plM j) | none => []
def foundL (e : DEng) : List DPlace := foundC e.fChans e.fChans.length ++ foundM e.fMus e.fMus.length
def toldL (p : DProg) (e : DEng) : List DPlace := toldTo p e.fGs e.fGs.length

def gorE (p : DProg) (g : DGor) : Bool := gorB (instrsZ p g.fProc) g && (!decide (g.fState = 2) || mayB p g)
def gorsB (p : DProg) (gs : List DGor) : Bool := decide (1 ≤ gs.length ∧ gs.length ≤ 10) && gs.all (gorE p)
def chanE (p : DProg) (cs : List DChan) (j : Nat) : Bool := match cs[j]?, p.fCaps[j]? with | some c, some v => chanOkB c && decide (c.fCap = v) | _, _ => false
def chansB (p : DProg) (cs : List DChan) : Bool := decide (cs.length = p.fCaps.length) && (List.range cs.length).all (chanE p cs)
def musE (n : Nat) (m : DMutex) : Bool := mutOkB m && decide (m.fOwner < (n : Int))
def musB (p : DProg) (n : Nat) (ms : List DMutex) : Bool := decide ((ms.length : Int) = p.fMus) && ms.all (musE n)
def engB (p : DProg) (e : DEng) : Bool := progOkB p && (gorsB p e.fGs && (chansB p e.fChans && (musB p e.fGs.length e.fMus && decide ((toldL p e).Perm (foundL e)))))

/-- A new engine. -/
def newE (p : DProg) : DEng := if progOkB p = true then ⟨[newG 0 0], p.fCaps.map fun v => ⟨v, [], [], [], false⟩, List.replicate p.fMus.toNat newM⟩ else ⟨[], [], []⟩

theorem flat_step {α : Type} (f : Nat → List α) (k : Nat) : (List.range (k + 1)).flatMap f = (List.range k).flatMap f ++ f k := by
  rw [List.range_succ, List.flatMap_append]
  simp

/-- Two lists of places have the same places, each as often: as the model asks. -/
theorem same_perm (a b : List DPlace) : (a.all (fun x => a.count x == b.count x) && (a.length == b.length)) = decide (a.Perm b) := by
  by_cases hp : a.Perm b
  · rw [decide_eq_true hp]
    simp only [Bool.and_eq_true, List.all_eq_true, beq_iff_eq]
    exact ⟨fun x _ => List.Perm.count_eq hp x, hp.length_eq⟩
  · rw [decide_eq_false hp, Bool.eq_false_iff]
    intro h
    simp only [Bool.and_eq_true, List.all_eq_true, beq_iff_eq] at h
    obtain ⟨h1, h2⟩ := h
    apply hp
    have hq : a.Perm (b.filter fun x => decide (x ∈ a)) := by
      rw [List.perm_iff_count]
      intro x
      by_cases hx : x ∈ a
      · rw [h1 x hx, List.count_filter (by simpa using hx)]
      · rw [List.count_eq_zero.2 hx, eq_comm, List.count_eq_zero]
        intro hm
        exact hx (by simpa using (List.mem_filter.1 hm).2)
    have hl : (b.filter fun x => decide (x ∈ a)).length = b.length := by rw [← hq.length_eq, h2]
    have hall := List.length_filter_eq_length_iff.1 hl
    rw [List.filter_eq_self.2 hall] at hq
    exact hq
/-- As the program asks. -/
theorem even_perm (a b : List DPlace) : a.Perm b ↔ ∀ x, (a.count x : Int) - (b.count x : Int) = 0 := by
  rw [List.perm_iff_count]
  exact ⟨fun h x => by rw [h x]; omega, fun h x => by have := h x; omega⟩
end Go.Proofs.YtghkdkagnibkgaaGreatDoor

namespace Go.Proofs.YtghkdkagnibkgaaGreatDoor
set_option linter.unusedSimpArgs false
set_option linter.unusedVariables false
open Go.RowKit

theorem seen_block (w : World) (xs : List Value) (t : TypeId) : Seen (w.alloc (.cells xs.toArray t)) (w.heap.size + 1) xs.length (some ⟨w.heap.size, 0, none⟩) 1 xs := by
  refine ⟨by simp, .inr ⟨w.heap.size, 0, rfl, by omega, fun j u hu => ?_⟩⟩
  rw [Nat.zero_add]
  exact box_cell (box_new w xs.toArray t) (by simpa using hu)
theorem Own.turnedF {w w' : World} {lo hi size n c : Nat} {e : TypeId} {A : Option Addr} {xs : List Value} {G : Nat → Prop} (h : Own w lo hi e size A n c xs) (ht : TurnedF G w w') (hG : ∀ g, lo ≤ g → g < hi → ¬ G g) : Own w' lo hi e size A n c xs :=
  h.keep fun k h1 h2 h3 => ht.block k h3 (hG k h1 h2)
theorem Own.setCell {w : World} {lo hi size n c g o : Nat} {e : TypeId} {A : Option Addr} {xs : List Value} (h : Own w lo hi e size A n c xs) (hg : g < lo ∨ hi ≤ g) (u : Value) : Own (w.setCell ⟨g, o, none⟩ u) lo hi e size A n c xs :=
  h.keep fun k h1 h2 h3 => Below.heap_setCell w ⟨g, o, none⟩ u k (by show k ≠ g; omega)

/-- The cells of a new channel, of a new mutex. -/
def chC (v : Int) : List Value := [.int .i64 v, .slice none 0 0, .slice none 0 0, .slice none 0 0, .bool false]
def muC : List Value := [.int .i64 (-1), .slice none 0 0]
def newCh (v : Int) : DChan := ⟨v, [], [], [], false⟩
section

variable {P : Program} {ops : Array Oper} {o : Oper} {a : Act} {w : World} {K : Act → World → Prop} {Q : Exit → Act → World → Prop} {E : Prop} {R : Ending → World → Prop}

end

/-- A slice of one element, just built: its block. -/
def BuiltAt (lo : Nat) (W : World) (xs : List Value) (v : Value) : Prop := ∃ b, v = .slice (some ⟨b, 0, none⟩) 1 1 ∧ lo ≤ b ∧ b < W.heap.size ∧ Seen W (b + 1) xs.length (some ⟨b, 0, none⟩) 1 xs
theorem BuiltAt.new {lo : Nat} {W : World} {xs : List Value} {t : TypeId} (h : lo ≤ W.heap.size) : BuiltAt lo (W.alloc (.cells xs.toArray t)) xs (.slice (some ⟨W.heap.size, 0, none⟩) 1 1) := ⟨_, rfl, h, by simp, seen_block W xs t⟩
theorem BuiltAt.up {lo : Nat} {W W' : World} {xs : List Value} {v : Value} (h : BuiltAt lo W xs v) (hb : Below W.heap.size W W') : BuiltAt lo W' xs v := by
  obtain ⟨b, h1, h2, h3, h4⟩ := h
  exact ⟨b, h1, h2, Nat.lt_of_lt_of_le h3 hb.size, h4.below hb (by omega)⟩

theorem progOk_counts {p : DProg} (h : progOkB p = true) : p.fCaps.length ≤ 6 ∧ 0 ≤ p.fMus ∧ p.fMus ≤ 4 ∧ p.fSels.length ≤ 6 ∧ 1 ≤ p.fProcs.length ∧ p.fProcs.length ≤ 6 := by
  unfold progOkB at h
  rw [Bool.and_eq_true] at h
  exact of_decide_eq_true h.1
end Go.Proofs.YtghkdkagnibkgaaGreatDoor

namespace Go.Proofs.YtghkdkagnibkgaaGreatDoor
set_option linter.unusedSimpArgs false
set_option linter.unusedVariables false
open Go.RowKit

/-- The numbers of those in a state. -/
def inStB (gs : List DGor) (st : Int) (j : Nat) : Bool := match gs[j]? with | some g => decide (g.fState = st) | none => false
def statesTo (gs : List DGor) (st : Int) (k : Nat) : List Int := ((List.range k).filter (inStB gs st)).map fun (j : Nat) => (j : Int)
def statesL (e : DEng) (st : Int) : List Int := statesTo e.fGs st e.fGs.length

end Go.Proofs.YtghkdkagnibkgaaGreatDoor

namespace Go.Proofs.YtghkdkagnibkgaaGreatDoor
set_option linter.unusedSimpArgs false
set_option linter.unusedVariables false
open Go.RowKit

theorem flatI (xs : List Int) : (xs.map fun z => [Value.int .i64 z]).flatten = xs.map (Value.int .i64) := by
  induction xs with
  | nil => rfl
  | cons x xs ih => simp only [List.map_cons, List.flatten_cons, ih]; rfl
theorem own_rowI {w : World} {lo hi : Nat} {t : TypeId} {A : Option Addr} {c : Nat} {r : List Int} (h : Own w lo hi t 1 A r.length c (r.map (Value.int .i64))) (hw : ∀ z ∈ r, (Lit.int .i64 z).wf = true) : OwnR Lay.int t w (fun g => lo ≤ g ∧ g < hi) A r.length c r :=
  ownR_flat (cells := fun z => [.int .i64 z]) (by rw [flatI]; exact h) rfl hw

end Go.Proofs.YtghkdkagnibkgaaGreatDoor
