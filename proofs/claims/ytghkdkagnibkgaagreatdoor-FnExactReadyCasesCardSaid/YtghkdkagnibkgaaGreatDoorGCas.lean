
/- CaseM, CasX, Rdy, merged for claims. -/

import Derived.Test.YtghkdkagnibkgaaGreatDoorGDEng

import Derived.Test.YtghkdkagnibkgaaGreatDoorGDProg

import Derived.Test.YtghkdkagnibkgaaGreatDoorGChanI

import Derived.Test.YtghkdkagnibkgaaGreatDoorGInv

import Derived.Test.YtghkdkagnibkgaaGreatDoorGQueue

namespace Go.Proofs.YtghkdkagnibkgaaGreatDoor
set_option linter.unusedSimpArgs false
set_option linter.unusedVariables false
open Go.RowKit

def canB (e : DEng) (x : DCase) : Bool := decide (0 ≤ x.fChan) && (match e.fChans[x.fChan.toNat]? with | some c => if x.fSend then canSendB c else canRecvB c | none => false)
theorem canB_in {e : DEng} {x : DCase} {q : Nat} {c : DChan} (hx : x.fChan = q) (h : e.fChans[q]? = some c) : canB e x = if x.fSend then canSendB c else canRecvB c := by
  unfold canB
  rw [hx, Int.toNat_natCast, h, decide_eq_true (by omega), Bool.true_and]
theorem canB_out {e : DEng} {x : DCase} (h : ¬ (0 ≤ x.fChan ∧ x.fChan < e.fChans.length)) : canB e x = false := by
  unfold canB
  by_cases h0 : 0 ≤ x.fChan
  · rw [List.getElem?_eq_none (by omega), Bool.and_false]
  · rw [decide_eq_false h0, Bool.false_and]
/-- The places of those that are ready. -/
def rdyB (e : DEng) (cs : List DCase) (j : Nat) : Bool := match cs[j]? with | some c => canB e c | none => false
def rdyTo (e : DEng) (cs : List DCase) (k : Nat) : List Int := ((List.range k).filter (rdyB e cs)).map fun (j : Nat) => (j : Int)
def rdyL (e : DEng) (cs : List DCase) : List Int := rdyTo e cs cs.length
theorem rdyTo_step {e : DEng} {cs : List DCase} {k : Nat} {c : DCase} (h : cs[k]? = some c) : rdyTo e cs (k + 1) = rdyTo e cs k ++ if canB e c = true then [(k : Int)] else [] := by
  unfold rdyTo
  rw [List.range_succ, List.filter_append, List.map_append]
  congr 1
  cases hs : canB e c
  · simp [rdyB, h, hs]
  · simp [rdyB, h, hs]
theorem rdyTo_len (e : DEng) (cs : List DCase) (k : Nat) : (rdyTo e cs k).length ≤ k := by
  unfold rdyTo
  rw [List.length_map]
  exact Nat.le_trans (List.length_filter_le _ _) (by simp)
theorem rdyTo_mem {e : DEng} {cs : List DCase} {k : Nat} {z : Int} (h : z ∈ rdyTo e cs k) : 0 ≤ z ∧ z < k := by
  unfold rdyTo at h
  obtain ⟨j, hj, rfl⟩ := List.mem_map.1 h
  have := List.mem_range.1 (List.mem_filter.1 hj).1
  omega
end Go.Proofs.YtghkdkagnibkgaaGreatDoor

namespace Go.Proofs.YtghkdkagnibkgaaGreatDoor
set_option linter.unusedSimpArgs false
set_option linter.unusedVariables false
open Go.RowKit

theorem putI4 {w : World} {b : Nat} {t : TypeId} {x0 x1 x2 x3 u0 u1 u2 u3 : Value} (h : w.heap[b]? = some (.cells [x0, x1, x2, x3].toArray t (0, 0))) : (putCells w b 0 [u0, u1, u2, u3]).heap[b]? = some (.cells #[u0, u1, u2, u3] t (0, 0)) :=
  box_set (j := 3) (box_set (j := 2) (box_set (j := 1) (box_set (j := 0) h)))
theorem putC4 {w : World} {b : Nat} {t : TypeId} {x0 x1 x2 x3 u0 u1 u2 u3 : Value} (h : w.heap[b]? = some (.cells #[x0, x1, x2, x3] t (0, 0))) : ((((w.setCell ⟨b, 0, none⟩ u0).setCell ⟨b, 1, none⟩ u1).setCell ⟨b, 2, none⟩ u2).setCell ⟨b, 3, none⟩ u3).heap[b]? = some (.cells #[u0, u1, u2, u3] t (0, 0)) :=
  box_set (j := 3) (box_set (j := 2) (box_set (j := 1) (box_set (j := 0) h)))
theorem cell_up {w w' : World} {g j : Nat} {u : Value} (h : w.cell? ⟨g, j, none⟩ = some u) (hb : Below w.heap.size w w') : w'.cell? ⟨g, j, none⟩ = some u := by
  rw [← h]
  rcases Nat.lt_or_ge g w.heap.size with h1 | h1
  · exact World.cell?_of_block (hb.block _ h1)
  · simp [World.cell?, Array.getElem?_eq_none h1] at h
end Go.Proofs.YtghkdkagnibkgaaGreatDoor

namespace Go.Proofs.YtghkdkagnibkgaaGreatDoor
set_option linter.unusedSimpArgs false
set_option linter.unusedVariables false
open Go.RowKit

section

variable {P : Program} {ops : Array Oper} {o : Oper} {a : Act} {w : World} {K : Act → World → Prop} {Q : Exit → Act → World → Prop} {E : Prop} {R : Ending → World → Prop}

theorem kept_vw1 (hw : Region.wanted o (yielded ops a.tmps) = true) (f : FuncId) (caps : Array Value) (xf x0 : Operand) (tys : Array TypeId) (hop : o.op = .call { callee := .value xf, args := #[x0], argTypes := tys })
    (hf : ∀ (args : Array Value) (w : World), Sem.run P (callFunc f args) w = .ok (.enter f args) w) (hv : a.eval xf = .func (.func f) #[] caps) (u0 : Value) (h0 : a.eval x0 = u0) (hc : Calls P f (#[u0] ++ caps) w R) (h : ∀ e w', R e w' → ∃ v, e = .returned v ∧ K (a.put o.dst v) w') :
    Kept (if Region.wanted o (yielded ops a.tmps) = true then Oper.wp P o a w K Q else E) := by
  refine Kept.mk ?_
  rw [if_pos hw]
  subst h0
  unfold Oper.wp
  simp only [execOp, hop, resolve, hv, Deferred.ofValue, invoke, Sem.run_bind, Sem.run_pure, Result.andThen_ok, hf, Array.append_empty, Array.empty_append, List.map_toArray, List.map_cons, List.map_nil, Oper.upon_enter]
  refine hc.mono ?_
  intro e w' hR
  obtain ⟨v, rfl, hK⟩ := h e w' hR
  exact hK
theorem kept_vc1 (hg : o.guard = none) (f : FuncId) (caps : Array Value) (xf x0 : Operand) (tys : Array TypeId) (hop : o.op = .call { callee := .value xf, args := #[x0], argTypes := tys })
    (hf : ∀ (args : Array Value) (w : World), Sem.run P (callFunc f args) w = .ok (.enter f args) w) (hv : a.eval xf = .func (.func f) #[] caps) (u0 : Value) (h0 : a.eval x0 = u0) (hc : Calls P f (#[u0] ++ caps) w R) (h : ∀ e w', R e w' → ∃ v, e = .returned v ∧ K (a.put o.dst v) w') :
    Kept (if Region.wanted o (yielded ops a.tmps) = true then Oper.wp P o a w K Q else E) := kept_vw1 (by simp [Region.wanted, hg]) f caps xf x0 tys hop hf hv u0 h0 hc h
end

/-- A readiness: what it says of an engine (a good one) is q. -/
def RdyV (good : DEng → Prop) (q : DEng → Bool) (w : World) (f : Nat) (caps : Array Value) : Prop :=
  Enters f ∧ ∀ (W : World), Below w.heap.size w W → ∀ (hi : Nat) (x : DEng) (vs : List Value), layEng.see W hi x vs → hi ≤ W.heap.size → szEng x ≤ 1048576 → good x →
    Calls Tryz.prog f (#[.agg vs.toArray] ++ caps) W fun e W' => e = .returned (.bool (q x)) ∧ Below W.heap.size W W'
def RdyE (good : DEng → Prop) (q : DEng → Bool) (w : World) (e : Ending) (w' : World) : Prop :=
  ∃ (f : Nat) (caps : Array Value), e = .returned (.func (.func f) #[] caps) ∧ RdyV good q w' f caps ∧ Below w.heap.size w w'
theorem RdyV.up {good : DEng → Prop} {q : DEng → Bool} {w w' : World} {f : Nat} {caps : Array Value} (h : RdyV good q w f caps) (hb : Below w.heap.size w w') : RdyV good q w' f caps :=
  ⟨h.1, fun W hW => h.2 W (hb.trans (hW.mono hb.size))⟩
/-- In a slot of a region that draws. -/
def RdyAt (good : DEng → Prop) (q : DEng → Bool) (w : World) (v : Value) : Prop := ∃ (f : Nat) (caps : Array Value), v = .func (.func f) #[] caps ∧ RdyV good q w f caps
theorem RdyAt.up {good : DEng → Prop} {q : DEng → Bool} {w w' : World} {v : Value} (h : RdyAt good q w v) (hb : Below w.heap.size w w') : RdyAt good q w' v :=
  let ⟨f, caps, h1, h2⟩ := h; ⟨f, caps, h1, h2.up hb⟩
end Go.Proofs.YtghkdkagnibkgaaGreatDoor
