
/- Function values: calls of them as one step; a readiness (a function of an engine, whatever it keeps). Laid by wip/gen11/caseI.py. -/

import Derived.Test.YtghkdkagnibkgaaGInv

import Derived.Test.YtghkdkagnibkgaaGDEng

import Derived.Test.YtghkdkagnibkgaaQueue

namespace Go.Proofs.Ytghkdkagnibkgaa
set_option linter.unusedSimpArgs false
set_option linter.unusedVariables false
open Go.RowKit

section

variable {P : Program} {ops : Array Oper} {o : Oper} {a : Act} {w : World} {K : Act → World → Prop} {Q : Exit → Act → World → Prop} {E : Prop} {R : Ending → World → Prop}

theorem kept_vw1 (hw : Region.wanted o (yielded ops a.tmps) = true) (f : FuncId) (caps : Array Value) (xf x0 : Operand) (tys : Array TypeId) (hop : o.op = .call { callee := .value xf, args := #[x0], argTypes := tys })
    (hf : ∀ (args : Array Value) (w : World), Sem.run P (callFunc f args) w = .ok (.enter f args) w) (hv : a.eval xf = .func (.func f) #[] caps) (u0 : Value) (h0 : a.eval x0 = u0) (hc : Calls P f (#[u0] ++ caps) w R) (h : ∀ e w', R e w' → ∃ v, e = .returned v ∧ K (a.put o.dst v) w') :
    Kept (if Region.wanted o (yielded ops a.tmps) = true then Oper.wp P o a w K Q else E) := by
  refine Kept.mk ?_
  rw [if_pos hw]
  subst h0
  unfold Oper.wp
  simp only [execOp, hop, resolve, hv, Deferred.ofValue, invoke, Sem.run_bind, Sem.run_pure, Result.andThen_ok, hf, Array.append_empty, Array.empty_append, List.map_toArray, List.map_cons, List.map_nil, Oper.upon_enter]
  refine hc.mono ?_
  intro e w' hR
  obtain ⟨v, rfl, hK⟩ := h e w' hR
  exact hK
theorem kept_vc1 (hg : o.guard = none) (f : FuncId) (caps : Array Value) (xf x0 : Operand) (tys : Array TypeId) (hop : o.op = .call { callee := .value xf, args := #[x0], argTypes := tys })
    (hf : ∀ (args : Array Value) (w : World), Sem.run P (callFunc f args) w = .ok (.enter f args) w) (hv : a.eval xf = .func (.func f) #[] caps) (u0 : Value) (h0 : a.eval x0 = u0) (hc : Calls P f (#[u0] ++ caps) w R) (h : ∀ e w', R e w' → ∃ v, e = .returned v ∧ K (a.put o.dst v) w') :
    Kept (if Region.wanted o (yielded ops a.tmps) = true then Oper.wp P o a w K Q else E) := kept_vw1 (by simp [Region.wanted, hg]) f caps xf x0 tys hop hf hv u0 h0 hc h
end

/-- A readiness: what it says of an engine (a good one) is q. -/
def RdyV (good : DEng → Prop) (q : DEng → Bool) (w : World) (f : Nat) (caps : Array Value) : Prop :=
  Enters f ∧ ∀ (W : World), Below w.heap.size w W → ∀ (hi : Nat) (x : DEng) (vs : List Value), layEng.see W hi x vs → hi ≤ W.heap.size → szEng x ≤ 1048576 → good x →
    Calls Try.prog f (#[.agg vs.toArray] ++ caps) W fun e W' => e = .returned (.bool (q x)) ∧ Below W.heap.size W W'
def RdyE (good : DEng → Prop) (q : DEng → Bool) (w : World) (e : Ending) (w' : World) : Prop :=
  ∃ (f : Nat) (caps : Array Value), e = .returned (.func (.func f) #[] caps) ∧ RdyV good q w' f caps ∧ Below w.heap.size w w'
theorem RdyV.up {good : DEng → Prop} {q : DEng → Bool} {w w' : World} {f : Nat} {caps : Array Value} (h : RdyV good q w f caps) (hb : Below w.heap.size w w') : RdyV good q w' f caps :=
  ⟨h.1, fun W hW => h.2 W (hb.trans (hW.mono hb.size))⟩
/-- In a slot of a region that draws. -/
def RdyAt (good : DEng → Prop) (q : DEng → Bool) (w : World) (v : Value) : Prop := ∃ (f : Nat) (caps : Array Value), v = .func (.func f) #[] caps ∧ RdyV good q w f caps
theorem RdyAt.up {good : DEng → Prop} {q : DEng → Bool} {w w' : World} {v : Value} (h : RdyAt good q w v) (hb : Below w.heap.size w w') : RdyAt good q w' v :=
  let ⟨f, caps, h1, h2⟩ := h; ⟨f, caps, h1, h2.up hb⟩
end Go.Proofs.Ytghkdkagnibkgaa
