
/- What a call has answered, in a variable's box: a struct with slices in blocks of its own between two bounds. No program is named here. -/

import Derived.Test.YtgfkadhojlddpaaDoorTail

import Derived.Deep.RegionLaw

import Derived.BigFrame

import Derived.Test.YtgfkadhojlddpaaDoorDInt

namespace Go.Proofs.YtgfkadhojlddpaaDoor
set_option linter.unusedSimpArgs false
set_option linter.unusedVariables false
open Go.RowKit

section

variable {α : Type} {L : Lay α} {t : TypeId} {lo hi : Nat} {W W' : World} {g : Nat} {x : α}

/-- Block g holds the cells of x; all that x owns, and g, lie between lo and hi. -/
def Ans (L : Lay α) (t : TypeId) (lo hi : Nat) (W : World) (g : Nat) (x : α) : Prop :=
  lo ≤ g ∧ g < hi ∧ hi ≤ W.heap.size ∧ ∃ (vs : List Value) (F : Nat → Prop), W.heap[g]? = some (.cells vs.toArray t (0, 0)) ∧ L.own W F x vs ∧ ∀ k, F k → lo ≤ k ∧ k < hi ∧ k ≠ g
theorem Ans.stay (h : Ans L t lo hi W g x) (hk : ∀ k, lo ≤ k → k < hi → W'.heap[k]? = W.heap[k]?) (hz : W.heap.size ≤ W'.heap.size) : Ans L t lo hi W' g x := by
  obtain ⟨h1, h2, h3, vs, F, hb, ho, hF⟩ := h
  exact ⟨h1, h2, by omega, vs, F, (hk g h1 h2).trans hb, L.stay ho (fun k hk1 _ => hk k (hF k hk1).1 (hF k hk1).2.1) hz, hF⟩
theorem Ans.below {B : Nat} (h : Ans L t lo hi W g x) (hb : Below B W W') (hB : hi ≤ B) : Ans L t lo hi W' g x := h.stay (fun k _ hk => hb.block k (by omega)) hb.size
theorem Ans.turned {G : Nat → Prop} (h : Ans L t lo hi W g x) (ht : TurnedF G W W') (hG : ∀ k, G k → k < lo ∨ hi ≤ k) : Ans L t lo hi W' g x :=
  h.stay (fun k h1 h2 => ht.block k (by have := h.2.2.1; omega) (fun hk => by have := hG k hk; omega)) ht.size
/-- An answer, put into a new box. -/
theorem Ans.mk {w v : World} {F : Nat → Prop} {vs : List Value} (ho : L.own v F x vs) (hF : ∀ k, F k → w.heap.size ≤ k ∧ k < v.heap.size) (hz : w.heap.size ≤ v.heap.size) :
    Ans L t w.heap.size (v.alloc (.cells vs.toArray t)).heap.size (v.alloc (.cells vs.toArray t)) v.heap.size x :=
  ⟨hz, by simp, Nat.le_refl _, vs, F, box_new v vs.toArray t, L.stay ho (fun k _ hk => Below.heap_alloc v _ k hk) (by simp), fun k hk => ⟨(hF k hk).1, by have := (hF k hk).2; simp; omega, by have := (hF k hk).2; omega⟩⟩
theorem Ans.mark {x' : α} {vs : List Value} {F : Nat → Prop} (h1 : lo ≤ g) (h2 : g < hi) (h3 : hi ≤ W.heap.size) (hb : W.heap[g]? = some (.cells vs.toArray t (0, 0))) (hF : ∀ k, F k → lo ≤ k ∧ k < hi ∧ k ≠ g) (ho : L.own W' F x' vs) (ht : TurnedF F W W') : Ans L t lo hi W' g x' :=
  ⟨h1, h2, Nat.le_trans h3 ht.size, vs, F, (ht.block g (by omega) (fun hg => (hF g hg).2.2 rfl)).trans hb, ho, hF⟩
theorem Ans.lt (h : Ans L t lo hi W g x) : lo ≤ g ∧ g < hi ∧ hi ≤ W.heap.size := ⟨h.1, h.2.1, h.2.2.1⟩
theorem Ans.weak {lo' : Nat} (h : Ans L t lo hi W g x) (hl : lo' ≤ lo) : Ans L t lo' hi W g x := by
  obtain ⟨h1, h2, h3, vs, F, hb, ho, hF⟩ := h
  exact ⟨by omega, h2, h3, vs, F, hb, ho, fun k hk => by have := hF k hk; omega⟩
theorem putCells_full (us : List Value) : ∀ {w : World} {g o : Nat} {cur : List Value}, w.heap[g]? = some (.cells cur.toArray t (0, 0)) → (putCells w g o us).heap[g]? = some (.cells (setFrom cur o us).toArray t (0, 0)) := by
  induction us with
  | nil => intro w g o cur h; exact h
  | cons u us ih =>
    intro w g o cur h
    have h1 := box_set (j := o) (u := u) h
    rw [List.setIfInBounds_toArray] at h1
    exact ih h1
theorem setFrom_full {cur us : List Value} (h : cur.length = us.length) : setFrom cur 0 us = us := by
  apply List.ext_getElem?
  intro j
  rw [setFrom_get us cur 0 j (by omega)]
  by_cases hj : j < us.length
  · rw [if_pos ⟨Nat.zero_le _, by omega⟩, Nat.sub_zero]
  · rw [if_neg (by omega), List.getElem?_eq_none (by omega), List.getElem?_eq_none (by omega)]
/-- An answer, stored into a box that was there. -/
theorem Ans.mkPut {v : World} {F : Nat → Prop} {vs Z : List Value} (hb : v.heap[g]? = some (.cells Z.toArray t (0, 0))) (hl : Z.length = vs.length) (ho : L.own v F x vs) (hF : ∀ k, F k → lo ≤ k ∧ k < v.heap.size ∧ k ≠ g) (hg : lo ≤ g) :
    Ans L t lo (putCells v g 0 vs).heap.size (putCells v g 0 vs) g x := by
  have hlt := lt_of_block hb
  have hz := putCells_size vs v g 0
  refine ⟨hg, by omega, Nat.le_refl _, vs, F, ?_, L.stay ho (fun k hk _ => putCells_block vs v g 0 k (hF k hk).2.2) (by omega), fun k hk => ⟨(hF k hk).1, by have := hF k hk; omega, (hF k hk).2.2⟩⟩
  have := putCells_full (o := 0) vs hb
  rwa [setFrom_full hl] at this
/-- What a contract says of an answer with memory of its own. -/
def MadeO (L : Lay α) (w : World) (r : α) (e : Ending) (w' : World) : Prop :=
  ∃ (vs : List Value) (F : Nat → Prop), e = .returned (.agg vs.toArray) ∧ L.own w' F r vs ∧ (∀ g, F g → w.heap.size ≤ g ∧ g < w'.heap.size) ∧ Below w.heap.size w w'
end

theorem fenters_of' {f : Nat} {fn : Func} (h : Tryd.prog.funcs[f]? = some fn) (h1 : (fn.name == "runtime.NumGoroutine") = false) (h2 : fn.body.isNone = false) (args : Array Value) (w : World) : Sem.run Tryd.prog (callFunc f args) w = .ok (.enter f args) w := by
  have h3 : ¬ fn.name = "runtime.NumGoroutine" := by simpa using h1
  have h4 : ¬ fn.body = none := fun h => by rw [h] at h2; simp at h2
  simp [callFunc, go_sem, h, h3, h4]
theorem step_c1 {P : Program} {ops : Array Oper} {o : Oper} {a : Act} {w : World} {K : Act → World → Prop} {Q : Exit → Act → World → Prop} {E : Prop} {R : Ending → World → Prop}
    (hg : o.guard = none) (f : FuncId) (x0 : Operand) (tys : Array TypeId) (hop : o.op = .call { callee := .value (.func f), args := #[x0], argTypes := tys })
    (hf : ∀ (args : Array Value) (w : World), Sem.run P (callFunc f args) w = .ok (.enter f args) w) (u0 : Value) (h0 : a.eval x0 = u0) (hc : Calls P f #[u0] w R) (h : ∀ e w', R e w' → ∃ v, e = .returned v ∧ K (a.put o.dst v) w') :
    if Region.wanted o (yielded ops a.tmps) = true then Oper.wp P o a w K Q else E := by
  have hw : Region.wanted o (yielded ops a.tmps) = true := by simp [Region.wanted, hg]
  rw [if_pos hw]
  subst h0
  unfold Oper.wp
  simp only [execOp, hop, resolve, Act.eval, Deferred.ofValue, invoke, Sem.run_bind, Sem.run_pure, Result.andThen_ok, hf, Array.append_empty, Array.empty_append, List.map_toArray, List.map_cons, List.map_nil, Oper.upon_enter]
  refine hc.mono ?_
  intro e w' hR
  obtain ⟨v, rfl, hK⟩ := h e w' hR
  exact hK
theorem step_c2 {P : Program} {ops : Array Oper} {o : Oper} {a : Act} {w : World} {K : Act → World → Prop} {Q : Exit → Act → World → Prop} {E : Prop} {R : Ending → World → Prop}
    (hg : o.guard = none) (f : FuncId) (x0 x1 : Operand) (tys : Array TypeId) (hop : o.op = .call { callee := .value (.func f), args := #[x0, x1], argTypes := tys })
    (hf : ∀ (args : Array Value) (w : World), Sem.run P (callFunc f args) w = .ok (.enter f args) w) (u0 u1 : Value) (h0 : a.eval x0 = u0) (h1 : a.eval x1 = u1) (hc : Calls P f #[u0, u1] w R) (h : ∀ e w', R e w' → ∃ v, e = .returned v ∧ K (a.put o.dst v) w') :
    if Region.wanted o (yielded ops a.tmps) = true then Oper.wp P o a w K Q else E := by
  have hw : Region.wanted o (yielded ops a.tmps) = true := by simp [Region.wanted, hg]
  rw [if_pos hw]
  subst h0 h1
  unfold Oper.wp
  simp only [execOp, hop, resolve, Act.eval, Deferred.ofValue, invoke, Sem.run_bind, Sem.run_pure, Result.andThen_ok, hf, Array.append_empty, Array.empty_append, List.map_toArray, List.map_cons, List.map_nil, Oper.upon_enter]
  refine hc.mono ?_
  intro e w' hR
  obtain ⟨v, rfl, hK⟩ := h e w' hR
  exact hK
theorem step_c3 {P : Program} {ops : Array Oper} {o : Oper} {a : Act} {w : World} {K : Act → World → Prop} {Q : Exit → Act → World → Prop} {E : Prop} {R : Ending → World → Prop}
    (hg : o.guard = none) (f : FuncId) (x0 x1 x2 : Operand) (tys : Array TypeId) (hop : o.op = .call { callee := .value (.func f), args := #[x0, x1, x2], argTypes := tys })
    (hf : ∀ (args : Array Value) (w : World), Sem.run P (callFunc f args) w = .ok (.enter f args) w) (u0 u1 u2 : Value) (h0 : a.eval x0 = u0) (h1 : a.eval x1 = u1) (h2 : a.eval x2 = u2) (hc : Calls P f #[u0, u1, u2] w R) (h : ∀ e w', R e w' → ∃ v, e = .returned v ∧ K (a.put o.dst v) w') :
    if Region.wanted o (yielded ops a.tmps) = true then Oper.wp P o a w K Q else E := by
  have hw : Region.wanted o (yielded ops a.tmps) = true := by simp [Region.wanted, hg]
  rw [if_pos hw]
  subst h0 h1 h2
  unfold Oper.wp
  simp only [execOp, hop, resolve, Act.eval, Deferred.ofValue, invoke, Sem.run_bind, Sem.run_pure, Result.andThen_ok, hf, Array.append_empty, Array.empty_append, List.map_toArray, List.map_cons, List.map_nil, Oper.upon_enter]
  refine hc.mono ?_
  intro e w' hR
  obtain ⟨v, rfl, hK⟩ := h e w' hR
  exact hK
theorem step_c4 {P : Program} {ops : Array Oper} {o : Oper} {a : Act} {w : World} {K : Act → World → Prop} {Q : Exit → Act → World → Prop} {E : Prop} {R : Ending → World → Prop}
    (hg : o.guard = none) (f : FuncId) (x0 x1 x2 x3 : Operand) (tys : Array TypeId) (hop : o.op = .call { callee := .value (.func f), args := #[x0, x1, x2, x3], argTypes := tys })
    (hf : ∀ (args : Array Value) (w : World), Sem.run P (callFunc f args) w = .ok (.enter f args) w) (u0 u1 u2 u3 : Value) (h0 : a.eval x0 = u0) (h1 : a.eval x1 = u1) (h2 : a.eval x2 = u2) (h3 : a.eval x3 = u3) (hc : Calls P f #[u0, u1, u2, u3] w R) (h : ∀ e w', R e w' → ∃ v, e = .returned v ∧ K (a.put o.dst v) w') :
    if Region.wanted o (yielded ops a.tmps) = true then Oper.wp P o a w K Q else E := by
  have hw : Region.wanted o (yielded ops a.tmps) = true := by simp [Region.wanted, hg]
  rw [if_pos hw]
  subst h0 h1 h2 h3
  unfold Oper.wp
  simp only [execOp, hop, resolve, Act.eval, Deferred.ofValue, invoke, Sem.run_bind, Sem.run_pure, Result.andThen_ok, hf, Array.append_empty, Array.empty_append, List.map_toArray, List.map_cons, List.map_nil, Oper.upon_enter]
  refine hc.mono ?_
  intro e w' hR
  obtain ⟨v, rfl, hK⟩ := h e w' hR
  exact hK
/-- A call of a Go function, as one step of a region that draws. -/
theorem step_callN {P : Program} {ops : Array Oper} {o : Oper} {a : Act} {w : World} {K : Act → World → Prop} {Q : Exit → Act → World → Prop} {E : Prop} {R : Ending → World → Prop}
    (hg : o.guard = none) (f : FuncId) (xs : Array Operand) (tys : Array TypeId) (hop : o.op = .call { callee := .value (.func f), args := xs, argTypes := tys })
    (hf : ∀ (args : Array Value) (w : World), Sem.run P (callFunc f args) w = .ok (.enter f args) w) (vs : Array Value) (hx : xs.map a.eval = vs) (hc : Calls P f vs w R) (h : ∀ e w', R e w' → ∃ v, e = .returned v ∧ K (a.put o.dst v) w') :
    if Region.wanted o (yielded ops a.tmps) = true then Oper.wp P o a w K Q else E := by
  have hw : Region.wanted o (yielded ops a.tmps) = true := by simp [Region.wanted, hg]
  rw [if_pos hw]
  subst hx
  unfold Oper.wp
  simp only [execOp, hop, resolve, Act.eval, Deferred.ofValue, invoke, Sem.run_bind, Sem.run_pure, Result.andThen_ok, hf, Array.append_empty, Array.empty_append, Oper.upon_enter]
  refine hc.mono ?_
  intro e w' hR
  obtain ⟨v, rfl, hK⟩ := h e w' hR
  exact hK
end Go.Proofs.YtgfkadhojlddpaaDoor
