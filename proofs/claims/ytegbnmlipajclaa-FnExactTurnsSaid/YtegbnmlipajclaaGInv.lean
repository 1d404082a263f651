
/- Ans, Inv, AnsR, merged for claims. -/

import Derived.Test.YtegbnmlipajclaaGBase

import Derived.Deep.RegionLaw

import Derived.BigFrame

import Derived.Deep.RegionHeld

import Derived.Deep.Cut

namespace Go.Proofs.Ytegbnmlipajclaa
set_option linter.unusedSimpArgs false
set_option linter.unusedVariables false
open Go.RowKit

section

variable {α : Type} {L : Lay α} {t : TypeId} {lo hi : Nat} {W W' : World} {g : Nat} {x : α}

/-- Block g holds the cells of x; all that x owns, and g, lie between lo and hi. -/
def Ans (L : Lay α) (t : TypeId) (lo hi : Nat) (W : World) (g : Nat) (x : α) : Prop :=
  lo ≤ g ∧ g < hi ∧ hi ≤ W.heap.size ∧ ∃ (vs : List Value) (F : Nat → Prop), W.heap[g]? = some (.cells vs.toArray t (0, 0)) ∧ L.own W F x vs ∧ ∀ k, F k → lo ≤ k ∧ k < hi ∧ k ≠ g
theorem Ans.stay (h : Ans L t lo hi W g x) (hk : ∀ k, lo ≤ k → k < hi → W'.heap[k]? = W.heap[k]?) (hz : W.heap.size ≤ W'.heap.size) : Ans L t lo hi W' g x := by
  obtain ⟨h1, h2, h3, vs, F, hb, ho, hF⟩ := h
  exact ⟨h1, h2, by omega, vs, F, (hk g h1 h2).trans hb, L.stay ho (fun k hk1 _ => hk k (hF k hk1).1 (hF k hk1).2.1) hz, hF⟩
theorem Ans.below {B : Nat} (h : Ans L t lo hi W g x) (hb : Below B W W') (hB : hi ≤ B) : Ans L t lo hi W' g x := h.stay (fun k _ hk => hb.block k (by omega)) hb.size
theorem Ans.turned {G : Nat → Prop} (h : Ans L t lo hi W g x) (ht : TurnedF G W W') (hG : ∀ k, G k → k < lo ∨ hi ≤ k) : Ans L t lo hi W' g x :=
  h.stay (fun k h1 h2 => ht.block k (by have := h.2.2.1; omega) (fun hk => by have := hG k hk; omega)) ht.size
/-- An answer, put into a new box. -/
theorem Ans.mk {w v : World} {F : Nat → Prop} {vs : List Value} (ho : L.own v F x vs) (hF : ∀ k, F k → w.heap.size ≤ k ∧ k < v.heap.size) (hz : w.heap.size ≤ v.heap.size) :
    Ans L t w.heap.size (v.alloc (.cells vs.toArray t)).heap.size (v.alloc (.cells vs.toArray t)) v.heap.size x :=
  ⟨hz, by simp, Nat.le_refl _, vs, F, box_new v vs.toArray t, L.stay ho (fun k _ hk => Below.heap_alloc v _ k hk) (by simp), fun k hk => ⟨(hF k hk).1, by have := (hF k hk).2; simp; omega, by have := (hF k hk).2; omega⟩⟩
theorem Ans.mark {x' : α} {vs : List Value} {F : Nat → Prop} (h1 : lo ≤ g) (h2 : g < hi) (h3 : hi ≤ W.heap.size) (hb : W.heap[g]? = some (.cells vs.toArray t (0, 0))) (hF : ∀ k, F k → lo ≤ k ∧ k < hi ∧ k ≠ g) (ho : L.own W' F x' vs) (ht : TurnedF F W W') : Ans L t lo hi W' g x' :=
  ⟨h1, h2, Nat.le_trans h3 ht.size, vs, F, (ht.block g (by omega) (fun hg => (hF g hg).2.2 rfl)).trans hb, ho, hF⟩
theorem Ans.lt (h : Ans L t lo hi W g x) : lo ≤ g ∧ g < hi ∧ hi ≤ W.heap.size := ⟨h.1, h.2.1, h.2.2.1⟩
theorem Ans.weak {lo' : Nat} (h : Ans L t lo hi W g x) (hl : lo' ≤ lo) : Ans L t lo' hi W g x := by
  obtain ⟨h1, h2, h3, vs, F, hb, ho, hF⟩ := h
  exact ⟨by omega, h2, h3, vs, F, hb, ho, fun k hk => by have := hF k hk; omega⟩
theorem putCells_full (us : List Value) : ∀ {w : World} {g o : Nat} {cur : List Value}, w.heap[g]? = some (.cells cur.toArray t (0, 0)) → (putCells w g o us).heap[g]? = some (.cells (setFrom cur o us).toArray t (0, 0)) := by
  induction us with
  | nil => intro w g o cur h; exact h
  | cons u us ih =>
    intro w g o cur h
    have h1 := box_set (j := o) (u := u) h
    rw [List.setIfInBounds_toArray] at h1
    exact ih h1
theorem setFrom_full {cur us : List Value} (h : cur.length = us.length) : setFrom cur 0 us = us := by
  apply List.ext_getElem?
  intro j
  rw [setFrom_get us cur 0 j (by omega)]
  by_cases hj : j < us.length
  · rw [if_pos ⟨Nat.zero_le _, by omega⟩, Nat.sub_zero]
  · rw [if_neg (by omega), List.getElem?_eq_none (by omega), List.getElem?_eq_none (by omega)]
/-- An answer, stored into a box that was there. -/
theorem Ans.mkPut {v : World} {F : Nat → Prop} {vs Z : List Value} (hb : v.heap[g]? = some (.cells Z.toArray t (0, 0))) (hl : Z.length = vs.length) (ho : L.own v F x vs) (hF : ∀ k, F k → lo ≤ k ∧ k < v.heap.size ∧ k ≠ g) (hg : lo ≤ g) :
    Ans L t lo (putCells v g 0 vs).heap.size (putCells v g 0 vs) g x := by
  have hlt := lt_of_block hb
  have hz := putCells_size vs v g 0
  refine ⟨hg, by omega, Nat.le_refl _, vs, F, ?_, L.stay ho (fun k hk _ => putCells_block vs v g 0 k (hF k hk).2.2) (by omega), fun k hk => ⟨(hF k hk).1, by have := hF k hk; omega, (hF k hk).2.2⟩⟩
  have := putCells_full (o := 0) vs hb
  rwa [setFrom_full hl] at this
/-- What a contract says of an answer with memory of its own. -/
def MadeO (L : Lay α) (w : World) (r : α) (e : Ending) (w' : World) : Prop :=
  ∃ (vs : List Value) (F : Nat → Prop), e = .returned (.agg vs.toArray) ∧ L.own w' F r vs ∧ (∀ g, F g → w.heap.size ≤ g ∧ g < w'.heap.size) ∧ Below w.heap.size w w'
end

theorem fenters_of' {f : Nat} {fn : Func} (h : Try.prog.funcs[f]? = some fn) (h1 : (fn.name == "runtime.NumGoroutine") = false) (h2 : fn.body.isNone = false) (args : Array Value) (w : World) : Sem.run Try.prog (callFunc f args) w = .ok (.enter f args) w := by
  have h3 : ¬ fn.name = "runtime.NumGoroutine" := by simpa using h1
  have h4 : ¬ fn.body = none := fun h => by rw [h] at h2; simp at h2
  simp [callFunc, go_sem, h, h3, h4]
theorem step_c1 {P : Program} {ops : Array Oper} {o : Oper} {a : Act} {w : World} {K : Act → World → Prop} {Q : Exit → Act → World → Prop} {E : Prop} {R : Ending → World → Prop}
    (hg : o.guard = none) (f : FuncId) (x0 : Operand) (tys : Array TypeId) (hop : o.op = .call { callee := .value (.func f), args := #[x0], argTypes := tys })
    (hf : ∀ (args : Array Value) (w : World), Sem.run P (callFunc f args) w = .ok (.enter f args) w) (u0 : Value) (h0 : a.eval x0 = u0) (hc : Calls P f #[u0] w R) (h : ∀ e w', R e w' → ∃ v, e = .returned v ∧ K (a.put o.dst v) w') :
    if Region.wanted o (yielded ops a.tmps) = true then Oper.wp P o a w K Q else E := by
  have hw : Region.wanted o (yielded ops a.tmps) = true := by simp [Region.wanted, hg]
  rw [if_pos hw]
  subst h0
  unfold Oper.wp
  simp only [execOp, hop, resolve, Act.eval, Deferred.ofValue, invoke, Sem.run_bind, Sem.run_pure, Result.andThen_ok, hf, Array.append_empty, Array.empty_append, List.map_toArray, List.map_cons, List.map_nil, Oper.upon_enter]
  refine hc.mono ?_
  intro e w' hR
  obtain ⟨v, rfl, hK⟩ := h e w' hR
  exact hK
theorem step_c2 {P : Program} {ops : Array Oper} {o : Oper} {a : Act} {w : World} {K : Act → World → Prop} {Q : Exit → Act → World → Prop} {E : Prop} {R : Ending → World → Prop}
    (hg : o.guard = none) (f : FuncId) (x0 x1 : Operand) (tys : Array TypeId) (hop : o.op = .call { callee := .value (.func f), args := #[x0, x1], argTypes := tys })
    (hf : ∀ (args : Array Value) (w : World), Sem.run P (callFunc f args) w = .ok (.enter f args) w) (u0 u1 : Value) (h0 : a.eval x0 = u0) (h1 : a.eval x1 = u1) (hc : Calls P f #[u0, u1] w R) (h : ∀ e w', R e w' → ∃ v, e = .returned v ∧ K (a.put o.dst v) w') :
    if Region.wanted o (yielded ops a.tmps) = true then Oper.wp P o a w K Q else E := by
  have hw : Region.wanted o (yielded ops a.tmps) = true := by simp [Region.wanted, hg]
  rw [if_pos hw]
  subst h0 h1
  unfold Oper.wp
  simp only [execOp, hop, resolve, Act.eval, Deferred.ofValue, invoke, Sem.run_bind, Sem.run_pure, Result.andThen_ok, hf, Array.append_empty, Array.empty_append, List.map_toArray, List.map_cons, List.map_nil, Oper.upon_enter]
  refine hc.mono ?_
  intro e w' hR
  obtain ⟨v, rfl, hK⟩ := h e w' hR
  exact hK
theorem step_c3 {P : Program} {ops : Array Oper} {o : Oper} {a : Act} {w : World} {K : Act → World → Prop} {Q : Exit → Act → World → Prop} {E : Prop} {R : Ending → World → Prop}
    (hg : o.guard = none) (f : FuncId) (x0 x1 x2 : Operand) (tys : Array TypeId) (hop : o.op = .call { callee := .value (.func f), args := #[x0, x1, x2], argTypes := tys })
    (hf : ∀ (args : Array Value) (w : World), Sem.run P (callFunc f args) w = .ok (.enter f args) w) (u0 u1 u2 : Value) (h0 : a.eval x0 = u0) (h1 : a.eval x1 = u1) (h2 : a.eval x2 = u2) (hc : Calls P f #[u0, u1, u2] w R) (h : ∀ e w', R e w' → ∃ v, e = .returned v ∧ K (a.put o.dst v) w') :
    if Region.wanted o (yielded ops a.tmps) = true then Oper.wp P o a w K Q else E := by
  have hw : Region.wanted o (yielded ops a.tmps) = true := by simp [Region.wanted, hg]
  rw [if_pos hw]
  subst h0 h1 h2
  unfold Oper.wp
  simp only [execOp, hop, resolve, Act.eval, Deferred.ofValue, invoke, Sem.run_bind, Sem.run_pure, Result.andThen_ok, hf, Array.append_empty, Array.empty_append, List.map_toArray, List.map_cons, List.map_nil, Oper.upon_enter]
  refine hc.mono ?_
  intro e w' hR
  obtain ⟨v, rfl, hK⟩ := h e w' hR
  exact hK
theorem step_c4 {P : Program} {ops : Array Oper} {o : Oper} {a : Act} {w : World} {K : Act → World → Prop} {Q : Exit → Act → World → Prop} {E : Prop} {R : Ending → World → Prop}
    (hg : o.guard = none) (f : FuncId) (x0 x1 x2 x3 : Operand) (tys : Array TypeId) (hop : o.op = .call { callee := .value (.func f), args := #[x0, x1, x2, x3], argTypes := tys })
    (hf : ∀ (args : Array Value) (w : World), Sem.run P (callFunc f args) w = .ok (.enter f args) w) (u0 u1 u2 u3 : Value) (h0 : a.eval x0 = u0) (h1 : a.eval x1 = u1) (h2 : a.eval x2 = u2) (h3 : a.eval x3 = u3) (hc : Calls P f #[u0, u1, u2, u3] w R) (h : ∀ e w', R e w' → ∃ v, e = .returned v ∧ K (a.put o.dst v) w') :
    if Region.wanted o (yielded ops a.tmps) = true then Oper.wp P o a w K Q else E := by
  have hw : Region.wanted o (yielded ops a.tmps) = true := by simp [Region.wanted, hg]
  rw [if_pos hw]
  subst h0 h1 h2 h3
  unfold Oper.wp
  simp only [execOp, hop, resolve, Act.eval, Deferred.ofValue, invoke, Sem.run_bind, Sem.run_pure, Result.andThen_ok, hf, Array.append_empty, Array.empty_append, List.map_toArray, List.map_cons, List.map_nil, Oper.upon_enter]
  refine hc.mono ?_
  intro e w' hR
  obtain ⟨v, rfl, hK⟩ := h e w' hR
  exact hK
/-- A call of a Go function, as one step of a region that draws. -/
theorem step_callN {P : Program} {ops : Array Oper} {o : Oper} {a : Act} {w : World} {K : Act → World → Prop} {Q : Exit → Act → World → Prop} {E : Prop} {R : Ending → World → Prop}
    (hg : o.guard = none) (f : FuncId) (xs : Array Operand) (tys : Array TypeId) (hop : o.op = .call { callee := .value (.func f), args := xs, argTypes := tys })
    (hf : ∀ (args : Array Value) (w : World), Sem.run P (callFunc f args) w = .ok (.enter f args) w) (vs : Array Value) (hx : xs.map a.eval = vs) (hc : Calls P f vs w R) (h : ∀ e w', R e w' → ∃ v, e = .returned v ∧ K (a.put o.dst v) w') :
    if Region.wanted o (yielded ops a.tmps) = true then Oper.wp P o a w K Q else E := by
  have hw : Region.wanted o (yielded ops a.tmps) = true := by simp [Region.wanted, hg]
  rw [if_pos hw]
  subst hx
  unfold Oper.wp
  simp only [execOp, hop, resolve, Act.eval, Deferred.ofValue, invoke, Sem.run_bind, Sem.run_pure, Result.andThen_ok, hf, Array.append_empty, Array.empty_append, Oper.upon_enter]
  refine hc.mono ?_
  intro e w' hR
  obtain ⟨v, rfl, hK⟩ := h e w' hR
  exact hK
end Go.Proofs.Ytegbnmlipajclaa

namespace Go.Proofs.Ytegbnmlipajclaa
set_option linter.unusedSimpArgs false
set_option linter.unusedVariables false
open Go.RowKit

/-- Which operation has come up is known of the earlier ones. -/
theorem nx {p q : Prop} (h : p ∨ q) (hq : ¬ q := by decide) : p := h.resolve_right hq
theorem nf {p q r : Prop} (f : p → r) (hq : ¬ q := by decide) (h : p ∨ q) : r := f (h.resolve_right hq)
theorem pA {α : Type} (l : List α) (i : Nat) (a : α) : l.toArray.setIfInBounds i a = (l.set i a).toArray := List.setIfInBounds_toArray ..
theorem pZ {α : Type} (x : α) (l : List α) (a : α) : (x :: l).set 0 a = a :: l := rfl
theorem pS {α : Type} (x : α) (l : List α) (i : Nat) (a : α) : (x :: l).set (i + 1) a = x :: l.set i a := rfl
section

variable {P : Program} {ops : Array Oper} {Q : Exit → Act → World → Prop} {md : Region.Mode}

/-- Which operations have come up. -/
def upAt (listed : Array Bool) : Nat → Prop := fun i => listed.getD i false = true
/-- Every operation waits for earlier ones alone. -/
def regionOrdered (ops : Array Oper) : Bool :=
  (List.range ops.size).all fun i => ((ops[i]?).map fun o => o.after.all fun e => decide (e.on < i)).getD true
theorem regionOrdered_spec (h : regionOrdered ops = true) {i : Nat} {o : Oper} (ho : ops[i]? = some o) : ∀ e ∈ o.after, e.on < i := by
  have hi := (Array.getElem?_eq_some_iff.1 ho).1
  have h1 := List.all_eq_true.1 h i (List.mem_range.2 hi)
  rw [ho] at h1
  intro e he
  exact of_decide_eq_true (Array.all_eq_true_iff_forall_mem.1 h1 e he)
theorem all_up (h : regionOrdered ops = true) {listed : Array Bool} (hs : listed.size = ops.size) (hr : Region.ready md ops listed = []) :
    ∀ n i, i < n → i < ops.size → upAt listed i := by
  intro n
  induction n with
  | zero => intro i hi _; omega
  | succ n ih =>
    intro i hi hio
    by_cases hin : i < n
    · exact ih i hin hio
    · have hin' : i = n := by omega
      subst hin'
      apply Classical.byContradiction
      intro hno
      have hmem : i ∈ Region.ready md ops listed := mem_ready.2 ⟨by
          have hlt : i < listed.size := by omega
          have hno' : ¬ listed.getD i false = true := hno
          simp [hlt] at hno' ⊢
          exact hno', ops[i], Array.getElem?_eq_getElem hio, fun e he _ =>
          have hlt := regionOrdered_spec h (Array.getElem?_eq_getElem hio) e he
          ih e.on hlt (by omega)⟩
      rw [hr] at hmem
      cases hmem
theorem upAt_set {listed : Array Bool} {i : Nat} (h : i < listed.size) : upAt (listed.setIfInBounds i true) = fun j => upAt listed j ∨ j = i := by
  funext j
  apply propext
  unfold upAt
  by_cases hij : i = j
  · subst hij
    simp [h]
  · rw [getD_set_ne false hij]
    exact ⟨.inl, fun h => h.resolve_right fun he => hij he.symm⟩

/-- A goal that no tactic looks into (rcases reckons its goal's head out, and a step of a region is dear to reckon). -/
structure Kept (p : Prop) : Prop where
  out : p

/-- The steps: each operation of 'rs', from wherever the relation holds and what it waits for has come up. -/
def InvSteps (P : Program) (md : Region.Mode) (ops : Array Oper) (Q : Exit → Act → World → Prop) (I : (Nat → Prop) → Act → World → Prop) (rs : List Nat) : Prop :=
  ∀ i ∈ rs, ∀ (L : Nat → Prop) (a : Act) (w : World), I L a w → ¬ L i → (∀ o, ops[i]? = some o → ∀ e ∈ o.after, Region.binds md e = true → L e.on) → wpOp P ops Q i (I fun j => L j ∨ j = i) a w
end

/-- The steps, over the operations as they are listed, from number n on. -/
def InvFrom (P : Program) (md : Region.Mode) (ops : Array Oper) (Q : Exit → Act → World → Prop) (I : (Nat → Prop) → Act → World → Prop) : Nat → List Oper → Prop
  | _, [] => True
  | n, o :: os => (∀ (L : Nat → Prop) (a : Act) (w : World), I L a w → ¬ L n → (∀ d, o.after.any (fun e => e.on == d && Region.binds md e) = true → L d) → ∀ K : Act → World → Prop, Shut (∀ a w, I (fun j => L j ∨ j = n) a w → K a w) → Kept (if Region.wanted o (yielded ops a.tmps) = true then Oper.wp P o a w K Q else K (a.put o.dst undef) w)) ∧
    InvFrom P md ops Q I (n + 1) os
section

variable {P : Program} {ops : Array Oper} {Q : Exit → Act → World → Prop} {md : Region.Mode} {I : (Nat → Prop) → Act → World → Prop}

theorem InvFrom.nil {n : Nat} : InvFrom P md ops Q I n [] := trivial
theorem InvFrom.cons {n : Nat} {o : Oper} {os : List Oper}
    (h : ∀ (L : Nat → Prop) (a : Act) (w : World), I L a w → ¬ L n → (∀ d, o.after.any (fun e => e.on == d && Region.binds md e) = true → L d) → ∀ K : Act → World → Prop, Shut (∀ a w, I (fun j => L j ∨ j = n) a w → K a w) → Kept (if Region.wanted o (yielded ops a.tmps) = true then Oper.wp P o a w K Q else K (a.put o.dst undef) w))
    (hs : InvFrom P md ops Q I (n + 1) os) : InvFrom P md ops Q I n (o :: os) := ⟨h, hs⟩
theorem InvFrom.at : ∀ (os : List Oper) (n : Nat), InvFrom P md ops Q I n os → ∀ i o, os[i]? = some o → ∀ (L : Nat → Prop) (a : Act) (w : World), I L a w → ¬ L (n + i) → (∀ d, o.after.any (fun e => e.on == d && Region.binds md e) = true → L d) → ∀ K : Act → World → Prop, Shut (∀ a w, I (fun j => L j ∨ j = n + i) a w → K a w) → Kept (if Region.wanted o (yielded ops a.tmps) = true then Oper.wp P o a w K Q else K (a.put o.dst undef) w) := by
  intro os
  induction os with
  | nil => intro n h i o ho; simp at ho
  | cons o' os ih =>
    intro n h i o ho
    cases i with
    | zero =>
      have : o' = o := by simpa using ho
      subst this
      exact h.1
    | succ i =>
      have h1 := ih (n + 1) h.2 i o (by simpa using ho)
      have he : n + 1 + i = n + (i + 1) := by omega
      rw [he] at h1
      exact h1
theorem InvSteps.of_list {l : List Oper} (h : InvFrom P md l.toArray Q I 0 l) : InvSteps P md l.toArray Q I (List.range l.toArray.size) := by
  intro i hir L a w hI hn hdep
  have hil : i < l.length := by simpa using hir
  cases ho : l[i]? with
  | none =>
    unfold wpOp
    have : l.toArray[i]? = none := by simpa using ho
    rw [this]
    exact absurd (List.getElem?_eq_none_iff.1 ho) (by omega)
  | some o =>
    have ho' : l.toArray[i]? = some o := by simpa using ho
    refine wpOp_step ho' fun K hK => ?_
    have h1 := InvFrom.at l 0 h i o ho L a w hI (by simpa using hn) (fun d hd => by
      obtain ⟨e, he, hb⟩ := Array.any_eq_true'.1 hd
      simp at hb
      exact hb.1 ▸ hdep o ho' e he hb.2) K (by rw [Nat.zero_add]; exact hK)
    exact h1.out
end

section

variable {P : Program} {ops : Array Oper} {Q : Exit → Act → World → Prop} {md : Region.Mode} {I : (Nat → Prop) → Act → World → Prop}

theorem wpAny_inv (hord : regionOrdered ops = true) (hsteps : InvSteps P md ops Q I (List.range ops.size)) (hend : ∀ L a w, (∀ i, i < ops.size → L i) → I L a w → Q .normal a w) :
    ∀ (fuel : Nat) (listed : Array Bool) (a : Act) (w : World), listed.size = ops.size → listed.toList.count false ≤ fuel → I (upAt listed) a w → wpAny P md ops Q fuel listed a w := by
  have hEnd : ∀ (listed : Array Bool) (a : Act) (w : World), listed.size = ops.size → I (upAt listed) a w → Region.ready md ops listed = [] → Q .normal a w := fun listed a w hs hI hr =>
    hend _ a w (fun i hi => all_up hord hs hr (i + 1) i (by omega) hi) hI
  intro fuel
  induction fuel with
  | zero =>
    intro listed a w hs hc hI
    have hr : Region.ready md ops listed = [] := by
      apply List.eq_nil_iff_forall_not_mem.2
      intro j hj
      obtain ⟨h0, o, ho, -⟩ := mem_ready.1 hj
      have hlt : j < listed.size := by have := (Array.getElem?_eq_some_iff.1 ho).1; omega
      have hm : false ∈ listed.toList := by
        have : listed[j] = false := by simpa [hlt] using h0
        exact this ▸ Array.getElem_mem_toList hlt
      have := List.count_pos_iff.2 hm
      omega
    exact ⟨hr, hEnd listed a w hs hI hr⟩
  | succ fuel ih =>
    intro listed a w hs hc hI
    refine ⟨hEnd listed a w hs hI, fun i hi => ?_⟩
    obtain ⟨h0, o, ho, hall⟩ := mem_ready.1 hi
    have hlt : i < listed.size := by have := (Array.getElem?_eq_some_iff.1 ho).1; omega
    have hf : listed[i] = false := by simpa [hlt] using h0
    have hn : ¬ upAt listed i := by unfold upAt; simp [hlt, hf]
    refine wpOp_mono (fun a' w' hI' => ih (listed.setIfInBounds i true) a' w' (by simpa using hs) ?_ (by rw [upAt_set hlt]; exact hI')) (hsteps i (List.mem_range.2 (by omega)) _ a w hI hn (fun o' ho' e he hb => ?_))
    · have hcs := List.count_set (a := true) (b := false) (l := listed.toList) (i := i) (by simpa using hlt)
      have hg : listed.toList[i]'(by simpa using hlt) = false := by simpa using hf
      rw [hg] at hcs
      have hpos : 0 < listed.toList.count false := List.count_pos_iff.2 (hg ▸ List.getElem_mem _)
      rw [Array.toList_setIfInBounds, hcs]
      simp only [beq_self_eq_true, if_true, show (true == false) = false from rfl, Bool.false_eq_true, if_false]
      omega
    · have : o' = o := by rw [ho] at ho'; exact (Option.some.inj ho').symm
      subst this
      exact hall e he hb
theorem upAt_none {n : Nat} : upAt (Array.replicate n false) = fun _ => False := by
  funext i
  apply propext
  unfold upAt
  by_cases h : i < n
  · simp [h]
  · simp [h]
/-- A region that draws, by a relation; the relation may speak of the act in which the region began. -/
theorem wp_region_inv {l : List Oper} {id : Nat} {a : Act} {w : World} (I : Act → (Nat → Prop) → Act → World → Prop) (hm : P.follows .mixedOrders = true) (hord : regionOrdered l.toArray = true)
    (h0 : I a (fun _ => False) a w.drew) (hsteps : ∀ Q', InvFrom P .any l.toArray Q' (I a) 0 l) (hend : ∀ L a' w', (∀ i, i < l.length → L i) → I a L a' w' → Kept (Q .normal a' w')) : (Code.region id l.toArray true).wp P Q a w :=
  wp_region_any hm (wpAny_inv hord (InvSteps.of_list (hsteps Q)) (fun L a w hL hI => (hend L a w (fun i hi => hL i (by simpa using hi)) hI).out) _ _ _ _ (by simp) (by simp) (by rw [upAt_none]; exact h0))
end

/-! ### A call, where the guard lets it by -/

theorem step_w1 {P : Program} {ops : Array Oper} {o : Oper} {a : Act} {w : World} {K : Act → World → Prop} {Q : Exit → Act → World → Prop} {E : Prop} {R : Ending → World → Prop}
    (hw : Region.wanted o (yielded ops a.tmps) = true) (f : FuncId) (x0 : Operand) (tys : Array TypeId) (hop : o.op = .call { callee := .value (.func f), args := #[x0], argTypes := tys })
    (hf : ∀ (args : Array Value) (w : World), Sem.run P (callFunc f args) w = .ok (.enter f args) w) (u0 : Value) (h0 : a.eval x0 = u0) (hc : Calls P f #[u0] w R) (h : ∀ e w', R e w' → ∃ v, e = .returned v ∧ K (a.put o.dst v) w') :
    if Region.wanted o (yielded ops a.tmps) = true then Oper.wp P o a w K Q else E := by
  rw [if_pos hw]
  subst h0
  unfold Oper.wp
  simp only [execOp, hop, resolve, Act.eval, Deferred.ofValue, invoke, Sem.run_bind, Sem.run_pure, Result.andThen_ok, hf, Array.append_empty, Array.empty_append, List.map_toArray, List.map_cons, List.map_nil, Oper.upon_enter]
  refine hc.mono ?_
  intro e w' hR
  obtain ⟨v, rfl, hK⟩ := h e w' hR
  exact hK
theorem step_w2 {P : Program} {ops : Array Oper} {o : Oper} {a : Act} {w : World} {K : Act → World → Prop} {Q : Exit → Act → World → Prop} {E : Prop} {R : Ending → World → Prop}
    (hw : Region.wanted o (yielded ops a.tmps) = true) (f : FuncId) (x0 x1 : Operand) (tys : Array TypeId) (hop : o.op = .call { callee := .value (.func f), args := #[x0, x1], argTypes := tys })
    (hf : ∀ (args : Array Value) (w : World), Sem.run P (callFunc f args) w = .ok (.enter f args) w) (u0 u1 : Value) (h0 : a.eval x0 = u0) (h1 : a.eval x1 = u1) (hc : Calls P f #[u0, u1] w R) (h : ∀ e w', R e w' → ∃ v, e = .returned v ∧ K (a.put o.dst v) w') :
    if Region.wanted o (yielded ops a.tmps) = true then Oper.wp P o a w K Q else E := by
  rw [if_pos hw]
  subst h0 h1
  unfold Oper.wp
  simp only [execOp, hop, resolve, Act.eval, Deferred.ofValue, invoke, Sem.run_bind, Sem.run_pure, Result.andThen_ok, hf, Array.append_empty, Array.empty_append, List.map_toArray, List.map_cons, List.map_nil, Oper.upon_enter]
  refine hc.mono ?_
  intro e w' hR
  obtain ⟨v, rfl, hK⟩ := h e w' hR
  exact hK
theorem step_w3 {P : Program} {ops : Array Oper} {o : Oper} {a : Act} {w : World} {K : Act → World → Prop} {Q : Exit → Act → World → Prop} {E : Prop} {R : Ending → World → Prop}
    (hw : Region.wanted o (yielded ops a.tmps) = true) (f : FuncId) (x0 x1 x2 : Operand) (tys : Array TypeId) (hop : o.op = .call { callee := .value (.func f), args := #[x0, x1, x2], argTypes := tys })
    (hf : ∀ (args : Array Value) (w : World), Sem.run P (callFunc f args) w = .ok (.enter f args) w) (u0 u1 u2 : Value) (h0 : a.eval x0 = u0) (h1 : a.eval x1 = u1) (h2 : a.eval x2 = u2) (hc : Calls P f #[u0, u1, u2] w R) (h : ∀ e w', R e w' → ∃ v, e = .returned v ∧ K (a.put o.dst v) w') :
    if Region.wanted o (yielded ops a.tmps) = true then Oper.wp P o a w K Q else E := by
  rw [if_pos hw]
  subst h0 h1 h2
  unfold Oper.wp
  simp only [execOp, hop, resolve, Act.eval, Deferred.ofValue, invoke, Sem.run_bind, Sem.run_pure, Result.andThen_ok, hf, Array.append_empty, Array.empty_append, List.map_toArray, List.map_cons, List.map_nil, Oper.upon_enter]
  refine hc.mono ?_
  intro e w' hR
  obtain ⟨v, rfl, hK⟩ := h e w' hR
  exact hK
theorem step_w4 {P : Program} {ops : Array Oper} {o : Oper} {a : Act} {w : World} {K : Act → World → Prop} {Q : Exit → Act → World → Prop} {E : Prop} {R : Ending → World → Prop}
    (hw : Region.wanted o (yielded ops a.tmps) = true) (f : FuncId) (x0 x1 x2 x3 : Operand) (tys : Array TypeId) (hop : o.op = .call { callee := .value (.func f), args := #[x0, x1, x2, x3], argTypes := tys })
    (hf : ∀ (args : Array Value) (w : World), Sem.run P (callFunc f args) w = .ok (.enter f args) w) (u0 u1 u2 u3 : Value) (h0 : a.eval x0 = u0) (h1 : a.eval x1 = u1) (h2 : a.eval x2 = u2) (h3 : a.eval x3 = u3) (hc : Calls P f #[u0, u1, u2, u3] w R) (h : ∀ e w', R e w' → ∃ v, e = .returned v ∧ K (a.put o.dst v) w') :
    if Region.wanted o (yielded ops a.tmps) = true then Oper.wp P o a w K Q else E := by
  rw [if_pos hw]
  subst h0 h1 h2 h3
  unfold Oper.wp
  simp only [execOp, hop, resolve, Act.eval, Deferred.ofValue, invoke, Sem.run_bind, Sem.run_pure, Result.andThen_ok, hf, Array.append_empty, Array.empty_append, List.map_toArray, List.map_cons, List.map_nil, Oper.upon_enter]
  refine hc.mono ?_
  intro e w' hR
  obtain ⟨v, rfl, hK⟩ := h e w' hR
  exact hK
theorem kept_c1 {P : Program} {ops : Array Oper} {o : Oper} {a : Act} {w : World} {K : Act → World → Prop} {Q : Exit → Act → World → Prop} {E : Prop} {R : Ending → World → Prop}
    (hg : o.guard = none) (f : FuncId) (x0 : Operand) (tys : Array TypeId) (hop : o.op = .call { callee := .value (.func f), args := #[x0], argTypes := tys })
    (hf : ∀ (args : Array Value) (w : World), Sem.run P (callFunc f args) w = .ok (.enter f args) w) (u0 : Value) (h0 : a.eval x0 = u0) (hc : Calls P f #[u0] w R) (h : ∀ e w', R e w' → ∃ v, e = .returned v ∧ K (a.put o.dst v) w') :
    Kept (if Region.wanted o (yielded ops a.tmps) = true then Oper.wp P o a w K Q else E) := ⟨step_c1 hg f x0 tys hop hf u0 h0 hc h⟩
theorem kept_c2 {P : Program} {ops : Array Oper} {o : Oper} {a : Act} {w : World} {K : Act → World → Prop} {Q : Exit → Act → World → Prop} {E : Prop} {R : Ending → World → Prop}
    (hg : o.guard = none) (f : FuncId) (x0 x1 : Operand) (tys : Array TypeId) (hop : o.op = .call { callee := .value (.func f), args := #[x0, x1], argTypes := tys })
    (hf : ∀ (args : Array Value) (w : World), Sem.run P (callFunc f args) w = .ok (.enter f args) w) (u0 u1 : Value) (h0 : a.eval x0 = u0) (h1 : a.eval x1 = u1) (hc : Calls P f #[u0, u1] w R) (h : ∀ e w', R e w' → ∃ v, e = .returned v ∧ K (a.put o.dst v) w') :
    Kept (if Region.wanted o (yielded ops a.tmps) = true then Oper.wp P o a w K Q else E) := ⟨step_c2 hg f x0 x1 tys hop hf u0 u1 h0 h1 hc h⟩
theorem kept_c3 {P : Program} {ops : Array Oper} {o : Oper} {a : Act} {w : World} {K : Act → World → Prop} {Q : Exit → Act → World → Prop} {E : Prop} {R : Ending → World → Prop}
    (hg : o.guard = none) (f : FuncId) (x0 x1 x2 : Operand) (tys : Array TypeId) (hop : o.op = .call { callee := .value (.func f), args := #[x0, x1, x2], argTypes := tys })
    (hf : ∀ (args : Array Value) (w : World), Sem.run P (callFunc f args) w = .ok (.enter f args) w) (u0 u1 u2 : Value) (h0 : a.eval x0 = u0) (h1 : a.eval x1 = u1) (h2 : a.eval x2 = u2) (hc : Calls P f #[u0, u1, u2] w R) (h : ∀ e w', R e w' → ∃ v, e = .returned v ∧ K (a.put o.dst v) w') :
    Kept (if Region.wanted o (yielded ops a.tmps) = true then Oper.wp P o a w K Q else E) := ⟨step_c3 hg f x0 x1 x2 tys hop hf u0 u1 u2 h0 h1 h2 hc h⟩
theorem kept_c4 {P : Program} {ops : Array Oper} {o : Oper} {a : Act} {w : World} {K : Act → World → Prop} {Q : Exit → Act → World → Prop} {E : Prop} {R : Ending → World → Prop}
    (hg : o.guard = none) (f : FuncId) (x0 x1 x2 x3 : Operand) (tys : Array TypeId) (hop : o.op = .call { callee := .value (.func f), args := #[x0, x1, x2, x3], argTypes := tys })
    (hf : ∀ (args : Array Value) (w : World), Sem.run P (callFunc f args) w = .ok (.enter f args) w) (u0 u1 u2 u3 : Value) (h0 : a.eval x0 = u0) (h1 : a.eval x1 = u1) (h2 : a.eval x2 = u2) (h3 : a.eval x3 = u3) (hc : Calls P f #[u0, u1, u2, u3] w R) (h : ∀ e w', R e w' → ∃ v, e = .returned v ∧ K (a.put o.dst v) w') :
    Kept (if Region.wanted o (yielded ops a.tmps) = true then Oper.wp P o a w K Q else E) := ⟨step_c4 hg f x0 x1 x2 x3 tys hop hf u0 u1 u2 u3 h0 h1 h2 h3 hc h⟩
theorem kept_w1 {P : Program} {ops : Array Oper} {o : Oper} {a : Act} {w : World} {K : Act → World → Prop} {Q : Exit → Act → World → Prop} {E : Prop} {R : Ending → World → Prop}
    (hg : Region.wanted o (yielded ops a.tmps) = true) (f : FuncId) (x0 : Operand) (tys : Array TypeId) (hop : o.op = .call { callee := .value (.func f), args := #[x0], argTypes := tys })
    (hf : ∀ (args : Array Value) (w : World), Sem.run P (callFunc f args) w = .ok (.enter f args) w) (u0 : Value) (h0 : a.eval x0 = u0) (hc : Calls P f #[u0] w R) (h : ∀ e w', R e w' → ∃ v, e = .returned v ∧ K (a.put o.dst v) w') :
    Kept (if Region.wanted o (yielded ops a.tmps) = true then Oper.wp P o a w K Q else E) := ⟨step_w1 hg f x0 tys hop hf u0 h0 hc h⟩
theorem kept_w2 {P : Program} {ops : Array Oper} {o : Oper} {a : Act} {w : World} {K : Act → World → Prop} {Q : Exit → Act → World → Prop} {E : Prop} {R : Ending → World → Prop}
    (hg : Region.wanted o (yielded ops a.tmps) = true) (f : FuncId) (x0 x1 : Operand) (tys : Array TypeId) (hop : o.op = .call { callee := .value (.func f), args := #[x0, x1], argTypes := tys })
    (hf : ∀ (args : Array Value) (w : World), Sem.run P (callFunc f args) w = .ok (.enter f args) w) (u0 u1 : Value) (h0 : a.eval x0 = u0) (h1 : a.eval x1 = u1) (hc : Calls P f #[u0, u1] w R) (h : ∀ e w', R e w' → ∃ v, e = .returned v ∧ K (a.put o.dst v) w') :
    Kept (if Region.wanted o (yielded ops a.tmps) = true then Oper.wp P o a w K Q else E) := ⟨step_w2 hg f x0 x1 tys hop hf u0 u1 h0 h1 hc h⟩
theorem kept_w3 {P : Program} {ops : Array Oper} {o : Oper} {a : Act} {w : World} {K : Act → World → Prop} {Q : Exit → Act → World → Prop} {E : Prop} {R : Ending → World → Prop}
    (hg : Region.wanted o (yielded ops a.tmps) = true) (f : FuncId) (x0 x1 x2 : Operand) (tys : Array TypeId) (hop : o.op = .call { callee := .value (.func f), args := #[x0, x1, x2], argTypes := tys })
    (hf : ∀ (args : Array Value) (w : World), Sem.run P (callFunc f args) w = .ok (.enter f args) w) (u0 u1 u2 : Value) (h0 : a.eval x0 = u0) (h1 : a.eval x1 = u1) (h2 : a.eval x2 = u2) (hc : Calls P f #[u0, u1, u2] w R) (h : ∀ e w', R e w' → ∃ v, e = .returned v ∧ K (a.put o.dst v) w') :
    Kept (if Region.wanted o (yielded ops a.tmps) = true then Oper.wp P o a w K Q else E) := ⟨step_w3 hg f x0 x1 x2 tys hop hf u0 u1 u2 h0 h1 h2 hc h⟩
theorem kept_w4 {P : Program} {ops : Array Oper} {o : Oper} {a : Act} {w : World} {K : Act → World → Prop} {Q : Exit → Act → World → Prop} {E : Prop} {R : Ending → World → Prop}
    (hg : Region.wanted o (yielded ops a.tmps) = true) (f : FuncId) (x0 x1 x2 x3 : Operand) (tys : Array TypeId) (hop : o.op = .call { callee := .value (.func f), args := #[x0, x1, x2, x3], argTypes := tys })
    (hf : ∀ (args : Array Value) (w : World), Sem.run P (callFunc f args) w = .ok (.enter f args) w) (u0 u1 u2 u3 : Value) (h0 : a.eval x0 = u0) (h1 : a.eval x1 = u1) (h2 : a.eval x2 = u2) (h3 : a.eval x3 = u3) (hc : Calls P f #[u0, u1, u2, u3] w R) (h : ∀ e w', R e w' → ∃ v, e = .returned v ∧ K (a.put o.dst v) w') :
    Kept (if Region.wanted o (yielded ops a.tmps) = true then Oper.wp P o a w K Q else E) := ⟨step_w4 hg f x0 x1 x2 x3 tys hop hf u0 u1 u2 u3 h0 h1 h2 h3 hc h⟩
/-! ### What is known of the slots that such a region fills -/

section

variable {α : Type} {L : Lay α} {t : TypeId} {B : Nat} {W W' : World} {x : α} {v bx : Value} {Z : List Value}

/-- The value reads as x now. -/
def SeeAt (L : Lay α) (W : World) (x : α) (v : Value) : Prop := ∃ vs : List Value, v = .agg vs.toArray ∧ L.see W W.heap.size x vs
theorem SeeAt.up (h : SeeAt L W x v) (hb : Below W.heap.size W W') : SeeAt L W' x v := by
  obtain ⟨vs, hv, hs⟩ := h
  exact ⟨vs, hv, L.more (L.keep hs hb.block) hb.size⟩
/-- The value owns what it reads, in blocks that are new since B; the box is none of them. -/
def OwnAt (L : Lay α) (B : Nat) (W : World) (x : α) (bx v : Value) : Prop :=
  ∃ (vs : List Value) (F : Nat → Prop), v = .agg vs.toArray ∧ L.own W F x vs ∧ (∀ g, F g → B ≤ g ∧ g < W.heap.size) ∧ ∀ b, bx = .pointer (some ⟨b, 0, none⟩) → ¬ F b
theorem OwnAt.up (h : OwnAt L B W x bx v) (hb : Below W.heap.size W W') : OwnAt L B W' x bx v := by
  obtain ⟨vs, F, hv, ho, hF, hn⟩ := h
  exact ⟨vs, F, hv, L.stay ho (fun k hk _ => hb.block k (hF k hk).2) hb.size, fun g hg => ⟨(hF g hg).1, Nat.lt_of_lt_of_le (hF g hg).2 hb.size⟩, hn⟩
/-- .. and now the box is made. -/
theorem OwnAt.boxed (h : OwnAt L B W x bx v) (hb : Below W.heap.size W W') : OwnAt L B W' x (.pointer (some ⟨W.heap.size, 0, none⟩)) v := by
  obtain ⟨vs, F, hv, ho, hF, hn⟩ := h.up hb
  obtain ⟨vs0, F0, hv0, ho0, hF0, hn0⟩ := h
  refine ⟨vs0, F0, hv0, L.stay ho0 (fun k hk _ => hb.block k (hF0 k hk).2) hb.size, fun g hg => ⟨(hF0 g hg).1, Nat.lt_of_lt_of_le (hF0 g hg).2 hb.size⟩, fun b hb' hF' => ?_⟩
  have := (hF0 b hF').2
  injection hb' with h1
  injection h1 with h2
  have h3 : W.heap.size = b := congrArg Addr.block h2
  omega
/-- The box, not filled yet. -/
def BoxAt (t : TypeId) (Z : List Value) (B : Nat) (W : World) (bx : Value) : Prop := ∃ b, bx = .pointer (some ⟨b, 0, none⟩) ∧ B ≤ b ∧ b < W.heap.size ∧ W.heap[b]? = some (.cells Z.toArray t (0, 0))
theorem BoxAt.up (h : BoxAt t Z B W bx) (hb : Below W.heap.size W W') : BoxAt t Z B W' bx := by
  obtain ⟨b, hv, h1, h2, h3⟩ := h
  exact ⟨b, hv, h1, Nat.lt_of_lt_of_le h2 hb.size, (hb.block b h2).trans h3⟩
/-- If it is a box at all it is there already. -/
def BoxLt (W : World) (bx : Value) : Prop := ∀ b, bx = .pointer (some ⟨b, 0, none⟩) → b < W.heap.size
theorem BoxLt.up (h : BoxLt W bx) (hb : Below W.heap.size W W') : BoxLt W' bx := fun b h1 => Nat.lt_of_lt_of_le (h b h1) hb.size
theorem BoxLt.undef : BoxLt W undef := fun b h => by cases h
theorem BoxLt.new {o : Obj} : BoxLt (W.alloc o) (.pointer (some ⟨W.heap.size, 0, none⟩)) := fun b h => by
  injection h with h1
  injection h1 with h2
  have h3 : W.heap.size = b := congrArg Addr.block h2
  simp
  omega
theorem BoxAt.new (h : B ≤ W.heap.size) : BoxAt t Z B (W.alloc (.cells Z.toArray t)) (.pointer (some ⟨W.heap.size, 0, none⟩)) := ⟨_, rfl, h, by simp, box_new W Z.toArray t⟩
theorem OwnAt.of_made {w0 : World} {F : Nat → Prop} {vs : List Value} (hl : BoxLt w0 bx) (hB : B ≤ w0.heap.size) (ho : L.own W F x vs) (hF : ∀ g, F g → w0.heap.size ≤ g ∧ g < W.heap.size) : OwnAt L B W x bx (.agg vs.toArray) :=
  ⟨vs, F, rfl, ho, fun g hg => ⟨Nat.le_trans hB (hF g hg).1, (hF g hg).2⟩, fun b hb hFb => by have := hl b hb; have := (hF b hFb).1; omega⟩
end

end Go.Proofs.Ytegbnmlipajclaa

namespace Go.Proofs.Ytegbnmlipajclaa
set_option linter.unusedSimpArgs false
set_option linter.unusedVariables false
open Go.RowKit

section

variable {α : Type} {L : Lay α} {t : TypeId} {lo hi : Nat} {W W' : World} {A : Option Addr} {m c : Nat} {r : List α}

structure AnsR (L : Lay α) (t : TypeId) (lo hi : Nat) (W : World) (A : Option Addr) (m c : Nat) (r : List α) : Prop where
  own : OwnR L t W (fun k => lo ≤ k ∧ k < hi) A m c r
  le : lo ≤ hi
  top : hi ≤ W.heap.size
theorem AnsR.below {B : Nat} (h : AnsR L t lo hi W A m c r) (hb : Below B W W') (hB : hi ≤ B) : AnsR L t lo hi W' A m c r :=
  ⟨h.own.stay (fun g hg _ => hb.block g (by omega)) hb.size, h.le, Nat.le_trans h.top hb.size⟩
theorem AnsR.turned {G : Nat → Prop} (h : AnsR L t lo hi W A m c r) (ht : TurnedF G W W') (hG : ∀ k, G k → k < lo ∨ hi ≤ k) : AnsR L t lo hi W' A m c r :=
  ⟨h.own.stay (fun g hg hlt => ht.block g hlt (fun hk => by have := hG g hk; omega)) ht.size, h.le, Nat.le_trans h.top ht.size⟩
theorem AnsR.see (h : AnsR L t lo hi W A m c r) : SeenR L W W.heap.size A m r := h.own.seen fun g hg => by have := h.top; omega
theorem AnsR.lt (h : AnsR L t lo hi W A m c r) : lo ≤ hi ∧ hi ≤ W.heap.size := ⟨h.le, h.top⟩
theorem AnsR.weak {lo' : Nat} (h : AnsR L t lo hi W A m c r) (hl : lo' ≤ lo) : AnsR L t lo' hi W A m c r :=
  ⟨h.own.wide fun g hg => ⟨by omega, hg.2⟩, by have := h.le; omega, h.top⟩
theorem AnsR.marked {r' : List α} (h : AnsR L t lo hi W A m c r) (ho : OwnR L t W' (fun k => lo ≤ k ∧ k < hi) A m c r') (ht : TurnedF (fun k => lo ≤ k ∧ k < hi) W W') : AnsR L t lo hi W' A m c r' :=
  ⟨ho, h.le, Nat.le_trans h.top ht.size⟩
/-- The row, in a slot. -/
def RowAt (L : Lay α) (t : TypeId) (lo : Nat) (W : World) (r : List α) (v : Value) : Prop :=
  ∃ (A : Option Addr) (c : Nat), v = .slice A r.length c ∧ OwnR L t W (fun k => lo ≤ k ∧ k < W.heap.size) A r.length c r
theorem RowAt.up {v : Value} (h : RowAt L t lo W r v) (hb : Below W.heap.size W W') : RowAt L t lo W' r v := by
  obtain ⟨A, c, h1, h2⟩ := h
  exact ⟨A, c, h1, (h2.stay (fun g hg hlt => hb.block g hlt) hb.size).wide fun g hg => ⟨hg.1, Nat.lt_of_lt_of_le hg.2 hb.size⟩⟩
theorem RowAt.ans {v : Value} (h : RowAt L t lo W r v) (hz : lo ≤ W.heap.size) : ∃ (A : Option Addr) (c : Nat), v = .slice A r.length c ∧ AnsR L t lo W.heap.size W A r.length c r := by
  obtain ⟨A, c, h1, h2⟩ := h
  exact ⟨A, c, h1, h2, hz, Nat.le_refl _⟩
/-- What a contract says of it. -/
def MadeRow (L : Lay α) (t : TypeId) (w : World) (r : List α) (e : Ending) (w' : World) : Prop :=
  ∃ (A : Option Addr) (c : Nat), e = .returned (.slice A r.length c) ∧ OwnR L t w' (fun g => w.heap.size ≤ g ∧ g < w'.heap.size) A r.length c r ∧ Below w.heap.size w w'
theorem RowAt.of_own {w0 : World} {B : Nat} (hB : B ≤ w0.heap.size) (ho : OwnR L t W (fun g => w0.heap.size ≤ g ∧ g < W.heap.size) A r.length c r) : RowAt L t B W r (.slice A r.length c) :=
  ⟨A, c, rfl, ho.wide fun g hg => ⟨Nat.le_trans hB hg.1, hg.2⟩⟩
theorem AnsR.of_own {w0 : World} (hb : w0.heap.size ≤ W.heap.size) (ho : OwnR L t W (fun g => w0.heap.size ≤ g ∧ g < W.heap.size) A r.length c r) : AnsR L t w0.heap.size W.heap.size W A r.length c r :=
  ⟨ho, hb, Nat.le_refl _⟩
end

end Go.Proofs.Ytegbnmlipajclaa
