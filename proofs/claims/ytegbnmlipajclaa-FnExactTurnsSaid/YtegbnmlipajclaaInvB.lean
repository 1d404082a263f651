
/- XInv's rule for regions where an operation names a later one that it need not wait for. -/

import Derived.Test.YtegbnmlipajclaaGInv

import Derived.Deep.RegionHeld

namespace Go.Proofs.Ytegbnmlipajclaa
set_option linter.unusedSimpArgs false
set_option linter.unusedVariables false
open Go.RowKit

section

variable {P : Program} {ops : Array Oper} {Q : Exit → Act → World → Prop}

/-- Every operation waits for earlier ones alone. -/
def regionOrderedB (ops : Array Oper) : Bool :=
  (List.range ops.size).all fun i => ((ops[i]?).map fun o => o.after.all fun e => decide (e.on < i) || !Region.binds .any e).getD true
theorem regionOrderedB_spec (h : regionOrderedB ops = true) {i : Nat} {o : Oper} (ho : ops[i]? = some o) : ∀ e ∈ o.after, Region.binds .any e = true → e.on < i := by
  have hi := (Array.getElem?_eq_some_iff.1 ho).1
  have h1 := List.all_eq_true.1 h i (List.mem_range.2 hi)
  rw [ho] at h1
  intro e he hb
  have h2 := Array.all_eq_true_iff_forall_mem.1 h1 e he
  rw [hb] at h2
  simpa using h2
theorem all_upB (h : regionOrderedB ops = true) {listed : Array Bool} (hs : listed.size = ops.size) (hr : Region.ready .any ops listed = []) :
    ∀ n i, i < n → i < ops.size → upAt listed i := by
  intro n
  induction n with
  | zero => intro i hi _; omega
  | succ n ih =>
    intro i hi hio
    by_cases hin : i < n
    · exact ih i hin hio
    · have hin' : i = n := by omega
      subst hin'
      apply Classical.byContradiction
      intro hno
      have hmem : i ∈ Region.ready .any ops listed := mem_ready.2 ⟨by
          have hlt : i < listed.size := by omega
          have hno' : ¬ listed.getD i false = true := hno
          simp [hlt] at hno' ⊢
          exact hno', ops[i], Array.getElem?_eq_getElem hio, fun e he hb =>
          have hlt := regionOrderedB_spec h (Array.getElem?_eq_getElem hio) e he hb
          ih e.on hlt (by omega)⟩
      rw [hr] at hmem
      cases hmem
end

section

variable {P : Program} {ops : Array Oper} {Q : Exit → Act → World → Prop} {I : (Nat → Prop) → Act → World → Prop}

theorem wpAny_invB (hord : regionOrderedB ops = true) (hsteps : InvSteps P .any ops Q I (List.range ops.size)) (hend : ∀ L a w, (∀ i, i < ops.size → L i) → I L a w → Q .normal a w) :
    ∀ (fuel : Nat) (listed : Array Bool) (a : Act) (w : World), listed.size = ops.size → listed.toList.count false ≤ fuel → I (upAt listed) a w → wpAny P .any ops Q fuel listed a w := by
  have hEnd : ∀ (listed : Array Bool) (a : Act) (w : World), listed.size = ops.size → I (upAt listed) a w → Region.ready .any ops listed = [] → Q .normal a w := fun listed a w hs hI hr =>
    hend _ a w (fun i hi => all_upB hord hs hr (i + 1) i (by omega) hi) hI
  intro fuel
  induction fuel with
  | zero =>
    intro listed a w hs hc hI
    have hr : Region.ready .any ops listed = [] := by
      apply List.eq_nil_iff_forall_not_mem.2
      intro j hj
      obtain ⟨h0, o, ho, -⟩ := mem_ready.1 hj
      have hlt : j < listed.size := by have := (Array.getElem?_eq_some_iff.1 ho).1; omega
      have hm : false ∈ listed.toList := by
        have : listed[j] = false := by simpa [hlt] using h0
        exact this ▸ Array.getElem_mem_toList hlt
      have := List.count_pos_iff.2 hm
      omega
    exact ⟨hr, hEnd listed a w hs hI hr⟩
  | succ fuel ih =>
    intro listed a w hs hc hI
    refine ⟨hEnd listed a w hs hI, fun i hi => ?_⟩
    obtain ⟨h0, o, ho, hall⟩ := mem_ready.1 hi
    have hlt : i < listed.size := by have := (Array.getElem?_eq_some_iff.1 ho).1; omega
    have hf : listed[i] = false := by simpa [hlt] using h0
    have hn : ¬ upAt listed i := by unfold upAt; simp [hlt, hf]
    refine wpOp_mono (fun a' w' hI' => ih (listed.setIfInBounds i true) a' w' (by simpa using hs) ?_ (by rw [upAt_set hlt]; exact hI')) (hsteps i (List.mem_range.2 (by omega)) _ a w hI hn (fun o' ho' e he hb => ?_))
    · have hcs := List.count_set (a := true) (b := false) (l := listed.toList) (i := i) (by simpa using hlt)
      have hg : listed.toList[i]'(by simpa using hlt) = false := by simpa using hf
      rw [hg] at hcs
      have hpos : 0 < listed.toList.count false := List.count_pos_iff.2 (hg ▸ List.getElem_mem _)
      rw [Array.toList_setIfInBounds, hcs]
      simp only [beq_self_eq_true, if_true, show (true == false) = false from rfl, Bool.false_eq_true, if_false]
      omega
    · have : o' = o := by rw [ho] at ho'; exact (Option.some.inj ho').symm
      subst this
      exact hall e he hb
/-- A region that draws, by a relation; the relation may speak of the act in which the region began. -/
theorem wp_region_invB {l : List Oper} {id : Nat} {a : Act} {w : World} (I : Act → (Nat → Prop) → Act → World → Prop) (hm : P.follows .mixedOrders = true) (hord : regionOrderedB l.toArray = true)
    (h0 : I a (fun _ => False) a w.drew) (hsteps : ∀ Q', InvFrom P .any l.toArray Q' (I a) 0 l) (hend : ∀ L a' w', (∀ i, i < l.length → L i) → I a L a' w' → Kept (Q .normal a' w')) : (Code.region id l.toArray true).wp P Q a w :=
  wp_region_any hm (wpAny_invB hord (InvSteps.of_list (hsteps Q)) (fun L a w hL hI => (hend L a w (fun i hi => hL i (by simpa using hi)) hI).out) _ _ _ _ (by simp) (by simp) (by rw [upAt_none]; exact h0))
end

end Go.Proofs.Ytegbnmlipajclaa
