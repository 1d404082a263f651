
/- InvB, BurnL, NextL, merged for claims. -/

import Derived.Test.YtapbjnfopniicaaGreatDoorGInv

import Derived.Deep.RegionHeld

import Derived.Test.YtapbjnfopniicaaGreatDoorGBurnS

import Derived.Test.YtapbjnfopniicaaGreatDoorGBurnI

import Derived.Test.YtapbjnfopniicaaGreatDoorGM

namespace Go.Proofs.YtapbjnfopniicaaGreatDoor
set_option linter.unusedSimpArgs false
set_option linter.unusedVariables false
open Go.RowKit

section

variable {P : Program} {ops : Array Oper} {Q : Exit → Act → World → Prop}

/-- Every operation waits for earlier ones alone. -/
def regionOrderedB (ops : Array Oper) : Bool :=
  (List.range ops.size).all fun i => ((ops[i]?).map fun o => o.after.all fun e => decide (e.on < i) || !Region.binds .any e).getD true
theorem regionOrderedB_spec (h : regionOrderedB ops = true) {i : Nat} {o : Oper} (ho : ops[i]? = some o) : ∀ e ∈ o.after, Region.binds .any e = true → e.on < i := by
  have hi := (Array.getElem?_eq_some_iff.1 ho).1
  have h1 := List.all_eq_true.1 h i (List.mem_range.2 hi)
  rw [ho] at h1
  intro e he hb
  have h2 := Array.all_eq_true_iff_forall_mem.1 h1 e he
  rw [hb] at h2
  simpa using h2
theorem all_upB (h : regionOrderedB ops = true) {listed : Array Bool} (hs : listed.size = ops.size) (hr : Region.ready .any ops listed = []) :
    ∀ n i, i < n → i < ops.size → upAt listed i := by
  intro n
  induction n with
  | zero => intro i hi _; omega
  | succ n ih =>
    intro i hi hio
    by_cases hin : i < n
    · exact ih i hin hio
    · have hin' : i = n := by omega
      subst hin'
      apply Classical.byContradiction
      intro hno
      have hmem : i ∈ Region.ready .any ops listed := mem_ready.2 ⟨by
          have hlt : i < listed.size := by omega
          have hno' : ¬ listed.getD i false = true := hno
          simp [hlt] at hno' ⊢
          exact hno', ops[i], Array.getElem?_eq_getElem hio, fun e he hb =>
          have hlt := regionOrderedB_spec h (Array.getElem?_eq_getElem hio) e he hb
          ih e.on hlt (by omega)⟩
      rw [hr] at hmem
      cases hmem
end

section

variable {P : Program} {ops : Array Oper} {Q : Exit → Act → World → Prop} {I : (Nat → Prop) → Act → World → Prop}

theorem wpAny_invB (hord : regionOrderedB ops = true) (hsteps : InvSteps P .any ops Q I (List.range ops.size)) (hend : ∀ L a w, (∀ i, i < ops.size → L i) → I L a w → Q .normal a w) :
    ∀ (fuel : Nat) (listed : Array Bool) (a : Act) (w : World), listed.size = ops.size → listed.toList.count false ≤ fuel → I (upAt listed) a w → wpAny P .any ops Q fuel listed a w := by
  have hEnd : ∀ (listed : Array Bool) (a : Act) (w : World), listed.size = ops.size → I (upAt listed) a w → Region.ready .any ops listed = [] → Q .normal a w := fun listed a w hs hI hr =>
    hend _ a w (fun i hi => all_upB hord hs hr (i + 1) i (by omega) hi) hI
  intro fuel
  induction fuel with
  | zero =>
    intro listed a w hs hc hI
    have hr : Region.ready .any ops listed = [] := by
      apply List.eq_nil_iff_forall_not_mem.2
      intro j hj
      obtain ⟨h0, o, ho, -⟩ := mem_ready.1 hj
      have hlt : j < listed.size := by have := (Array.getElem?_eq_some_iff.1 ho).1; omega
      have hm : false ∈ listed.toList := by
        have : listed[j] = false := by simpa [hlt] using h0
        exact this ▸ Array.getElem_mem_toList hlt
      have := List.count_pos_iff.2 hm
      omega
    exact ⟨hr, hEnd listed a w hs hI hr⟩
  | succ fuel ih =>
    intro listed a w hs hc hI
    refine ⟨hEnd listed a w hs hI, fun i hi => ?_⟩
    obtain ⟨h0, o, ho, hall⟩ := mem_ready.1 hi
    have hlt : i < listed.size := by have := (Array.getElem?_eq_some_iff.1 ho).1; omega
    have hf : listed[i] = false := by simpa [hlt] using h0
    have hn : ¬ upAt listed i := by unfold upAt; simp [hlt, hf]
    refine wpOp_mono (fun a' w' hI' => ih (listed.setIfInBounds i true) a' w' (by simpa using hs) ?_ (by rw [upAt_set hlt]; exact hI')) (hsteps i (List.mem_range.2 (by omega)) _ a w hI hn (fun o' ho' e he hb => ?_))
    · have hcs := List.count_set (a := true) (b := false) (l := listed.toList) (i := i) (by simpa using hlt)
      have hg : listed.toList[i]'(by simpa using hlt) = false := by simpa using hf
      rw [hg] at hcs
      have hpos : 0 < listed.toList.count false := List.count_pos_iff.2 (hg ▸ List.getElem_mem _)
      rw [Array.toList_setIfInBounds, hcs]
      simp only [beq_self_eq_true, if_true, show (true == false) = false from rfl, Bool.false_eq_true, if_false]
      omega
    · have : o' = o := by rw [ho] at ho'; exact (Option.some.inj ho').symm
      subst this
      exact hall e he hb
/-- A region that draws, by a relation; the relation may speak of the act in which the region began. -/
theorem wp_region_invB {l : List Oper} {id : Nat} {a : Act} {w : World} (I : Act → (Nat → Prop) → Act → World → Prop) (hm : P.follows .mixedOrders = true) (hord : regionOrderedB l.toArray = true)
    (h0 : I a (fun _ => False) a w.drew) (hsteps : ∀ Q', InvFrom P .any l.toArray Q' (I a) 0 l) (hend : ∀ L a' w', (∀ i, i < l.length → L i) → I a L a' w' → Kept (Q .normal a' w')) : (Code.region id l.toArray true).wp P Q a w :=
  wp_region_any hm (wpAny_invB hord (InvSteps.of_list (hsteps Q)) (fun L a w hL hI => (hend L a w (fun i hi => hL i (by simpa using hi)) hI).out) _ _ _ _ (by simp) (by simp) (by rw [upAt_none]; exact h0))
end

end Go.Proofs.YtapbjnfopniicaaGreatDoor

namespace Go.Proofs.YtapbjnfopniicaaGreatDoor
set_option linter.unusedSimpArgs false
set_option linter.unusedVariables false
open Go.RowKit

section

variable {α : Type} {L : Lay α} {B : Nat} {W W' : World} {x : α} {bx v v2 : Value}

def OwnTup (L : Lay α) (B : Nat) (W : World) (x : α) (bx v v2 : Value) : Prop := ∃ u, v = .tuple #[u, v2] ∧ OwnAt L B W x bx u
theorem OwnTup.up (h : OwnTup L B W x bx v v2) (hb : Below W.heap.size W W') : OwnTup L B W' x bx v v2 := let ⟨u, h1, h2⟩ := h; ⟨u, h1, h2.up hb⟩
theorem OwnTup.boxed (h : OwnTup L B W x bx v v2) (hb : Below W.heap.size W W') : OwnTup L B W' x (.pointer (some ⟨W.heap.size, 0, none⟩)) v v2 := let ⟨u, h1, h2⟩ := h; ⟨u, h1, h2.boxed hb⟩
theorem OwnTup.of_made {w0 : World} {F : Nat → Prop} {vs : List Value} (hl : BoxLt w0 bx) (hB : B ≤ w0.heap.size) (ho : L.own W F x vs) (hF : ∀ g, F g → w0.heap.size ≤ g ∧ g < W.heap.size) : OwnTup L B W x bx (.tuple #[.agg vs.toArray, v2]) v2 :=
  ⟨_, rfl, OwnAt.of_made hl hB ho hF⟩
/-- What a contract says of such an answer. -/
def MadeT (L : Lay α) (w : World) (r : α) (v2 : Value) (e : Ending) (w' : World) : Prop :=
  ∃ (vs : List Value) (F : Nat → Prop), e = .returned (.tuple #[.agg vs.toArray, v2]) ∧ L.own w' F r vs ∧ (∀ g, F g → w.heap.size ≤ g ∧ g < w'.heap.size) ∧ Below w.heap.size w w'
end

def burnRes (p : DProg) (g : DGor) (most : Int) : DGor := if gorOkB p g = true then runR p g (cntR p g (limN most)) else zeroG
def burnCnt (p : DProg) (g : DGor) (most : Int) : Int := if gorOkB p g = true then (cntR p g (limN most) : Int) else 0
def stepRes (p : DProg) (g : DGor) : DGor := if (gorOkB p g && locB p g) = true then stepR (atI p g) g else zeroG
theorem own_zeroG (w : World) : layGor.own w (fun _ => False) zeroG [.int .i64 0, .int .i64 0, .slice none 0 0, .int .i64 0, .slice none 0 0] :=
  ownGor (x := zeroG) (F2 := fun _ => False) (F4 := fun _ => False) (by decide) (by decide) (TailR.of (ownG_nil Lay.int 3 w)) (by decide) (TailR.of (ownG_nil layItem 96 w)) (fun _ h => h) (fun _ h => h) (fun _ h => h.elim)
theorem HoldG.own {F : Nat → Prop} {x : DGor} {W : World} {A2 A4 : Option Addr} {n2 c2 n4 c4 : Nat} (h : HoldG F x W A2 n2 c2 A4 n4 c4) :
    ∃ G, layGor.own W G x [.int .i64 x.fProc, .int .i64 x.fPc, .slice A2 n2 c2, .int .i64 x.fState, .slice A4 n4 c4] ∧ ∀ g, G g → F g ∧ g < W.heap.size := by
  obtain ⟨h0, h1, h3, rfl, rfl, F2, F4, o2, o4, hF, hd⟩ := h
  exact ⟨fun g => F2 g ∨ F4 g, ownGor h0 h1 (TailR.of o2) h3 (TailR.of o4) (fun g h => .inl h) (fun g h => .inr h) hd, hF⟩
theorem burn_made {p : DProg} {g : DGor} {most : Int} {w : World} {e : Ending} {w' : World} (h : BurnE p g (limN most) w e w') : MadeT layGor w (burnRes p g most) (.int .i64 (burnCnt p g most)) e w' := by
  unfold burnRes burnCnt
  rcases h with ⟨h, rfl, hb⟩ | ⟨h, n, xp, xc, xr, xs, xt, A2, n2, c2, A4, n4, c4, hs, hx, rfl, hh, hb⟩
  · rw [if_neg (by rw [h]; decide), if_neg (by rw [h]; decide)]
    exact ⟨_, _, rfl, own_zeroG w', fun g hg => hg.elim, hb⟩
  · have hn := stops_uniq (cnt_stops p g (limN most)) hs
    rw [if_pos h, if_pos h, hn, hx]
    obtain ⟨G, ho, hG⟩ := hh.own
    exact ⟨_, G, rfl, ho, fun g hg => ⟨(hG g hg).1.1, (hG g hg).2⟩, hb⟩
theorem step_made {p : DProg} {g : DGor} {w : World} {e : Ending} {w' : World} (h : StepE p g w e w') : MadeT layGor w (stepRes p g) (.bool (gorOkB p g && locB p g)) e w' := by
  unfold stepRes
  rcases h with ⟨h, rfl, hb⟩ | ⟨h, xp, xc, xr, xs, xt, A2, n2, c2, A4, n4, c4, hx, rfl, hh, hb⟩
  · rw [h, if_neg (by decide)]
    exact ⟨_, _, rfl, own_zeroG w', fun g hg => hg.elim, hb⟩
  · rw [h, if_pos rfl, hx]
    obtain ⟨G, ho, hG⟩ := hh.own
    exact ⟨_, G, rfl, ho, fun g hg => ⟨(hG g hg).1.1, (hG g hg).2⟩, hb⟩
theorem burnRes_sz {p : DProg} {g : DGor} {most : Int} (hg : szGor g ≤ 1048576) : szGor (burnRes p g most) ≤ 1048580 := by
  unfold burnRes
  split
  · rename_i h
    have := run_sz (good_of h).1 (good_of h).2 (cnt_stops p g (limN most)).2.1
    omega
  · decide
theorem stepRes_sz {p : DProg} {g : DGor} (hg : szGor g ≤ 1048576) : szGor (stepRes p g) ≤ 1048580 := by
  unfold stepRes
  split
  · rename_i h
    rw [Bool.and_eq_true] at h
    have hj : ∀ j, j < 1 → locB p (runR p g j) = true := by
      intro j hj
      have hj0 : j = 0 := by omega
      subst hj0
      exact h.2
    have := run_sz (good_of h.1).1 (good_of h.1).2 hj
    have h2 : runR p g 1 = stepR (atI p g) g := rfl
    rw [h2] at this
    omega
  · decide
theorem vcntG9_le {x : DGor} (h : szGor x ≤ 1048580) : 0 ≤ vcntGor x ∧ vcntGor x ≤ 4194400 := by
  unfold szGor at h
  unfold vcntGor
  omega
theorem vcntP9_le {x : DProg} (h : szProg x ≤ 1048580) : 0 ≤ vcntProg x ∧ vcntProg x ≤ 8388700 := by
  have g1 := sum_bound (f := cntSelect) (s := szSelect) (a := 5) (b := 5) (fun g => by unfold cntSelect szSelect; omega) x.fSels
  have g2 := sum_bound (f := cntProc) (s := szProc) (a := 5) (b := 5) (fun g => by unfold cntProc szProc; omega) x.fProcs
  have p1 := sum_pos cntSelect_pos x.fSels
  have p2 := sum_pos cntProc_pos x.fProcs
  unfold szProg at h
  unfold vcntProg
  omega
end Go.Proofs.YtapbjnfopniicaaGreatDoor

namespace Go.Proofs.YtapbjnfopniicaaGreatDoor
set_option linter.unusedSimpArgs false
set_option linter.unusedVariables false
open Go.RowKit

theorem at_see {w : World} {hi : Nat} {p : DProg} {g : DGor} {vs : List Value} (hp : layProg.see w hi p vs) (hat : 0 ≤ g.fPc ∧ g.fPc < instrsZ p g.fProc) (W : World) (F : Nat → Prop) :
    layInstr.own W F (atI p g) [.int .i64 (atI p g).fOp, .int .i64 (atI p g).fA, .int .i64 (atI p g).fB, .int .i64 (atI p g).fC] := by
  obtain ⟨q, c, hq, hc, e1, e2, e3⟩ := at_get hat
  rw [e3]
  obtain ⟨A0, n0, c0, B2, m2, d2, A3, n3, c3, rfl, -, -, -, ⟨hc3, hm3, s3⟩⟩ := seeProg hp
  have hqn : q < n3 := by have := s3.1; omega
  obtain ⟨hx, gP, oP, ws, rfl, hgP, hsee, hcell⟩ := s3.at_ hqn
  obtain ⟨AC, nC, cC, rfl, hcC, hmC, sC⟩ := seeProc hsee
  have hcn : c < nC := by have := sC.1; omega
  obtain ⟨hy, gC, oC, us, rfl, hgC, ⟨rfl, hwf⟩, hcell2⟩ := sC.at_ hcn
  exact ⟨rfl, hwf⟩
theorem own_zeroI (W : World) (F : Nat → Prop) : layInstr.own W F ⟨0, 0, 0, 0⟩ [.int .i64 0, .int .i64 0, .int .i64 0, .int .i64 0] := ⟨rfl, by decide⟩
theorem next_made {w : World} {hi : Nat} {p : DProg} {g : DGor} {vs : List Value} (hp : layProg.see w hi p vs) {e : Ending} {w' : World}
    (h : e = .returned (.tuple #[.agg #[.int .i64 (nextI p g).fOp, .int .i64 (nextI p g).fA, .int .i64 (nextI p g).fB, .int .i64 (nextI p g).fC], .bool (nextB p g)]) ∧ Below w.heap.size w w') : MadeT layInstr w (nextI p g) (.bool (nextB p g)) e w' := by
  obtain ⟨rfl, hb⟩ := h
  refine ⟨_, fun _ => False, rfl, ?_, fun g hg => hg.elim, hb⟩
  unfold nextI
  split
  · rename_i hn
    have hok : gorOkB p g = true := by
      unfold nextB at hn
      rw [Bool.and_eq_true] at hn
      exact hn.1
    exact at_see hp (run_good (good_of hok).1 (good_of hok).2 _ (cnt_stops p g 500).2.1).1.1 _ _
  · exact own_zeroI _ _
end Go.Proofs.YtapbjnfopniicaaGreatDoor
