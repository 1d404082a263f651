
/- The numbers of a right program: how many, in which bounds; a list of ints in memory of its own, as the laws' helpers want it. -/

import Derived.Test.YtikcoplihfoiiaaDoorNumsS

import Derived.Test.YtikcoplihfoiiaaDoorMProg

import Derived.Test.YtikcoplihfoiiaaDoorMInt

namespace Go.Proofs.YtikcoplihfoiiaaDoor
set_option linter.unusedSimpArgs false
set_option linter.unusedVariables false
open Go.RowKit

theorem flat_max {α : Type} {f : α → List Int} {c : Nat} : ∀ {l : List α}, (∀ x ∈ l, (f x).length ≤ c) → (l.flatMap f).length ≤ c * l.length
  | [], _ => by simp
  | x :: l, h => by
    have h1 := h x (by simp)
    have h2 := flat_max (l := l) fun y hy => h y (by simp [hy])
    rw [List.flatMap_cons, List.length_append, List.length_cons, Nat.mul_add]
    omega
theorem numsB_len (p : DProg) : (numsB p).length ≤ 2000 := by
  unfold numsB
  split
  · rename_i h
    rw [progOkB_parts] at h
    simp only [capsB, selsB, procsB, Bool.and_eq_true, decide_eq_true_eq, List.all_eq_true] at h
    obtain ⟨⟨h1, _⟩, _, _, ⟨h2, h3⟩, ⟨h4, h5⟩, h6⟩ := h
    have e1 : (p.fSels.flatMap selNums).length ≤ 22 * p.fSels.length := flat_max fun s hs => by
      have := h3 s hs
      simp only [selTopB, Bool.and_eq_true, decide_eq_true_eq] at this
      rw [selNums_len]
      omega
    have e2 : (p.fProcs.flatMap fun x => codeNums x.fCode).length ≤ 161 * p.fProcs.length := flat_max fun s hs => by
      have := h6 s hs
      simp only [procB, Bool.and_eq_true, decide_eq_true_eq] at this
      rw [codeNums_len]
      omega
    simp only [progNums, List.length_append, List.length_cons, List.length_nil]
    omega
  · simp

theorem SeenR.all {α : Type} {L : Lay α} {w : World} {hi n : Nat} {A : Option Addr} {xs : List α} (h : SeenR L w hi A n xs) : ∀ x ∈ xs, ∃ vs, L.see w hi x vs := by
  intro x hx
  obtain ⟨i, hi'⟩ := List.getElem?_of_mem hx
  rcases h.2 with h0 | ⟨g, o, e1, hg, f, hf⟩
  · rw [h0] at hx; cases hx
  · exact ⟨f i, (hf i x hi').1⟩
theorem progNums_wf {w : World} {hi : Nat} {p : DProg} {vs : List Value} (h : layProg.see w hi p vs) (hsz : szProg p ≤ 1048576) : ∀ z ∈ progNums p, (Lit.int .i64 z).wf = true := by
  obtain ⟨A0, n0, c0, A2, n2, c2, A3, n3, c3, rfl, ⟨hc0, hm0, s0⟩, hw1, ⟨hc2, hm2, s2⟩, ⟨hc3, hm3, s3⟩⟩ := seeProg h
  have small : ∀ n : Nat, n ≤ 1048576 → (Lit.int .i64 (n : Int)).wf = true := fun n hn => wf_small (by omega) (by omega)
  unfold szProg at hsz
  have hcaps : ∀ z ∈ p.fCaps, (Lit.int .i64 z).wf = true := fun z hz => by
    obtain ⟨vs, hv⟩ := s0.all z hz
    exact hv.2
  have hsels : ∀ s ∈ p.fSels, ∀ z ∈ selNums s, (Lit.int .i64 z).wf = true := fun s hs z hz => by
    obtain ⟨vs, hv⟩ := s2.all s hs
    obtain ⟨B0, m0, b0, rfl, ⟨_, _, t0⟩, hwe⟩ := seeSelect hv
    have hlen : s.fCases.length ≤ 1048576 := by have h1 : s.fCases.length ≤ (p.fSels.map szSelect).sum := sum_mem_le szSelect hs; omega
    rw [selNums, List.mem_cons, List.mem_append, List.mem_flatMap] at hz
    rcases hz with rfl | ⟨x, hx, hz⟩ | hz
    · exact small _ hlen
    · obtain ⟨us, hu⟩ := t0.all x hx
      obtain ⟨_, w1, w2, w3, w4⟩ := hu
      simp only [caseNums, List.mem_cons, List.not_mem_nil, or_false] at hz
      rcases hz with rfl | rfl | rfl | rfl | rfl
      · split <;> decide
      · exact w1
      · exact w2
      · exact w3
      · exact w4
    · rw [List.mem_singleton] at hz
      rw [hz]
      exact hwe
  have hprocs : ∀ s ∈ p.fProcs, ∀ z ∈ codeNums s.fCode, (Lit.int .i64 z).wf = true := fun s hs z hz => by
    obtain ⟨vs, hv⟩ := s3.all s hs
    obtain ⟨B0, m0, b0, rfl, _, _, t0⟩ := seeProc hv
    have hlen : s.fCode.length ≤ 1048576 := by have h1 : s.fCode.length ≤ (p.fProcs.map szProc).sum := sum_mem_le szProc hs; omega
    rw [codeNums, List.mem_cons, List.mem_flatMap] at hz
    rcases hz with rfl | ⟨x, hx, hz⟩
    · exact small _ hlen
    · obtain ⟨us, hu⟩ := t0.all x hx
      obtain ⟨_, w1, w2, w3, w4⟩ := hu
      simp only [instrNums, List.mem_cons, List.not_mem_nil, or_false] at hz
      rcases hz with rfl | rfl | rfl | rfl
      · exact w1
      · exact w2
      · exact w3
      · exact w4
  intro z hz
  unfold progNums at hz
  rw [List.mem_append, List.mem_append, List.mem_append, List.mem_append] at hz
  rcases hz with (((hz | hz) | hz) | hz) | hz
  · rcases List.mem_cons.1 hz with rfl | hz
    · exact small _ (by omega)
    · exact hcaps z hz
  · simp only [List.mem_cons, List.not_mem_nil, or_false] at hz
    rcases hz with rfl | rfl
    · exact hw1
    · exact small _ (by omega)
  · obtain ⟨s, hs, hz⟩ := List.mem_flatMap.1 hz
    exact hsels s hs z hz
  · rw [List.mem_singleton] at hz
    rw [hz]
    exact small _ (by omega)
  · obtain ⟨s, hs, hz⟩ := List.mem_flatMap.1 hz
    exact hprocs s hs z hz
theorem numsB_wf {w : World} {hi : Nat} {p : DProg} {vs : List Value} (h : layProg.see w hi p vs) (hsz : szProg p ≤ 1048576) : ∀ z ∈ numsB p, (Lit.int .i64 z).wf = true := by
  unfold numsB
  split
  · exact progNums_wf h hsz
  · intro z hz; cases hz

theorem sum_cntSelect (l : List DSelect) : (l.map cntSelect).sum ≤ 5 * ((l.length + (l.map szSelect).sum : Nat) : Int) := by
  induction l with
  | nil => simp
  | cons s l ih =>
    simp only [List.map_cons, List.sum_cons, List.length_cons, cntSelect, szSelect] at ih ⊢
    omega
theorem sum_cntProc (l : List DProc) : (l.map cntProc).sum ≤ 5 * ((l.length + (l.map szProc).sum : Nat) : Int) := by
  induction l with
  | nil => simp
  | cons s l ih =>
    simp only [List.map_cons, List.sum_cons, List.length_cons, cntProc, szProc] at ih ⊢
    omega
theorem vcntProg_le (x : DProg) : vcntProg x ≤ 5 * (szProg x : Int) := by
  have h1 := sum_cntSelect x.fSels
  have h2 := sum_cntProc x.fProcs
  unfold vcntProg szProg
  omega
theorem vcntProg_pos (x : DProg) : 0 ≤ vcntProg x := by
  have h1 := sum_pos cntSelect_pos x.fSels
  have h2 := sum_pos cntProc_pos x.fProcs
  unfold vcntProg
  omega

theorem Own.seeI {w : World} {lo hi n c : Nat} {A : Option Addr} {l : List Int} (h : Own w lo hi 3 1 A n c (I l)) (hw : ∀ z ∈ l, (Lit.int .i64 z).wf = true) : SeenR Lay.int w hi A n l := by
  have hl := own_len h
  refine ⟨hl.symm, ?_⟩
  rcases h.seen.2 with h0 | ⟨g, o, e1, hg, hcell⟩
  · left; simpa using h0
  · refine .inr ⟨g, o, e1, hg, fun i => [.int .i64 (l.getD i 0)], fun i x hx => ?_⟩
    have hxd : l.getD i 0 = x := by simp [List.getD, hx]
    simp only [hxd]
    refine ⟨⟨rfl, hw x (List.mem_of_getElem? hx)⟩, fun j u hu => ?_⟩
    have hj : j = 0 := by
      have := (List.getElem?_eq_some_iff.1 hu).1
      simpa using this
    subst hj
    obtain rfl : Value.int .i64 x = u := by simpa using hu
    have := hcell i (.int .i64 x) (by simp [hx])
    simpa [Lay.int, Lay.flat] using this
theorem Own.rowI {w : World} {lo hi n c : Nat} {A : Option Addr} {l : List Int} (h : Own w lo hi 3 1 A n c (I l)) (hw : ∀ z ∈ l, (Lit.int .i64 z).wf = true) : OwnR Lay.int 3 w (fun g => lo ≤ g ∧ g < hi) A n c l := by
  have hl := own_len h
  refine ⟨hl.symm, I l, fun _ _ => False, ?_, fun g hg => ⟨(h.blk hg).1, (h.blk hg).2.1⟩, fun i x hx => ?_, fun _ _ _ h => h.elim, fun _ _ _ h => h.elim, fun _ _ _ _ _ h => h.elim⟩
  · exact h.rebound fun g hg => ⟨Nat.zero_le _, (h.blk hg).2.2⟩
  · refine ⟨?_, hw x (List.mem_of_getElem? hx)⟩
    have hi' : i < l.length := (List.getElem?_eq_some_iff.1 hx).1
    apply List.ext_getElem?
    intro j
    simp only [show (Lay.int).size = 1 from rfl, Nat.mul_one, List.getElem?_take, List.getElem?_drop, List.getElem?_map]
    rcases j with _ | j
    · simp [hx]
    · simp
end Go.Proofs.YtikcoplihfoiiaaDoor
