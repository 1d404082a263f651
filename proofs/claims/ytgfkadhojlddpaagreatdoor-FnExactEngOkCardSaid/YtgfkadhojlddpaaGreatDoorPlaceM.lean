
/- Places: rows of them. -/

import Derived.Test.YtgfkadhojlddpaaGreatDoorGMay

import Derived.Test.YtgfkadhojlddpaaGreatDoorGInv

import Derived.Test.YtgfkadhojlddpaaGreatDoorEngX

namespace Go.Proofs.YtgfkadhojlddpaaGreatDoor
set_option linter.unusedSimpArgs false
set_option linter.unusedVariables false
open Go.RowKit

abbrev plC (x : DPlace) : List Value := [.bool x.fMutex, .int .i64 x.fObj, .bool x.fSend, .int .i64 x.fG, .int .i64 x.fCase, .int .i64 x.fVal]
def wfP (x : DPlace) : Prop := (Lit.int .i64 x.fObj).wf = true ∧ (Lit.int .i64 x.fG).wf = true ∧ (Lit.int .i64 x.fCase).wf = true ∧ (Lit.int .i64 x.fVal).wf = true
theorem infoPlaceE : (Tryz.prog.info? 97).map (fun i => (i.zero, i.size, i.bytes)) = some (some (.agg #[.bool false, .int .i64 0, .bool false, .int .i64 0, .int .i64 0, .int .i64 0]), 6, 48) := by kernel_rfl
/-- A row of places behind a call: blocks from lo on may have turned. -/
def MoreP (w : World) (lo : Nat) (ps : List DPlace) (e : Ending) (w' : World) : Prop :=
  ∃ B c, e = .returned (.slice B ps.length c) ∧ Own w' lo w'.heap.size 97 6 B ps.length c ((ps.map plC).flatten) ∧ Below lo w w'
theorem rowP {w : World} {lo hi : Nat} {A : Option Addr} {c : Nat} {ps : List DPlace} (h : Own w lo hi 97 6 A ps.length c ((ps.map plC).flatten)) (hw : ∀ x ∈ ps, wfP x) : OwnR layPlace 97 w (fun g => lo ≤ g ∧ g < hi) A ps.length c ps :=
  ownR_flat (cells := plC) h rfl hw

/-- The same row, in a slot; its own block from lo on. -/
def RowAtP (lo : Nat) (W : World) (ps : List DPlace) (v : Value) : Prop := ∃ A c, v = .slice A ps.length c ∧ Own W lo W.heap.size 97 6 A ps.length c ((ps.map plC).flatten)
theorem RowAtP.up {lo : Nat} {W W' : World} {ps : List DPlace} {v : Value} (h : RowAtP lo W ps v) (hb : Below W.heap.size W W') : RowAtP lo W' ps v := by
  obtain ⟨A, c, h1, h2⟩ := h
  exact ⟨A, c, h1, (h2.below hb (Nat.le_refl _)).wider (Nat.le_refl _) hb.size⟩
theorem wf_m1 : (Lit.int .i64 (-1)).wf = true := by decide
theorem wf_0 : (Lit.int .i64 0).wf = true := by decide
theorem regR_in {g : DGor} {r : Nat} (h : r < g.fRegs.length) : regR g r = g.fRegs[r] := by
  unfold regR
  rw [if_pos (by omega), Int.toNat_natCast]
  simp [h]
theorem regR_ok {g : DGor} (h : g.fRegs.all okV = true) (r : Int) : 0 ≤ regR g r ∧ regR g r ≤ 999 := by
  unfold regR
  split
  · rename_i h1
    have h2 : r.toNat < g.fRegs.length := by omega
    have h3 := List.all_eq_true.1 h _ (List.getElem_mem h2)
    have h4 := of_decide_eq_true h3
    simpa [h2] using h4
  · omega
theorem gorB_parts {n : Int} {g : DGor} (h : gorB n g = true) : (0 ≤ g.fPc ∧ g.fPc < n) ∧ g.fRegs.length = 6 ∧ g.fRegs.all okV = true := by
  unfold gorB at h
  simp only [Bool.and_eq_true] at h
  exact ⟨of_decide_eq_true h.1, of_decide_eq_true h.2.1, h.2.2.2.1⟩
/-- A right select's cases. -/
theorem sel_case {p : DProg} (hp : progOkB p = true) {s : DSelect} (hs : s ∈ p.fSels) {k : Nat} {c : DCase} (hc : s.fCases[k]? = some c) :
    (-1 ≤ c.fChan ∧ c.fChan < p.fCaps.length) ∧ (0 ≤ c.fReg ∧ c.fReg ≤ 5) := by
  unfold progOkB at hp
  simp only [Bool.and_eq_true, List.all_eq_true] at hp
  have h1 := hp.2.2.1 _ hs
  unfold selTopB selectB at h1
  simp only [Bool.and_eq_true, List.all_eq_true] at h1
  have hk := (List.getElem?_eq_some_iff.1 hc).1
  have h2 := h1.2.2.1 k (List.mem_range.2 hk)
  unfold caseAt at h2
  rw [hc] at h2
  simp only [Bool.and_eq_true] at h2
  have h3 := h2.1
  unfold caseB inB regB at h3
  simp only [Bool.and_eq_true] at h3
  have h4 := of_decide_eq_true h3.1
  have h5 := of_decide_eq_true h3.2.1
  exact ⟨⟨h4.1, by omega⟩, h5⟩
theorem sel_len {p : DProg} (hp : progOkB p = true) {s : DSelect} (hs : s ∈ p.fSels) : s.fCases.length ≤ 4 := by
  unfold progOkB at hp
  simp only [Bool.and_eq_true, List.all_eq_true] at hp
  have h1 := hp.2.2.1 _ hs
  unfold selTopB at h1
  simp only [Bool.and_eq_true] at h1
  exact of_decide_eq_true h1.1

theorem casePl_wf {g : DGor} {n k : Int} {c : DCase} (hv : ∀ r, 0 ≤ regR g r ∧ regR g r ≤ 999) (hn : (Lit.int .i64 n).wf = true) (hk : -1 ≤ k ∧ k ≤ 100) (hc : c.fChan < 100) : ∀ x ∈ casePl g n k c, wfP x := by
  intro x hx
  unfold casePl at hx
  split at hx
  · cases hx
  · simp only [List.mem_singleton] at hx
    subst hx
    refine ⟨WalkArith.wf_i64 (by simp only; omega), hn, WalkArith.wf_i64 (by simp only; omega), ?_⟩
    simp only
    split
    · have := hv c.fReg
      exact WalkArith.wf_i64 (by omega)
    · decide
theorem casesPl_step {g : DGor} {n : Int} {cs : List DCase} {k : Nat} {c : DCase} (h : cs[k]? = some c) : casesPl g n cs (k + 1) = casesPl g n cs k ++ casePl g n k c := by
  unfold casesPl
  rw [flat_step, h]
theorem casePl_len (g : DGor) (n k : Int) (c : DCase) : (casePl g n k c).length ≤ 1 := by
  unfold casePl
  split <;> simp
theorem casesPl_len {g : DGor} {n : Int} {cs : List DCase} : ∀ k : Nat, (casesPl g n cs k).length ≤ k
  | 0 => by simp [casesPl]
  | k + 1 => by
    have h1 := casesPl_len (g := g) (n := n) (cs := cs) k
    cases h : cs[k]? with
    | none =>
      have h2 : casesPl g n cs (k + 1) = casesPl g n cs k := by unfold casesPl; rw [flat_step, h]; simp
      rw [h2]; omega
    | some c =>
      rw [casesPl_step h, List.length_append]
      have := casePl_len g n k c
      omega
theorem casesPl_wf {p : DProg} (hp : progOkB p = true) {s : DSelect} (hs : s ∈ p.fSels) {g : DGor} (hv : ∀ r, 0 ≤ regR g r ∧ regR g r ≤ 999) {n : Int} (hn : (Lit.int .i64 n).wf = true) (k : Nat) : ∀ x ∈ casesPl g n s.fCases k, wfP x := by
  intro x hx
  unfold casesPl at hx
  obtain ⟨j, hj, hx⟩ := List.mem_flatMap.1 hx
  cases hc : s.fCases[j]? with
  | none => rw [hc] at hx; cases hx
  | some c =>
    rw [hc] at hx
    have h1 := sel_case hp hs hc
    have h2 := sel_len hp hs
    have h3 := (List.getElem?_eq_some_iff.1 hc).1
    have h4 := (progOk_counts hp).1
    exact casePl_wf hv hn (by omega) (by omega) x hx
/-- The places of a right goroutine: numbers all. -/
theorem placesL_wf {p : DProg} {g : DGor} {n : Int} (hp : progOkB p = true) (hg : gorB (instrsZ p g.fProc) g = true) (hn : (Lit.int .i64 n).wf = true) : ∀ x ∈ placesL p g n, wfP x := by
  obtain ⟨hat, hrl, hra⟩ := gorB_parts hg
  have hv := regR_ok hra
  obtain ⟨n8, n9, n11, n12⟩ := at_names hp hat
  have hc := progOk_counts hp
  intro x hx
  unfold placesL at hx
  split at hx
  · rename_i h
    have := n8 h
    split at hx
    · cases hx
    · simp only [List.mem_singleton] at hx
      subst hx
      have h9 := hv (atI p g).fB
      exact ⟨WalkArith.wf_i64 (by simp only; omega), hn, wf_m1, WalkArith.wf_i64 (by simp only; omega)⟩
  · split at hx
    · rename_i h
      have := n9 h
      split at hx
      · cases hx
      · simp only [List.mem_singleton] at hx
        subst hx
        exact ⟨WalkArith.wf_i64 (by simp only; omega), hn, wf_m1, wf_0⟩
    · split at hx
      · rename_i h
        exact casesPl_wf hp (n11 h).2.2 hv hn _ x hx
      · split at hx
        · rename_i h
          have := n12 h
          simp only [List.mem_singleton] at hx
          subst hx
          exact ⟨WalkArith.wf_i64 (by simp only; omega), hn, wf_m1, wf_0⟩
        · cases hx
theorem placesL_len {p : DProg} {g : DGor} {n : Int} (hp : progOkB p = true) (hg : gorB (instrsZ p g.fProc) g = true) : (placesL p g n).length ≤ 4 := by
  obtain ⟨hat, hrl, hra⟩ := gorB_parts hg
  obtain ⟨n8, n9, n11, n12⟩ := at_names hp hat
  unfold placesL
  split
  · split <;> simp
  · split
    · split <;> simp
    · split
      · rename_i h
        have := casesPl_len (g := g) (n := n) (cs := (selI p (atI p g)).fCases) (selI p (atI p g)).fCases.length
        have := sel_len hp (n11 h).2.2
        omega
      · split <;> simp
theorem placesB_wf {p : DProg} {g : DGor} {n : Int} (hn : (Lit.int .i64 n).wf = true) : ∀ x ∈ placesB p g n, wfP x := by
  intro x hx
  unfold placesB at hx
  split at hx
  · rename_i h
    have h1 := h.1
    unfold gorOkB at h1
    rw [Bool.and_eq_true] at h1
    unfold toldOf at hx
    split at hx
    · exact placesL_wf h1.1 h1.2 hn x hx
    · cases hx
  · cases hx
theorem placesB_len {p : DProg} {g : DGor} {n : Int} : (placesB p g n).length ≤ 4 := by
  unfold placesB
  split
  · rename_i h
    have h1 := h.1
    unfold gorOkB at h1
    rw [Bool.and_eq_true] at h1
    unfold toldOf
    split
    · exact placesL_len h1.1 h1.2
    · simp
  · simp
end Go.Proofs.YtgfkadhojlddpaaGreatDoor
