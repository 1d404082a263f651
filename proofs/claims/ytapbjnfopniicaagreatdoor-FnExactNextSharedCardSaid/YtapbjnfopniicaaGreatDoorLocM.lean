
/- Local steps, as mathematics: what one does, what a right goroutine keeps, how far a burn comes. -/

import Derived.Test.YtapbjnfopniicaaGreatDoorGMay

import Derived.Test.YtapbjnfopniicaaGreatDoorGGorX

namespace Go.Proofs.YtapbjnfopniicaaGreatDoor
set_option linter.unusedSimpArgs false
set_option linter.unusedVariables false
open Go.RowKit

def sharedZ (op : Int) : Bool := decide (8 ≤ op ∧ op ≤ 15)
def locB (p : DProg) (g : DGor) : Bool := decide (g.fState = 1) && !sharedZ (atI p g).fOp
def calcZ (op x y : Int) : Int := if okV x && okV y then (if op = 3 then (x + y) % 1000 else if op = 4 then (x - y) % 1000 else if op = 5 then (if x < y then 1 else 0) else 0) else 0
def regZ (g : DGor) (r : Int) : Int := g.fRegs.getD r.toNat 0
def stepR (i : DInstr) (g : DGor) : DGor :=
  if i.fOp = 1 then overR g 0
  else if i.fOp = 2 then { g with fRegs := g.fRegs.set i.fA.toNat i.fB, fPc := g.fPc + 1 }
  else if i.fOp = 3 ∨ i.fOp = 4 ∨ i.fOp = 5 then { g with fRegs := g.fRegs.set i.fA.toNat (calcZ i.fOp (regZ g i.fB) (regZ g i.fC)), fPc := g.fPc + 1 }
  else if i.fOp = 6 then { g with fPc := i.fA }
  else if i.fOp = 7 ∧ regZ g i.fA ≠ 0 then { g with fPc := i.fB }
  else { g with fPc := g.fPc + 1 }
/-- What a local step asks of a goroutine (and keeps, as long as it is ready). -/
def GoodG (p : DProg) (g : DGor) : Prop := (0 ≤ g.fPc ∧ g.fPc < instrsZ p g.fProc) ∧ g.fRegs.length = 6 ∧ ∀ v ∈ g.fRegs, okV v = true
theorem okV_iff {v : Int} : okV v = true ↔ 0 ≤ v ∧ v ≤ 999 := by unfold okV; exact decide_eq_true_iff
theorem good_of {p : DProg} {g : DGor} (h : gorOkB p g = true) : progOkB p = true ∧ GoodG p g := by
  unfold gorOkB gorB at h
  simp only [Bool.and_eq_true, decide_eq_true_eq, List.all_eq_true] at h
  exact ⟨h.1, h.2.1, h.2.2.1, fun v hv => h.2.2.2.2.1 v hv⟩
theorem instrsZ_lt {p : DProg} {q n : Nat} (hq : q < p.fProcs.length) (hn : n = p.fProcs[q].fCode.length) : instrsZ p (q : Int) = n := by
  unfold instrsZ
  rw [if_pos (by omega), Int.toNat_natCast, List.getElem?_eq_getElem hq, hn]
theorem instrsZ_small {p : DProg} (hp : progOkB p = true) (q : Int) : instrsZ p q ≤ 40 := by
  unfold instrsZ
  split
  · rename_i h
    obtain ⟨k, rfl⟩ := Int.eq_ofNat_of_zero_le h.1
    have hk : k < p.fProcs.length := by omega
    rw [Int.toNat_natCast, List.getElem?_eq_getElem hk]
    unfold progOkB at hp
    simp only [Bool.and_eq_true, List.all_eq_true] at hp
    have h1 := hp.2.2.2 _ (List.getElem_mem hk)
    unfold procB at h1
    simp only [Bool.and_eq_true, decide_eq_true_eq] at h1
    simp only
    omega
  · omega
/-- What a local instruction of a right program names. -/
structure LocalI (p : DProg) (g : DGor) (i : DInstr) : Prop where
  op : 1 ≤ i.fOp ∧ i.fOp ≤ 7
  set : i.fOp = 2 → (0 ≤ i.fA ∧ i.fA ≤ 5) ∧ 0 ≤ i.fB ∧ i.fB ≤ 999
  calc3 : i.fOp = 3 ∨ i.fOp = 4 ∨ i.fOp = 5 → (0 ≤ i.fA ∧ i.fA ≤ 5) ∧ (0 ≤ i.fB ∧ i.fB ≤ 5) ∧ 0 ≤ i.fC ∧ i.fC ≤ 5
  jump : i.fOp = 6 → 0 ≤ i.fA ∧ i.fA < instrsZ p g.fProc
  cond : i.fOp = 7 → (0 ≤ i.fA ∧ i.fA ≤ 5) ∧ 0 ≤ i.fB ∧ i.fB < instrsZ p g.fProc
  next : i.fOp ≠ 1 → i.fOp ≠ 6 → g.fPc + 1 < instrsZ p g.fProc
theorem at_local {p : DProg} {g : DGor} (hp : progOkB p = true) (hat : 0 ≤ g.fPc ∧ g.fPc < instrsZ p g.fProc) (hs : sharedZ (atI p g).fOp = false) : LocalI p g (atI p g) := by
  obtain ⟨q, c, hq, hc, e1, e2, e3⟩ := at_get hat
  have hn : instrsZ p g.fProc = p.fProcs[q].fCode.length := by rw [e1]; exact instrsZ_lt hq rfl
  unfold progOkB at hp
  simp only [Bool.and_eq_true, List.all_eq_true] at hp
  have h1 := hp.2.2.2 _ (List.getElem_mem hq)
  unfold procB at h1
  simp only [Bool.and_eq_true, List.all_eq_true, decide_eq_true_eq] at h1
  have h2 := h1.2.1 _ (List.getElem_mem hc)
  have h3 := h1.2.2
  rw [← e3] at h2
  unfold stepB at h2
  rw [Bool.and_eq_true] at h2
  have h4 := h2.1
  unfold instrOk instrOkB at h4
  unfold sharedZ at hs
  rw [decide_eq_false_iff_not] at hs
  have hend : g.fPc + 1 = instrsZ p g.fProc → (atI p g).fOp = 1 ∨ (atI p g).fOp = 6 := by
    intro he
    rw [hn, e2] at he
    have hcl : c = p.fProcs[q].fCode.length - 1 := by omega
    unfold endB at h3
    rw [List.getElem?_eq_getElem (by omega)] at h3
    have he4 : p.fProcs[q].fCode[p.fProcs[q].fCode.length - 1]'(by omega) = atI p g := by rw [e3]; simp only [hcl]
    rw [he4] at h3
    simpa using h3
  rw [← hn] at h4
  have hat2 := hat.2
  clear h1 h2 h3 e3 hp hat
  generalize atI p g = i at *
  have hop : 1 ≤ i.fOp ∧ i.fOp ≤ 7 := by
    by_cases k1 : i.fOp = 1
    · omega
    by_cases k2 : i.fOp = 2
    · omega
    by_cases k3 : i.fOp = 3 ∨ i.fOp = 4 ∨ i.fOp = 5
    · omega
    by_cases k6 : i.fOp = 6
    · omega
    by_cases k7 : i.fOp = 7
    · omega
    by_cases k8 : i.fOp = 8 ∨ i.fOp = 9 ∨ i.fOp = 10 ∨ i.fOp = 11 ∨ i.fOp = 12 ∨ i.fOp = 13 ∨ i.fOp = 14 ∨ i.fOp = 15
    · omega
    rw [if_neg k1, if_neg k2, if_neg k3, if_neg k6, if_neg k7, if_neg (by omega), if_neg (by omega), if_neg (by omega), if_neg (by omega), if_neg (by omega), if_neg (by omega), if_neg (by omega)] at h4
    exact absurd h4 Bool.false_ne_true
  refine ⟨hop, ?_, ?_, ?_, ?_, ?_⟩
  · intro h
    rw [h] at h4
    simp [inB, regB, valB] at h4
    omega
  · rintro (h | h | h)
    all_goals
      rw [h] at h4
      simp [inB, regB, valB] at h4
      omega
  · intro h
    rw [h] at h4
    simp [inB, regB, valB] at h4
    omega
  · intro h
    rw [h] at h4
    simp [inB, regB, valB] at h4
    omega
  · intro h1 h6
    rcases Decidable.em (g.fPc + 1 = instrsZ p g.fProc) with he | he
    · rcases hend he with h | h
      · exact absurd h h1
      · exact absurd h h6
    · omega
theorem calcZ_ok (op x y : Int) : 0 ≤ calcZ op x y ∧ calcZ op x y ≤ 999 := by
  unfold calcZ
  split
  · split
    · omega
    · split
      · omega
      · split
        · split <;> omega
        · omega
  · omega
theorem wf_val {v : Int} (h : 0 ≤ v ∧ v ≤ 1048576) : (Lit.int .i64 v).wf = true := by
  exact WalkArith.wf_i64 (by omega)
theorem regZ_get {g : DGor} {r : Int} (hr : 0 ≤ r ∧ r ≤ 5) (hl : g.fRegs.length = 6) : g.fRegs[r.toNat]? = some (regZ g r) := by
  unfold regZ
  have : r.toNat < g.fRegs.length := by omega
  rw [List.getElem?_eq_getElem this, List.getD_eq_getElem?_getD, List.getElem?_eq_getElem this, Option.getD_some]
theorem regZ_ok {g : DGor} {r : Int} (hr : 0 ≤ r ∧ r ≤ 5) (hl : g.fRegs.length = 6) (h : ∀ v ∈ g.fRegs, okV v = true) : 0 ≤ regZ g r ∧ regZ g r ≤ 999 :=
  okV_iff.1 (h _ (List.mem_of_getElem? (regZ_get hr hl)))
theorem mem_set {xs : List Int} {n : Nat} {v : Int} (hv : okV v = true) (h : ∀ x ∈ xs, okV x = true) : ∀ x ∈ xs.set n v, okV x = true := by
  intro x hx
  rcases List.mem_or_eq_of_mem_set hx with hx | rfl
  · exact h x hx
  · exact hv
/-- A step of a right goroutine that may make one leaves it so, or over. -/
theorem step_good {p : DProg} {g : DGor} (hp : progOkB p = true) (hg : GoodG p g) (hl : locB p g = true) :
    GoodG p (stepR (atI p g) g) ∧ (((stepR (atI p g) g).fState = 1 ∧ (stepR (atI p g) g).fTrace = g.fTrace) ∨ ((stepR (atI p g) g).fState = 3 ∧ (stepR (atI p g) g).fTrace = g.fTrace ++ [⟨9, 0, 0, false⟩])) := by
  unfold locB at hl
  simp only [Bool.and_eq_true, decide_eq_true_eq, Bool.not_eq_true'] at hl
  have L := at_local hp hg.1 hl.2
  obtain ⟨ha, hr, hv⟩ := hg
  generalize atI p g = i at *
  unfold stepR
  split
  · exact ⟨⟨ha, hr, hv⟩, .inr ⟨rfl, rfl⟩⟩
  rename_i h1
  split
  · rename_i h2
    have := L.set h2
    exact ⟨⟨⟨by simp only; omega, by simp only; exact L.next h1 (by omega)⟩, by simp only [List.length_set]; exact hr, mem_set (okV_iff.2 this.2) hv⟩, .inl ⟨hl.1, rfl⟩⟩
  rename_i h2
  split
  · rename_i h3
    exact ⟨⟨⟨by simp only; omega, by simp only; exact L.next h1 (by omega)⟩, by simp only [List.length_set]; exact hr, mem_set (okV_iff.2 (calcZ_ok _ _ _)) hv⟩, .inl ⟨hl.1, rfl⟩⟩
  rename_i h3
  split
  · rename_i h6
    exact ⟨⟨L.jump h6, hr, hv⟩, .inl ⟨hl.1, rfl⟩⟩
  rename_i h6
  split
  · rename_i h7
    exact ⟨⟨(L.cond h7.1).2, hr, hv⟩, .inl ⟨hl.1, rfl⟩⟩
  · exact ⟨⟨⟨by simp only; omega, by simp only; exact L.next h1 h6⟩, hr, hv⟩, .inl ⟨hl.1, rfl⟩⟩
theorem step_proc (i : DInstr) (g : DGor) : (stepR i g).fProc = g.fProc := by
  unfold stepR
  split
  · rfl
  split
  · rfl
  split
  · rfl
  split
  · rfl
  split <;> rfl

/-- What k steps make of it. -/
def runR (p : DProg) (g : DGor) : Nat → DGor
  | 0 => g
  | k + 1 => stepR (atI p (runR p g k)) (runR p g k)
/-- n is how many steps a burn of at most lim makes. -/
def Stops (p : DProg) (g : DGor) (lim n : Nat) : Prop := n ≤ lim ∧ (∀ j, j < n → locB p (runR p g j) = true) ∧ (n < lim → locB p (runR p g n) = false)
def cntR (p : DProg) (g : DGor) : Nat → Nat
  | 0 => 0
  | lim + 1 => if cntR p g lim = lim ∧ locB p (runR p g lim) = true then lim + 1 else cntR p g lim
theorem cnt_stops (p : DProg) (g : DGor) : ∀ lim, Stops p g lim (cntR p g lim)
  | 0 => ⟨Nat.le_refl _, fun j hj => absurd hj (Nat.not_lt_zero j), fun h => absurd h (Nat.not_lt_zero _)⟩
  | lim + 1 => by
    obtain ⟨h1, h2, h3⟩ := cnt_stops p g lim
    unfold cntR
    split
    · rename_i h
      refine ⟨Nat.le_refl _, fun j hj => ?_, fun hh => by omega⟩
      by_cases hj2 : j = lim
      · rw [hj2]; exact h.2
      · exact h2 j (by rw [h.1]; omega)
    · rename_i h
      refine ⟨by omega, h2, fun _ => ?_⟩
      by_cases hlt : cntR p g lim < lim
      · exact h3 hlt
      · have he : cntR p g lim = lim := by omega
        rw [he]
        cases hb : locB p (runR p g lim)
        · rfl
        · exact absurd ⟨he, hb⟩ h
theorem stops_uniq {p : DProg} {g : DGor} {lim n m : Nat} (hn : Stops p g lim n) (hm : Stops p g lim m) : n = m := by
  rcases Nat.lt_trichotomy n m with h | h | h
  · have h1 := hm.2.1 n h
    have h2 := hn.2.2 (Nat.lt_of_lt_of_le h hm.1)
    rw [h1] at h2
    exact absurd h2 (by decide)
  · exact h
  · have h1 := hn.2.1 m h
    have h2 := hm.2.2 (Nat.lt_of_lt_of_le h hn.1)
    rw [h1] at h2
    exact absurd h2 (by decide)
/-- Whatever has come of it by local steps is right, or over; and holds little more. -/
theorem run_good {p : DProg} {g : DGor} (hp : progOkB p = true) (hg : GoodG p g) : ∀ k, (∀ j, j < k → locB p (runR p g j) = true) →
    GoodG p (runR p g k) ∧ (runR p g k).fProc = g.fProc ∧ ((runR p g k).fTrace = g.fTrace ∨ ((runR p g k).fState = 3 ∧ (runR p g k).fTrace = g.fTrace ++ [⟨9, 0, 0, false⟩]))
  | 0, _ => ⟨hg, rfl, .inl rfl⟩
  | k + 1, h => by
    obtain ⟨h1, h2, h3⟩ := run_good hp hg k (fun j hj => h j (by omega))
    have hk := h k (by omega)
    obtain ⟨h4, h5⟩ := step_good hp h1 hk
    have hst : (runR p g k).fState = 1 := by
      unfold locB at hk
      simp only [Bool.and_eq_true, decide_eq_true_eq] at hk
      exact hk.1
    have h6 : (runR p g k).fTrace = g.fTrace := by
      rcases h3 with h3 | ⟨h3, _⟩
      · exact h3
      · omega
    refine ⟨h4, (step_proc _ _).trans h2, ?_⟩
    rcases h5 with ⟨_, h5⟩ | ⟨h5, h7⟩
    · exact .inl (h5.trans h6)
    · exact .inr ⟨h5, by rw [← h6]; exact h7⟩
theorem run_sz {p : DProg} {g : DGor} (hp : progOkB p = true) (hg : GoodG p g) {k : Nat} (h : ∀ j, j < k → locB p (runR p g j) = true) : szGor (runR p g k) ≤ szGor g + 1 := by
  obtain ⟨h1, _, h3⟩ := run_good hp hg k h
  unfold szGor
  rw [h1.2.1, hg.2.1]
  rcases h3 with h3 | ⟨_, h3⟩
  · rw [h3]; omega
  · rw [h3, List.length_append]; simp; omega
theorem run_szL {p : DProg} {g : DGor} (hp : progOkB p = true) (hg : GoodG p g) {k : Nat} (h : ∀ j, j < k → locB p (runR p g j) = true) (hs : (runR p g k).fState = 1) : szGor (runR p g k) = szGor g := by
  obtain ⟨h1, _, h3⟩ := run_good hp hg k h
  unfold szGor
  rw [h1.2.1, hg.2.1]
  rcases h3 with h3 | ⟨h4, _⟩
  · rw [h3]
  · omega
def limN (most : Int) : Nat := (min most 2000).toNat
/-- What Burn answers. -/
def burnN (p : DProg) (g : DGor) (most : Int) : Nat := cntR p g (limN most)
def burnG (p : DProg) (g : DGor) (most : Int) : DGor := runR p g (burnN p g most)
def zeroG : DGor := ⟨0, 0, [], 0, []⟩
end Go.Proofs.YtapbjnfopniicaaGreatDoor
