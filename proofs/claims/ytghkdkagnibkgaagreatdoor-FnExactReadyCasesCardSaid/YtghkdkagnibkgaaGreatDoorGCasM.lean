
/- LocM, PlaceM, CasM, merged for claims. -/

import Derived.Test.YtghkdkagnibkgaaGreatDoorGMay

import Derived.Test.YtghkdkagnibkgaaGreatDoorGGorX

import Derived.Test.YtghkdkagnibkgaaGreatDoorGInv

import Derived.Test.YtghkdkagnibkgaaGreatDoorGEngM

import Derived.Test.YtghkdkagnibkgaaGreatDoorGCas

namespace Go.Proofs.YtghkdkagnibkgaaGreatDoor
set_option linter.unusedSimpArgs false
set_option linter.unusedVariables false
open Go.RowKit

def sharedZ (op : Int) : Bool := decide (8 ≤ op ∧ op ≤ 15)
def locB (p : DProg) (g : DGor) : Bool := decide (g.fState = 1) && !sharedZ (atI p g).fOp
def calcZ (op x y : Int) : Int := if okV x && okV y then (if op = 3 then (x + y) % 1000 else if op = 4 then (x - y) % 1000 else if op = 5 then (if x < y then 1 else 0) else 0) else 0
def regZ (g : DGor) (r : Int) : Int := g.fRegs.getD r.toNat 0
def stepR (i : DInstr) (g : DGor) : DGor :=
  if i.fOp = 1 then overR g 0
  else if i.fOp = 2 then { g with fRegs := g.fRegs.set i.fA.toNat i.fB, fPc := g.fPc + 1 }
  else if i.fOp = 3 ∨ i.fOp = 4 ∨ i.fOp = 5 then { g with fRegs := g.fRegs.set i.fA.toNat (calcZ i.fOp (regZ g i.fB) (regZ g i.fC)), fPc := g.fPc + 1 }
  else if i.fOp = 6 then { g with fPc := i.fA }
  else if i.fOp = 7 ∧ regZ g i.fA ≠ 0 then { g with fPc := i.fB }
  else { g with fPc := g.fPc + 1 }
/-- What a local step asks of a goroutine (and keeps, as long as it is ready). -/
def GoodG (p : DProg) (g : DGor) : Prop := (0 ≤ g.fPc ∧ g.fPc < instrsZ p g.fProc) ∧ g.fRegs.length = 6 ∧ ∀ v ∈ g.fRegs, okV v = true
/-- What a local instruction of a right program names. -/
structure LocalI (p : DProg) (g : DGor) (i : DInstr) : Prop where
  op : 1 ≤ i.fOp ∧ i.fOp ≤ 7
  set : i.fOp = 2 → (0 ≤ i.fA ∧ i.fA ≤ 5) ∧ 0 ≤ i.fB ∧ i.fB ≤ 999
  calc3 : i.fOp = 3 ∨ i.fOp = 4 ∨ i.fOp = 5 → (0 ≤ i.fA ∧ i.fA ≤ 5) ∧ (0 ≤ i.fB ∧ i.fB ≤ 5) ∧ 0 ≤ i.fC ∧ i.fC ≤ 5
  jump : i.fOp = 6 → 0 ≤ i.fA ∧ i.fA < instrsZ p g.fProc
  cond : i.fOp = 7 → (0 ≤ i.fA ∧ i.fA ≤ 5) ∧ 0 ≤ i.fB ∧ i.fB < instrsZ p g.fProc
  next : i.fOp ≠ 1 → i.fOp ≠ 6 → g.fPc + 1 < instrsZ p g.fProc
/-- What k steps make of it. -/
def runR (p : DProg) (g : DGor) : Nat → DGor
  | 0 => g
  | k + 1 => stepR (atI p (runR p g k)) (runR p g k)
/-- n is how many steps a burn of at most lim makes. -/
def Stops (p : DProg) (g : DGor) (lim n : Nat) : Prop := n ≤ lim ∧ (∀ j, j < n → locB p (runR p g j) = true) ∧ (n < lim → locB p (runR p g n) = false)
def cntR (p : DProg) (g : DGor) : Nat → Nat
  | 0 => 0
  | lim + 1 => if cntR p g lim = lim ∧ locB p (runR p g lim) = true then lim + 1 else cntR p g lim
def limN (most : Int) : Nat := (min most 2000).toNat
/-- What Burn answers. -/
def burnN (p : DProg) (g : DGor) (most : Int) : Nat := cntR p g (limN most)
def burnG (p : DProg) (g : DGor) (most : Int) : DGor := runR p g (burnN p g most)
def zeroG : DGor := ⟨0, 0, [], 0, []⟩
end Go.Proofs.YtghkdkagnibkgaaGreatDoor

namespace Go.Proofs.YtghkdkagnibkgaaGreatDoor
set_option linter.unusedSimpArgs false
set_option linter.unusedVariables false
open Go.RowKit

abbrev plC (x : DPlace) : List Value := [.bool x.fMutex, .int .i64 x.fObj, .bool x.fSend, .int .i64 x.fG, .int .i64 x.fCase, .int .i64 x.fVal]
def wfP (x : DPlace) : Prop := (Lit.int .i64 x.fObj).wf = true ∧ (Lit.int .i64 x.fG).wf = true ∧ (Lit.int .i64 x.fCase).wf = true ∧ (Lit.int .i64 x.fVal).wf = true
theorem infoPlaceE : (Tryz.prog.info? 174).map (fun i => (i.zero, i.size, i.bytes)) = some (some (.agg #[.bool false, .int .i64 0, .bool false, .int .i64 0, .int .i64 0, .int .i64 0]), 6, 48) := by kernel_rfl
/-- A row of places behind a call: blocks from lo on may have turned. -/
def MoreP (w : World) (lo : Nat) (ps : List DPlace) (e : Ending) (w' : World) : Prop :=
  ∃ B c, e = .returned (.slice B ps.length c) ∧ Own w' lo w'.heap.size 174 6 B ps.length c ((ps.map plC).flatten) ∧ Below lo w w'
theorem rowP {w : World} {lo hi : Nat} {A : Option Addr} {c : Nat} {ps : List DPlace} (h : Own w lo hi 174 6 A ps.length c ((ps.map plC).flatten)) (hw : ∀ x ∈ ps, wfP x) : OwnR layPlace 174 w (fun g => lo ≤ g ∧ g < hi) A ps.length c ps :=
  ownR_flat (cells := plC) h rfl hw

/-- The same row, in a slot; its own block from lo on. -/
def RowAtP (lo : Nat) (W : World) (ps : List DPlace) (v : Value) : Prop := ∃ A c, v = .slice A ps.length c ∧ Own W lo W.heap.size 174 6 A ps.length c ((ps.map plC).flatten)
theorem RowAtP.up {lo : Nat} {W W' : World} {ps : List DPlace} {v : Value} (h : RowAtP lo W ps v) (hb : Below W.heap.size W W') : RowAtP lo W' ps v := by
  obtain ⟨A, c, h1, h2⟩ := h
  exact ⟨A, c, h1, (h2.below hb (Nat.le_refl _)).wider (Nat.le_refl _) hb.size⟩
theorem wf_m1 : (Lit.int .i64 (-1)).wf = true := by decide
theorem wf_0 : (Lit.int .i64 0).wf = true := by decide
theorem regR_in {g : DGor} {r : Nat} (h : r < g.fRegs.length) : regR g r = g.fRegs[r] := by
  unfold regR
  rw [if_pos (by omega), Int.toNat_natCast]
  simp [h]
theorem regR_ok {g : DGor} (h : g.fRegs.all okV = true) (r : Int) : 0 ≤ regR g r ∧ regR g r ≤ 999 := by
  unfold regR
  split
  · rename_i h1
    have h2 : r.toNat < g.fRegs.length := by omega
    have h3 := List.all_eq_true.1 h _ (List.getElem_mem h2)
    have h4 := of_decide_eq_true h3
    simpa [h2] using h4
  · omega
theorem gorB_parts {n : Int} {g : DGor} (h : gorB n g = true) : (0 ≤ g.fPc ∧ g.fPc < n) ∧ g.fRegs.length = 6 ∧ g.fRegs.all okV = true := by
  unfold gorB at h
  simp only [Bool.and_eq_true] at h
  exact ⟨of_decide_eq_true h.1, of_decide_eq_true h.2.1, h.2.2.2.1⟩
/-- A right select's cases. -/
theorem sel_case {p : DProg} (hp : progOkB p = true) {s : DSelect} (hs : s ∈ p.fSels) {k : Nat} {c : DCase} (hc : s.fCases[k]? = some c) :
    (-1 ≤ c.fChan ∧ c.fChan < p.fCaps.length) ∧ (0 ≤ c.fReg ∧ c.fReg ≤ 5) := by
  unfold progOkB at hp
  simp only [Bool.and_eq_true, List.all_eq_true] at hp
  have h1 := hp.2.2.1 _ hs
  unfold selTopB selectB at h1
  simp only [Bool.and_eq_true, List.all_eq_true] at h1
  have hk := (List.getElem?_eq_some_iff.1 hc).1
  have h2 := h1.2.2.1 k (List.mem_range.2 hk)
  unfold caseAt at h2
  rw [hc] at h2
  simp only [Bool.and_eq_true] at h2
  have h3 := h2.1
  unfold caseB inB regB at h3
  simp only [Bool.and_eq_true] at h3
  have h4 := of_decide_eq_true h3.1
  have h5 := of_decide_eq_true h3.2.1
  exact ⟨⟨h4.1, by omega⟩, h5⟩
theorem sel_len {p : DProg} (hp : progOkB p = true) {s : DSelect} (hs : s ∈ p.fSels) : s.fCases.length ≤ 4 := by
  unfold progOkB at hp
  simp only [Bool.and_eq_true, List.all_eq_true] at hp
  have h1 := hp.2.2.1 _ hs
  unfold selTopB at h1
  simp only [Bool.and_eq_true] at h1
  exact of_decide_eq_true h1.1

theorem casePl_wf {g : DGor} {n k : Int} {c : DCase} (hv : ∀ r, 0 ≤ regR g r ∧ regR g r ≤ 999) (hn : (Lit.int .i64 n).wf = true) (hk : -1 ≤ k ∧ k ≤ 100) (hc : c.fChan < 100) : ∀ x ∈ casePl g n k c, wfP x := by
  intro x hx
  unfold casePl at hx
  split at hx
  · cases hx
  · simp only [List.mem_singleton] at hx
    subst hx
    refine ⟨WalkArith.wf_i64 (by simp only; omega), hn, WalkArith.wf_i64 (by simp only; omega), ?_⟩
    simp only
    split
    · have := hv c.fReg
      exact WalkArith.wf_i64 (by omega)
    · decide
theorem casesPl_step {g : DGor} {n : Int} {cs : List DCase} {k : Nat} {c : DCase} (h : cs[k]? = some c) : casesPl g n cs (k + 1) = casesPl g n cs k ++ casePl g n k c := by
  unfold casesPl
  rw [flat_step, h]
theorem casePl_len (g : DGor) (n k : Int) (c : DCase) : (casePl g n k c).length ≤ 1 := by
  unfold casePl
  split <;> simp
theorem casesPl_len {g : DGor} {n : Int} {cs : List DCase} : ∀ k : Nat, (casesPl g n cs k).length ≤ k
  | 0 => by simp [casesPl]
  | k + 1 => by
    have h1 := casesPl_len (g := g) (n := n) (cs := cs) k
    cases h : cs[k]? with
    | none =>
      have h2 : casesPl g n cs (k + 1) = casesPl g n cs k := by unfold casesPl; rw [flat_step, h]; simp
      rw [h2]; omega
    | some c =>
      rw [casesPl_step h, List.length_append]
      have := casePl_len g n k c
      omega
theorem casesPl_wf {p : DProg} (hp : progOkB p = true) {s : DSelect} (hs : s ∈ p.fSels) {g : DGor} (hv : ∀ r, 0 ≤ regR g r ∧ regR g r ≤ 999) {n : Int} (hn : (Lit.int .i64 n).wf = true) (k : Nat) : ∀ x ∈ casesPl g n s.fCases k, wfP x := by
  intro x hx
  unfold casesPl at hx
  obtain ⟨j, hj, hx⟩ := List.mem_flatMap.1 hx
  cases hc : s.fCases[j]? with
  | none => rw [hc] at hx; cases hx
  | some c =>
    rw [hc] at hx
    have h1 := sel_case hp hs hc
    have h2 := sel_len hp hs
    have h3 := (List.getElem?_eq_some_iff.1 hc).1
    have h4 := (progOk_counts hp).1
    exact casePl_wf hv hn (by omega) (by omega) x hx
/-- The places of a right goroutine: numbers all. -/
theorem placesL_wf {p : DProg} {g : DGor} {n : Int} (hp : progOkB p = true) (hg : gorB (instrsZ p g.fProc) g = true) (hn : (Lit.int .i64 n).wf = true) : ∀ x ∈ placesL p g n, wfP x := by
  obtain ⟨hat, hrl, hra⟩ := gorB_parts hg
  have hv := regR_ok hra
  obtain ⟨n8, n9, n11, n12⟩ := at_names hp hat
  have hc := progOk_counts hp
  intro x hx
  unfold placesL at hx
  split at hx
  · rename_i h
    have := n8 h
    split at hx
    · cases hx
    · simp only [List.mem_singleton] at hx
      subst hx
      have h9 := hv (atI p g).fB
      exact ⟨WalkArith.wf_i64 (by simp only; omega), hn, wf_m1, WalkArith.wf_i64 (by simp only; omega)⟩
  · split at hx
    · rename_i h
      have := n9 h
      split at hx
      · cases hx
      · simp only [List.mem_singleton] at hx
        subst hx
        exact ⟨WalkArith.wf_i64 (by simp only; omega), hn, wf_m1, wf_0⟩
    · split at hx
      · rename_i h
        exact casesPl_wf hp (n11 h).2.2 hv hn _ x hx
      · split at hx
        · rename_i h
          have := n12 h
          simp only [List.mem_singleton] at hx
          subst hx
          exact ⟨WalkArith.wf_i64 (by simp only; omega), hn, wf_m1, wf_0⟩
        · cases hx
theorem placesL_len {p : DProg} {g : DGor} {n : Int} (hp : progOkB p = true) (hg : gorB (instrsZ p g.fProc) g = true) : (placesL p g n).length ≤ 4 := by
  obtain ⟨hat, hrl, hra⟩ := gorB_parts hg
  obtain ⟨n8, n9, n11, n12⟩ := at_names hp hat
  unfold placesL
  split
  · split <;> simp
  · split
    · split <;> simp
    · split
      · rename_i h
        have := casesPl_len (g := g) (n := n) (cs := (selI p (atI p g)).fCases) (selI p (atI p g)).fCases.length
        have := sel_len hp (n11 h).2.2
        omega
      · split <;> simp
end Go.Proofs.YtghkdkagnibkgaaGreatDoor

namespace Go.Proofs.YtghkdkagnibkgaaGreatDoor
set_option linter.unusedSimpArgs false
set_option linter.unusedVariables false
open Go.RowKit

def gorAt (e : DEng) (n : Int) : DGor := (e.fGs[n.toNat]?).getD zeroG
def askB (p : DProg) (e : DEng) (n : Int) : Bool := engB p e && (decide (0 ≤ n ∧ n < e.fGs.length) && decide ((gorAt e n).fState = 1))
def insAt (p : DProg) (e : DEng) (n : Int) : DInstr := atI p (gorAt e n)
def csAt (p : DProg) (i : DInstr) : List DCase := if i.fOp = 11 then (selI p i).fCases else []
def readyCasesL (p : DProg) (e : DEng) (n : Int) : List Int := if askB p e n = true then rdyL e (csAt p (insAt p e n)) else []
def likeC (i : DInstr) : DCase := ⟨decide (i.fOp = 8), i.fA, i.fB, if i.fOp = 8 then 0 else i.fC, 0⟩
def ownerAt (e : DEng) (a : Int) : Int := ((e.fMus[a.toNat]?).getD newM).fOwner
/-- The instruction can be done at once. -/
def goB (p : DProg) (e : DEng) (i : DInstr) (n : Int) : Bool :=
  if i.fOp = 8 ∨ i.fOp = 9 then canB e (likeC i)
  else if i.fOp = 11 then decide ((selI p i).fElse ≠ -1) || decide (0 < (rdyL e (selI p i).fCases).length)
  else if i.fOp = 12 then decide (ownerAt e i.fA = -1) || decide (ownerAt e i.fA = n)
  else true
def blocksB (p : DProg) (e : DEng) (n : Int) : Bool := askB p e n && !goB p e (insAt p e n) n
def choicesZ (p : DProg) (e : DEng) (n : Int) : Int := if askB p e n = true then max 1 ((rdyL e (csAt p (insAt p e n))).length : Int) else 0

/-- What a right engine's goroutine that is asked for is. -/
structure AskP (p : DProg) (e : DEng) (n : Int) : Prop where
  eng : engB p e = true
  prog : progOkB p = true
  n0 : 0 ≤ n
  n1 : n < e.fGs.length
  st : (gorAt e n).fState = 1
  at_ : 0 ≤ (gorAt e n).fPc ∧ (gorAt e n).fPc < instrsZ p (gorAt e n).fProc
theorem eng_parts {p : DProg} {e : DEng} (h : engB p e = true) : progOkB p = true ∧ gorsB p e.fGs = true ∧ chansB p e.fChans = true ∧ musB p e.fGs.length e.fMus = true := by
  unfold engB at h
  simp only [Bool.and_eq_true] at h
  exact ⟨h.1, h.2.1, h.2.2.1, h.2.2.2.1⟩
theorem gors_one {p : DProg} {gs : List DGor} (h : gorsB p gs = true) {g : DGor} (hg : g ∈ gs) : gorB (instrsZ p g.fProc) g = true := by
  unfold gorsB at h
  rw [Bool.and_eq_true, List.all_eq_true] at h
  have := h.2 g hg
  unfold gorE at this
  rw [Bool.and_eq_true] at this
  exact this.1
theorem gorAt_get {e : DEng} {k : Nat} (h : k < e.fGs.length) : gorAt e (k : Int) = e.fGs[k] := by
  unfold gorAt
  rw [Int.toNat_natCast, List.getElem?_eq_getElem h, Option.getD_some]
theorem eng_at {p : DProg} {e : DEng} (h : engB p e = true) {n : Int} (h0 : 0 ≤ n) (h1 : n < e.fGs.length) : gorB (instrsZ p (gorAt e n).fProc) (gorAt e n) = true := by
  obtain ⟨k, rfl⟩ := Int.eq_ofNat_of_zero_le h0
  have hk : k < e.fGs.length := by omega
  rw [gorAt_get hk]
  exact gors_one (eng_parts h).2.1 (List.getElem_mem hk)
theorem ask_parts {p : DProg} {e : DEng} {n : Int} (h : askB p e n = true) : AskP p e n := by
  unfold askB at h
  simp only [Bool.and_eq_true, decide_eq_true_eq] at h
  exact ⟨h.1, (eng_parts h.1).1, h.2.1.1, h.2.1.2, h.2.2, (gorB_parts (eng_at h.1 h.2.1.1 h.2.1.2)).1⟩
theorem owner_low {p : DProg} {e : DEng} (h : engB p e = true) {a : Int} (h0 : 0 ≤ a) (h1 : a < p.fMus) : a < e.fMus.length ∧ -1 ≤ ownerAt e a ∧ ∃ (k : Nat) (hk : k < e.fMus.length), a = k ∧ ownerAt e a = (e.fMus[k]).fOwner := by
  obtain ⟨k, rfl⟩ := Int.eq_ofNat_of_zero_le h0
  have hm := (eng_parts h).2.2.2
  unfold musB at hm
  simp only [Bool.and_eq_true, decide_eq_true_eq, List.all_eq_true] at hm
  have hk : k < e.fMus.length := by omega
  have h2 := hm.2 _ (List.getElem_mem hk)
  unfold musE mutOkB ownB at h2
  simp only [Bool.and_eq_true, decide_eq_true_eq] at h2
  have h3 : ownerAt e (k : Int) = (e.fMus[k]).fOwner := by unfold ownerAt; rw [Int.toNat_natCast, List.getElem?_eq_getElem hk, Option.getD_some]
  exact ⟨by omega, by rw [h3]; exact h2.1.1.1, k, hk, rfl, h3⟩
theorem rdyL_len {p : DProg} {e : DEng} {n : Int} (h : AskP p e n) : (rdyL e (csAt p (insAt p e n))).length ≤ 4 := by
  refine Nat.le_trans (rdyTo_len _ _ _) ?_
  unfold csAt
  split
  · rename_i h1
    exact sel_len h.prog ((at_names h.prog h.at_).2.2.1 h1).2.2
  · simp
theorem readyCasesL_len (p : DProg) (e : DEng) (n : Int) : (readyCasesL p e n).length ≤ 4 := by
  unfold readyCasesL
  split
  · rename_i h
    exact rdyL_len (ask_parts h)
  · simp
end Go.Proofs.YtghkdkagnibkgaaGreatDoor
