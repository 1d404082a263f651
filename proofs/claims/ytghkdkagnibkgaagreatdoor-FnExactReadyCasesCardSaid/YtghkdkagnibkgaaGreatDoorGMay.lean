
/- AtI, MayI, merged for claims. -/

import Derived.Test.YtghkdkagnibkgaaGreatDoorGEngM

import Derived.Test.YtghkdkagnibkgaaGreatDoorGInv

import Derived.Deep.Cut

import Derived.Test.YtghkdkagnibkgaaGreatDoorGorFits

import Derived.Test.YtghkdkagnibkgaaGreatDoorGorOkS

namespace Go.Proofs.YtghkdkagnibkgaaGreatDoor
set_option linter.unusedSimpArgs false
set_option linter.unusedVariables false
open Go.RowKit

theorem below_set3 {B b : Nat} {w w' : World} {u0 u1 u2 : Value} (h : Below B w w') (hb : B ≤ b) : Below B w (((w'.setCell ⟨b, 0, none⟩ u0).setCell ⟨b, 1, none⟩ u1).setCell ⟨b, 2, none⟩ u2) :=
  below_set (p := ⟨b, 2, none⟩) (below_set (p := ⟨b, 1, none⟩) (below_set (p := ⟨b, 0, none⟩) h hb _) hb _) hb _
theorem below_set4 {B b : Nat} {w w' : World} {u0 u1 u2 u3 : Value} (h : Below B w w') (hb : B ≤ b) : Below B w ((((w'.setCell ⟨b, 0, none⟩ u0).setCell ⟨b, 1, none⟩ u1).setCell ⟨b, 2, none⟩ u2).setCell ⟨b, 3, none⟩ u3) :=
  below_set (p := ⟨b, 3, none⟩) (below_set3 h hb) hb _
/-- Of a goroutine that stands at an instruction. -/
theorem at_get {p : DProg} {g : DGor} (h : 0 ≤ g.fPc ∧ g.fPc < instrsZ p g.fProc) :
    ∃ (q c : Nat) (hq : q < p.fProcs.length) (hc : c < p.fProcs[q].fCode.length), g.fProc = q ∧ g.fPc = c ∧ atI p g = p.fProcs[q].fCode[c] := by
  obtain ⟨h1, h2⟩ := h
  unfold instrsZ at h2
  split at h2
  · rename_i h3
    obtain ⟨q, hq⟩ := Int.eq_ofNat_of_zero_le h3.1
    obtain ⟨c, hc⟩ := Int.eq_ofNat_of_zero_le h1
    rw [hq] at h2 h3
    have h4 : q < p.fProcs.length := by omega
    rw [Int.toNat_natCast, List.getElem?_eq_getElem h4] at h2
    simp only at h2
    have h5 : c < p.fProcs[q].fCode.length := by omega
    refine ⟨q, c, h4, h5, hq, hc, ?_⟩
    unfold atI
    rw [hq, hc, Int.toNat_natCast, Int.toNat_natCast, List.getElem?_eq_getElem h4, Option.getD_some, List.getElem?_eq_getElem h5, Option.getD_some]
  · omega

set_option maxRecDepth 100000 in
set_option maxHeartbeats 4000000 in
theorem implAt_any {w : World} {hi : Nat} {p : DProg} {g : DGor} {vs us : List Value} (hp : layProg.see w hi p vs) (hg : layGor.see w hi g us) (hhi : hi ≤ w.heap.size) (hnp : szProg p ≤ 1048576) (hat : 0 ≤ g.fPc ∧ g.fPc < instrsZ p g.fProc) :
    Calls Tryz.prog 66 #[.agg vs.toArray, .agg us.toArray] w fun e w' => e = .returned (.agg #[.int .i64 (atI p g).fOp, .int .i64 (atI p g).fA, .int .i64 (atI p g).fB, .int .i64 (atI p g).fC]) ∧ Below w.heap.size w w' := by
  obtain ⟨q, c, hq, hc, e1, e2, e3⟩ := at_get hat
  rw [e3]
  obtain ⟨A0, n0, c0, B2, m2, d2, A3, n3, c3, rfl, -, -, -, ⟨hc3, hm3, s3⟩⟩ := seeProg hp
  obtain ⟨A2, n2, c2, A4, n4, c4, rfl, -⟩ := seeGor hg
  obtain ⟨pr, pc, regs, st, tr⟩ := g
  simp only at e1 e2
  subst e1 e2
  have hqn : q < n3 := by have := s3.1; omega
  have hn3 : n3 ≤ 1048576 := by have := s3.1; unfold szProg at hnp; omega
  have hcl : p.fProcs[q].fCode.length ≤ 1048576 := by have h1 := sum_mem_le szProc (List.getElem_mem hq); unfold szProg at hnp; unfold szProc at h1 hnp; omega
  have hb0 : Below w.heap.size w (((w.alloc (.cells #[.slice A0 n0 c0, .int .i64 p.fMus, .slice B2 m2 d2, .slice A3 n3 c3] 38)).alloc (.cells #[.int .i64 (q : Int), .int .i64 (c : Int), .slice A2 n2 c2, .int .i64 st, .slice A4 n4 c4] 65)).alloc (.cells #[.int .i64 0, .int .i64 0, .int .i64 0, .int .i64 0] 61)) := (((Below.refl _ _).alloc (Nat.le_refl _) _).alloc (by simp) _).alloc (by simp; omega) _
  obtain ⟨hx, gP, oP, ws, rfl, hgP, hsee, hcell⟩ := (s3.below hb0 hhi).at_ hqn
  obtain ⟨AC, nC, cC, rfl, hcC, hmC, sC⟩ := seeProc hsee
  have cc0 := hcell 0 _ rfl
  have hcn : c < nC := by have := sC.1; omega
  obtain ⟨hy, gC, oC, us, rfl, hgC, ⟨rfl, -⟩, hcell2⟩ := sC.at_ hcn
  have dd0 := hcell2 0 _ rfl
  have dd1 := hcell2 1 _ rfl
  have dd2 := hcell2 2 _ rfl
  have dd3 := hcell2 3 _ rfl
  simp only [show layProc.size = 1 from rfl, show layInstr.size = 4 from rfl, ← Nat.add_assoc, Nat.add_zero, Nat.mul_one] at cc0 dd0 dd1 dd2 dd3
  have HBB := Lib.hid hb0
  generalize p.fProcs[q].fCode[c] = ins at *
  clear hcell hcell2 hsee s3 sC hb0 hat hp hg e3
  have hi0 : (0 : Int) ≤ (q : Int) := by omega
  have hi1 : (q : Int) < (n3 : Int) := by omega
  have hi2 : (0 : Int) ≤ (c : Int) := by omega
  have hi3 : (c : Int) < (nC : Int) := by omega
  have hR0 := box_new ((w.alloc (.cells #[.slice A0 n0 c0, .int .i64 p.fMus, .slice B2 m2 d2, .slice (some ⟨gP, oP, none⟩) n3 c3] 38)).alloc (.cells #[.int .i64 (q : Int), .int .i64 (c : Int), .slice A2 n2 c2, .int .i64 st, .slice A4 n4 c4] 65)) #[.int .i64 0, .int .i64 0, .int .i64 0, .int .i64 0] 61
  simp only [World.size_alloc] at hR0
  have HR := Lib.hid hR0
  clear hR0
  go_enter Tryz.func66, Tryz.ntmps66
  go_wp2_with fail
  go_region
  all_goals
    have hfin := (box_set (j := 3) (u := .int .i64 ins.fC) (box_set (j := 2) (u := .int .i64 ins.fB) (box_set (j := 1) (u := .int .i64 ins.fA) (box_set (j := 0) (u := .int .i64 ins.fOp) HR.out))))
    have y0 := box_cell (j := 0) hfin rfl
    have y1 := box_cell (j := 1) hfin rfl
    have y2 := box_cell (j := 2) hfin rfl
    have y3 := box_cell (j := 3) hfin rfl
    clear cc0 dd0 dd1 dd2 dd3
    go_wp2_with fail
    refine bodyPost_ret (v := .agg #[.int .i64 ins.fOp, .int .i64 ins.fA, .int .i64 ins.fB, .int .i64 ins.fC]) (by simp [results, Tryz.results66, go_sem, y0, y1, y2, y3]) rfl ?_
    exact ⟨rfl, by go_grown⟩

set_option maxRecDepth 100000 in
set_option maxHeartbeats 4000000 in
theorem specAt_any {w : World} {hi : Nat} {p : DProg} {g : DGor} {vs us : List Value} (hp : layProg.see w hi p vs) (hg : layGor.see w hi g us) (hhi : hi ≤ w.heap.size) (hnp : szProg p ≤ 1048576) (hat : 0 ≤ g.fPc ∧ g.fPc < instrsZ p g.fProc) :
    Calls Tryz.prog 30 #[.agg vs.toArray, .agg us.toArray] w fun e w' => e = .returned (.agg #[.int .i64 (atI p g).fOp, .int .i64 (atI p g).fA, .int .i64 (atI p g).fB, .int .i64 (atI p g).fC]) ∧ Below w.heap.size w w' := by
  obtain ⟨q, c, hq, hc, e1, e2, e3⟩ := at_get hat
  rw [e3]
  obtain ⟨A0, n0, c0, B2, m2, d2, A3, n3, c3, rfl, -, -, -, ⟨hc3, hm3, s3⟩⟩ := seeProg hp
  obtain ⟨A2, n2, c2, A4, n4, c4, rfl, -⟩ := seeGor hg
  obtain ⟨pr, pc, regs, st, tr⟩ := g
  simp only at e1 e2
  subst e1 e2
  have hqn : q < n3 := by have := s3.1; omega
  have hn3 : n3 ≤ 1048576 := by have := s3.1; unfold szProg at hnp; omega
  have hcl : p.fProcs[q].fCode.length ≤ 1048576 := by have h1 := sum_mem_le szProc (List.getElem_mem hq); unfold szProg at hnp; unfold szProc at h1 hnp; omega
  have hb0 : Below w.heap.size w (((w.alloc (.cells #[.slice A0 n0 c0, .int .i64 p.fMus, .slice B2 m2 d2, .slice A3 n3 c3] 38)).alloc (.cells #[.int .i64 (q : Int), .int .i64 (c : Int), .slice A2 n2 c2, .int .i64 st, .slice A4 n4 c4] 65)).alloc (.cells #[.int .i64 0, .int .i64 0, .int .i64 0, .int .i64 0] 61)) := (((Below.refl _ _).alloc (Nat.le_refl _) _).alloc (by simp) _).alloc (by simp; omega) _
  obtain ⟨hx, gP, oP, ws, rfl, hgP, hsee, hcell⟩ := (s3.below hb0 hhi).at_ hqn
  obtain ⟨AC, nC, cC, rfl, hcC, hmC, sC⟩ := seeProc hsee
  have cc0 := hcell 0 _ rfl
  have hcn : c < nC := by have := sC.1; omega
  obtain ⟨hy, gC, oC, us, rfl, hgC, ⟨rfl, -⟩, hcell2⟩ := sC.at_ hcn
  have dd0 := hcell2 0 _ rfl
  have dd1 := hcell2 1 _ rfl
  have dd2 := hcell2 2 _ rfl
  have dd3 := hcell2 3 _ rfl
  simp only [show layProc.size = 1 from rfl, show layInstr.size = 4 from rfl, ← Nat.add_assoc, Nat.add_zero, Nat.mul_one] at cc0 dd0 dd1 dd2 dd3
  have HBB := Lib.hid hb0
  generalize p.fProcs[q].fCode[c] = ins at *
  clear hcell hcell2 hsee s3 sC hb0 hat hp hg e3
  have hi0 : (0 : Int) ≤ (q : Int) := by omega
  have hi1 : (q : Int) < (n3 : Int) := by omega
  have hi2 : (0 : Int) ≤ (c : Int) := by omega
  have hi3 : (c : Int) < (nC : Int) := by omega
  have hR0 := box_new ((w.alloc (.cells #[.slice A0 n0 c0, .int .i64 p.fMus, .slice B2 m2 d2, .slice (some ⟨gP, oP, none⟩) n3 c3] 38)).alloc (.cells #[.int .i64 (q : Int), .int .i64 (c : Int), .slice A2 n2 c2, .int .i64 st, .slice A4 n4 c4] 65)) #[.int .i64 0, .int .i64 0, .int .i64 0, .int .i64 0] 61
  simp only [World.size_alloc] at hR0
  have HR := Lib.hid hR0
  clear hR0
  go_enter Tryz.func30, Tryz.ntmps30
  go_wp2_with fail
  go_region
  all_goals
    have hfin := (box_set (j := 3) (u := .int .i64 ins.fC) (box_set (j := 2) (u := .int .i64 ins.fB) (box_set (j := 1) (u := .int .i64 ins.fA) (box_set (j := 0) (u := .int .i64 ins.fOp) HR.out))))
    have y0 := box_cell (j := 0) hfin rfl
    have y1 := box_cell (j := 1) hfin rfl
    have y2 := box_cell (j := 2) hfin rfl
    have y3 := box_cell (j := 3) hfin rfl
    clear cc0 dd0 dd1 dd2 dd3
    go_wp2_with fail
    refine bodyPost_ret (v := .agg #[.int .i64 ins.fOp, .int .i64 ins.fA, .int .i64 ins.fB, .int .i64 ins.fC]) (by simp [results, Tryz.results30, go_sem, y0, y1, y2, y3]) rfl ?_
    exact ⟨rfl, by go_grown⟩
end Go.Proofs.YtghkdkagnibkgaaGreatDoor

namespace Go.Proofs.YtghkdkagnibkgaaGreatDoor
set_option linter.unusedSimpArgs false
set_option linter.unusedVariables false
open Go.RowKit

/-- A right program's instruction. -/
theorem at_step {p : DProg} {g : DGor} (hp : progOkB p = true) (hat : 0 ≤ g.fPc ∧ g.fPc < instrsZ p g.fProc) : ∃ n : Int, stepB p n (atI p g) = true := by
  obtain ⟨q, c, hq, hc, e1, e2, e3⟩ := at_get hat
  unfold progOkB at hp
  simp only [Bool.and_eq_true, List.all_eq_true] at hp
  have h1 := hp.2.2.2 _ (List.getElem_mem hq)
  unfold procB at h1
  simp only [Bool.and_eq_true, List.all_eq_true] at h1
  exact ⟨_, e3 ▸ h1.2.1 _ (List.getElem_mem hc)⟩
theorem sel_else {p : DProg} (hp : progOkB p = true) {s : DSelect} (hs : s ∈ p.fSels) : -1 ≤ s.fElse := by
  unfold progOkB at hp
  simp only [Bool.and_eq_true, List.all_eq_true] at hp
  have h1 := hp.2.2.1 _ hs
  unfold selTopB at h1
  simp only [Bool.and_eq_true] at h1
  have h2 := h1.2.2
  unfold selectB inB at h2
  simp only [Bool.and_eq_true] at h2
  exact (of_decide_eq_true h2.2).1
/-- What it names. -/
theorem at_names {p : DProg} {g : DGor} (hp : progOkB p = true) (hat : 0 ≤ g.fPc ∧ g.fPc < instrsZ p g.fProc) :
    ((atI p g).fOp = 8 → (-1 ≤ (atI p g).fA ∧ (atI p g).fA < p.fCaps.length) ∧ 0 ≤ (atI p g).fB ∧ (atI p g).fB ≤ 5) ∧
    ((atI p g).fOp = 9 → (-1 ≤ (atI p g).fA ∧ (atI p g).fA < p.fCaps.length) ∧ 0 ≤ (atI p g).fB ∧ (atI p g).fB ≤ 5) ∧
    ((atI p g).fOp = 11 → (0 ≤ (atI p g).fA ∧ (atI p g).fA < p.fSels.length) ∧ -1 ≤ (selI p (atI p g)).fElse ∧ selI p (atI p g) ∈ p.fSels) ∧
    ((atI p g).fOp = 12 → 0 ≤ (atI p g).fA ∧ (atI p g).fA < p.fMus) := by
  obtain ⟨n, hn⟩ := at_step hp hat
  generalize atI p g = i at *
  unfold stepB at hn
  rw [Bool.and_eq_true] at hn
  have h1 := hn.1
  unfold instrOk instrOkB at h1
  refine ⟨fun h => ?_, fun h => ?_, fun h => ?_, fun h => ?_⟩
  · rw [h] at h1
    simp [inB, regB] at h1
    omega
  · rw [h] at h1
    simp [inB, regB] at h1
    omega
  · rw [h] at h1
    simp [inB, regB] at h1
    have h2 : 0 ≤ i.fA ∧ i.fA < p.fSels.length := by omega
    have h3 : i.fA.toNat < p.fSels.length := by omega
    have h4 : selI p i = p.fSels[i.fA.toNat] := by unfold selI; rw [List.getElem?_eq_getElem h3, Option.getD_some]
    exact ⟨h2, by rw [h4]; exact sel_else hp (List.getElem_mem h3), by rw [h4]; exact List.getElem_mem h3⟩
  · rw [h] at h1
    simp [inB, regB] at h1
    omega

set_option maxRecDepth 100000 in
set_option maxHeartbeats 4000000 in
theorem mayAt_any {w : World} {hi : Nat} {p : DProg} {vs : List Value} (hp : layProg.see w hi p vs) (hhi : hi ≤ w.heap.size) (hnp : szProg p ≤ 1048576) {op a b c : Int} (hsel : op = 11 → 0 ≤ a ∧ a < p.fSels.length) :
    Calls Tryz.prog 130 #[.agg vs.toArray, .agg #[.int .i64 op, .int .i64 a, .int .i64 b, .int .i64 c]] w fun e w' => e = .returned (.bool (decide (op = 8) || (decide (op = 9) || (decide (op = 12) || (decide (op = 11) && decide ((selI p ⟨op, a, b, c⟩).fElse = -1)))))) ∧ Below w.heap.size w w' := by
  obtain ⟨A0, n0, c0, A2, n2, c2, A3, n3, c3, rfl, -, -, ⟨hc2, hm2, s2⟩, -⟩ := seeProg hp
  have hb0 : Below w.heap.size w ((w.alloc (.cells #[.slice A0 n0 c0, .int .i64 p.fMus, .slice A2 n2 c2, .slice A3 n3 c3] 38)).alloc (.cells #[.int .i64 op, .int .i64 a, .int .i64 b, .int .i64 c] 61)) := ((Below.refl _ _).alloc (Nat.le_refl _) _).alloc (by simp) _
  by_cases h8 : op = 8
  · subst h8
    clear hp s2
    go_enter Tryz.func130, Tryz.ntmps130
    go_wp2_with fail
    go_ret
    exact ⟨rfl, hb0⟩
  by_cases h9 : op = 9
  · subst h9
    clear hp s2
    go_enter Tryz.func130, Tryz.ntmps130
    go_wp2_with fail
    go_ret
    exact ⟨rfl, hb0⟩
  by_cases h12 : op = 12
  · subst h12
    clear hp s2
    go_enter Tryz.func130, Tryz.ntmps130
    go_wp2_with fail
    go_ret
    exact ⟨rfl, hb0⟩
  by_cases h11 : op = 11
  · subst h11
    obtain ⟨ha, hb⟩ := hsel rfl
    obtain ⟨q, rfl⟩ := Int.eq_ofNat_of_zero_le ha
    have hq : q < n2 := by have := s2.1; omega
    have hn2 : n2 ≤ 1048576 := by have := s2.1; unfold szProg at hnp; omega
    obtain ⟨hx, g, o, ws, rfl, hg, hsee, hcell⟩ := (s2.below hb0 hhi).at_ hq
    have hsl : selI p ⟨11, q, b, c⟩ = p.fSels[q] := by unfold selI; simp only [Int.toNat_natCast]; rw [List.getElem?_eq_getElem hx, Option.getD_some]
    rw [hsl]
    clear hsl
    generalize p.fSels[q] = s at *
    obtain ⟨B0, m0, d0, rfl, -⟩ := seeSelect hsee
    have cc1 := hcell 1 _ rfl
    simp only [show laySelect.size = 2 from rfl, ← Nat.add_assoc] at cc1
    have hi1 : (q : Int) < (n2 : Int) := by omega
    have HB := Lib.hid hb0
    clear hcell hsee hp s2 hsel hb0 hb
    go_enter Tryz.func130, Tryz.ntmps130
    go_wp2_with fail
    go_ret
    exact ⟨by simp; rfl, HB.out⟩
  · have q8 : (op == 8) = false := by simp [h8]
    have q9 : (op == 9) = false := by simp [h9]
    have q12 : (op == 12) = false := by simp [h12]
    have q11 : (op == 11) = false := by simp [h11]
    have HR := Lib.hid (show (decide (op = 8) || (decide (op = 9) || (decide (op = 12) || (decide (op = 11) && decide ((selI p ⟨op, a, b, c⟩).fElse = -1))))) = false by rw [decide_eq_false h8, decide_eq_false h9, decide_eq_false h12, decide_eq_false h11]; rfl)
    clear hp s2 hsel h8 h9 h12 h11
    go_enter Tryz.func130, Tryz.ntmps130
    go_wp2_with fail
    go_ret
    exact ⟨by rw [HR.out]; rfl, hb0⟩
end Go.Proofs.YtghkdkagnibkgaaGreatDoor
