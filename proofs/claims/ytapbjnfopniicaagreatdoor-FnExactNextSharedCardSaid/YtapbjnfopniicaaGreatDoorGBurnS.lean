
/- BurnM, BurnS, BurnT, merged for claims. -/

import Derived.Test.YtapbjnfopniicaaGreatDoorGorH

import Derived.Test.YtapbjnfopniicaaGreatDoorLocM

import Derived.Test.YtapbjnfopniicaaGreatDoorStepS

import Derived.Deep.Cut

namespace Go.Proofs.YtapbjnfopniicaaGreatDoor
set_option linter.unusedSimpArgs false
set_option linter.unusedVariables false
open Go.RowKit

theorem lt_lim {k : Nat} {most : Int} : k < limN most ↔ (k : Int) < most ∧ (k : Int) < 2000 := by
  unfold limN
  omega
theorem lim_le (most : Int) : limN most ≤ 2000 := by
  unfold limN
  omega
/-- A right goroutine, burnt. -/
def BurntE (p : DProg) (g : DGor) (lim : Nat) (w : World) (e : Ending) (w' : World) : Prop :=
  ∃ (n : Nat) (xp xc : Int) (xr : List Int) (xs : Int) (xt : List DItem) (A2 : Option Addr) (n2 c2 : Nat) (A4 : Option Addr) (n4 c4 : Nat), Stops p g lim n ∧ runR p g n = ⟨xp, xc, xr, xs, xt⟩ ∧
    e = .returned (.tuple #[.agg #[.int .i64 xp, .int .i64 xc, .slice A2 n2 c2, .int .i64 xs, .slice A4 n4 c4], .int .i64 (n : Int)]) ∧
    HoldG (fun b => w.heap.size ≤ b ∧ b < w'.heap.size) ⟨xp, xc, xr, xs, xt⟩ w' A2 n2 c2 A4 n4 c4 ∧ Below w.heap.size w w'
/-- Whatever it is. -/
def BurnE (p : DProg) (g : DGor) (lim : Nat) (w : World) (e : Ending) (w' : World) : Prop :=
  (gorOkB p g = false ∧ e = .returned (.tuple #[.agg #[.int .i64 0, .int .i64 0, .slice none 0 0, .int .i64 0, .slice none 0 0], .int .i64 0]) ∧ Below w.heap.size w w') ∨ (gorOkB p g = true ∧ BurntE p g lim w e w')
/-- One step. -/
def StepE (p : DProg) (g : DGor) (w : World) (e : Ending) (w' : World) : Prop :=
  ((gorOkB p g && locB p g) = false ∧ e = .returned (.tuple #[.agg #[.int .i64 0, .int .i64 0, .slice none 0 0, .int .i64 0, .slice none 0 0], .bool false]) ∧ Below w.heap.size w w') ∨
  ((gorOkB p g && locB p g) = true ∧ ∃ (xp xc : Int) (xr : List Int) (xs : Int) (xt : List DItem) (A2 : Option Addr) (n2 c2 : Nat) (A4 : Option Addr) (n4 c4 : Nat), stepR (atI p g) g = ⟨xp, xc, xr, xs, xt⟩ ∧
    e = .returned (.tuple #[.agg #[.int .i64 xp, .int .i64 xc, .slice A2 n2 c2, .int .i64 xs, .slice A4 n4 c4], .bool true]) ∧
    HoldG (fun b => w.heap.size ≤ b ∧ b < w'.heap.size) ⟨xp, xc, xr, xs, xt⟩ w' A2 n2 c2 A4 n4 c4 ∧ Below w.heap.size w w')
/-- The shared instruction behind at most 500 local steps. -/
def nextB (p : DProg) (g : DGor) : Bool := gorOkB p g && (decide ((runR p g (cntR p g 500)).fState = 1) && sharedZ (atI p (runR p g (cntR p g 500))).fOp)
def nextI (p : DProg) (g : DGor) : DInstr := if nextB p g = true then atI p (runR p g (cntR p g 500)) else ⟨0, 0, 0, 0⟩
theorem wf_step {p : DProg} {g : DGor} (hp : progOkB p = true) (hg : GoodG p g) (hl : locB p g = true) (h0 : (Lit.int .i64 g.fProc).wf = true) :
    (Lit.int .i64 (stepR (atI p g) g).fProc).wf = true ∧ (Lit.int .i64 (stepR (atI p g) g).fPc).wf = true ∧ (Lit.int .i64 (stepR (atI p g) g).fState).wf = true := by
  obtain ⟨h1, h2⟩ := step_good hp hg hl
  have h3 := instrsZ_small hp (stepR (atI p g) g).fProc
  refine ⟨by rw [step_proc]; exact h0, wf_val (by have := h1.1; omega), wf_val ?_⟩
  rcases h2 with ⟨h2, _⟩ | ⟨h2, _⟩ <;> omega
end Go.Proofs.YtapbjnfopniicaaGreatDoor

namespace Go.Proofs.YtapbjnfopniicaaGreatDoor
set_option linter.unusedSimpArgs false
set_option linter.unusedVariables false
open Go.RowKit


set_option maxRecDepth 100000 in
set_option maxHeartbeats 4000000 in
theorem specBurnt_any {w : World} {hi : Nat} {p : DProg} {g : DGor} {vs us : List Value} (hp : layProg.see w hi p vs) (hg : layGor.see w hi g us) (hhi : hi ≤ w.heap.size) (hnp : szProg p ≤ 1048576) (hng : szGor g ≤ 1048576) (hok : progOkB p = true) (hgd : GoodG p g) {most : Int} (hm : (Lit.int .i64 most).wf = true) :
    Calls Tryz.prog 43 #[.agg vs.toArray, .agg us.toArray, .int .i64 most] w (BurntE p g (limN most) w) := by
  have HC := Lib.hid (fun (W : World) (hW : Below w.heap.size w W) => l08Copy_any (layGor.keep hg fun k hk => hW.block k (by omega)) (Nat.le_trans hhi hW.size) hng)
  have HGD := Lib.hid (fun (k : Nat) (hj : ∀ j, j < k → locB p (runR p g j) = true) => run_good hok hgd k hj)
  have HSZ := Lib.hid (fun (k : Nat) (hj : ∀ j, j < k → locB p (runR p g j) = true) (hs : (runR p g k).fState = 1) => Nat.le_trans (Nat.le_of_eq (run_szL hok hgd hj hs)) hng)
  have HL := Lib.hid (fun (k : Nat) (hj : ∀ j, j < k → locB p (runR p g j) = true) (W : World) (hW : Below w.heap.size w W) (xs : List Value) (hx : layGor.see W W.heap.size (runR p g k) xs) => specLoc_any (layProg.more (layProg.keep hp fun k hk => hW.block k (by omega)) (Nat.le_trans hhi hW.size)) hx (Nat.le_refl _) hnp (fun _ => (run_good hok hgd k hj).1.1))
  have HT := Lib.hid (fun (k : Nat) (hj : ∀ j, j < k → locB p (runR p g j) = true) (hl : locB p (runR p g k) = true) (W : World) (hW : Below w.heap.size w W) (xs : List Value) (hx : layGor.see W W.heap.size (runR p g k) xs) => specStep_any (layProg.more (layProg.keep hp fun k hk => hW.block k (by omega)) (Nat.le_trans hhi hW.size)) hx (Nat.le_refl _) hnp (Nat.le_trans (Nat.le_of_eq (run_szL hok hgd hj (by unfold locB at hl; simp only [Bool.and_eq_true, decide_eq_true_eq] at hl; exact hl.1))) hng) hok (run_good hok hgd k hj).1 hl)
  have HW9 := Lib.hid (fun (k : Nat) (hj : ∀ j, j < k → locB p (runR p g j) = true) (hl : locB p (runR p g k) = true) (h0 : (Lit.int .i64 (runR p g k).fProc).wf = true) => wf_step hok (run_good hok hgd k hj).1 hl h0)
  obtain ⟨A0, n0, c0, B2, m2, d2, A3, n3, c3, rfl, -⟩ := seeProg hp
  have HWF := Lib.hid (seeGor_wf3 hg)
  obtain ⟨A2, n2, c2, A4, n4, c4, rfl, -⟩ := seeGor hg
  have HM := Lib.hid hm
  clear hp hg hnp hng hok hgd hm
  generalize hgg : g = gg at *
  obtain ⟨pr, pc, regs, st, tr⟩ := g
  have HGG := Lib.hid hgg
  subst hgg
  simp only at HC HWF
  have hP0 := box_new w #[.slice A0 n0 c0, .int .i64 p.fMus, .slice B2 m2 d2, .slice A3 n3 c3] 40
  have hP0 := box_keep hP0 ((Below.refl _ _).alloc (Nat.le_refl _) (.cells #[.int .i64 pr, .int .i64 pc, .slice A2 n2 c2, .int .i64 st, .slice A4 n4 c4] 34)) (by simp only [World.size_alloc]; omega)
  have hP0 := box_keep hP0 ((Below.refl _ _).alloc (Nat.le_refl _) (.cells #[.int .i64 0, .int .i64 0, .slice none 0 0, .int .i64 0, .slice none 0 0] 34)) (by simp only [World.size_alloc]; omega)
  have hG0 := box_new (w.alloc (.cells #[.slice A0 n0 c0, .int .i64 p.fMus, .slice B2 m2 d2, .slice A3 n3 c3] 40)) #[.int .i64 pr, .int .i64 pc, .slice A2 n2 c2, .int .i64 st, .slice A4 n4 c4] 34
  have hG0 := box_keep hG0 ((Below.refl _ _).alloc (Nat.le_refl _) (.cells #[.int .i64 0, .int .i64 0, .slice none 0 0, .int .i64 0, .slice none 0 0] 34)) (by simp only [World.size_alloc]; omega)
  simp only [World.size_alloc, Nat.add_assoc, Nat.reduceAdd] at hG0
  have hR0 := box_new ((w.alloc (.cells #[.slice A0 n0 c0, .int .i64 p.fMus, .slice B2 m2 d2, .slice A3 n3 c3] 40)).alloc (.cells #[.int .i64 pr, .int .i64 pc, .slice A2 n2 c2, .int .i64 st, .slice A4 n4 c4] 34)) #[.int .i64 0, .int .i64 0, .slice none 0 0, .int .i64 0, .slice none 0 0] 34
  simp only [World.size_alloc, Nat.add_assoc, Nat.reduceAdd] at hR0
  have hB0 : Below w.heap.size w (((w.alloc (.cells #[.slice A0 n0 c0, .int .i64 p.fMus, .slice B2 m2 d2, .slice A3 n3 c3] 40)).alloc (.cells #[.int .i64 pr, .int .i64 pc, .slice A2 n2 c2, .int .i64 st, .slice A4 n4 c4] 34)).alloc (.cells #[.int .i64 0, .int .i64 0, .slice none 0 0, .int .i64 0, .slice none 0 0] 34)) := (((Below.refl _ _).alloc (Nat.le_refl _) _).alloc (by simp only [World.size_alloc]; omega) _).alloc (by simp only [World.size_alloc]; omega) _
  have hz0 : w.heap.size + 3 ≤ (((w.alloc (.cells #[.slice A0 n0 c0, .int .i64 p.fMus, .slice B2 m2 d2, .slice A3 n3 c3] 40)).alloc (.cells #[.int .i64 pr, .int .i64 pc, .slice A2 n2 c2, .int .i64 st, .slice A4 n4 c4] 34)).alloc (.cells #[.int .i64 0, .int .i64 0, .slice none 0 0, .int .i64 0, .slice none 0 0] 34)).heap.size := by simp only [World.size_alloc]; omega
  go_enter Tryz.func43, Tryz.ntmps43
  go_upto_region 1 with (fail)
  generalize (((w.alloc (.cells #[.slice A0 n0 c0, .int .i64 p.fMus, .slice B2 m2 d2, .slice A3 n3 c3] 40)).alloc (.cells #[.int .i64 pr, .int .i64 pc, .slice A2 n2 c2, .int .i64 st, .slice A4 n4 c4] 34)).alloc (.cells #[.int .i64 0, .int .i64 0, .slice none 0 0, .int .i64 0, .slice none 0 0] 34)) = W0 at *
  have g0 := box_cell (j := 0) hG0 rfl
  have g1 := box_cell (j := 1) hG0 rfl
  have g2 := box_cell (j := 2) hG0 rfl
  have g3 := box_cell (j := 3) hG0 rfl
  have g4 := box_cell (j := 4) hG0 rfl
  have HP0 := Lib.hid hP0
  have HR0 := Lib.hid hR0
  have HB0 := Lib.hid hB0
  clear hP0 hR0 hB0 hG0
  go_wp2_with fail
  refine (HC.out _ HB0.out).mono ?_
  rintro e w2 hC
  obtain ⟨C2, q2, f2, C4, q4, f4, rfl, H2, hb2⟩ := hold_of hC HWF.out.1 HWF.out.2.1 HWF.out.2.2
  clear hC
  simp only at H2 ⊢
  have hz3 := hb2.size
  clear g0 g1 g2 g3 g4
  have HH2 := Lib.hid H2
  clear H2
  go_upto_region 2 with (fail)
  have hbo : Below w2.heap.size w2 (w2.alloc (.cells #[.int .i64 pr, .int .i64 pc, .slice C2 q2 f2, .int .i64 st, .slice C4 q4 f4] 34)) := (Below.refl _ _).alloc (Nat.le_refl _) _
  have hz4 : w2.heap.size < (w2.alloc (.cells #[.int .i64 pr, .int .i64 pc, .slice C2 q2 f2, .int .i64 st, .slice C4 q4 f4] 34)).heap.size := by simp
  have HO2 := Lib.hid (box_new w2 #[.int .i64 pr, .int .i64 pc, .slice C2 q2 f2, .int .i64 st, .slice C4 q4 f4] 34)
  have HP2 := Lib.hid (box_keep (box_keep HP0.out hb2 (by omega)) hbo (by omega))
  have HR2 := Lib.hid (box_keep (box_keep HR0.out hb2 (by omega)) hbo (by omega))
  have HB2 := Lib.hid (HB0.out.trans ((hb2.mono (by omega)).trans (hbo.mono (by omega))))
  have HH3 := Lib.hid (HH2.out.below hbo (Nat.le_refl _))
  clear HH2 hb2 hbo HR0 HP0 HB0
  generalize (w2.alloc (.cells #[.int .i64 pr, .int .i64 pc, .slice C2 q2 f2, .int .i64 st, .slice C4 q4 f4] 34)) = W2 at *
  generalize hbo : w2.heap.size = bo at *
  have hi1 : w.heap.size + 3 ≤ bo := by omega
  have hbo2 : bo < W2.heap.size := by omega
  have HH4 := Lib.hid (HH3.out.wide (F' := fun b => w.heap.size + 3 ≤ b ∧ b ≠ bo) (fun k hk _ => by have := hk.1; have := hk.2; omega))
  clear HH3 hbo hz0 hz3 hz4
  go_wp2_with fail
  go_loopw [9] (fun i wr => ∃ (k : Nat) (xp xc : Int) (xr : List Int) (xs : Int) (xt : List DItem) (E2 : Option Addr) (k2 e2 : Nat) (E4 : Option Addr) (k4 e4 : Nat), i = .int .i64 k ∧ RowKit.Hid (runR p ⟨pr, pc, regs, st, tr⟩ k = ⟨xp, xc, xr, xs, xt⟩) ∧ k ≤ limN most ∧ RowKit.Hid (∀ j, j < k → locB p (runR p ⟨pr, pc, regs, st, tr⟩ j) = true) ∧ wr.heap[bo]? = some (.cells #[.int .i64 xp, .int .i64 xc, .slice E2 k2 e2, .int .i64 xs, .slice E4 k4 e4] 34 (0, 0)) ∧ HoldG (fun b => w.heap.size + 3 ≤ b ∧ b ≠ bo) ⟨xp, xc, xr, xs, xt⟩ wr E2 k2 e2 E4 k4 e4 ∧ wr.heap[w.heap.size]? = some (.cells #[.slice A0 n0 c0, .int .i64 p.fMus, .slice B2 m2 d2, .slice A3 n3 c3] 40 (0, 0)) ∧ wr.heap[w.heap.size + 2]? = some (.cells #[.int .i64 0, .int .i64 0, .slice none 0 0, .int .i64 0, .slice none 0 0] 34 (0, 0)) ∧ Below w.heap.size w wr ∧ bo < wr.heap.size) (fun i _ => limN most - (intOf i).toNat)
  case atStart => exact ⟨0, pr, pc, regs, st, tr, C2, q2, f2, C4, q4, f4, rfl, Lib.hid rfl, Nat.zero_le _, Lib.hid (fun j hj => absurd hj (Nat.not_lt_zero j)), HO2.out, HH4.out, HP2.out, HR2.out, HB2.out, hbo2⟩
  case round =>
    obtain ⟨k, xp, xc, xr, xs, xt, E2, k2, e2, E4, k4, e4, rfl, hx, hk, hloc, hO, hH, hP, hR, hB, hbw⟩ := hrel
    clear HO2 HH4 HP2 HR2 HB2
    have hlt := Lib.hid (lt_lim (k := k) (most := most))
    have hl20 := Lib.hid (lim_le most)
    have HH := Lib.hid hH
    have HP := Lib.hid hP
    have HR := Lib.hid hR
    have HB := Lib.hid hB
    have hz := hB.size
    have hO1 := hO
    have HO := Lib.hid hO1
    clear hH hP hR hB hO hO1
    by_cases h1 : (k : Int) < most
    · by_cases h2 : (k : Int) < 2000
      · skip
        have o0 := box_cell (j := 0) HO.out rfl
        have o1 := box_cell (j := 1) HO.out rfl
        have o2 := box_cell (j := 2) HO.out rfl
        have o3 := box_cell (j := 3) HO.out rfl
        have o4 := box_cell (j := 4) HO.out rfl
        have p0 := box_cell (j := 0) HP.out rfl
        have p1 := box_cell (j := 1) HP.out rfl
        have p2 := box_cell (j := 2) HP.out rfl
        have p3 := box_cell (j := 3) HP.out rfl
        have hsee := Lib.hid (HH.out.see)
        have HL5 := Lib.hid (HL.out k hloc.out _ HB.out [.int .i64 xp, .int .i64 xc, .slice E2 k2 e2, .int .i64 xs, .slice E4 k4 e4] (by rw [hx.out]; exact HH.out.see))
        have HT5 := Lib.hid (fun (hl : locB p ⟨xp, xc, xr, xs, xt⟩ = true) (W : World) (hW : Below wr.heap.size wr W) => HT.out k hloc.out (by rw [hx.out]; exact hl) W (HB.out.trans (hW.mono hz)) [.int .i64 xp, .int .i64 xc, .slice E2 k2 e2, .int .i64 xs, .slice E4 k4 e4] (by rw [hx.out]; exact (HH.out.stay (fun b _ hb => hW.block b hb) hW.size).see))
        have HW5 := Lib.hid (fun (hl : locB p ⟨xp, xc, xr, xs, xt⟩ = true) => HW9.out k hloc.out (by rw [hx.out]; exact hl) (by rw [hx.out]; exact HH.out.1))
        rw [hx.out] at HL5 HT5 HW5
        clear hsee
        have hs9 : runR p ⟨pr, pc, regs, st, tr⟩ (k + 1) = stepR (atI p ⟨xp, xc, xr, xs, xt⟩) ⟨xp, xc, xr, xs, xt⟩ := by rw [runR, hx.out]
        have HS9 := Lib.hid hs9
        clear hs9
        generalize hins : atI p ⟨xp, xc, xr, xs, xt⟩ = ins at *
        clear hins
        generalize hbb : locB p ⟨xp, xc, xr, xs, xt⟩ = bb at *
        have HBBx := Lib.hid hbb
        clear hbb
        go_wp2_with fail
        refine (HL5.out).mono ?_
        rintro e w5 ⟨rfl, hb5⟩
        have hz5 := hb5.size
        clear o0 o1 o2 o3 o4
        clear p0 p1 p2 p3
        have HO5 := Lib.hid (box_keep HO.out hb5 (by omega))
        have HR5 := Lib.hid (box_keep HR.out hb5 (by omega))
        have HP5 := Lib.hid (box_keep HP.out hb5 (by omega))
        have HB5 := Lib.hid (HB.out.trans (hb5.mono hz))
        have HH5 := Lib.hid (HH.out.stay (fun b _ hb => hb5.block b hb) hb5.size)
        cases bb
        · skip
          have o0 := box_cell (j := 0) HO5.out rfl
          have o1 := box_cell (j := 1) HO5.out rfl
          have o2 := box_cell (j := 2) HO5.out rfl
          have o3 := box_cell (j := 3) HO5.out rfl
          have o4 := box_cell (j := 4) HO5.out rfl
          have r0 := box_cell (j := 0) HR5.out rfl
          have r1 := box_cell (j := 1) HR5.out rfl
          have r2 := box_cell (j := 2) HR5.out rfl
          have r3 := box_cell (j := 3) HR5.out rfl
          have r4 := box_cell (j := 4) HR5.out rfl
          have rf0 := box_free HR5.out 0
          have rf1 := box_free HR5.out 1
          have rf2 := box_free HR5.out 2
          have rf3 := box_free HR5.out 3
          have rf4 := box_free HR5.out 4
          clear hb5 HT5 HW5 HL5
          have HRx := HR5
          go_wp2_with fail
          have hfin := put5 (u0 := (.int .i64 xp)) (u1 := (.int .i64 xc)) (u2 := (.slice E2 k2 e2)) (u3 := (.int .i64 xs)) (u4 := (.slice E4 k4 e4)) HR5.out
          have y0 := box_cell (j := 0) hfin.1 rfl
          have y1 := box_cell (j := 1) hfin.1 rfl
          have y2 := box_cell (j := 2) hfin.1 rfl
          have y3 := box_cell (j := 3) hfin.1 rfl
          have y4 := box_cell (j := 4) hfin.1 rfl
          refine bodyPost_ret (v := .tuple #[.agg #[.int .i64 xp, .int .i64 xc, .slice E2 k2 e2, .int .i64 xs, .slice E4 k4 e4], .int .i64 (k : Int)]) (by simp [results, Tryz.results43, go_sem, y0, y1, y2, y3, y4]) rfl ?_
          refine ⟨k, xp, xc, xr, xs, xt, E2, k2, e2, E4, k4, e4, ⟨hk, hloc.out, fun _ => by rw [hx.out]; exact HBBx.out⟩, hx.out, rfl, ?_, below_put5 HB5.out (by omega)⟩
          exact (HH5.out.stay (fun b hb _ => hfin.2.1 b (by omega)) (Nat.le_of_eq hfin.2.2.symm)).wide (fun b hb hlt9 => ⟨by omega, hlt9⟩)
        · skip
          have HT6 := Lib.hid (HT5.out rfl _ hb5)
          have hw6 := HW5.out rfl
          obtain ⟨y, hy⟩ : ∃ y, y = stepR ins ⟨xp, xc, xr, xs, xt⟩ := ⟨_, rfl⟩
          rw [← hy] at HT6 hw6 HS9
          clear hy HT5 HW5 HL5 hb5
          obtain ⟨yp, yc, yr, ys, yt⟩ := y
          simp only at hw6
          have HW6 := Lib.hid hw6
          clear hw6
          have o0 := box_cell (j := 0) HO5.out rfl
          have o1 := box_cell (j := 1) HO5.out rfl
          have o2 := box_cell (j := 2) HO5.out rfl
          have o3 := box_cell (j := 3) HO5.out rfl
          have o4 := box_cell (j := 4) HO5.out rfl
          have p0 := box_cell (j := 0) HP5.out rfl
          have p1 := box_cell (j := 1) HP5.out rfl
          have p2 := box_cell (j := 2) HP5.out rfl
          have p3 := box_cell (j := 3) HP5.out rfl
          go_wp2_with fail
          refine (HT6.out).mono ?_
          rintro e w7 hC
          obtain ⟨D2, s2, t2, D4, s4, t4, rfl, H7, hb7⟩ := hold_of hC HW6.out.1 HW6.out.2.1 HW6.out.2.2
          clear hC
          simp only at H7 ⊢
          have hz7 := hb7.size
          have HH7 := Lib.hid H7
          clear H7
          clear o0 o1 o2 o3 o4
          clear p0 p1 p2 p3
          have HO7 := Lib.hid (box_keep HO5.out hb7 (by omega))
          have HR7 := Lib.hid (box_keep HR5.out hb7 (by omega))
          have HP7 := Lib.hid (box_keep HP5.out hb7 (by omega))
          have HB7 := Lib.hid (HB5.out.trans (hb7.mono (by omega)))
          clear hb7
          have o0 := box_cell (j := 0) HO7.out rfl
          have o1 := box_cell (j := 1) HO7.out rfl
          have o2 := box_cell (j := 2) HO7.out rfl
          have o3 := box_cell (j := 3) HO7.out rfl
          have o4 := box_cell (j := 4) HO7.out rfl
          have of0 := box_free HO7.out 0
          have of1 := box_free HO7.out 1
          have of2 := box_free HO7.out 2
          have of3 := box_free HO7.out 3
          have of4 := box_free HO7.out 4
          have hbw7 : bo < w7.heap.size := by omega
          go_wp2_with fail
          have hput := put5 (u0 := .int .i64 yp) (u1 := .int .i64 yc) (u2 := .slice D2 s2 t2) (u3 := .int .i64 ys) (u4 := .slice D4 s4 t4) HO7.out
          go_roundw
          case rel =>
            refine ⟨k + 1, yp, yc, yr, ys, yt, D2, s2, t2, D4, s4, t4, by go_num, HS9, ?_, ?_, hput.1, ?_, (hput.2.1 _ (by omega)).trans HP7.out, (hput.2.1 _ (by omega)).trans HR7.out, below_put5 HB7.out (by omega), by rw [hput.2.2]; exact hbw7⟩
            · exact hlt.out.2 ⟨h1, h2⟩
            · exact Lib.hid (fun j hj => by
                by_cases hj2 : j = k
                · rw [hj2, hx.out]; exact HBBx.out
                · exact hloc.out j (by omega))
            · exact (HH7.out.stay (fun b hb _ => hput.2.1 b (by omega)) (Nat.le_of_eq hput.2.2.symm)).wide (fun b hb _ => ⟨by omega, by omega⟩)
          case measure =>
            have := hlt.out.2 ⟨h1, h2⟩
            simp [intOf]
            omega
      · skip
        have h3 : decide ((k : Int) < 2000) = false := decide_eq_false h2
        have HN := Lib.hid (show ¬ k < limN most from fun hh => absurd (hlt.out.1 hh).2 h2)
        clear h2
        have HRx := HR
        have o0 := box_cell (j := 0) HO.out rfl
        have o1 := box_cell (j := 1) HO.out rfl
        have o2 := box_cell (j := 2) HO.out rfl
        have o3 := box_cell (j := 3) HO.out rfl
        have o4 := box_cell (j := 4) HO.out rfl
        have r0 := box_cell (j := 0) HR.out rfl
        have r1 := box_cell (j := 1) HR.out rfl
        have r2 := box_cell (j := 2) HR.out rfl
        have r3 := box_cell (j := 3) HR.out rfl
        have r4 := box_cell (j := 4) HR.out rfl
        have rf0 := box_free HR.out 0
        have rf1 := box_free HR.out 1
        have rf2 := box_free HR.out 2
        have rf3 := box_free HR.out 3
        have rf4 := box_free HR.out 4
        go_wp2_with fail
        have hfin := put5 (u0 := (.int .i64 xp)) (u1 := (.int .i64 xc)) (u2 := (.slice E2 k2 e2)) (u3 := (.int .i64 xs)) (u4 := (.slice E4 k4 e4)) HR.out
        have y0 := box_cell (j := 0) hfin.1 rfl
        have y1 := box_cell (j := 1) hfin.1 rfl
        have y2 := box_cell (j := 2) hfin.1 rfl
        have y3 := box_cell (j := 3) hfin.1 rfl
        have y4 := box_cell (j := 4) hfin.1 rfl
        refine bodyPost_ret (v := .tuple #[.agg #[.int .i64 xp, .int .i64 xc, .slice E2 k2 e2, .int .i64 xs, .slice E4 k4 e4], .int .i64 (k : Int)]) (by simp [results, Tryz.results43, go_sem, y0, y1, y2, y3, y4]) rfl ?_
        refine ⟨k, xp, xc, xr, xs, xt, E2, k2, e2, E4, k4, e4, ⟨hk, hloc.out, fun hh => (HN.out hh).elim⟩, hx.out, rfl, ?_, below_put5 HB.out (by omega)⟩
        exact (HH.out.stay (fun b hb _ => hfin.2.1 b (by omega)) (Nat.le_of_eq hfin.2.2.symm)).wide (fun b hb hlt9 => ⟨by omega, hlt9⟩)
    · skip
      have h3 : decide ((k : Int) < most) = false := decide_eq_false h1
      have HN := Lib.hid (show ¬ k < limN most from fun hh => absurd (hlt.out.1 hh).1 h1)
      clear h1
      have HRx := HR
      have o0 := box_cell (j := 0) HO.out rfl
      have o1 := box_cell (j := 1) HO.out rfl
      have o2 := box_cell (j := 2) HO.out rfl
      have o3 := box_cell (j := 3) HO.out rfl
      have o4 := box_cell (j := 4) HO.out rfl
      have r0 := box_cell (j := 0) HR.out rfl
      have r1 := box_cell (j := 1) HR.out rfl
      have r2 := box_cell (j := 2) HR.out rfl
      have r3 := box_cell (j := 3) HR.out rfl
      have r4 := box_cell (j := 4) HR.out rfl
      have rf0 := box_free HR.out 0
      have rf1 := box_free HR.out 1
      have rf2 := box_free HR.out 2
      have rf3 := box_free HR.out 3
      have rf4 := box_free HR.out 4
      go_wp2_with fail
      have hfin := put5 (u0 := (.int .i64 xp)) (u1 := (.int .i64 xc)) (u2 := (.slice E2 k2 e2)) (u3 := (.int .i64 xs)) (u4 := (.slice E4 k4 e4)) HR.out
      have y0 := box_cell (j := 0) hfin.1 rfl
      have y1 := box_cell (j := 1) hfin.1 rfl
      have y2 := box_cell (j := 2) hfin.1 rfl
      have y3 := box_cell (j := 3) hfin.1 rfl
      have y4 := box_cell (j := 4) hfin.1 rfl
      refine bodyPost_ret (v := .tuple #[.agg #[.int .i64 xp, .int .i64 xc, .slice E2 k2 e2, .int .i64 xs, .slice E4 k4 e4], .int .i64 (k : Int)]) (by simp [results, Tryz.results43, go_sem, y0, y1, y2, y3, y4]) rfl ?_
      refine ⟨k, xp, xc, xr, xs, xt, E2, k2, e2, E4, k4, e4, ⟨hk, hloc.out, fun hh => (HN.out hh).elim⟩, hx.out, rfl, ?_, below_put5 HB.out (by omega)⟩
      exact (HH.out.stay (fun b hb _ => hfin.2.1 b (by omega)) (Nat.le_of_eq hfin.2.2.symm)).wide (fun b hb hlt9 => ⟨by omega, hlt9⟩)
end Go.Proofs.YtapbjnfopniicaaGreatDoor

namespace Go.Proofs.YtapbjnfopniicaaGreatDoor
set_option linter.unusedSimpArgs false
set_option linter.unusedVariables false
open Go.RowKit


set_option maxRecDepth 100000 in
set_option maxHeartbeats 4000000 in
theorem specBurn_any {w : World} {hi : Nat} {p : DProg} {g : DGor} {vs us : List Value} (hp : layProg.see w hi p vs) (hg : layGor.see w hi g us) (hhi : hi ≤ w.heap.size) (hnp : szProg p ≤ 1048576) (hng : szGor g ≤ 1048576) {most : Int} (hm : (Lit.int .i64 most).wf = true) :
    Calls Tryz.prog 17 #[.agg vs.toArray, .agg us.toArray, .int .i64 most] w (BurnE p g (limN most) w) := by
  have HG := Lib.hid (fun (W : World) (hW : Below w.heap.size w W) => specGorOk_any (layProg.keep hp fun k hk => hW.block k (by omega)) (layGor.keep hg fun k hk => hW.block k (by omega)) (Nat.le_trans hhi hW.size) hnp hng)
  have HM := Lib.hid (fun (hok : gorOkB p g = true) (W : World) (hW : Below w.heap.size w W) => specBurnt_any (layProg.keep hp fun k hk => hW.block k (by omega)) (layGor.keep hg fun k hk => hW.block k (by omega)) (Nat.le_trans hhi hW.size) hnp hng (good_of hok).1 (good_of hok).2 hm)
  rw [show (progOkB p && gorB (instrsZ p g.fProc) g) = gorOkB p g from rfl] at HG
  obtain ⟨A0, n0, c0, B2, m2, d2, A3, n3, c3, rfl, -⟩ := seeProg hp
  obtain ⟨A2, n2, c2, A4, n4, c4, rfl, -⟩ := seeGor hg
  clear hp hg hnp hng hm
  have hbb := Lib.hid (show gorOkB p g = gorOkB p g from rfl)
  generalize hb : gorOkB p g = b1 at HG HM
  have HBB := Lib.hid hb
  clear hb hbb
  have hP0 := box_new w #[.slice A0 n0 c0, .int .i64 p.fMus, .slice B2 m2 d2, .slice A3 n3 c3] 40
  have hP0 := box_keep hP0 ((Below.refl _ _).alloc (Nat.le_refl _) (.cells #[.int .i64 g.fProc, .int .i64 g.fPc, .slice A2 n2 c2, .int .i64 g.fState, .slice A4 n4 c4] 34)) (by simp only [World.size_alloc]; omega)
  have hP0 := box_keep hP0 ((Below.refl _ _).alloc (Nat.le_refl _) (.cells #[.int .i64 0, .int .i64 0, .slice none 0 0, .int .i64 0, .slice none 0 0] 34)) (by simp only [World.size_alloc]; omega)
  have hG0 := box_new (w.alloc (.cells #[.slice A0 n0 c0, .int .i64 p.fMus, .slice B2 m2 d2, .slice A3 n3 c3] 40)) #[.int .i64 g.fProc, .int .i64 g.fPc, .slice A2 n2 c2, .int .i64 g.fState, .slice A4 n4 c4] 34
  have hG0 := box_keep hG0 ((Below.refl _ _).alloc (Nat.le_refl _) (.cells #[.int .i64 0, .int .i64 0, .slice none 0 0, .int .i64 0, .slice none 0 0] 34)) (by simp only [World.size_alloc]; omega)
  simp only [World.size_alloc, Nat.add_assoc, Nat.reduceAdd] at hG0
  have hR0 := box_new ((w.alloc (.cells #[.slice A0 n0 c0, .int .i64 p.fMus, .slice B2 m2 d2, .slice A3 n3 c3] 40)).alloc (.cells #[.int .i64 g.fProc, .int .i64 g.fPc, .slice A2 n2 c2, .int .i64 g.fState, .slice A4 n4 c4] 34)) #[.int .i64 0, .int .i64 0, .slice none 0 0, .int .i64 0, .slice none 0 0] 34
  simp only [World.size_alloc, Nat.add_assoc, Nat.reduceAdd] at hR0
  have hB0 : Below w.heap.size w (((w.alloc (.cells #[.slice A0 n0 c0, .int .i64 p.fMus, .slice B2 m2 d2, .slice A3 n3 c3] 40)).alloc (.cells #[.int .i64 g.fProc, .int .i64 g.fPc, .slice A2 n2 c2, .int .i64 g.fState, .slice A4 n4 c4] 34)).alloc (.cells #[.int .i64 0, .int .i64 0, .slice none 0 0, .int .i64 0, .slice none 0 0] 34)) := (((Below.refl _ _).alloc (Nat.le_refl _) _).alloc (by simp only [World.size_alloc]; omega) _).alloc (by simp only [World.size_alloc]; omega) _
  have hz0 : w.heap.size + 3 ≤ (((w.alloc (.cells #[.slice A0 n0 c0, .int .i64 p.fMus, .slice B2 m2 d2, .slice A3 n3 c3] 40)).alloc (.cells #[.int .i64 g.fProc, .int .i64 g.fPc, .slice A2 n2 c2, .int .i64 g.fState, .slice A4 n4 c4] 34)).alloc (.cells #[.int .i64 0, .int .i64 0, .slice none 0 0, .int .i64 0, .slice none 0 0] 34)).heap.size := by simp only [World.size_alloc]; omega
  go_enter Tryz.func17, Tryz.ntmps17
  go_wp2_with fail
  refine (HG.out _ hB0).mono ?_
  rintro e w1 ⟨rfl, hb1⟩
  have hz1 := hb1.size
  have HB1 := Lib.hid (hB0.trans (hb1.mono (by omega)))
  have HP1 := Lib.hid (box_keep hP0 hb1 (by omega))
  have HG1 := Lib.hid (box_keep hG0 hb1 (by omega))
  have HR1 := Lib.hid (box_keep hR0 hb1 (by omega))
  clear hb1 hB0 hP0 hG0 hR0
  cases b1
  · skip
    have r0 := box_cell (j := 0) HR1.out rfl
    have r1 := box_cell (j := 1) HR1.out rfl
    have r2 := box_cell (j := 2) HR1.out rfl
    have r3 := box_cell (j := 3) HR1.out rfl
    have r4 := box_cell (j := 4) HR1.out rfl
    have rf0 := box_free HR1.out 0
    have rf1 := box_free HR1.out 1
    have rf2 := box_free HR1.out 2
    have rf3 := box_free HR1.out 3
    have rf4 := box_free HR1.out 4
    go_wp2_with fail
    have hfin := put5 (u0 := (.int .i64 0)) (u1 := (.int .i64 0)) (u2 := (.slice none 0 0)) (u3 := (.int .i64 0)) (u4 := (.slice none 0 0)) HR1.out
    have y0 := box_cell (j := 0) hfin.1 rfl
    have y1 := box_cell (j := 1) hfin.1 rfl
    have y2 := box_cell (j := 2) hfin.1 rfl
    have y3 := box_cell (j := 3) hfin.1 rfl
    have y4 := box_cell (j := 4) hfin.1 rfl
    refine bodyPost_ret (v := .tuple #[.agg #[.int .i64 0, .int .i64 0, .slice none 0 0, .int .i64 0, .slice none 0 0], .int .i64 0]) (by simp [results, Tryz.results17, go_sem, y0, y1, y2, y3, y4]) rfl ?_
    exact .inl ⟨HBB.out, rfl, below_put5 HB1.out (by omega)⟩
  · skip
    have p0 := box_cell (j := 0) HP1.out rfl
    have p1 := box_cell (j := 1) HP1.out rfl
    have p2 := box_cell (j := 2) HP1.out rfl
    have p3 := box_cell (j := 3) HP1.out rfl
    have g0 := box_cell (j := 0) HG1.out rfl
    have g1 := box_cell (j := 1) HG1.out rfl
    have g2 := box_cell (j := 2) HG1.out rfl
    have g3 := box_cell (j := 3) HG1.out rfl
    have g4 := box_cell (j := 4) HG1.out rfl
    go_wp2_with fail
    refine (HM.out (by simp) _ HB1.out).mono ?_
    rintro e w2 ⟨n, xp, xc, xr, xs, xt, E2, k2, e2, E4, k4, e4, hst, hx, rfl, H2, hb2⟩
    have hz2 := hb2.size
    have HR2 := Lib.hid (box_keep HR1.out hb2 (by omega))
    have HB2 := Lib.hid (HB1.out.trans (hb2.mono (by omega)))
    have HH2 := Lib.hid H2
    have HST := Lib.hid hst
    have HX := Lib.hid hx
    clear hb2 H2 hst hx p0 p1 p2 p3 g0 g1 g2 g3 g4
    have r0 := box_cell (j := 0) HR2.out rfl
    have r1 := box_cell (j := 1) HR2.out rfl
    have r2 := box_cell (j := 2) HR2.out rfl
    have r3 := box_cell (j := 3) HR2.out rfl
    have r4 := box_cell (j := 4) HR2.out rfl
    have rf0 := box_free HR2.out 0
    have rf1 := box_free HR2.out 1
    have rf2 := box_free HR2.out 2
    have rf3 := box_free HR2.out 3
    have rf4 := box_free HR2.out 4
    go_wp2_with fail
    have hfin := put5 (u0 := (.int .i64 xp)) (u1 := (.int .i64 xc)) (u2 := (.slice E2 k2 e2)) (u3 := (.int .i64 xs)) (u4 := (.slice E4 k4 e4)) HR2.out
    have y0 := box_cell (j := 0) hfin.1 rfl
    have y1 := box_cell (j := 1) hfin.1 rfl
    have y2 := box_cell (j := 2) hfin.1 rfl
    have y3 := box_cell (j := 3) hfin.1 rfl
    have y4 := box_cell (j := 4) hfin.1 rfl
    refine bodyPost_ret (v := .tuple #[.agg #[.int .i64 xp, .int .i64 xc, .slice E2 k2 e2, .int .i64 xs, .slice E4 k4 e4], .int .i64 (n : Int)]) (by simp [results, Tryz.results17, go_sem, y0, y1, y2, y3, y4]) rfl ?_
    exact .inr ⟨HBB.out, n, xp, xc, xr, xs, xt, E2, k2, e2, E4, k4, e4, HST.out, HX.out, rfl, (HH2.out.stay (fun k hk _ => hfin.2.1 k (by have := hk.1; omega)) (Nat.le_of_eq hfin.2.2.symm)).wide (fun k hk hl => ⟨by have := hk.1; omega, hl⟩), below_put5 HB2.out (by omega)⟩

set_option maxRecDepth 100000 in
set_option maxHeartbeats 4000000 in
theorem specStepLocal_any {w : World} {hi : Nat} {p : DProg} {g : DGor} {vs us : List Value} (hp : layProg.see w hi p vs) (hg : layGor.see w hi g us) (hhi : hi ≤ w.heap.size) (hnp : szProg p ≤ 1048576) (hng : szGor g ≤ 1048576) :
    Calls Tryz.prog 8 #[.agg vs.toArray, .agg us.toArray] w (StepE p g w) := by
  have HG := Lib.hid (fun (W : World) (hW : Below w.heap.size w W) => specIsLocal_any (layProg.keep hp fun k hk => hW.block k (by omega)) (layGor.keep hg fun k hk => hW.block k (by omega)) (Nat.le_trans hhi hW.size) hnp hng)
  have HM := Lib.hid (fun (hok : (gorOkB p g && locB p g) = true) (W : World) (hW : Below w.heap.size w W) => specStep_any (layProg.keep hp fun k hk => hW.block k (by omega)) (layGor.keep hg fun k hk => hW.block k (by omega)) (Nat.le_trans hhi hW.size) hnp hng (good_of (Bool.and_eq_true_iff.1 hok).1).1 (good_of (Bool.and_eq_true_iff.1 hok).1).2 (Bool.and_eq_true_iff.1 hok).2)
  have HW := Lib.hid (fun (hok : (gorOkB p g && locB p g) = true) => wf_step (good_of (Bool.and_eq_true_iff.1 hok).1).1 (good_of (Bool.and_eq_true_iff.1 hok).1).2 (Bool.and_eq_true_iff.1 hok).2 (seeGor_wf3 hg).1)
  obtain ⟨A0, n0, c0, B2, m2, d2, A3, n3, c3, rfl, -⟩ := seeProg hp
  obtain ⟨A2, n2, c2, A4, n4, c4, rfl, -⟩ := seeGor hg
  clear hp hg hnp hng
  generalize hb : (gorOkB p g && locB p g) = b1 at HG HM HW
  have HBB := Lib.hid hb
  clear hb
  obtain ⟨y, hy⟩ : ∃ y, y = stepR (atI p g) g := ⟨_, rfl⟩
  rw [← hy] at HM HW
  obtain ⟨yp, yc, yr, ys, yt⟩ := y
  have HY := Lib.hid hy.symm
  clear hy
  simp only at HW
  have hP0 := box_new w #[.slice A0 n0 c0, .int .i64 p.fMus, .slice B2 m2 d2, .slice A3 n3 c3] 40
  have hP0 := box_keep hP0 ((Below.refl _ _).alloc (Nat.le_refl _) (.cells #[.int .i64 g.fProc, .int .i64 g.fPc, .slice A2 n2 c2, .int .i64 g.fState, .slice A4 n4 c4] 34)) (by simp only [World.size_alloc]; omega)
  have hP0 := box_keep hP0 ((Below.refl _ _).alloc (Nat.le_refl _) (.cells #[.int .i64 0, .int .i64 0, .slice none 0 0, .int .i64 0, .slice none 0 0] 34)) (by simp only [World.size_alloc]; omega)
  have hG0 := box_new (w.alloc (.cells #[.slice A0 n0 c0, .int .i64 p.fMus, .slice B2 m2 d2, .slice A3 n3 c3] 40)) #[.int .i64 g.fProc, .int .i64 g.fPc, .slice A2 n2 c2, .int .i64 g.fState, .slice A4 n4 c4] 34
  have hG0 := box_keep hG0 ((Below.refl _ _).alloc (Nat.le_refl _) (.cells #[.int .i64 0, .int .i64 0, .slice none 0 0, .int .i64 0, .slice none 0 0] 34)) (by simp only [World.size_alloc]; omega)
  simp only [World.size_alloc, Nat.add_assoc, Nat.reduceAdd] at hG0
  have hR0 := box_new ((w.alloc (.cells #[.slice A0 n0 c0, .int .i64 p.fMus, .slice B2 m2 d2, .slice A3 n3 c3] 40)).alloc (.cells #[.int .i64 g.fProc, .int .i64 g.fPc, .slice A2 n2 c2, .int .i64 g.fState, .slice A4 n4 c4] 34)) #[.int .i64 0, .int .i64 0, .slice none 0 0, .int .i64 0, .slice none 0 0] 34
  simp only [World.size_alloc, Nat.add_assoc, Nat.reduceAdd] at hR0
  have hB0 : Below w.heap.size w (((w.alloc (.cells #[.slice A0 n0 c0, .int .i64 p.fMus, .slice B2 m2 d2, .slice A3 n3 c3] 40)).alloc (.cells #[.int .i64 g.fProc, .int .i64 g.fPc, .slice A2 n2 c2, .int .i64 g.fState, .slice A4 n4 c4] 34)).alloc (.cells #[.int .i64 0, .int .i64 0, .slice none 0 0, .int .i64 0, .slice none 0 0] 34)) := (((Below.refl _ _).alloc (Nat.le_refl _) _).alloc (by simp only [World.size_alloc]; omega) _).alloc (by simp only [World.size_alloc]; omega) _
  have hz0 : w.heap.size + 3 ≤ (((w.alloc (.cells #[.slice A0 n0 c0, .int .i64 p.fMus, .slice B2 m2 d2, .slice A3 n3 c3] 40)).alloc (.cells #[.int .i64 g.fProc, .int .i64 g.fPc, .slice A2 n2 c2, .int .i64 g.fState, .slice A4 n4 c4] 34)).alloc (.cells #[.int .i64 0, .int .i64 0, .slice none 0 0, .int .i64 0, .slice none 0 0] 34)).heap.size := by simp only [World.size_alloc]; omega
  go_enter Tryz.func8, Tryz.ntmps8
  go_wp2_with fail
  refine (HG.out _ hB0).mono ?_
  rintro e w1 ⟨rfl, hb1⟩
  have hz1 := hb1.size
  have HB1 := Lib.hid (hB0.trans (hb1.mono (by omega)))
  have HP1 := Lib.hid (box_keep hP0 hb1 (by omega))
  have HG1 := Lib.hid (box_keep hG0 hb1 (by omega))
  have HR1 := Lib.hid (box_keep hR0 hb1 (by omega))
  clear hb1 hB0 hP0 hG0 hR0
  cases b1
  · skip
    have r0 := box_cell (j := 0) HR1.out rfl
    have r1 := box_cell (j := 1) HR1.out rfl
    have r2 := box_cell (j := 2) HR1.out rfl
    have r3 := box_cell (j := 3) HR1.out rfl
    have r4 := box_cell (j := 4) HR1.out rfl
    have rf0 := box_free HR1.out 0
    have rf1 := box_free HR1.out 1
    have rf2 := box_free HR1.out 2
    have rf3 := box_free HR1.out 3
    have rf4 := box_free HR1.out 4
    go_wp2_with fail
    have hfin := put5 (u0 := (.int .i64 0)) (u1 := (.int .i64 0)) (u2 := (.slice none 0 0)) (u3 := (.int .i64 0)) (u4 := (.slice none 0 0)) HR1.out
    have y0 := box_cell (j := 0) hfin.1 rfl
    have y1 := box_cell (j := 1) hfin.1 rfl
    have y2 := box_cell (j := 2) hfin.1 rfl
    have y3 := box_cell (j := 3) hfin.1 rfl
    have y4 := box_cell (j := 4) hfin.1 rfl
    refine bodyPost_ret (v := .tuple #[.agg #[.int .i64 0, .int .i64 0, .slice none 0 0, .int .i64 0, .slice none 0 0], .bool false]) (by simp [results, Tryz.results8, go_sem, y0, y1, y2, y3, y4]) rfl ?_
    exact .inl ⟨HBB.out, rfl, below_put5 HB1.out (by omega)⟩
  · skip
    have p0 := box_cell (j := 0) HP1.out rfl
    have p1 := box_cell (j := 1) HP1.out rfl
    have p2 := box_cell (j := 2) HP1.out rfl
    have p3 := box_cell (j := 3) HP1.out rfl
    have g0 := box_cell (j := 0) HG1.out rfl
    have g1 := box_cell (j := 1) HG1.out rfl
    have g2 := box_cell (j := 2) HG1.out rfl
    have g3 := box_cell (j := 3) HG1.out rfl
    have g4 := box_cell (j := 4) HG1.out rfl
    go_wp2_with fail
    refine (HM.out (by simp) _ HB1.out).mono ?_
    rintro e w2 hC
    obtain ⟨E2, k2, e2, E4, k4, e4, rfl, H2, hb2⟩ := hold_of hC (HW.out (by simp)).1 (HW.out (by simp)).2.1 (HW.out (by simp)).2.2
    clear hC
    simp only at H2 ⊢
    have hz2 := hb2.size
    have HR2 := Lib.hid (box_keep HR1.out hb2 (by omega))
    have HB2 := Lib.hid (HB1.out.trans (hb2.mono (by omega)))
    have HH2 := Lib.hid H2
    clear hb2 H2 p0 p1 p2 p3 g0 g1 g2 g3 g4
    have r0 := box_cell (j := 0) HR2.out rfl
    have r1 := box_cell (j := 1) HR2.out rfl
    have r2 := box_cell (j := 2) HR2.out rfl
    have r3 := box_cell (j := 3) HR2.out rfl
    have r4 := box_cell (j := 4) HR2.out rfl
    have rf0 := box_free HR2.out 0
    have rf1 := box_free HR2.out 1
    have rf2 := box_free HR2.out 2
    have rf3 := box_free HR2.out 3
    have rf4 := box_free HR2.out 4
    go_wp2_with fail
    have hfin := put5 (u0 := (.int .i64 yp)) (u1 := (.int .i64 yc)) (u2 := (.slice E2 k2 e2)) (u3 := (.int .i64 ys)) (u4 := (.slice E4 k4 e4)) HR2.out
    have y0 := box_cell (j := 0) hfin.1 rfl
    have y1 := box_cell (j := 1) hfin.1 rfl
    have y2 := box_cell (j := 2) hfin.1 rfl
    have y3 := box_cell (j := 3) hfin.1 rfl
    have y4 := box_cell (j := 4) hfin.1 rfl
    refine bodyPost_ret (v := .tuple #[.agg #[.int .i64 yp, .int .i64 yc, .slice E2 k2 e2, .int .i64 ys, .slice E4 k4 e4], .bool true]) (by simp [results, Tryz.results8, go_sem, y0, y1, y2, y3, y4]) rfl ?_
    exact .inr ⟨HBB.out, yp, yc, yr, ys, yt, E2, k2, e2, E4, k4, e4, HY.out, rfl, (HH2.out.stay (fun k hk _ => hfin.2.1 k (by have := hk.1; omega)) (Nat.le_of_eq hfin.2.2.symm)).wide (fun k hk hl => ⟨by have := hk.1; omega, hl⟩), below_put5 HB2.out (by omega)⟩

set_option maxRecDepth 100000 in
set_option maxHeartbeats 4000000 in
theorem specNext_any {w : World} {hi : Nat} {p : DProg} {g : DGor} {vs us : List Value} (hp : layProg.see w hi p vs) (hg : layGor.see w hi g us) (hhi : hi ≤ w.heap.size) (hnp : szProg p ≤ 1048576) (hng : szGor g ≤ 1048576) :
    Calls Tryz.prog 19 #[.agg vs.toArray, .agg us.toArray] w fun e w' => e = .returned (.tuple #[.agg #[.int .i64 (nextI p g).fOp, .int .i64 (nextI p g).fA, .int .i64 (nextI p g).fB, .int .i64 (nextI p g).fC], .bool (nextB p g)]) ∧ Below w.heap.size w w' := by
  have HG := Lib.hid (fun (W : World) (hW : Below w.heap.size w W) => specGorOk_any (layProg.keep hp fun k hk => hW.block k (by omega)) (layGor.keep hg fun k hk => hW.block k (by omega)) (Nat.le_trans hhi hW.size) hnp hng)
  have HM := Lib.hid (fun (hok : gorOkB p g = true) (W : World) (hW : Below w.heap.size w W) => specBurnt_any (most := 500) (layProg.keep hp fun k hk => hW.block k (by omega)) (layGor.keep hg fun k hk => hW.block k (by omega)) (Nat.le_trans hhi hW.size) hnp hng (good_of hok).1 (good_of hok).2 (by decide))
  have HA := Lib.hid (fun (hok : gorOkB p g = true) (W : World) (hW : Below w.heap.size w W) (xs : List Value) (hx : layGor.see W W.heap.size (runR p g (cntR p g 500)) xs) => specAt_any (layProg.more (layProg.keep hp fun k hk => hW.block k (by omega)) (Nat.le_trans hhi hW.size)) hx (Nat.le_refl _) hnp (run_good (good_of hok).1 (good_of hok).2 _ (cnt_stops p g 500).2.1).1.1)
  rw [show (progOkB p && gorB (instrsZ p g.fProc) g) = gorOkB p g from rfl] at HG
  obtain ⟨A0, n0, c0, B2, m2, d2, A3, n3, c3, rfl, -⟩ := seeProg hp
  obtain ⟨A2, n2, c2, A4, n4, c4, rfl, -⟩ := seeGor hg
  clear hp hg hnp hng
  have HNB := Lib.hid (show nextB p g = (gorOkB p g && (decide ((runR p g (cntR p g 500)).fState = 1) && sharedZ (atI p (runR p g (cntR p g 500))).fOp)) from rfl)
  have HNI := Lib.hid (show nextI p g = if nextB p g = true then atI p (runR p g (cntR p g 500)) else ⟨0, 0, 0, 0⟩ from rfl)
  have HUQ := Lib.hid (fun (n : Nat) (hn : Stops p g (limN 500) n) => stops_uniq (cnt_stops p g 500) hn)
  generalize gorOkB p g = b1 at *
  generalize hX : runR p g (cntR p g 500) = X at HA HNB HNI
  have HXX := Lib.hid hX
  clear hX
  generalize atI p X = ins at *
  generalize nextB p g = nb at *
  generalize nextI p g = ni at *
  obtain ⟨jo, ja, jb, jc⟩ := ni
  have hP0 := box_new w #[.slice A0 n0 c0, .int .i64 p.fMus, .slice B2 m2 d2, .slice A3 n3 c3] 40
  have hP0 := box_keep hP0 ((Below.refl _ _).alloc (Nat.le_refl _) (.cells #[.int .i64 g.fProc, .int .i64 g.fPc, .slice A2 n2 c2, .int .i64 g.fState, .slice A4 n4 c4] 34)) (by simp only [World.size_alloc]; omega)
  have hP0 := box_keep hP0 ((Below.refl _ _).alloc (Nat.le_refl _) (.cells #[.int .i64 0, .int .i64 0, .int .i64 0, .int .i64 0] 52)) (by simp only [World.size_alloc]; omega)
  have hG0 := box_new (w.alloc (.cells #[.slice A0 n0 c0, .int .i64 p.fMus, .slice B2 m2 d2, .slice A3 n3 c3] 40)) #[.int .i64 g.fProc, .int .i64 g.fPc, .slice A2 n2 c2, .int .i64 g.fState, .slice A4 n4 c4] 34
  have hG0 := box_keep hG0 ((Below.refl _ _).alloc (Nat.le_refl _) (.cells #[.int .i64 0, .int .i64 0, .int .i64 0, .int .i64 0] 52)) (by simp only [World.size_alloc]; omega)
  simp only [World.size_alloc, Nat.add_assoc, Nat.reduceAdd] at hG0
  have hR0 := box_new ((w.alloc (.cells #[.slice A0 n0 c0, .int .i64 p.fMus, .slice B2 m2 d2, .slice A3 n3 c3] 40)).alloc (.cells #[.int .i64 g.fProc, .int .i64 g.fPc, .slice A2 n2 c2, .int .i64 g.fState, .slice A4 n4 c4] 34)) #[.int .i64 0, .int .i64 0, .int .i64 0, .int .i64 0] 52
  simp only [World.size_alloc, Nat.add_assoc, Nat.reduceAdd] at hR0
  have hB0 : Below w.heap.size w (((w.alloc (.cells #[.slice A0 n0 c0, .int .i64 p.fMus, .slice B2 m2 d2, .slice A3 n3 c3] 40)).alloc (.cells #[.int .i64 g.fProc, .int .i64 g.fPc, .slice A2 n2 c2, .int .i64 g.fState, .slice A4 n4 c4] 34)).alloc (.cells #[.int .i64 0, .int .i64 0, .int .i64 0, .int .i64 0] 52)) := (((Below.refl _ _).alloc (Nat.le_refl _) _).alloc (by simp only [World.size_alloc]; omega) _).alloc (by simp only [World.size_alloc]; omega) _
  have hz0 : w.heap.size + 3 ≤ (((w.alloc (.cells #[.slice A0 n0 c0, .int .i64 p.fMus, .slice B2 m2 d2, .slice A3 n3 c3] 40)).alloc (.cells #[.int .i64 g.fProc, .int .i64 g.fPc, .slice A2 n2 c2, .int .i64 g.fState, .slice A4 n4 c4] 34)).alloc (.cells #[.int .i64 0, .int .i64 0, .int .i64 0, .int .i64 0] 52)).heap.size := by simp only [World.size_alloc]; omega
  go_enter Tryz.func19, Tryz.ntmps19
  go_wp2_with fail
  refine (HG.out _ hB0).mono ?_
  rintro e w1 ⟨rfl, hb1⟩
  have hz1 := hb1.size
  have HB1 := Lib.hid (hB0.trans (hb1.mono (by omega)))
  have HP1 := Lib.hid (box_keep hP0 hb1 (by omega))
  have HG1 := Lib.hid (box_keep hG0 hb1 (by omega))
  have HR1 := Lib.hid (box_keep hR0 hb1 (by omega))
  clear hb1 hB0 hP0 hG0 hR0
  cases b1
  · skip
    have r0 := box_cell (j := 0) HR1.out rfl
    have r1 := box_cell (j := 1) HR1.out rfl
    have r2 := box_cell (j := 2) HR1.out rfl
    have r3 := box_cell (j := 3) HR1.out rfl
    have rf0 := box_free HR1.out 0
    have rf1 := box_free HR1.out 1
    have rf2 := box_free HR1.out 2
    have rf3 := box_free HR1.out 3
    go_wp2_with fail
    have hfin := And.intro (box_set (j := 3) (u := (.int .i64 0)) (box_set (j := 2) (u := (.int .i64 0)) (box_set (j := 1) (u := (.int .i64 0)) (box_set (j := 0) (u := (.int .i64 0)) HR1.out)))) trivial
    have y0 := box_cell (j := 0) hfin.1 rfl
    have y1 := box_cell (j := 1) hfin.1 rfl
    have y2 := box_cell (j := 2) hfin.1 rfl
    have y3 := box_cell (j := 3) hfin.1 rfl
    refine bodyPost_ret (v := .tuple #[.agg #[.int .i64 0, .int .i64 0, .int .i64 0, .int .i64 0], .bool false]) (by simp [results, Tryz.results19, go_sem, y0, y1, y2, y3]) rfl ?_
    obtain rfl : nb = false := by rw [HNB.out]; rfl
    have hni := HNI.out
    rw [if_neg (by decide)] at hni
    injection hni with h1 h2 h3 h4
    subst h1 h2 h3 h4
    exact ⟨rfl, below_set4 HB1.out (by omega)⟩
  · skip
    have p0 := box_cell (j := 0) HP1.out rfl
    have p1 := box_cell (j := 1) HP1.out rfl
    have p2 := box_cell (j := 2) HP1.out rfl
    have p3 := box_cell (j := 3) HP1.out rfl
    have g0 := box_cell (j := 0) HG1.out rfl
    have g1 := box_cell (j := 1) HG1.out rfl
    have g2 := box_cell (j := 2) HG1.out rfl
    have g3 := box_cell (j := 3) HG1.out rfl
    have g4 := box_cell (j := 4) HG1.out rfl
    go_wp2_with fail
    refine (HM.out (by simp) _ HB1.out).mono ?_
    rintro e w2 ⟨n, xp, xc, xr, xs, xt, E2, k2, e2, E4, k4, e4, hst, hx, rfl, H2, hb2⟩
    have hn := HUQ.out n hst
    rw [← hn, HXX.out] at hx
    subst hx
    clear hn hst
    simp only at HNB
    have hz2 := hb2.size
    have HP2 := Lib.hid (box_keep HP1.out hb2 (by omega))
    have HR2 := Lib.hid (box_keep HR1.out hb2 (by omega))
    have HB2 := Lib.hid (HB1.out.trans (hb2.mono (by omega)))
    have HH2 := Lib.hid H2
    clear hb2 H2 p0 p1 p2 p3 g0 g1 g2 g3 g4
    go_upto_region 4 with (fail)
    have hbx : Below w2.heap.size w2 (w2.alloc (.cells #[.int .i64 xp, .int .i64 xc, .slice E2 k2 e2, .int .i64 xs, .slice E4 k4 e4] 34)) := (Below.refl _ _).alloc (Nat.le_refl _) _
    have hzx : w2.heap.size < (w2.alloc (.cells #[.int .i64 xp, .int .i64 xc, .slice E2 k2 e2, .int .i64 xs, .slice E4 k4 e4] 34)).heap.size := by simp
    have HX3 := Lib.hid (box_new w2 #[.int .i64 xp, .int .i64 xc, .slice E2 k2 e2, .int .i64 xs, .slice E4 k4 e4] 34)
    have HP3 := Lib.hid (box_keep HP2.out hbx (by omega))
    have HR3 := Lib.hid (box_keep HR2.out hbx (by omega))
    have HB3 := Lib.hid (HB2.out.trans (hbx.mono (by omega)))
    have HH3 := Lib.hid (HH2.out.stay (fun k hk hl => hbx.block k hl) hbx.size)
    clear hbx
    generalize (w2.alloc (.cells #[.int .i64 xp, .int .i64 xc, .slice E2 k2 e2, .int .i64 xs, .slice E4 k4 e4] 34)) = W3 at *
    generalize w2.heap.size = bx at *
    have HA3 := Lib.hid (fun (W : World) (hW : Below W3.heap.size W3 W) => (HA.out (by simp) W (HB3.out.trans (hW.mono (by have := HB3.out.size; omega))) [.int .i64 xp, .int .i64 xc, .slice E2 k2 e2, .int .i64 xs, .slice E4 k4 e4] (HoldG.see (HH3.out.stay (fun k _ hl => hW.block k hl) hW.size))))
    obtain ⟨io, ia, ib, ic⟩ := ins
    simp only at HA3 HNB HNI
    have hfo := fieldOp io ia ib ic
    have x0 := box_cell (j := 0) HX3.out rfl
    have x1 := box_cell (j := 1) HX3.out rfl
    have x2 := box_cell (j := 2) HX3.out rfl
    have x3 := box_cell (j := 3) HX3.out rfl
    have x4 := box_cell (j := 4) HX3.out rfl
    have p0 := box_cell (j := 0) HP3.out rfl
    have p1 := box_cell (j := 1) HP3.out rfl
    have p2 := box_cell (j := 2) HP3.out rfl
    have p3 := box_cell (j := 3) HP3.out rfl
    by_cases hs1 : xs = 1
    · subst hs1
      go_wp2_with fail
      refine (HA3.out _ (Below.refl _ _)).mono ?_
      rintro e w4 ⟨rfl, hb4⟩
      have hz4 := hb4.size
      have HX4 := Lib.hid (box_keep HX3.out hb4 (by omega))
      have HP4 := Lib.hid (box_keep HP3.out hb4 (by omega))
      have HR4 := Lib.hid (box_keep HR3.out hb4 (by omega))
      have HB4 := Lib.hid (HB3.out.trans (hb4.mono (by have := HB3.out.size; omega)))
      have HA4 := Lib.hid (HA3.out w4 hb4)
      clear hb4 p0 p1 p2 p3 x0 x1 x2 x3 x4
      go_wp2_with fail
      refine (specShared_any io _).mono ?_
      rintro e w5 ⟨rfl, rfl⟩
      generalize hsh : sharedZ io = sh at *
      cases sh
      · skip
        have r0 := box_cell (j := 0) HR4.out rfl
        have r1 := box_cell (j := 1) HR4.out rfl
        have r2 := box_cell (j := 2) HR4.out rfl
        have r3 := box_cell (j := 3) HR4.out rfl
        have rf0 := box_free HR4.out 0
        have rf1 := box_free HR4.out 1
        have rf2 := box_free HR4.out 2
        have rf3 := box_free HR4.out 3
        go_wp2_with fail
        have hfin := And.intro (box_set (j := 3) (u := (.int .i64 0)) (box_set (j := 2) (u := (.int .i64 0)) (box_set (j := 1) (u := (.int .i64 0)) (box_set (j := 0) (u := (.int .i64 0)) HR4.out)))) trivial
        have y0 := box_cell (j := 0) hfin.1 rfl
        have y1 := box_cell (j := 1) hfin.1 rfl
        have y2 := box_cell (j := 2) hfin.1 rfl
        have y3 := box_cell (j := 3) hfin.1 rfl
        refine bodyPost_ret (v := .tuple #[.agg #[.int .i64 0, .int .i64 0, .int .i64 0, .int .i64 0], .bool false]) (by simp [results, Tryz.results19, go_sem, y0, y1, y2, y3]) rfl ?_
        obtain rfl : nb = false := by rw [HNB.out]; rfl
        have hni := HNI.out
        rw [if_neg (by decide)] at hni
        injection hni with h1 h2 h3 h4
        subst h1 h2 h3 h4
        exact ⟨rfl, below_set4 HB4.out (by omega)⟩
      · skip
        have x0 := box_cell (j := 0) HX4.out rfl
        have x1 := box_cell (j := 1) HX4.out rfl
        have x2 := box_cell (j := 2) HX4.out rfl
        have x3 := box_cell (j := 3) HX4.out rfl
        have x4 := box_cell (j := 4) HX4.out rfl
        have p0 := box_cell (j := 0) HP4.out rfl
        have p1 := box_cell (j := 1) HP4.out rfl
        have p2 := box_cell (j := 2) HP4.out rfl
        have p3 := box_cell (j := 3) HP4.out rfl
        go_wp2_with fail
        refine (HA4.out).mono ?_
        rintro e w6 ⟨rfl, hb6⟩
        have hz6 := hb6.size
        have HR6 := Lib.hid (box_keep HR4.out hb6 (by omega))
        have HB6 := Lib.hid (HB4.out.trans (hb6.mono (by have := HB4.out.size; omega)))
        clear hb6 p0 p1 p2 p3 x0 x1 x2 x3 x4
        have r0 := box_cell (j := 0) HR6.out rfl
        have r1 := box_cell (j := 1) HR6.out rfl
        have r2 := box_cell (j := 2) HR6.out rfl
        have r3 := box_cell (j := 3) HR6.out rfl
        have rf0 := box_free HR6.out 0
        have rf1 := box_free HR6.out 1
        have rf2 := box_free HR6.out 2
        have rf3 := box_free HR6.out 3
        go_wp2_with fail
        have hfin := And.intro (box_set (j := 3) (u := (.int .i64 ic)) (box_set (j := 2) (u := (.int .i64 ib)) (box_set (j := 1) (u := (.int .i64 ia)) (box_set (j := 0) (u := (.int .i64 io)) HR6.out)))) trivial
        have y0 := box_cell (j := 0) hfin.1 rfl
        have y1 := box_cell (j := 1) hfin.1 rfl
        have y2 := box_cell (j := 2) hfin.1 rfl
        have y3 := box_cell (j := 3) hfin.1 rfl
        refine bodyPost_ret (v := .tuple #[.agg #[.int .i64 io, .int .i64 ia, .int .i64 ib, .int .i64 ic], .bool true]) (by simp [results, Tryz.results19, go_sem, y0, y1, y2, y3]) rfl ?_
        obtain rfl : nb = true := by rw [HNB.out]; rfl
        have hni := HNI.out
        rw [if_pos rfl] at hni
        injection hni with h1 h2 h3 h4
        subst h1 h2 h3 h4
        exact ⟨rfl, below_set4 HB6.out (by omega)⟩
    · skip
      clear p0 p1 p2 p3
      have r0 := box_cell (j := 0) HR3.out rfl
      have r1 := box_cell (j := 1) HR3.out rfl
      have r2 := box_cell (j := 2) HR3.out rfl
      have r3 := box_cell (j := 3) HR3.out rfl
      have rf0 := box_free HR3.out 0
      have rf1 := box_free HR3.out 1
      have rf2 := box_free HR3.out 2
      have rf3 := box_free HR3.out 3
      go_wp2_with fail
      have hfin := And.intro (box_set (j := 3) (u := (.int .i64 0)) (box_set (j := 2) (u := (.int .i64 0)) (box_set (j := 1) (u := (.int .i64 0)) (box_set (j := 0) (u := (.int .i64 0)) HR3.out)))) trivial
      have y0 := box_cell (j := 0) hfin.1 rfl
      have y1 := box_cell (j := 1) hfin.1 rfl
      have y2 := box_cell (j := 2) hfin.1 rfl
      have y3 := box_cell (j := 3) hfin.1 rfl
      refine bodyPost_ret (v := .tuple #[.agg #[.int .i64 0, .int .i64 0, .int .i64 0, .int .i64 0], .bool false]) (by simp [results, Tryz.results19, go_sem, y0, y1, y2, y3]) rfl ?_
      obtain rfl : nb = false := by rw [HNB.out]; rw [decide_eq_false hs1]; rfl
      have hni := HNI.out
      rw [if_neg (by decide)] at hni
      injection hni with h1 h2 h3 h4
      subst h1 h2 h3 h4
      exact ⟨rfl, below_set4 HB3.out (by omega)⟩
end Go.Proofs.YtapbjnfopniicaaGreatDoor
