
/- IterI, BurntI, BurnJ, merged for claims. -/

import Derived.RangeFuncNested

import Derived.RangeFuncBound

import Derived.RangeFuncCalls

import Derived.RangeFuncLeaves

import Derived.Shelf.Abstract

import Derived.Shelf.RegionOpen

import Derived.WalkKit

import Derived.OwnWalkIn

import Derived.TacticsInMore

import Derived.LoopNIn

import Derived.LoopIn

import Derived.Test.YtapbjnfopniicaaGreatDoorStepI

import Derived.Test.YtapbjnfopniicaaGreatDoorGBurnS

import Derived.Test.YtapbjnfopniicaaGreatDoorLocS

import Derived.Deep.Cut

namespace Go.Proofs.YtapbjnfopniicaaGreatDoor
set_option linter.unusedSimpArgs false
set_option linter.unusedVariables false
open Go.RowKit

/-- What the iterator has made when it returns. -/
def IterE (p : DProg) (g : DGor) (lim : Nat) (T : Nat → Prop) (J Jx : World → Prop) (La : Nat → List Value → World → Prop) (W0 : World) (e : Ending) (W' : World) : Prop :=
  (∃ v, e = .returned v) ∧ ∃ (n : Nat) (xp xc : Int) (xr : List Int) (xs : Int) (xt : List DItem) (E2 : Option Addr) (k2 e2 : Nat) (E4 : Option Addr) (k4 e4 : Nat), Stops p g lim n ∧ runR p g n = ⟨xp, xc, xr, xs, xt⟩ ∧ HoldG (fun b => W0.heap.size ≤ b) ⟨xp, xc, xr, xs, xt⟩ W' E2 k2 e2 E4 k4 e4 ∧
    La n [.int .i64 xp, .int .i64 xc, .slice E2 k2 e2, .int .i64 xs, .slice E4 k4 e4] W' ∧ (J W' ∨ Jx W') ∧ TurnedF T W0 W'
theorem turned_trans_below {T : Nat → Prop} {W0 W W' : World} (h : TurnedF T W0 W) (hb : Below W0.heap.size W W') : TurnedF T W0 W' :=
  ⟨hb.os.trans h.os, hb.tape.trans h.tape, hb.output.trans h.output, Nat.le_trans h.size hb.size, fun k hk hn => (hb.block k hk).trans (h.block k hk hn)⟩
theorem turned_trans {T : Nat → Prop} {W0 W W' : World} (h : TurnedF T W0 W) (hb : TurnedF T W W') : TurnedF T W0 W' := h.trans hb
attribute [local go_sem] Oper.semAt_some

set_option maxRecDepth 100000 in
set_option maxHeartbeats 20000000 in
theorem iter_any {W0 : World} {hiP pb gb l : Nat} {p : DProg} {pr pc st : Int} {regs : List Int} {tr : List DItem} {A0 A2 A3 A4 B2 : Option Addr} {n0 c0 m2 d2 n3 c3 n2 c2 n4 c4 : Nat}
    (hp : layProg.see W0 hiP p [.slice A0 n0 c0, .int .i64 p.fMus, .slice B2 m2 d2, .slice A3 n3 c3]) (hhi : hiP ≤ W0.heap.size) (hnp : szProg p ≤ 1048576) (hg : layGor.see W0 W0.heap.size ⟨pr, pc, regs, st, tr⟩ [.int .i64 pr, .int .i64 pc, .slice A2 n2 c2, .int .i64 st, .slice A4 n4 c4]) (hng : szGor ⟨pr, pc, regs, st, tr⟩ ≤ 1048576) (hok : progOkB p = true) (hgd : GoodG p ⟨pr, pc, regs, st, tr⟩)
    (hpb : W0.heap[pb]? = some (.cells #[.slice A0 n0 c0, .int .i64 p.fMus, .slice B2 m2 d2, .slice A3 n3 c3] 40 (0, 0))) (hgb : W0.heap[gb]? = some (.cells #[.int .i64 pr, .int .i64 pc, .slice A2 n2 c2, .int .i64 st, .slice A4 n4 c4] 34 (0, 0)))
    (T : Nat → Prop) (hT : ∀ b, T b → hiP ≤ b ∧ b < W0.heap.size ∧ b ≠ pb) (lim : Nat) (hlim : lim ≤ 2000) (J Jx : World → Prop) (La : Nat → List Value → World → Prop)
    (hJ : ∀ W W', J W → Below W0.heap.size W W' → J W') (hL : ∀ k vs W W', La k vs W → Below W0.heap.size W W' → La k vs W')
    (hY : ∀ (k : Nat) (xp xc xs : Int) (E2 : Option Addr) (k2 e2 : Nat) (E4 : Option Addr) (k4 e4 : Nat) (W : World), k ≤ 2000 → J W → TurnedF T W0 W → YieldAt Fence.wide 8 Tryz.prog l #[.int .i64 (k : Int), .agg #[.int .i64 xp, .int .i64 xc, .slice E2 k2 e2, .int .i64 xs, .slice E4 k4 e4]] W fun e W' =>
      TurnedF T W W' ∧ La k [.int .i64 xp, .int .i64 xc, .slice E2 k2 e2, .int .i64 xs, .slice E4 k4 e4] W' ∧ ((e = .returned (.bool true) ∧ k < lim ∧ J W') ∨ (e = .returned (.bool false) ∧ ¬ k < lim ∧ Jx W'))) (h0 : J W0) :
    Calls Tryz.prog 95 #[.func (.yield l) #[] #[], .pointer (some ⟨gb, 0, none⟩), .pointer (some ⟨pb, 0, none⟩)] W0 (IterE p ⟨pr, pc, regs, st, tr⟩ lim T J Jx La W0) := by
  have HC := Lib.hid (copyGor_any hg (Nat.le_refl _) hng)
  have HGD := Lib.hid (fun (k : Nat) (hj : ∀ j, j < k → locB p (runR p ⟨pr, pc, regs, st, tr⟩ j) = true) => run_good hok hgd k hj)
  have HSZ := Lib.hid (fun (k : Nat) (hj : ∀ j, j < k → locB p (runR p ⟨pr, pc, regs, st, tr⟩ j) = true) (hs : (runR p ⟨pr, pc, regs, st, tr⟩ k).fState = 1) => Nat.le_trans (Nat.le_of_eq (run_szL hok hgd hj hs)) hng)
  have HPS := Lib.hid (fun (W : World) (hW : TurnedF T W0 W) => layProg.keep hp (w' := W) fun k hk => hW.block k (by omega) (fun ht => by have := (hT k ht).1; omega))
  have HPB := Lib.hid (fun (W : World) (hW : TurnedF T W0 W) => (hW.block pb (lt_of_block hpb) (fun ht => (hT pb ht).2.2 rfl)).trans hpb)
  have HWF := Lib.hid (show (Lit.int .i64 pr).wf = true ∧ (Lit.int .i64 pc).wf = true ∧ (Lit.int .i64 st).wf = true from by obtain ⟨_, _, _, _, _, _, -, hw0, hw1, -, hw3, -⟩ := seeGor hg; exact ⟨hw0, hw1, hw3⟩)
  have HT := Lib.hid (fun b hb => (hT b hb).2.1)
  have HY := Lib.hid hY
  have HJ := Lib.hid hJ
  have HLa := Lib.hid hL
  have HOK := Lib.hid hok
  have HNP := Lib.hid hnp
  have HHI := Lib.hid hhi
  obtain ⟨lo, hlo⟩ : ∃ lo, lo = W0.heap.size := ⟨_, rfl⟩
  have HP0 := Lib.hid hpb
  have g0 := box_cell (j := 0) hgb rfl
  have g1 := box_cell (j := 1) hgb rfl
  have g2 := box_cell (j := 2) hgb rfl
  have g3 := box_cell (j := 3) hgb rfl
  have g4 := box_cell (j := 4) hgb rfl
  clear hp hg hng hgd hok hnp hT hY hJ hL hgb hpb
  go_enter Tryz.func95, Tryz.ntmps95
  go_wp2_with fail
  refine (HC.out).mono ?_
  rintro e w2 hC
  obtain ⟨C2, q2, f2, C4, q4, f4, rfl, H2, hb2⟩ := hold_of hC HWF.out.1 HWF.out.2.1 HWF.out.2.2
  clear hC
  simp only at H2 ⊢
  have hz2 := hb2.size
  clear g0 g1 g2 g3 g4
  have HH2 := Lib.hid H2
  clear H2
  go_upto_region 1 with (fail)
  have hbo : Below w2.heap.size w2 (w2.alloc (.cells #[.int .i64 pr, .int .i64 pc, .slice C2 q2 f2, .int .i64 st, .slice C4 q4 f4] 34)) := (Below.refl _ _).alloc (Nat.le_refl _) _
  have hz4 : w2.heap.size < (w2.alloc (.cells #[.int .i64 pr, .int .i64 pc, .slice C2 q2 f2, .int .i64 st, .slice C4 q4 f4] 34)).heap.size := by simp
  have HO2 := Lib.hid (box_new w2 #[.int .i64 pr, .int .i64 pc, .slice C2 q2 f2, .int .i64 st, .slice C4 q4 f4] 34)
  have HB2 := Lib.hid (hb2.trans (hbo.mono hz2))
  have HH3 := Lib.hid (HH2.out.below hbo (Nat.le_refl _))
  clear HH2 hbo hb2
  generalize (w2.alloc (.cells #[.int .i64 pr, .int .i64 pc, .slice C2 q2 f2, .int .i64 st, .slice C4 q4 f4] 34)) = W2 at *
  generalize hbo : w2.heap.size = bo at *
  have hi1 : W0.heap.size ≤ bo := by omega
  have hbo2 : bo < W2.heap.size := by omega
  have HH4 := Lib.hid (HH3.out.wide (F' := fun b => W0.heap.size ≤ b ∧ b ≠ bo) (fun k hk _ => by have := hk.1; have := hk.2; omega))
  have HJ2 := Lib.hid (HJ.out _ _ h0 HB2.out)
  have HT2 := Lib.hid (turned_trans_below (TurnedF.refl T W0) HB2.out)
  clear HH3 hbo hz2 hz4 h0
  go_wp2_with fail
  go_loopw [5] (fun i wr => ∃ (k : Nat) (xp xc : Int) (xr : List Int) (xs : Int) (xt : List DItem) (E2 : Option Addr) (k2 e2 : Nat) (E4 : Option Addr) (k4 e4 : Nat), i = .int .i64 k ∧ RowKit.Hid (runR p ⟨pr, pc, regs, st, tr⟩ k = ⟨xp, xc, xr, xs, xt⟩) ∧ k ≤ lim ∧ RowKit.Hid (∀ j, j < k → locB p (runR p ⟨pr, pc, regs, st, tr⟩ j) = true) ∧ wr.heap[bo]? = some (.cells #[.int .i64 xp, .int .i64 xc, .slice E2 k2 e2, .int .i64 xs, .slice E4 k4 e4] 34 (0, 0)) ∧ HoldG (fun b => W0.heap.size ≤ b ∧ b ≠ bo) ⟨xp, xc, xr, xs, xt⟩ wr E2 k2 e2 E4 k4 e4 ∧ J wr ∧ TurnedF T W0 wr ∧ bo < wr.heap.size) (fun i _ => lim - (intOf i).toNat)
  case atStart => exact ⟨0, pr, pc, regs, st, tr, C2, q2, f2, C4, q4, f4, rfl, Lib.hid rfl, Nat.zero_le _, Lib.hid (fun j hj => absurd hj (Nat.not_lt_zero j)), HO2.out, HH4.out, HJ2.out, HT2.out, hbo2⟩
  case round =>
    obtain ⟨k, xp, xc, xr, xs, xt, E2, k2, e2, E4, k4, e4, rfl, hx, hk, hloc, hO, hH, hj0, hT0, hbw⟩ := hrel
    clear HO2 HH4 HJ2 HT2 HB2
    have HO := Lib.hid hO
    have HH := Lib.hid hH
    have HT0 := Lib.hid hT0
    obtain ⟨fn, tmps, asg, bd, hy, hR⟩ := HY.out k xp xc xs E2 k2 e2 E4 k4 e4 wr (by omega) hj0 hT0
    have HR := Lib.hid hR
    have o0 := box_cell (j := 0) hO rfl
    have o1 := box_cell (j := 1) hO rfl
    have o2 := box_cell (j := 2) hO rfl
    have o3 := box_cell (j := 3) hO rfl
    have o4 := box_cell (j := 4) hO rfl
    clear hO hH hj0 hT0 hR
    refine (wpIn_wide (n := 9)).1 ?_
    gi_wp2_with fail
    refine (HR.out).mono ?_
    rintro e W3 ⟨ht3, hl3, (⟨rfl, hk3, hj3⟩ | ⟨rfl, hk3, hj3⟩)⟩
    · skip
      have HT3 := Lib.hid (HT0.out.trans ht3)
      have HO3 := Lib.hid ((ht3.block bo hbw (fun ht => by have := HT.out bo ht; omega)).trans HO.out)
      have HH3 := Lib.hid (HH.out.stay (fun b hb hlt => ht3.block b hlt (fun ht => by have := HT.out b ht; have := hb.1; omega)) ht3.size)
      have hz3 := ht3.size
      have HJ3 := Lib.hid hj3
      have HL3 := Lib.hid hl3
      have hbw3 : bo < W3.heap.size := by omega
      clear ht3 hj3 hl3
      clear o0 o1 o2 o3 o4
      clear hy
      have hwz := HT3.out.size
      have HSEE := Lib.hid (fun (W : World) (hW : Below W0.heap.size W3 W) => layProg.more (HPS.out W (turned_trans_below HT3.out hW)) (Nat.le_trans HHI.out (Nat.le_trans hwz hW.size)))
      have HLc := Lib.hid (implLoc_any (HSEE.out W3 (Below.refl _ _)) HH3.out.see (Nat.le_refl _) HNP.out (fun _ => by have := (HGD.out k hloc.out).1.1; rw [hx.out] at this; exact this))
      have hP3 := HPB.out W3 HT3.out
      have p0 := box_cell (j := 0) hP3 rfl
      have p1 := box_cell (j := 1) hP3 rfl
      have p2 := box_cell (j := 2) hP3 rfl
      have p3 := box_cell (j := 3) hP3 rfl
      have o0 := box_cell (j := 0) HO3.out rfl
      have o1 := box_cell (j := 1) HO3.out rfl
      have o2 := box_cell (j := 2) HO3.out rfl
      have o3 := box_cell (j := 3) HO3.out rfl
      have o4 := box_cell (j := 4) HO3.out rfl
      clear hP3
      have HGX := Lib.hid (show GoodG p ⟨xp, xc, xr, xs, xt⟩ by have := (HGD.out k hloc.out).1; rw [hx.out] at this; exact this)
      have HS9 := Lib.hid (show runR p ⟨pr, pc, regs, st, tr⟩ (k + 1) = stepR (atI p ⟨xp, xc, xr, xs, xt⟩) ⟨xp, xc, xr, xs, xt⟩ by rw [runR, hx.out])
      have HSX := Lib.hid (fun (hs : xs = 1) => show szGor ⟨xp, xc, xr, xs, xt⟩ ≤ 1048576 by have := HSZ.out k hloc.out; rw [hx.out] at this; exact this hs)
      generalize hbb : locB p ⟨xp, xc, xr, xs, xt⟩ = bb at HLc
      have HBB := Lib.hid hbb
      clear hbb
      gi_wp2_with fail
      refine ⟨trivial, ?_⟩
      refine (callsIn_wide.2 HLc.out).mono ?_
      rintro e w5 ⟨rfl, hb5⟩
      have hz5 := hb5.size
      clear p0 p1 p2 p3
      clear o0 o1 o2 o3 o4
      have HB5 := Lib.hid (hb5.mono (by omega : W0.heap.size ≤ W3.heap.size))
      have HO5 := Lib.hid (box_keep HO3.out hb5 hbw3)
      have HH5 := Lib.hid (HH3.out.stay (fun b hb hlt => hb5.block b hlt) hb5.size)
      have HT5 := Lib.hid (turned_trans_below HT3.out HB5.out)
      have HJ5 := Lib.hid (HJ.out _ _ HJ3.out HB5.out)
      have HL5 := Lib.hid (HLa.out _ _ _ _ HL3.out HB5.out)
      clear hb5 HLc
      cases bb
      · skip
        gi_wp2_with fail
        go_end0
        exact ⟨⟨_, rfl⟩, k, xp, xc, xr, xs, xt, E2, k2, e2, E4, k4, e4, ⟨hk, hloc.out, fun _ => by rw [hx.out]; exact HBB.out⟩, hx.out, HH5.out.wide (fun b hb _ => hb.1), HL5.out, .inl HJ5.out, HT5.out⟩
      · skip
        gi_wp2_with fail
        have hxs : xs = 1 ∧ sharedZ (atI p ⟨xp, xc, xr, xs, xt⟩).fOp = false := by have := HBB.out; unfold locB at this; simp only [Bool.and_eq_true, decide_eq_true_eq, Bool.not_eq_true'] at this; exact this
        have HLI := Lib.hid (at_local HOK.out HGX.out.1 hxs.2)
        have HSZ5 := Lib.hid (HSX.out hxs.1)
        clear hxs
        have HAt := Lib.hid (fun (W : World) (hW : Below w5.heap.size w5 W) => implAt_any (HSEE.out W (HB5.out.trans (hW.mono (by omega)))) (HH5.out.stay (fun b hb hlt => hW.block b hlt) hW.size).see (Nat.le_refl _) HNP.out HGX.out.1)
        have hlw5 : W0.heap.size ≤ w5.heap.size := by omega
        have hbw5 : bo < w5.heap.size := by omega
        generalize hins : atI p ⟨xp, xc, xr, xs, xt⟩ = ins at *
        obtain ⟨io, ia, ib, ic⟩ := ins
        clear hins
        simp only at HAt
        have HDo := Lib.hid (fun (W : World) (hW : Below w5.heap.size w5 W) => doLocal_any (HH5.out.stay (fun b hb hlt => hW.block b hlt) hW.size) (by have := hW.size; omega) (by have := hW.size; omega) hi1 HSZ5.out HOK.out HGX.out HLI.out)
        refine wpIn_wide.2 ?_
        refine wp_region_inv (fun AC0 L a W => ∃ sl19 sl20 sl21 sl22 sl23 : Value, a = (((((AC0.put (some 19) sl19).put (some 20) sl20).put (some 21) sl21).put (some 22) sl22).put (some 23) sl23) ∧ (((∀ j, 4 ≤ j → ¬ L j) ∧ Below w5.heap.size w5 W ∧ (L 0 → sl19 = (.agg #[.slice A0 n0 c0, .int .i64 p.fMus, .slice B2 m2 d2, .slice A3 n3 c3])) ∧ (L 1 → sl20 = (.agg #[.int .i64 xp, .int .i64 xc, .slice E2 k2 e2, .int .i64 xs, .slice E4 k4 e4])) ∧ (L 2 → sl21 = (.agg #[.int .i64 io, .int .i64 ia, .int .i64 ib, .int .i64 ic])) ∧ (L 3 → sl22 = (.agg #[.int .i64 xp, .int .i64 xc, .slice E2 k2 e2, .int .i64 xs, .slice E4 k4 e4])) ∧ (L 2 → L 0) ∧ (L 2 → L 1)) ∨ ((∀ j, j < 5 → L j) ∧ (∀ j, 5 ≤ j → ¬ L j) ∧ ∃ (yp yc : Int) (yr : List Int) (ys : Int) (yt : List DItem) (D2 : Option Addr) (s2 t2 : Nat) (D4 : Option Addr) (s4 t4 : Nat), sl23 = .agg #[.int .i64 yp, .int .i64 yc, .slice D2 s2 t2, .int .i64 ys, .slice D4 s4 t4] ∧ stepR ⟨io, ia, ib, ic⟩ ⟨xp, xc, xr, xs, xt⟩ = ⟨yp, yc, yr, ys, yt⟩ ∧ HoldG (fun b => W0.heap.size ≤ b ∧ b ≠ bo) ⟨yp, yc, yr, ys, yt⟩ W D2 s2 t2 D4 s4 t4 ∧ Below W0.heap.size w5 W ∧ W.heap[bo]? = some (.cells #[.int .i64 xp, .int .i64 xc, .slice E2 k2 e2, .int .i64 xs, .slice E4 k4 e4] 34 (0, 0))) ∨ ((∀ j, j < 6 → L j) ∧ (∀ j, 6 ≤ j → ¬ L j) ∧ ∃ (w7 : World) (yp yc : Int) (yr : List Int) (ys : Int) (yt : List DItem) (D2 : Option Addr) (s2 t2 : Nat) (D4 : Option Addr) (s4 t4 : Nat), W = (((((w7.setCell ⟨bo, 0, none⟩ (.int .i64 yp)).setCell ⟨bo, 1, none⟩ (.int .i64 yc)).setCell ⟨bo, 2, none⟩ (.slice D2 s2 t2)).setCell ⟨bo, 3, none⟩ (.int .i64 ys)).setCell ⟨bo, 4, none⟩ (.slice D4 s4 t4)) ∧ stepR ⟨io, ia, ib, ic⟩ ⟨xp, xc, xr, xs, xt⟩ = ⟨yp, yc, yr, ys, yt⟩ ∧ HoldG (fun b => W0.heap.size ≤ b ∧ b ≠ bo) ⟨yp, yc, yr, ys, yt⟩ w7 D2 s2 t2 D4 s4 t4 ∧ Below W0.heap.size w5 w7 ∧ w7.heap[bo]? = some (.cells #[.int .i64 xp, .int .i64 xc, .slice E2 k2 e2, .int .i64 xs, .slice E4 k4 e4] 34 (0, 0))))) (by kernel_rfl) (by kernel_rfl) ?_ ?_ ?_
        · exact ⟨u19, u20, u21, u22, u23, by simp only [Act.put, List.setIfInBounds_toArray, List.set_cons_zero, List.set_cons_succ], .inl ⟨fun _ _ h => h, Below.drew (Below.refl _ _), fun h => absurd h id, fun h => absurd h id, fun h => absurd h id, fun h => absurd h id, fun h => absurd h id, fun h => absurd h id⟩⟩
        · intro Q9; refine InvFrom.cons (fun L a W hI hN hD K hK => ?_) ?_
          · obtain ⟨sl19, sl20, sl21, sl22, sl23, ha, hI⟩ := hI
            subst ha
            rcases hI with hI | h9 | h9
            rotate_left
            · exact absurd (h9.1 0 (by decide)) hN
            · exact absurd (h9.1 0 (by decide)) hN
            obtain ⟨hn, hB, f0, f1, f2, f3, g2_0, g2_1⟩ := hI
            have hz := hB.size
            have hpx := HPB.out W (turned_trans_below HT5.out (hB.mono hlw5))
            have pp0 := box_cell (j := 0) hpx rfl
            have pp1 := box_cell (j := 1) hpx rfl
            have pp2 := box_cell (j := 2) hpx rfl
            have pp3 := box_cell (j := 3) hpx rfl
            refine Kept.mk ?_
            simp only [Act.put, List.setIfInBounds_toArray, List.set_cons_zero, List.set_cons_succ]
            go_simp
            refine hK.out _ _ ?_
            exact ⟨(.agg #[.slice A0 n0 c0, .int .i64 p.fMus, .slice B2 m2 d2, .slice A3 n3 c3]), sl20, sl21, sl22, sl23, by simp only [Act.put, List.setIfInBounds_toArray, List.set_cons_zero, List.set_cons_succ], .inl ⟨fun j hj h => h.elim (hn j hj) (by omega), hB, fun _ => rfl, fun h => f1 (h.resolve_right (by decide)), fun h => f2 (h.resolve_right (by decide)), fun h => f3 (h.resolve_right (by decide)), fun h => .inl (g2_0 (h.resolve_right (by decide))), fun h => .inl (g2_1 (h.resolve_right (by decide)))⟩⟩
          refine InvFrom.cons (fun L a W hI hN hD K hK => ?_) ?_
          · obtain ⟨sl19, sl20, sl21, sl22, sl23, ha, hI⟩ := hI
            subst ha
            rcases hI with hI | h9 | h9
            rotate_left
            · exact absurd (h9.1 1 (by decide)) hN
            · exact absurd (h9.1 1 (by decide)) hN
            obtain ⟨hn, hB, f0, f1, f2, f3, g2_0, g2_1⟩ := hI
            have hz := hB.size
            have pq0 := box_cell (j := 0) (box_keep HO5.out hB (by omega)) rfl
            have pq1 := box_cell (j := 1) (box_keep HO5.out hB (by omega)) rfl
            have pq2 := box_cell (j := 2) (box_keep HO5.out hB (by omega)) rfl
            have pq3 := box_cell (j := 3) (box_keep HO5.out hB (by omega)) rfl
            have pq4 := box_cell (j := 4) (box_keep HO5.out hB (by omega)) rfl
            refine Kept.mk ?_
            simp only [Act.put, List.setIfInBounds_toArray, List.set_cons_zero, List.set_cons_succ]
            go_simp
            refine hK.out _ _ ?_
            exact ⟨sl19, (.agg #[.int .i64 xp, .int .i64 xc, .slice E2 k2 e2, .int .i64 xs, .slice E4 k4 e4]), sl21, sl22, sl23, by simp only [Act.put, List.setIfInBounds_toArray, List.set_cons_zero, List.set_cons_succ], .inl ⟨fun j hj h => h.elim (hn j hj) (by omega), hB, fun h => f0 (h.resolve_right (by decide)), fun _ => rfl, fun h => f2 (h.resolve_right (by decide)), fun h => f3 (h.resolve_right (by decide)), fun h => .inl (g2_0 (h.resolve_right (by decide))), fun h => .inl (g2_1 (h.resolve_right (by decide)))⟩⟩
          refine InvFrom.cons (fun L a W hI hN hD K hK => ?_) ?_
          · obtain ⟨sl19, sl20, sl21, sl22, sl23, ha, hI⟩ := hI
            subst ha
            rcases hI with hI | h9 | h9
            rotate_left
            · exact absurd (h9.1 2 (by decide)) hN
            · exact absurd (h9.1 2 (by decide)) hN
            obtain ⟨hn, hB, f0, f1, f2, f3, g2_0, g2_1⟩ := hI
            have hz := hB.size
            have d0 := f0 (hD 0 (by kernel_rfl))
            subst d0
            have d1 := f1 (hD 1 (by kernel_rfl))
            subst d1
            refine kept_c2 rfl 49 _ _ _ rfl (fenters_of' Tryz.func49 (by kernel_rfl) (by kernel_rfl)) (.agg #[.slice A0 n0 c0, .int .i64 p.fMus, .slice B2 m2 d2, .slice A3 n3 c3]) (.agg #[.int .i64 xp, .int .i64 xc, .slice E2 k2 e2, .int .i64 xs, .slice E4 k4 e4]) (by kernel_rfl) (by kernel_rfl) (HAt.out W hB) ?_
            rintro e W1 ⟨rfl, hb9⟩
            refine ⟨_, rfl, hK.out _ _ ?_⟩
            exact ⟨(.agg #[.slice A0 n0 c0, .int .i64 p.fMus, .slice B2 m2 d2, .slice A3 n3 c3]), (.agg #[.int .i64 xp, .int .i64 xc, .slice E2 k2 e2, .int .i64 xs, .slice E4 k4 e4]), (.agg #[.int .i64 io, .int .i64 ia, .int .i64 ib, .int .i64 ic]), sl22, sl23, by simp only [Act.put, List.setIfInBounds_toArray, List.set_cons_zero, List.set_cons_succ], .inl ⟨fun j hj h => h.elim (hn j hj) (by omega), hB.trans (hb9.mono hz), fun h => f0 (h.resolve_right (by decide)), fun h => f1 (h.resolve_right (by decide)), fun _ => rfl, fun h => f3 (h.resolve_right (by decide)), fun _ => .inl (hD 0 (by kernel_rfl)), fun _ => .inl (hD 1 (by kernel_rfl))⟩⟩
          refine InvFrom.cons (fun L a W hI hN hD K hK => ?_) ?_
          · obtain ⟨sl19, sl20, sl21, sl22, sl23, ha, hI⟩ := hI
            subst ha
            rcases hI with hI | h9 | h9
            rotate_left
            · exact absurd (h9.1 3 (by decide)) hN
            · exact absurd (h9.1 3 (by decide)) hN
            obtain ⟨hn, hB, f0, f1, f2, f3, g2_0, g2_1⟩ := hI
            have hz := hB.size
            have pq0 := box_cell (j := 0) (box_keep HO5.out hB (by omega)) rfl
            have pq1 := box_cell (j := 1) (box_keep HO5.out hB (by omega)) rfl
            have pq2 := box_cell (j := 2) (box_keep HO5.out hB (by omega)) rfl
            have pq3 := box_cell (j := 3) (box_keep HO5.out hB (by omega)) rfl
            have pq4 := box_cell (j := 4) (box_keep HO5.out hB (by omega)) rfl
            refine Kept.mk ?_
            simp only [Act.put, List.setIfInBounds_toArray, List.set_cons_zero, List.set_cons_succ]
            go_simp
            refine hK.out _ _ ?_
            exact ⟨sl19, sl20, sl21, (.agg #[.int .i64 xp, .int .i64 xc, .slice E2 k2 e2, .int .i64 xs, .slice E4 k4 e4]), sl23, by simp only [Act.put, List.setIfInBounds_toArray, List.set_cons_zero, List.set_cons_succ], .inl ⟨fun j hj h => h.elim (hn j hj) (by omega), hB, fun h => f0 (h.resolve_right (by decide)), fun h => f1 (h.resolve_right (by decide)), fun h => f2 (h.resolve_right (by decide)), fun _ => rfl, fun h => .inl (g2_0 (h.resolve_right (by decide))), fun h => .inl (g2_1 (h.resolve_right (by decide)))⟩⟩
          refine InvFrom.cons (fun L a W hI hN hD K hK => ?_) ?_
          · obtain ⟨sl19, sl20, sl21, sl22, sl23, ha, hI⟩ := hI
            subst ha
            rcases hI with hI | h9 | h9
            rotate_left
            · exact absurd (h9.1 4 (by decide)) hN
            · exact absurd (h9.1 4 (by decide)) hN
            obtain ⟨hn, hB, f0, f1, f2, f3, g2_0, g2_1⟩ := hI
            have hz := hB.size
            have d2 := f2 (hD 2 (by kernel_rfl))
            subst d2
            have d3 := f3 (hD 3 (by kernel_rfl))
            subst d3
            refine kept_c2 rfl 97 _ _ _ rfl (fenters_of' Tryz.func97 (by kernel_rfl) (by kernel_rfl)) (.agg #[.int .i64 io, .int .i64 ia, .int .i64 ib, .int .i64 ic]) (.agg #[.int .i64 xp, .int .i64 xc, .slice E2 k2 e2, .int .i64 xs, .slice E4 k4 e4]) (by kernel_rfl) (by kernel_rfl) (HDo.out W hB) ?_
            rintro e W1 ⟨yp, yc, yr, ys, yt, D2, s2, t2, D4, s4, t4, hy9, rfl, H7, hb7, hk7⟩
            refine ⟨_, rfl, hK.out _ _ ?_⟩
            have hall : ∀ j, j < 5 → (L j ∨ j = 4) := by
              intro j hj
              have hj2 : j = 0 ∨ j = 1 ∨ j = 2 ∨ j = 3 ∨ j = 4 := by omega
              rcases hj2 with rfl | rfl | rfl | rfl | rfl
              · exact .inl (g2_0 (hD 2 (by kernel_rfl)))
              · exact .inl (g2_1 (hD 2 (by kernel_rfl)))
              · exact .inl (hD 2 (by kernel_rfl))
              · exact .inl (hD 3 (by kernel_rfl))
              · exact .inr rfl
            exact ⟨sl19, sl20, (.agg #[.int .i64 io, .int .i64 ia, .int .i64 ib, .int .i64 ic]), (.agg #[.int .i64 xp, .int .i64 xc, .slice E2 k2 e2, .int .i64 xs, .slice E4 k4 e4]), (.agg #[.int .i64 yp, .int .i64 yc, .slice D2 s2 t2, .int .i64 ys, .slice D4 s4 t4]), by simp only [Act.put, List.setIfInBounds_toArray, List.set_cons_zero, List.set_cons_succ], .inr (.inl ⟨hall, fun j hj h => h.elim (hn j (by omega)) (by omega), ⟨yp, yc, yr, ys, yt, D2, s2, t2, D4, s4, t4, rfl, hy9, H7, (hB.mono hlw5).trans hb7, hk7.trans (box_keep HO5.out hB hbw5)⟩⟩)⟩
          refine InvFrom.cons (fun L a W hI hN hD K hK => ?_) ?_
          · obtain ⟨sl19, sl20, sl21, sl22, sl23, ha, hI⟩ := hI
            subst ha
            rcases hI with h9 | hI | h9
            · exact absurd (hD 4 (by kernel_rfl)) (h9.1 4 (by decide))
            rotate_left
            · exact absurd (h9.1 5 (by decide)) hN
            obtain ⟨hu, hn, hI⟩ := hI
            obtain ⟨yp, yc, yr, ys, yt, D2, s2, t2, D4, s4, t4, rfl, hy9, H7, hb7, hk7⟩ := hI
            have q0 := box_cell (j := 0) hk7 rfl
            have q1 := box_cell (j := 1) hk7 rfl
            have q2 := box_cell (j := 2) hk7 rfl
            have q3 := box_cell (j := 3) hk7 rfl
            have q4 := box_cell (j := 4) hk7 rfl
            have qf0 := box_free hk7 0
            have qf1 := box_free hk7 1
            have qf2 := box_free hk7 2
            have qf3 := box_free hk7 3
            have qf4 := box_free hk7 4
            refine Kept.mk ?_
            simp only [Act.put, List.setIfInBounds_toArray, List.set_cons_zero, List.set_cons_succ]
            go_simp
            refine hK.out _ _ ?_
            have hall : ∀ j, j < 6 → (L j ∨ j = 5) := by
              intro j hj
              have hj2 : j = 0 ∨ j = 1 ∨ j = 2 ∨ j = 3 ∨ j = 4 ∨ j = 5 := by omega
              rcases hj2 with rfl | rfl | rfl | rfl | rfl | rfl
              · exact .inl (hD 0 (by kernel_rfl))
              · exact .inl (hD 1 (by kernel_rfl))
              · exact .inl (hD 2 (by kernel_rfl))
              · exact .inl (hD 3 (by kernel_rfl))
              · exact .inl (hD 4 (by kernel_rfl))
              · exact .inr rfl
            exact ⟨sl19, sl20, sl21, sl22, (.agg #[.int .i64 yp, .int .i64 yc, .slice D2 s2 t2, .int .i64 ys, .slice D4 s4 t4]), by simp only [Act.put, List.setIfInBounds_toArray, List.set_cons_zero, List.set_cons_succ], .inr (.inr (⟨hall, fun j hj h => h.elim (hn j (by omega)) (by omega), ⟨W, yp, yc, yr, ys, yt, D2, s2, t2, D4, s4, t4, rfl, hy9, H7, hb7, hk7⟩⟩))⟩
          exact InvFrom.nil
        intro L a w8 hL hI
        obtain ⟨sl19, sl20, sl21, sl22, sl23, ha, hI⟩ := hI
        subst ha
        rcases hI with h9 | h9 | hI
        · exact absurd (hL 4 (by decide)) (h9.1 4 (by decide))
        · exact absurd (hL 5 (by decide)) (h9.2.1 5 (by decide))
        have hfin := hI.2.2
        obtain ⟨w7, yp, yc, yr, ys, yt, D2, s2, t2, D4, s4, t4, rfl, hy9, H7, hb7, hk7⟩ := hfin
        clear hL hI
        refine Kept.mk ?_
        simp only [Act.put, List.setIfInBounds_toArray, List.set_cons_zero, List.set_cons_succ]
        have hput := put5 (u0 := .int .i64 yp) (u1 := .int .i64 yc) (u2 := .slice D2 s2 t2) (u3 := .int .i64 ys) (u4 := .slice D4 s4 t4) hk7
        have HB8 := Lib.hid (below_put5 (b := bo) (u0 := .int .i64 yp) (u1 := .int .i64 yc) (u2 := .slice D2 s2 t2) (u3 := .int .i64 ys) (u4 := .slice D4 s4 t4) hb7 hi1)
        have hbw7 := lt_of_block hk7
        have HH7 := Lib.hid H7
        have HY9 := Lib.hid hy9
        have HPUT := Lib.hid hput
        clear H7 hy9 hput hk7 hb7 HAt HDo
        generalize hW8 : (((((w7.setCell ⟨bo, 0, none⟩ (.int .i64 yp)).setCell ⟨bo, 1, none⟩ (.int .i64 yc)).setCell ⟨bo, 2, none⟩ (.slice D2 s2 t2)).setCell ⟨bo, 3, none⟩ (.int .i64 ys)).setCell ⟨bo, 4, none⟩ (.slice D4 s4 t4)) = W8 at *
        clear hW8
        gi_wp2_with fail
        go_roundw
        case rel =>
          refine ⟨k + 1, yp, yc, yr, ys, yt, D2, s2, t2, D4, s4, t4, by go_num, Lib.hid (HS9.out.trans HY9.out), by omega, ?_, HPUT.out.1, ?_, HJ.out _ _ HJ5.out HB8.out, turned_trans_below HT5.out HB8.out, by rw [HPUT.out.2.2]; exact hbw7⟩
          · exact Lib.hid (fun j hj => by
              by_cases hj2 : j = k
              · rw [hj2, hx.out]; exact HBB.out
              · exact hloc.out j (by omega))
          · exact HH7.out.stay (fun b hb _ => HPUT.out.2.1 b hb.2) (Nat.le_of_eq HPUT.out.2.2.symm)
        case measure =>
          simp [intOf]
          omega
    · skip
      have HT3 := Lib.hid (HT0.out.trans ht3)
      have HO3 := Lib.hid ((ht3.block bo hbw (fun ht => by have := HT.out bo ht; omega)).trans HO.out)
      have HH3 := Lib.hid (HH.out.stay (fun b hb hlt => ht3.block b hlt (fun ht => by have := HT.out b ht; have := hb.1; omega)) ht3.size)
      have hz3 := ht3.size
      have HJ3 := Lib.hid hj3
      have HL3 := Lib.hid hl3
      have hbw3 : bo < W3.heap.size := by omega
      clear ht3 hj3 hl3
      clear o0 o1 o2 o3 o4
      clear hy
      gi_wp2_with fail
      refine ⟨trivial, ?_⟩
      gi_wp2_with fail
      go_end0
      exact ⟨⟨_, rfl⟩, k, xp, xc, xr, xs, xt, E2, k2, e2, E4, k4, e4, ⟨hk, hloc.out, fun hh => absurd hh hk3⟩, hx.out, HH3.out.wide (fun b hb _ => hb.1), HL3.out, .inr HJ3.out, HT3.out⟩
end Go.Proofs.YtapbjnfopniicaaGreatDoor

namespace Go.Proofs.YtapbjnfopniicaaGreatDoor
set_option linter.unusedSimpArgs false
set_option linter.unusedVariables false
open Go.RowKit

section

variable {P : Program}

/-- A range over a function at the wide fence: its one call, told of the loop's record. -/
theorem range_calls {n : Nat} {g : Operand} {ps : Array Tmp} {assign body : Code} {Q : Exit → Act → World → Prop} {a : Act} {w : World} {gf : Nat} {lb : Array Value}
    (hg : a.eval g = .func (.func gf) #[] lb) (eg : ∀ args w, (callFunc gf args).run P w = .ok (.enter gf args) w)
    (h : ∀ (fn : FuncId) (rec : LoopState → Option Code → Loop), (rec = fun st pe => { state := st, pending := pe, fn, tmps := a.tmps, params := ps, assign, body, defers := w.heap.size }) →
      ∀ W1, W1 = (w.alloc (.deferred (some []))).alloc (.loop (rec .ready none)) →
      Calls P gf (#[.func (.yield (w.heap.size + 1)) #[] #[]] ++ lb) W1 fun e W2 => (∃ v, e = .returned v) ∧ ∃ jump W4, (Instr.endLoop (w.heap.size + 1)).run P W2 = .ok jump W4 ∧
        (match jump with
         | none => Q .normal { a with defers := { target := .collected w.heap.size, args := #[] } :: a.defers } W4
         | some c => c.wpIn Fence.wide n P Q { a with defers := { target := .collected w.heap.size, args := #[] } :: a.defers } W4)) :
    (Code.rangeFunc g ps assign body).wpIn Fence.wide n P Q a w := by
  refine wpIn_rangeFunc ?_
  intro fn hfn
  obtain ⟨rec, hrec⟩ : ∃ rec : LoopState → Option Code → Loop, rec = fun st pe => { state := st, pending := pe, fn, tmps := a.tmps, params := ps, assign, body, defers := w.heap.size } := ⟨_, rfl⟩
  obtain ⟨W1, hW1⟩ : ∃ W1, W1 = (w.alloc (.deferred (some []))).alloc (.loop (rec .ready none)) := ⟨_, rfl⟩
  refine ⟨w.heap.size + 1, [{ target := .collected w.heap.size, args := #[] }], W1, { target := .fn (.func gf) lb, args := #[.func (.yield (w.heap.size + 1)) #[] #[]] }, W1, gf,
    #[.func (.yield (w.heap.size + 1)) #[] #[]] ++ lb, W1, ?_, ?_, ?_, ?_, fun h => absurd h (by decide), ?_⟩
  · rw [hW1, hrec]; exact run_enterLoop_outer _ _ _ _ _
  · simp only [resolve, hg]
    simp [go_sem]
  · intro f' hf'; trivial
  · simp [invoke, go_sem, eg]
  · refine (callsIn_wide.2 (h fn rec hrec W1 hW1)).mono ?_
    rintro e W2 ⟨⟨v, rfl⟩, jump, W4, h1, h2⟩
    exact ⟨jump, W4, h1, h2⟩
/-- One round, out of its walk. -/
theorem round_at {rec : LoopState → Option Code → Loop} {fn : FuncId} {tmps : Array Value} {ps : Array Tmp} {assign body : Code} {D : Nat}
    (hrec : rec = fun st pe => { state := st, pending := pe, fn, tmps, params := ps, assign, body, defers := D }) {l : Nat} {W : World} (hl : W.heap[l]? = some (.loop (rec .ready none))) {args : Array Value} (hs : args.size = ps.size) {R : Ending → World → Prop}
    (h : assign.wpIn (Fence.wide.inRound l) 8 P (Exit.then (fun a₁ w₁ => ∃ w₂, (Instr.beginRound l).run P w₁ = .ok () w₂ ∧ body.wpIn (Fence.wide.inRound l) 8 P (roundPost P l R) a₁ w₂) (fun _ _ _ => False))
      { tmps := (ps.zip args).foldl (fun t (p, v) => t.setIfInBounds p v) tmps, defers := [] } W) : YieldAt Fence.wide 8 P l args W R := by
  have hy := run_yield (P := P) (args := args) hl (by rw [hrec]; exact hs)
  rw [hrec] at hy
  exact ⟨fn, _, assign, body, hy, roundIn_of_wpIn trivial h⟩
/-- What a record becomes. -/
theorem putObj_facts {W : World} {l : Nat} {o o' : Obj} (h : W.heap[l]? = some o) : (W.putObj l o').heap[l]? = some o' ∧ (∀ k, k ≠ l → (W.putObj l o').heap[k]? = W.heap[k]?) ∧ (W.putObj l o').heap.size = W.heap.size ∧ TurnedF (fun b => b = l) W (W.putObj l o') := by
  have hlt := (Array.getElem?_eq_some_iff.1 h).1
  refine ⟨World.putObj_heap_same hlt, fun k hk => World.putObj_heap_other (by omega), by simp, ?_⟩
  exact ⟨rfl, rfl, rfl, by simp, fun k _ hk => World.putObj_heap_other (fun he => hk he)⟩
theorem round_end {rec : LoopState → Option Code → Loop} {fn : FuncId} {tmps : Array Value} {ps : Array Tmp} {assign body : Code} {D : Nat}
    (hrec : rec = fun st pe => { state := st, pending := pe, fn, tmps, params := ps, assign, body, defers := D }) {l : Nat} {W : World} (jump : Option Code) (hl : W.heap[l]? = some (.loop { rec .ready none with state := .busy })) :
    (Instr.endRound l jump).run P W = .ok (.bool jump.isNone) (W.putObj l (.loop (rec (if jump.isNone then .ready else .done) jump))) := by
  have := run_endRound (P := P) jump hl
  rw [hrec] at this ⊢
  exact this
theorem loop_end {rec : LoopState → Option Code → Loop} {fn : FuncId} {tmps : Array Value} {ps : Array Tmp} {assign body : Code} {D : Nat}
    (hrec : rec = fun st pe => { state := st, pending := pe, fn, tmps, params := ps, assign, body, defers := D }) {l : Nat} {W : World} {st : LoopState} {pe : Option Code} (hl : W.heap[l]? = some (.loop (rec st pe))) (hb : st ≠ .busy) :
    (Instr.endLoop l).run P W = .ok pe (W.putObj l (.loop (rec .exhausted pe))) := by
  have := run_endLoop (P := P) hl (by rw [hrec]; exact hb)
  rw [hrec] at this ⊢
  exact this
end

def RoundE (lim k : Nat) (vs : List Value) (T : Nat → Prop) (J Jx : World → Prop) (La : Nat → List Value → World → Prop) (W : World) (e : Ending) (W' : World) : Prop :=
  TurnedF T W W' ∧ La k vs W' ∧ ((e = .returned (.bool true) ∧ k < lim ∧ J W') ∨ (e = .returned (.bool false) ∧ ¬ k < lim ∧ Jx W'))

set_option maxRecDepth 100000 in
set_option maxHeartbeats 4000000 in
theorem localSteps_any (u0 u2 u3 v2 v4 : Value) (m x0 x1 x3 : Int) (w : World) {A0 B2 A3 A2 A4 : Option Addr} {n0 c0 m2 d2 n3 c3 n2 c2 n4 c4 : Nat} :
    Calls Tryz.prog 70 #[.agg #[.slice A0 n0 c0, .int .i64 m, .slice B2 m2 d2, .slice A3 n3 c3], .agg #[.int .i64 x0, .int .i64 x1, .slice A2 n2 c2, .int .i64 x3, .slice A4 n4 c4]] w fun e w' => e = .returned (.func (.func 95) #[] #[.pointer (some ⟨w.heap.size + 1, 0, none⟩), .pointer (some ⟨w.heap.size, 0, none⟩)]) ∧ w' = (w.alloc (.cells #[.slice A0 n0 c0, .int .i64 m, .slice B2 m2 d2, .slice A3 n3 c3] 40)).alloc (.cells #[.int .i64 x0, .int .i64 x1, .slice A2 n2 c2, .int .i64 x3, .slice A4 n4 c4] 34) := by
  go_enter Tryz.func70, Tryz.ntmps70
  go_wp2_with fail
  go_ret
  exact ⟨rfl, rfl⟩
attribute [local go_sem] Oper.semAt_some

set_option maxRecDepth 100000 in
set_option maxHeartbeats 4000000 in
theorem implBurnt_any {w : World} {hi : Nat} {p : DProg} {g : DGor} {vs us : List Value} (hp : layProg.see w hi p vs) (hg : layGor.see w hi g us) (hhi : hi ≤ w.heap.size) (hnp : szProg p ≤ 1048576) (hng : szGor g ≤ 1048576) (hok : progOkB p = true) (hgd : GoodG p g) {most : Int} (hm : (Lit.int .i64 most).wf = true) :
    Calls Tryz.prog 45 #[.agg vs.toArray, .agg us.toArray, .int .i64 most] w (BurntE p g (limN most) w) := by
  have HP := Lib.hid (fun (W : World) (hW : Below w.heap.size w W) => layProg.keep hp (w' := W) fun k hk => hW.block k (by omega))
  have HG := Lib.hid (fun (W : World) (hW : Below w.heap.size w W) => layGor.more (layGor.keep hg (w' := W) fun k hk => hW.block k (by omega)) (Nat.le_trans hhi hW.size))
  obtain ⟨A0, n0, c0, B2, m2, d2, A3, n3, c3, rfl, -⟩ := seeProg hp
  obtain ⟨A2, n2, c2, A4, n4, c4, rfl, -⟩ := seeGor hg
  obtain ⟨pr, pc, regs, st, tr⟩ := g
  simp only at HG
  have HNP := Lib.hid hnp
  have HNG := Lib.hid hng
  have HOK := Lib.hid hok
  have HGD := Lib.hid hgd
  have HHI := Lib.hid hhi
  clear hp hg hnp hng hok hgd hm
  have hP0 := box_new w #[.slice A0 n0 c0, .int .i64 p.fMus, .slice B2 m2 d2, .slice A3 n3 c3] 40
  have hP0 := box_keep hP0 ((Below.refl _ _).alloc (Nat.le_refl _) (.cells #[.int .i64 pr, .int .i64 pc, .slice A2 n2 c2, .int .i64 st, .slice A4 n4 c4] 34)) (by simp only [World.size_alloc]; omega)
  have hP0 := box_keep hP0 ((Below.refl _ _).alloc (Nat.le_refl _) (.cells #[.int .i64 most] 3)) (by simp only [World.size_alloc]; omega)
  have hP0 := box_keep hP0 ((Below.refl _ _).alloc (Nat.le_refl _) (.cells #[.int .i64 0, .int .i64 0, .slice none 0 0, .int .i64 0, .slice none 0 0] 34)) (by simp only [World.size_alloc]; omega)
  have hP0 := box_keep hP0 ((Below.refl _ _).alloc (Nat.le_refl _) (.cells #[.int .i64 0] 3)) (by simp only [World.size_alloc]; omega)
  have hP0 := box_keep hP0 ((Below.refl _ _).alloc (Nat.le_refl _) (.cells #[.slice A0 n0 c0, .int .i64 p.fMus, .slice B2 m2 d2, .slice A3 n3 c3] 40)) (by simp only [World.size_alloc]; omega)
  have hP0 := box_keep hP0 ((Below.refl _ _).alloc (Nat.le_refl _) (.cells #[.int .i64 pr, .int .i64 pc, .slice A2 n2 c2, .int .i64 st, .slice A4 n4 c4] 34)) (by simp only [World.size_alloc]; omega)
  have hG0 := box_new (w.alloc (.cells #[.slice A0 n0 c0, .int .i64 p.fMus, .slice B2 m2 d2, .slice A3 n3 c3] 40)) #[.int .i64 pr, .int .i64 pc, .slice A2 n2 c2, .int .i64 st, .slice A4 n4 c4] 34
  have hG0 := box_keep hG0 ((Below.refl _ _).alloc (Nat.le_refl _) (.cells #[.int .i64 most] 3)) (by simp only [World.size_alloc]; omega)
  have hG0 := box_keep hG0 ((Below.refl _ _).alloc (Nat.le_refl _) (.cells #[.int .i64 0, .int .i64 0, .slice none 0 0, .int .i64 0, .slice none 0 0] 34)) (by simp only [World.size_alloc]; omega)
  have hG0 := box_keep hG0 ((Below.refl _ _).alloc (Nat.le_refl _) (.cells #[.int .i64 0] 3)) (by simp only [World.size_alloc]; omega)
  have hG0 := box_keep hG0 ((Below.refl _ _).alloc (Nat.le_refl _) (.cells #[.slice A0 n0 c0, .int .i64 p.fMus, .slice B2 m2 d2, .slice A3 n3 c3] 40)) (by simp only [World.size_alloc]; omega)
  have hG0 := box_keep hG0 ((Below.refl _ _).alloc (Nat.le_refl _) (.cells #[.int .i64 pr, .int .i64 pc, .slice A2 n2 c2, .int .i64 st, .slice A4 n4 c4] 34)) (by simp only [World.size_alloc]; omega)
  simp only [World.size_alloc, Nat.add_assoc, Nat.reduceAdd] at hG0
  have hM0 := box_new ((w.alloc (.cells #[.slice A0 n0 c0, .int .i64 p.fMus, .slice B2 m2 d2, .slice A3 n3 c3] 40)).alloc (.cells #[.int .i64 pr, .int .i64 pc, .slice A2 n2 c2, .int .i64 st, .slice A4 n4 c4] 34)) #[.int .i64 most] 3
  have hM0 := box_keep hM0 ((Below.refl _ _).alloc (Nat.le_refl _) (.cells #[.int .i64 0, .int .i64 0, .slice none 0 0, .int .i64 0, .slice none 0 0] 34)) (by simp only [World.size_alloc]; omega)
  have hM0 := box_keep hM0 ((Below.refl _ _).alloc (Nat.le_refl _) (.cells #[.int .i64 0] 3)) (by simp only [World.size_alloc]; omega)
  have hM0 := box_keep hM0 ((Below.refl _ _).alloc (Nat.le_refl _) (.cells #[.slice A0 n0 c0, .int .i64 p.fMus, .slice B2 m2 d2, .slice A3 n3 c3] 40)) (by simp only [World.size_alloc]; omega)
  have hM0 := box_keep hM0 ((Below.refl _ _).alloc (Nat.le_refl _) (.cells #[.int .i64 pr, .int .i64 pc, .slice A2 n2 c2, .int .i64 st, .slice A4 n4 c4] 34)) (by simp only [World.size_alloc]; omega)
  simp only [World.size_alloc, Nat.add_assoc, Nat.reduceAdd] at hM0
  have hR0 := box_new (((w.alloc (.cells #[.slice A0 n0 c0, .int .i64 p.fMus, .slice B2 m2 d2, .slice A3 n3 c3] 40)).alloc (.cells #[.int .i64 pr, .int .i64 pc, .slice A2 n2 c2, .int .i64 st, .slice A4 n4 c4] 34)).alloc (.cells #[.int .i64 most] 3)) #[.int .i64 0, .int .i64 0, .slice none 0 0, .int .i64 0, .slice none 0 0] 34
  have hR0 := box_keep hR0 ((Below.refl _ _).alloc (Nat.le_refl _) (.cells #[.int .i64 0] 3)) (by simp only [World.size_alloc]; omega)
  have hR0 := box_keep hR0 ((Below.refl _ _).alloc (Nat.le_refl _) (.cells #[.slice A0 n0 c0, .int .i64 p.fMus, .slice B2 m2 d2, .slice A3 n3 c3] 40)) (by simp only [World.size_alloc]; omega)
  have hR0 := box_keep hR0 ((Below.refl _ _).alloc (Nat.le_refl _) (.cells #[.int .i64 pr, .int .i64 pc, .slice A2 n2 c2, .int .i64 st, .slice A4 n4 c4] 34)) (by simp only [World.size_alloc]; omega)
  simp only [World.size_alloc, Nat.add_assoc, Nat.reduceAdd] at hR0
  have hS0 := box_new ((((w.alloc (.cells #[.slice A0 n0 c0, .int .i64 p.fMus, .slice B2 m2 d2, .slice A3 n3 c3] 40)).alloc (.cells #[.int .i64 pr, .int .i64 pc, .slice A2 n2 c2, .int .i64 st, .slice A4 n4 c4] 34)).alloc (.cells #[.int .i64 most] 3)).alloc (.cells #[.int .i64 0, .int .i64 0, .slice none 0 0, .int .i64 0, .slice none 0 0] 34)) #[.int .i64 0] 3
  have hS0 := box_keep hS0 ((Below.refl _ _).alloc (Nat.le_refl _) (.cells #[.slice A0 n0 c0, .int .i64 p.fMus, .slice B2 m2 d2, .slice A3 n3 c3] 40)) (by simp only [World.size_alloc]; omega)
  have hS0 := box_keep hS0 ((Below.refl _ _).alloc (Nat.le_refl _) (.cells #[.int .i64 pr, .int .i64 pc, .slice A2 n2 c2, .int .i64 st, .slice A4 n4 c4] 34)) (by simp only [World.size_alloc]; omega)
  simp only [World.size_alloc, Nat.add_assoc, Nat.reduceAdd] at hS0
  have hP9 := box_new (((((w.alloc (.cells #[.slice A0 n0 c0, .int .i64 p.fMus, .slice B2 m2 d2, .slice A3 n3 c3] 40)).alloc (.cells #[.int .i64 pr, .int .i64 pc, .slice A2 n2 c2, .int .i64 st, .slice A4 n4 c4] 34)).alloc (.cells #[.int .i64 most] 3)).alloc (.cells #[.int .i64 0, .int .i64 0, .slice none 0 0, .int .i64 0, .slice none 0 0] 34)).alloc (.cells #[.int .i64 0] 3)) #[.slice A0 n0 c0, .int .i64 p.fMus, .slice B2 m2 d2, .slice A3 n3 c3] 40
  have hP9 := box_keep hP9 ((Below.refl _ _).alloc (Nat.le_refl _) (.cells #[.int .i64 pr, .int .i64 pc, .slice A2 n2 c2, .int .i64 st, .slice A4 n4 c4] 34)) (by simp only [World.size_alloc]; omega)
  simp only [World.size_alloc, Nat.add_assoc, Nat.reduceAdd] at hP9
  have hG9 := box_new ((((((w.alloc (.cells #[.slice A0 n0 c0, .int .i64 p.fMus, .slice B2 m2 d2, .slice A3 n3 c3] 40)).alloc (.cells #[.int .i64 pr, .int .i64 pc, .slice A2 n2 c2, .int .i64 st, .slice A4 n4 c4] 34)).alloc (.cells #[.int .i64 most] 3)).alloc (.cells #[.int .i64 0, .int .i64 0, .slice none 0 0, .int .i64 0, .slice none 0 0] 34)).alloc (.cells #[.int .i64 0] 3)).alloc (.cells #[.slice A0 n0 c0, .int .i64 p.fMus, .slice B2 m2 d2, .slice A3 n3 c3] 40)) #[.int .i64 pr, .int .i64 pc, .slice A2 n2 c2, .int .i64 st, .slice A4 n4 c4] 34
  simp only [World.size_alloc, Nat.add_assoc, Nat.reduceAdd] at hG9
  have hB0 : Below w.heap.size w (((((((w.alloc (.cells #[.slice A0 n0 c0, .int .i64 p.fMus, .slice B2 m2 d2, .slice A3 n3 c3] 40)).alloc (.cells #[.int .i64 pr, .int .i64 pc, .slice A2 n2 c2, .int .i64 st, .slice A4 n4 c4] 34)).alloc (.cells #[.int .i64 most] 3)).alloc (.cells #[.int .i64 0, .int .i64 0, .slice none 0 0, .int .i64 0, .slice none 0 0] 34)).alloc (.cells #[.int .i64 0] 3)).alloc (.cells #[.slice A0 n0 c0, .int .i64 p.fMus, .slice B2 m2 d2, .slice A3 n3 c3] 40)).alloc (.cells #[.int .i64 pr, .int .i64 pc, .slice A2 n2 c2, .int .i64 st, .slice A4 n4 c4] 34)) := (((((((Below.refl _ _).alloc (Nat.le_refl _) _).alloc (by simp only [World.size_alloc]; omega) _).alloc (by simp only [World.size_alloc]; omega) _).alloc (by simp only [World.size_alloc]; omega) _).alloc (by simp only [World.size_alloc]; omega) _).alloc (by simp only [World.size_alloc]; omega) _).alloc (by simp only [World.size_alloc]; omega) _
  have hz0 : w.heap.size + 7 ≤ (((((((w.alloc (.cells #[.slice A0 n0 c0, .int .i64 p.fMus, .slice B2 m2 d2, .slice A3 n3 c3] 40)).alloc (.cells #[.int .i64 pr, .int .i64 pc, .slice A2 n2 c2, .int .i64 st, .slice A4 n4 c4] 34)).alloc (.cells #[.int .i64 most] 3)).alloc (.cells #[.int .i64 0, .int .i64 0, .slice none 0 0, .int .i64 0, .slice none 0 0] 34)).alloc (.cells #[.int .i64 0] 3)).alloc (.cells #[.slice A0 n0 c0, .int .i64 p.fMus, .slice B2 m2 d2, .slice A3 n3 c3] 40)).alloc (.cells #[.int .i64 pr, .int .i64 pc, .slice A2 n2 c2, .int .i64 st, .slice A4 n4 c4] 34)).heap.size := by simp only [World.size_alloc]; omega
  refine (callsIn_wide (n := 9)).1 ?_
  refine callsIn_of_wp_marks Tryz.func45 rfl trivial ?_ rfl
  simp only [Tryz.ntmps45, List.size_toArray, List.length_cons, List.length_nil, Nat.reduceAdd, Nat.reduceSub, Array.replicate_succ, Array.replicate_zero, List.push_toArray, List.append_toArray, List.nil_append, List.cons_append]
  gi_wp2_with fail
--@A
  refine ⟨trivial, ?_⟩
  refine (callsIn_wide.2 (localSteps_any undef undef undef undef undef p.fMus pr pc st _)).mono ?_
  rintro e w1 ⟨rfl, rfl⟩
  gi_wp2_with fail
  generalize (((((((w.alloc (.cells #[.slice A0 n0 c0, .int .i64 p.fMus, .slice B2 m2 d2, .slice A3 n3 c3] 40)).alloc (.cells #[.int .i64 pr, .int .i64 pc, .slice A2 n2 c2, .int .i64 st, .slice A4 n4 c4] 34)).alloc (.cells #[.int .i64 most] 3)).alloc (.cells #[.int .i64 0, .int .i64 0, .slice none 0 0, .int .i64 0, .slice none 0 0] 34)).alloc (.cells #[.int .i64 0] 3)).alloc (.cells #[.slice A0 n0 c0, .int .i64 p.fMus, .slice B2 m2 d2, .slice A3 n3 c3] 40)).alloc (.cells #[.int .i64 pr, .int .i64 pc, .slice A2 n2 c2, .int .i64 st, .slice A4 n4 c4] 34)) = W7 at *
  have HP0 := Lib.hid hP0
  have HG0 := Lib.hid hG0
  have HM0 := Lib.hid hM0
  have HR0 := Lib.hid hR0
  have HS0 := Lib.hid hS0
  have HP9 := Lib.hid hP9
  have HG9 := Lib.hid hG9
  have HB0 := Lib.hid hB0
  clear hP0 hG0 hM0 hR0 hS0 hP9 hG9 hB0
  refine range_calls rfl (fenters_of Tryz.func95 (by kernel_rfl) (by kernel_rfl)) ?_
  intro fn rec hrec W1 hW1
  have HREC := Lib.hid hrec
  clear hrec
  have hb1 : Below W7.heap.size W7 W1 := by rw [hW1]; exact ((Below.refl _ _).alloc (Nat.le_refl _) _).alloc (by simp) _
  have hs1 : W1.heap.size = W7.heap.size + 2 := by rw [hW1]; simp
  have hl1 : W1.heap[W7.heap.size + 1]? = some (.loop (rec .ready none)) := by rw [hW1]; have := World.alloc_heap_new (W7.alloc (.deferred (some []))) (.loop (rec .ready none)); rwa [World.size_alloc] at this
  have hD1 : W1.heap[W7.heap.size]? = some (.deferred (some [])) := by rw [hW1]; exact (Below.heap_alloc _ _ _ (by simp)).trans (World.alloc_heap_new W7 _)
  clear hW1
  have HP0x := Lib.hid (box_keep HP0.out hb1 (by omega))
  have HG0x := Lib.hid (box_keep HG0.out hb1 (by omega))
  have HM0x := Lib.hid (box_keep HM0.out hb1 (by omega))
  have HR0x := Lib.hid (box_keep HR0.out hb1 (by omega))
  have HS0x := Lib.hid (box_keep HS0.out hb1 (by omega))
  have HP9x := Lib.hid (box_keep HP9.out hb1 (by omega))
  have HG9x := Lib.hid (box_keep HG9.out hb1 (by omega))
  have HB1 := Lib.hid (HB0.out.trans (hb1.mono (by omega)))
  have HY := (show ∀ (k : Nat) (xp xc xs : Int) (E2 : Option Addr) (k2 e2 : Nat) (E4 : Option Addr) (k4 e4 : Nat) (W : World), k ≤ 2000 → (fun W => W.heap[W7.heap.size + 1]? = some (.loop (rec .ready none)) ∧ (∃ z0 z1 z2 z3 z4, W.heap[w.heap.size + 1]? = some (.cells #[z0, z1, z2, z3, z4] 34 (0, 0))) ∧ (∃ z, W.heap[w.heap.size + 4]? = some (.cells #[z] 3 (0, 0)))) W → TurnedF (fun b => b = w.heap.size + 1 ∨ b = w.heap.size + 4 ∨ b = W7.heap.size + 1) W1 W → YieldAt Fence.wide 8 Tryz.prog (W7.heap.size + 1) #[.int .i64 (k : Int), .agg #[.int .i64 xp, .int .i64 xc, .slice E2 k2 e2, .int .i64 xs, .slice E4 k4 e4]] W fun e W' =>
      RoundE (limN most) k [.int .i64 xp, .int .i64 xc, .slice E2 k2 e2, .int .i64 xs, .slice E4 k4 e4] (fun b => b = w.heap.size + 1 ∨ b = w.heap.size + 4 ∨ b = W7.heap.size + 1) (fun W => W.heap[W7.heap.size + 1]? = some (.loop (rec .ready none)) ∧ (∃ z0 z1 z2 z3 z4, W.heap[w.heap.size + 1]? = some (.cells #[z0, z1, z2, z3, z4] 34 (0, 0))) ∧ (∃ z, W.heap[w.heap.size + 4]? = some (.cells #[z] 3 (0, 0)))) (fun W => W.heap[W7.heap.size + 1]? = some (.loop (rec .done (some (.exit 0))))) (fun (k : Nat) (vs : List Value) (W : World) => W.heap[w.heap.size + 1]? = some (.cells vs.toArray 34 (0, 0)) ∧ W.heap[w.heap.size + 4]? = some (.cells #[.int .i64 (k : Int)] 3 (0, 0))) W e W' from by
    rintro k xp xc xs E2 k2 e2 E4 k4 e4 W hk20 ⟨hl, ⟨z0, z1, z2, z3, z4, hgx⟩, zs, hsx⟩ hT
    have hzW := hT.size
    have hmx := (hT.block (w.heap.size + 2) (by omega) (by omega)).trans HM0x.out
    have hsteps : W1.heap.size ≤ W.heap.size := hT.size
    refine round_at HREC.out hl rfl ?_
    gi_wp2_with fail
    have hal : Below W.heap.size W (W.alloc (.cells #[.int .i64 xp, .int .i64 xc, .slice E2 k2 e2, .int .i64 xs, .slice E4 k4 e4] 34)) := (Below.refl _ _).alloc (Nat.le_refl _) _
    have hxb := box_new W #[.int .i64 xp, .int .i64 xc, .slice E2 k2 e2, .int .i64 xs, .slice E4 k4 e4] 34
    have hal2 : (W.alloc (.cells #[.int .i64 xp, .int .i64 xc, .slice E2 k2 e2, .int .i64 xs, .slice E4 k4 e4] 34)).heap.size = W.heap.size + 1 := by simp
    have HTa := Lib.hid (show TurnedF (fun b => b = w.heap.size + 1 ∨ b = w.heap.size + 4 ∨ b = W7.heap.size + 1) W (W.alloc (.cells #[.int .i64 xp, .int .i64 xc, .slice E2 k2 e2, .int .i64 xs, .slice E4 k4 e4] 34)) from TurnedF.of_below hal _)
    have hl2 := (hal.block _ (by omega)).trans hl
    have hgx2 := (hal.block _ (by omega)).trans hgx
    have hsx2 := (hal.block _ (by omega)).trans hsx
    have hmx2 := (hal.block _ (by omega)).trans hmx
    clear hal hl hgx hsx hmx hT
    generalize (W.alloc (.cells #[.int .i64 xp, .int .i64 xc, .slice E2 k2 e2, .int .i64 xs, .slice E4 k4 e4] 34)) = Wa at *
    have hrun := run_beginRound (P := Tryz.prog) hl2 (by rw [HREC.out])
    obtain ⟨hp1, hp2, hp3, hp4⟩ := putObj_facts (o' := .loop { rec .ready none with state := .busy }) hl2
    generalize hW2 : (Wa.putObj (W7.heap.size + 1) (.loop { rec .ready none with state := .busy })) = W2 at hrun hp1 hp2 hp3 hp4
    refine ⟨W2, hrun, ?_⟩
    clear hrun hW2
    have HTb := Lib.hid (HTa.out.trans (hp4.wide (fun b hb => .inr (.inr hb))))
    have hx3 := (hp2 (W.heap.size) (by omega)).trans hxb
    have hg3 := (hp2 (w.heap.size + 1) (by omega)).trans hgx2
    have hs3 := (hp2 (w.heap.size + 4) (by omega)).trans hsx2
    have hm3 := (hp2 (w.heap.size + 2) (by omega)).trans hmx2
    have HL3 := Lib.hid hp1
    clear hp1 hp2 hp4 hxb hgx2 hsx2 hmx2 hl2 HTa
    have x0 := box_cell (j := 0) hx3 rfl
    have x1 := box_cell (j := 1) hx3 rfl
    have x2 := box_cell (j := 2) hx3 rfl
    have x3 := box_cell (j := 3) hx3 rfl
    have x4 := box_cell (j := 4) hx3 rfl
    have g0 := box_cell (j := 0) hg3 rfl
    have g1 := box_cell (j := 1) hg3 rfl
    have g2 := box_cell (j := 2) hg3 rfl
    have g3 := box_cell (j := 3) hg3 rfl
    have g4 := box_cell (j := 4) hg3 rfl
    have gf0 := box_free hg3 0
    have gf1 := box_free hg3 1
    have gf2 := box_free hg3 2
    have gf3 := box_free hg3 3
    have gf4 := box_free hg3 4
    have s0 := box_cell (j := 0) hs3 rfl
    have sf0 := box_free hs3 0
    have m0 := box_cell (j := 0) hm3 rfl
    have hltx : W.heap.size < W2.heap.size := by omega
    have HLT := Lib.hid (lt_lim (k := k) (most := most))
    have HS2 := Lib.hid (show W2.heap.size = W.heap.size + 1 by omega)
    by_cases hkk : k < limN most
    · have hk1 := (HLT.out.1 hkk).1
      have hk2 := (HLT.out.1 hkk).2
      by_cases hmo : most ≤ 2000
      · have hge : ¬ most ≤ (k : Int) := by omega
        gi_wp2_with fail
        have hput := put5 (u0 := .int .i64 xp) (u1 := .int .i64 xc) (u2 := .slice E2 k2 e2) (u3 := .int .i64 xs) (u4 := .slice E4 k4 e4) hg3
        have hput2 := put1 (j := 0) (u := .int .i64 (k : Int)) ((hput.2.1 (w.heap.size + 4) (by omega)).trans hs3)
        have HTc := Lib.hid (HTb.out.trans (((((((TurnedF.refl (fun b => b = w.heap.size + 1 ∨ b = w.heap.size + 4 ∨ b = W7.heap.size + 1) W2).setCell (p := ⟨w.heap.size + 1, 0, none⟩) (.inl rfl) (.int .i64 xp)).setCell (p := ⟨w.heap.size + 1, 1, none⟩) (.inl rfl) (.int .i64 xc)).setCell (p := ⟨w.heap.size + 1, 2, none⟩) (.inl rfl) (.slice E2 k2 e2)).setCell (p := ⟨w.heap.size + 1, 3, none⟩) (.inl rfl) (.int .i64 xs)).setCell (p := ⟨w.heap.size + 1, 4, none⟩) (.inl rfl) (.slice E4 k4 e4)).setCell (p := ⟨w.heap.size + 4, 0, none⟩) (.inr (.inl rfl)) (.int .i64 (k : Int))))
        have hl9 := (hput2.2.1 (W7.heap.size + 1) (by omega)).trans ((hput.2.1 (W7.heap.size + 1) (by omega)).trans HL3.out)
        have hg9 := (hput2.2.1 (w.heap.size + 1) (by omega)).trans hput.1
        have hs9 := hput2.1
        have hre := round_end (P := Tryz.prog) HREC.out none hl9
        obtain ⟨q1, q2, q3, q4⟩ := putObj_facts (o' := .loop (rec .ready none)) hl9
        exact ⟨_, _, hre, HTc.out.trans (q4.wide (fun b hb => .inr (.inr hb))), ⟨(q2 _ (by omega)).trans hg9, (q2 _ (by omega)).trans hs9⟩, .inl ⟨rfl, hkk, q1, ⟨_, _, _, _, _, (q2 _ (by omega)).trans hg9⟩, ⟨_, (q2 _ (by omega)).trans hs9⟩⟩⟩
      · have hge : ¬ (2000 : Int) ≤ (k : Int) := by omega
        gi_wp2_with fail
        have hput := put5 (u0 := .int .i64 xp) (u1 := .int .i64 xc) (u2 := .slice E2 k2 e2) (u3 := .int .i64 xs) (u4 := .slice E4 k4 e4) hg3
        have hput2 := put1 (j := 0) (u := .int .i64 (k : Int)) ((hput.2.1 (w.heap.size + 4) (by omega)).trans hs3)
        have HTc := Lib.hid (HTb.out.trans (((((((TurnedF.refl (fun b => b = w.heap.size + 1 ∨ b = w.heap.size + 4 ∨ b = W7.heap.size + 1) W2).setCell (p := ⟨w.heap.size + 1, 0, none⟩) (.inl rfl) (.int .i64 xp)).setCell (p := ⟨w.heap.size + 1, 1, none⟩) (.inl rfl) (.int .i64 xc)).setCell (p := ⟨w.heap.size + 1, 2, none⟩) (.inl rfl) (.slice E2 k2 e2)).setCell (p := ⟨w.heap.size + 1, 3, none⟩) (.inl rfl) (.int .i64 xs)).setCell (p := ⟨w.heap.size + 1, 4, none⟩) (.inl rfl) (.slice E4 k4 e4)).setCell (p := ⟨w.heap.size + 4, 0, none⟩) (.inr (.inl rfl)) (.int .i64 (k : Int))))
        have hl9 := (hput2.2.1 (W7.heap.size + 1) (by omega)).trans ((hput.2.1 (W7.heap.size + 1) (by omega)).trans HL3.out)
        have hg9 := (hput2.2.1 (w.heap.size + 1) (by omega)).trans hput.1
        have hs9 := hput2.1
        have hre := round_end (P := Tryz.prog) HREC.out none hl9
        obtain ⟨q1, q2, q3, q4⟩ := putObj_facts (o' := .loop (rec .ready none)) hl9
        exact ⟨_, _, hre, HTc.out.trans (q4.wide (fun b hb => .inr (.inr hb))), ⟨(q2 _ (by omega)).trans hg9, (q2 _ (by omega)).trans hs9⟩, .inl ⟨rfl, hkk, q1, ⟨_, _, _, _, _, (q2 _ (by omega)).trans hg9⟩, ⟨_, (q2 _ (by omega)).trans hs9⟩⟩⟩
    · skip
      by_cases hmo : most ≤ 2000
      · have hge : most ≤ (k : Int) := (Decidable.em ((k : Int) < most)).elim (fun h1 => absurd (HLT.out.2 ⟨h1, by omega⟩) hkk) (fun h1 => by omega)
        gi_wp2_with fail
        have hput := put5 (u0 := .int .i64 xp) (u1 := .int .i64 xc) (u2 := .slice E2 k2 e2) (u3 := .int .i64 xs) (u4 := .slice E4 k4 e4) hg3
        have hput2 := put1 (j := 0) (u := .int .i64 (k : Int)) ((hput.2.1 (w.heap.size + 4) (by omega)).trans hs3)
        have HTc := Lib.hid (HTb.out.trans (((((((TurnedF.refl (fun b => b = w.heap.size + 1 ∨ b = w.heap.size + 4 ∨ b = W7.heap.size + 1) W2).setCell (p := ⟨w.heap.size + 1, 0, none⟩) (.inl rfl) (.int .i64 xp)).setCell (p := ⟨w.heap.size + 1, 1, none⟩) (.inl rfl) (.int .i64 xc)).setCell (p := ⟨w.heap.size + 1, 2, none⟩) (.inl rfl) (.slice E2 k2 e2)).setCell (p := ⟨w.heap.size + 1, 3, none⟩) (.inl rfl) (.int .i64 xs)).setCell (p := ⟨w.heap.size + 1, 4, none⟩) (.inl rfl) (.slice E4 k4 e4)).setCell (p := ⟨w.heap.size + 4, 0, none⟩) (.inr (.inl rfl)) (.int .i64 (k : Int))))
        have hl9 := (hput2.2.1 (W7.heap.size + 1) (by omega)).trans ((hput.2.1 (W7.heap.size + 1) (by omega)).trans HL3.out)
        have hg9 := (hput2.2.1 (w.heap.size + 1) (by omega)).trans hput.1
        have hs9 := hput2.1
        have hre := round_end (P := Tryz.prog) HREC.out (some (.exit 0)) hl9
        obtain ⟨q1, q2, q3, q4⟩ := putObj_facts (o' := .loop (rec .done (some (.exit 0)))) hl9
        exact ⟨_, _, hre, HTc.out.trans (q4.wide (fun b hb => .inr (.inr hb))), ⟨(q2 _ (by omega)).trans hg9, (q2 _ (by omega)).trans hs9⟩, .inr ⟨rfl, by omega, q1⟩⟩
      · have hge : (2000 : Int) ≤ (k : Int) := (Decidable.em ((k : Int) < 2000)).elim (fun h1 => absurd (HLT.out.2 ⟨by omega, h1⟩) hkk) (fun h1 => by omega)
        gi_wp2_with fail
        have hput := put5 (u0 := .int .i64 xp) (u1 := .int .i64 xc) (u2 := .slice E2 k2 e2) (u3 := .int .i64 xs) (u4 := .slice E4 k4 e4) hg3
        have hput2 := put1 (j := 0) (u := .int .i64 (k : Int)) ((hput.2.1 (w.heap.size + 4) (by omega)).trans hs3)
        have HTc := Lib.hid (HTb.out.trans (((((((TurnedF.refl (fun b => b = w.heap.size + 1 ∨ b = w.heap.size + 4 ∨ b = W7.heap.size + 1) W2).setCell (p := ⟨w.heap.size + 1, 0, none⟩) (.inl rfl) (.int .i64 xp)).setCell (p := ⟨w.heap.size + 1, 1, none⟩) (.inl rfl) (.int .i64 xc)).setCell (p := ⟨w.heap.size + 1, 2, none⟩) (.inl rfl) (.slice E2 k2 e2)).setCell (p := ⟨w.heap.size + 1, 3, none⟩) (.inl rfl) (.int .i64 xs)).setCell (p := ⟨w.heap.size + 1, 4, none⟩) (.inl rfl) (.slice E4 k4 e4)).setCell (p := ⟨w.heap.size + 4, 0, none⟩) (.inr (.inl rfl)) (.int .i64 (k : Int))))
        have hl9 := (hput2.2.1 (W7.heap.size + 1) (by omega)).trans ((hput.2.1 (W7.heap.size + 1) (by omega)).trans HL3.out)
        have hg9 := (hput2.2.1 (w.heap.size + 1) (by omega)).trans hput.1
        have hs9 := hput2.1
        have hre := round_end (P := Tryz.prog) HREC.out (some (.exit 0)) hl9
        obtain ⟨q1, q2, q3, q4⟩ := putObj_facts (o' := .loop (rec .done (some (.exit 0)))) hl9
        exact ⟨_, _, hre, HTc.out.trans (q4.wide (fun b hb => .inr (.inr hb))), ⟨(q2 _ (by omega)).trans hg9, (q2 _ (by omega)).trans hs9⟩, .inr ⟨rfl, by omega, q1⟩⟩
  )
  have HSZ9 := Lib.hid hs1
  have HIT := Lib.hid (iter_any (hiP := hi) (pb := w.heap.size + 5) (gb := w.heap.size + 6) (l := W7.heap.size + 1) (HP.out W1 HB1.out) (by omega) HNP.out (layGor.more (HG.out W1 HB1.out) (Nat.le_refl _)) HNG.out HOK.out HGD.out HP9x.out HG9x.out (fun b => b = w.heap.size + 1 ∨ b = w.heap.size + 4 ∨ b = W7.heap.size + 1) (fun b hb => by rcases hb with rfl | rfl | rfl <;> (refine ⟨?_, ?_, ?_⟩ <;> omega)) (limN most) (lim_le most) (fun W => W.heap[W7.heap.size + 1]? = some (.loop (rec .ready none)) ∧ (∃ z0 z1 z2 z3 z4, W.heap[w.heap.size + 1]? = some (.cells #[z0, z1, z2, z3, z4] 34 (0, 0))) ∧ (∃ z, W.heap[w.heap.size + 4]? = some (.cells #[z] 3 (0, 0)))) (fun W => W.heap[W7.heap.size + 1]? = some (.loop (rec .done (some (.exit 0))))) (fun (k : Nat) (vs : List Value) (W : World) => W.heap[w.heap.size + 1]? = some (.cells vs.toArray 34 (0, 0)) ∧ W.heap[w.heap.size + 4]? = some (.cells #[.int .i64 (k : Int)] 3 (0, 0)))
    (fun W W' hj hb => ⟨(hb.block _ (by omega)).trans hj.1, (hj.2.1.imp fun z0 h => h.imp fun z1 h => h.imp fun z2 h => h.imp fun z3 h => h.imp fun z4 h => (hb.block _ (by omega)).trans h), (hj.2.2.imp fun z h => (hb.block _ (by omega)).trans h)⟩)
    (fun k vs W W' hl hb => ⟨(hb.block _ (by omega)).trans hl.1, (hb.block _ (by omega)).trans hl.2⟩) (fun k xp xc xs E2 k2 e2 E4 k4 e4 W h1 h2 h3 => HY k xp xc xs E2 k2 e2 E4 k4 e4 W h1 h2 h3) ⟨hl1, ⟨_, _, _, _, _, HG0x.out⟩, ⟨_, HS0x.out⟩⟩)
  clear HY
  refine HIT.out.mono ?_
  rintro e W2 ⟨hv, n, xp, xc, xr, xs, xt, E2, k2, e2, E4, k4, e4, hst, hx, hH, ⟨hLg, hLs⟩, hj, hT⟩
  refine ⟨hv, ?_⟩
  have hzT := hT.size
  have hD2 := (hT.block W7.heap.size (by omega) (by omega)).trans hD1
  have hR2 := (hT.block (w.heap.size + 3) (by omega) (by omega)).trans HR0x.out
  have hB2 : Below w.heap.size w W2 := HB1.out.trans (hT.below (fun b hb => by rcases hb with rfl | rfl | rfl <;> omega) (by omega))
  have hj9 : ∃ st pe, W2.heap[W7.heap.size + 1]? = some (.loop (rec st pe)) ∧ st ≠ .busy ∧ (pe = none ∨ pe = some (.exit 0)) := by
    rcases hj with ⟨hjl, -⟩ | hjl
    · exact ⟨_, _, hjl, by decide, .inl rfl⟩
    · exact ⟨_, _, hjl, by decide, .inr rfl⟩
  obtain ⟨sx, pe, hjl, hsb, hpe⟩ := hj9
  have hle := loop_end (P := Tryz.prog) HREC.out hjl hsb
  obtain ⟨q1, q2, q3, q4⟩ := putObj_facts (o' := .loop (rec .exhausted pe)) hjl
  generalize (W2.putObj (W7.heap.size + 1) (.loop (rec .exhausted pe))) = W4 at hle q1 q2 q3 q4
  have HX := Lib.hid hx
  have HST := Lib.hid hst
  have HH4 := Lib.hid (hH.stay (W' := W4) (fun b hb _ => q2 b (by omega)) (Nat.le_of_eq q3.symm))
  have HD4 := Lib.hid ((q2 _ (by omega)).trans hD2)
  have HR4 := Lib.hid ((q2 _ (by omega)).trans hR2)
  have HLg4 := Lib.hid ((q2 _ (by omega)).trans hLg)
  have HLs4 := Lib.hid ((q2 _ (by omega)).trans hLs)
  have HB4 := Lib.hid (hB2.trans (q4.below (fun b hb => by omega) (by have := hB2.size; omega)))
  have hz4 : W1.heap.size ≤ W4.heap.size := by omega
  clear hx hst hH hLg hLs hj hT hD2 hR2 hB2 hjl hsb q1 q2 q3 q4 HIT hl1 hD1 hb1 hzT hv
  refine ⟨pe, W4, hle, ?_⟩
  clear hle
  have g0 := box_cell (j := 0) HLg4.out rfl
  have g1 := box_cell (j := 1) HLg4.out rfl
  have g2 := box_cell (j := 2) HLg4.out rfl
  have g3 := box_cell (j := 3) HLg4.out rfl
  have g4 := box_cell (j := 4) HLg4.out rfl
  have s0 := box_cell (j := 0) HLs4.out rfl
  have r0 := box_cell (j := 0) HR4.out rfl
  have r1 := box_cell (j := 1) HR4.out rfl
  have r2 := box_cell (j := 2) HR4.out rfl
  have r3 := box_cell (j := 3) HR4.out rfl
  have r4 := box_cell (j := 4) HR4.out rfl
  have rf0 := box_free HR4.out 0
  have rf1 := box_free HR4.out 1
  have rf2 := box_free HR4.out 2
  have rf3 := box_free HR4.out 3
  have rf4 := box_free HR4.out 4
  rcases hpe with rfl | rfl
  all_goals
    gi_wp2_with fail
    refine wpIn_wide.2 ?_
    go_region
    have hput := put5 (u0 := .int .i64 xp) (u1 := .int .i64 xc) (u2 := .slice E2 k2 e2) (u3 := .int .i64 xs) (u4 := .slice E4 k4 e4) HR4.out
    have hb6 : Below w.heap.size w ((((((W4.setCell ⟨w.heap.size + 3, 0, none⟩ (.int .i64 xp)).setCell ⟨w.heap.size + 3, 1, none⟩ (.int .i64 xc)).setCell ⟨w.heap.size + 3, 2, none⟩ (.slice E2 k2 e2)).setCell ⟨w.heap.size + 3, 3, none⟩ (.int .i64 xs)).setCell ⟨w.heap.size + 3, 4, none⟩ (.slice E4 k4 e4)).drew) := Below.drew (below_put5 (b := w.heap.size + 3) (u0 := .int .i64 xp) (u1 := .int .i64 xc) (u2 := .slice E2 k2 e2) (u3 := .int .i64 xs) (u4 := .slice E4 k4 e4) HB4.out (by omega))
    have hr6 : ((((((W4.setCell ⟨w.heap.size + 3, 0, none⟩ (.int .i64 xp)).setCell ⟨w.heap.size + 3, 1, none⟩ (.int .i64 xc)).setCell ⟨w.heap.size + 3, 2, none⟩ (.slice E2 k2 e2)).setCell ⟨w.heap.size + 3, 3, none⟩ (.int .i64 xs)).setCell ⟨w.heap.size + 3, 4, none⟩ (.slice E4 k4 e4)).drew).heap[w.heap.size + 3]? = some (.cells #[.int .i64 xp, .int .i64 xc, .slice E2 k2 e2, .int .i64 xs, .slice E4 k4 e4] 34 (0, 0)) := hput.1
    have hk6 : ∀ k, k ≠ w.heap.size + 3 → ((((((W4.setCell ⟨w.heap.size + 3, 0, none⟩ (.int .i64 xp)).setCell ⟨w.heap.size + 3, 1, none⟩ (.int .i64 xc)).setCell ⟨w.heap.size + 3, 2, none⟩ (.slice E2 k2 e2)).setCell ⟨w.heap.size + 3, 3, none⟩ (.int .i64 xs)).setCell ⟨w.heap.size + 3, 4, none⟩ (.slice E4 k4 e4)).drew).heap[k]? = W4.heap[k]? := hput.2.1
    have hs6 : ((((((W4.setCell ⟨w.heap.size + 3, 0, none⟩ (.int .i64 xp)).setCell ⟨w.heap.size + 3, 1, none⟩ (.int .i64 xc)).setCell ⟨w.heap.size + 3, 2, none⟩ (.slice E2 k2 e2)).setCell ⟨w.heap.size + 3, 3, none⟩ (.int .i64 xs)).setCell ⟨w.heap.size + 3, 4, none⟩ (.slice E4 k4 e4)).drew).heap.size = W4.heap.size := hput.2.2
    generalize (((((W4.setCell ⟨w.heap.size + 3, 0, none⟩ (.int .i64 xp)).setCell ⟨w.heap.size + 3, 1, none⟩ (.int .i64 xc)).setCell ⟨w.heap.size + 3, 2, none⟩ (.slice E2 k2 e2)).setCell ⟨w.heap.size + 3, 3, none⟩ (.int .i64 xs)).setCell ⟨w.heap.size + 3, 4, none⟩ (.slice E4 k4 e4)).drew = W6 at *
    have HB6 := Lib.hid hb6
    have HK6 := Lib.hid hk6
    have HR6 := Lib.hid hr6
    clear hput hb6 hk6 hr6 g0 g1 g2 g3 g4 s0 r0 r1 r2 r3 r4 rf0 rf1 rf2 rf3 rf4
    gi_wp2_with fail
    have hK9 := (HK6.out W7.heap.size (by omega)).trans HD4.out
    refine ⟨by simp, .inl ⟨_, _, rfl, run_takeDeferred hK9, ?_⟩⟩
    obtain ⟨t1, t2, t3, t4⟩ := putObj_facts (o' := .deferred none) hK9
    generalize (W6.putObj W7.heap.size (.deferred none)) = WF at *
    have hrF := (t2 (w.heap.size + 3) (by omega)).trans HR6.out
    have y0 := box_cell (j := 0) hrF rfl
    have y1 := box_cell (j := 1) hrF rfl
    have y2 := box_cell (j := 2) hrF rfl
    have y3 := box_cell (j := 3) hrF rfl
    have y4 := box_cell (j := 4) hrF rfl
    refine ⟨.tuple #[.agg #[.int .i64 xp, .int .i64 xc, .slice E2 k2 e2, .int .i64 xs, .slice E4 k4 e4], .int .i64 (n : Int)], by simp [results, Tryz.results45, go_sem, y0, y1, y2, y3, y4], ?_⟩
    exact ⟨n, xp, xc, xr, xs, xt, E2, k2, e2, E4, k4, e4, HST.out, HX.out, rfl, (HH4.out.stay (fun b hb _ => (t2 b (by omega)).trans (HK6.out b (by omega))) (by omega)).wide (fun b hb hlt9 => ⟨by omega, hlt9⟩), HB6.out.trans (t4.below (B := w.heap.size) (fun b hb => by omega) (by omega))⟩
end Go.Proofs.YtapbjnfopniicaaGreatDoor

namespace Go.Proofs.YtapbjnfopniicaaGreatDoor
set_option linter.unusedSimpArgs false
set_option linter.unusedVariables false
open Go.RowKit


set_option maxRecDepth 100000 in
set_option maxHeartbeats 4000000 in
theorem implBurn_any {w : World} {hi : Nat} {p : DProg} {g : DGor} {vs us : List Value} (hp : layProg.see w hi p vs) (hg : layGor.see w hi g us) (hhi : hi ≤ w.heap.size) (hnp : szProg p ≤ 1048576) (hOC : OpCells w) (hIC : ItemCells w) (hng : szGor g ≤ 1048576) {most : Int} (hm : (Lit.int .i64 most).wf = true) :
    Calls Tryz.prog 18 #[.agg vs.toArray, .agg us.toArray, .int .i64 most] w (BurnE p g (limN most) w) := by
  have HG := Lib.hid (fun (W : World) (hW : Below w.heap.size w W) => implGorOk_any (layProg.keep hp fun k hk => hW.block k (by omega)) (layGor.keep hg fun k hk => hW.block k (by omega)) (Nat.le_trans hhi hW.size) (opCells_below hOC hW) (itemCells_below hIC hW (Nat.le_refl _)) hnp hng)
  have HM := Lib.hid (fun (hok : gorOkB p g = true) (W : World) (hW : Below w.heap.size w W) => implBurnt_any (layProg.keep hp fun k hk => hW.block k (by omega)) (layGor.keep hg fun k hk => hW.block k (by omega)) (Nat.le_trans hhi hW.size) hnp hng (good_of hok).1 (good_of hok).2 hm)
  rw [show (progOkB p && gorB (instrsZ p g.fProc) g) = gorOkB p g from rfl] at HG
  obtain ⟨A0, n0, c0, B2, m2, d2, A3, n3, c3, rfl, -⟩ := seeProg hp
  obtain ⟨A2, n2, c2, A4, n4, c4, rfl, -⟩ := seeGor hg
  clear hp hg hnp hng hm hOC hIC
  have hbb := Lib.hid (show gorOkB p g = gorOkB p g from rfl)
  generalize hb : gorOkB p g = b1 at HG HM
  have HBB := Lib.hid hb
  clear hb hbb
  have hP0 := box_new w #[.slice A0 n0 c0, .int .i64 p.fMus, .slice B2 m2 d2, .slice A3 n3 c3] 40
  have hP0 := box_keep hP0 ((Below.refl _ _).alloc (Nat.le_refl _) (.cells #[.int .i64 g.fProc, .int .i64 g.fPc, .slice A2 n2 c2, .int .i64 g.fState, .slice A4 n4 c4] 34)) (by simp only [World.size_alloc]; omega)
  have hP0 := box_keep hP0 ((Below.refl _ _).alloc (Nat.le_refl _) (.cells #[.int .i64 0, .int .i64 0, .slice none 0 0, .int .i64 0, .slice none 0 0] 34)) (by simp only [World.size_alloc]; omega)
  have hG0 := box_new (w.alloc (.cells #[.slice A0 n0 c0, .int .i64 p.fMus, .slice B2 m2 d2, .slice A3 n3 c3] 40)) #[.int .i64 g.fProc, .int .i64 g.fPc, .slice A2 n2 c2, .int .i64 g.fState, .slice A4 n4 c4] 34
  have hG0 := box_keep hG0 ((Below.refl _ _).alloc (Nat.le_refl _) (.cells #[.int .i64 0, .int .i64 0, .slice none 0 0, .int .i64 0, .slice none 0 0] 34)) (by simp only [World.size_alloc]; omega)
  simp only [World.size_alloc, Nat.add_assoc, Nat.reduceAdd] at hG0
  have hR0 := box_new ((w.alloc (.cells #[.slice A0 n0 c0, .int .i64 p.fMus, .slice B2 m2 d2, .slice A3 n3 c3] 40)).alloc (.cells #[.int .i64 g.fProc, .int .i64 g.fPc, .slice A2 n2 c2, .int .i64 g.fState, .slice A4 n4 c4] 34)) #[.int .i64 0, .int .i64 0, .slice none 0 0, .int .i64 0, .slice none 0 0] 34
  simp only [World.size_alloc, Nat.add_assoc, Nat.reduceAdd] at hR0
  have hB0 : Below w.heap.size w (((w.alloc (.cells #[.slice A0 n0 c0, .int .i64 p.fMus, .slice B2 m2 d2, .slice A3 n3 c3] 40)).alloc (.cells #[.int .i64 g.fProc, .int .i64 g.fPc, .slice A2 n2 c2, .int .i64 g.fState, .slice A4 n4 c4] 34)).alloc (.cells #[.int .i64 0, .int .i64 0, .slice none 0 0, .int .i64 0, .slice none 0 0] 34)) := (((Below.refl _ _).alloc (Nat.le_refl _) _).alloc (by simp only [World.size_alloc]; omega) _).alloc (by simp only [World.size_alloc]; omega) _
  have hz0 : w.heap.size + 3 ≤ (((w.alloc (.cells #[.slice A0 n0 c0, .int .i64 p.fMus, .slice B2 m2 d2, .slice A3 n3 c3] 40)).alloc (.cells #[.int .i64 g.fProc, .int .i64 g.fPc, .slice A2 n2 c2, .int .i64 g.fState, .slice A4 n4 c4] 34)).alloc (.cells #[.int .i64 0, .int .i64 0, .slice none 0 0, .int .i64 0, .slice none 0 0] 34)).heap.size := by simp only [World.size_alloc]; omega
  go_enter Tryz.func18, Tryz.ntmps18
  go_wp2_with fail
  refine (HG.out _ hB0).mono ?_
  rintro e w1 ⟨rfl, hb1⟩
  have hz1 := hb1.size
  have HB1 := Lib.hid (hB0.trans (hb1.mono (by omega)))
  have HP1 := Lib.hid (box_keep hP0 hb1 (by omega))
  have HG1 := Lib.hid (box_keep hG0 hb1 (by omega))
  have HR1 := Lib.hid (box_keep hR0 hb1 (by omega))
  clear hb1 hB0 hP0 hG0 hR0
  cases b1
  · skip
    have r0 := box_cell (j := 0) HR1.out rfl
    have r1 := box_cell (j := 1) HR1.out rfl
    have r2 := box_cell (j := 2) HR1.out rfl
    have r3 := box_cell (j := 3) HR1.out rfl
    have r4 := box_cell (j := 4) HR1.out rfl
    have rf0 := box_free HR1.out 0
    have rf1 := box_free HR1.out 1
    have rf2 := box_free HR1.out 2
    have rf3 := box_free HR1.out 3
    have rf4 := box_free HR1.out 4
    go_wp2_with fail
    have hfin := put5 (u0 := (.int .i64 0)) (u1 := (.int .i64 0)) (u2 := (.slice none 0 0)) (u3 := (.int .i64 0)) (u4 := (.slice none 0 0)) HR1.out
    have y0 := box_cell (j := 0) hfin.1 rfl
    have y1 := box_cell (j := 1) hfin.1 rfl
    have y2 := box_cell (j := 2) hfin.1 rfl
    have y3 := box_cell (j := 3) hfin.1 rfl
    have y4 := box_cell (j := 4) hfin.1 rfl
    refine bodyPost_ret (v := .tuple #[.agg #[.int .i64 0, .int .i64 0, .slice none 0 0, .int .i64 0, .slice none 0 0], .int .i64 0]) (by simp [results, Tryz.results18, go_sem, y0, y1, y2, y3, y4]) rfl ?_
    exact .inl ⟨HBB.out, rfl, below_put5 HB1.out (by omega)⟩
  · skip
    have p0 := box_cell (j := 0) HP1.out rfl
    have p1 := box_cell (j := 1) HP1.out rfl
    have p2 := box_cell (j := 2) HP1.out rfl
    have p3 := box_cell (j := 3) HP1.out rfl
    have g0 := box_cell (j := 0) HG1.out rfl
    have g1 := box_cell (j := 1) HG1.out rfl
    have g2 := box_cell (j := 2) HG1.out rfl
    have g3 := box_cell (j := 3) HG1.out rfl
    have g4 := box_cell (j := 4) HG1.out rfl
    go_wp2_with fail
    refine (HM.out (by simp) _ HB1.out).mono ?_
    rintro e w2 ⟨n, xp, xc, xr, xs, xt, E2, k2, e2, E4, k4, e4, hst, hx, rfl, H2, hb2⟩
    have hz2 := hb2.size
    have HR2 := Lib.hid (box_keep HR1.out hb2 (by omega))
    have HB2 := Lib.hid (HB1.out.trans (hb2.mono (by omega)))
    have HH2 := Lib.hid H2
    have HST := Lib.hid hst
    have HX := Lib.hid hx
    clear hb2 H2 hst hx p0 p1 p2 p3 g0 g1 g2 g3 g4
    have r0 := box_cell (j := 0) HR2.out rfl
    have r1 := box_cell (j := 1) HR2.out rfl
    have r2 := box_cell (j := 2) HR2.out rfl
    have r3 := box_cell (j := 3) HR2.out rfl
    have r4 := box_cell (j := 4) HR2.out rfl
    have rf0 := box_free HR2.out 0
    have rf1 := box_free HR2.out 1
    have rf2 := box_free HR2.out 2
    have rf3 := box_free HR2.out 3
    have rf4 := box_free HR2.out 4
    go_wp2_with fail
    have hfin := put5 (u0 := (.int .i64 xp)) (u1 := (.int .i64 xc)) (u2 := (.slice E2 k2 e2)) (u3 := (.int .i64 xs)) (u4 := (.slice E4 k4 e4)) HR2.out
    have y0 := box_cell (j := 0) hfin.1 rfl
    have y1 := box_cell (j := 1) hfin.1 rfl
    have y2 := box_cell (j := 2) hfin.1 rfl
    have y3 := box_cell (j := 3) hfin.1 rfl
    have y4 := box_cell (j := 4) hfin.1 rfl
    refine bodyPost_ret (v := .tuple #[.agg #[.int .i64 xp, .int .i64 xc, .slice E2 k2 e2, .int .i64 xs, .slice E4 k4 e4], .int .i64 (n : Int)]) (by simp [results, Tryz.results18, go_sem, y0, y1, y2, y3, y4]) rfl ?_
    exact .inr ⟨HBB.out, n, xp, xc, xr, xs, xt, E2, k2, e2, E4, k4, e4, HST.out, HX.out, rfl, (HH2.out.stay (fun k hk _ => hfin.2.1 k (by have := hk.1; omega)) (Nat.le_of_eq hfin.2.2.symm)).wide (fun k hk hl => ⟨by have := hk.1; omega, hl⟩), below_put5 HB2.out (by omega)⟩

set_option maxRecDepth 100000 in
set_option maxHeartbeats 4000000 in
theorem implStepLocal_any {w : World} {hi : Nat} {p : DProg} {g : DGor} {vs us : List Value} (hp : layProg.see w hi p vs) (hg : layGor.see w hi g us) (hhi : hi ≤ w.heap.size) (hnp : szProg p ≤ 1048576) (hOC : OpCells w) (hIC : ItemCells w) (hng : szGor g ≤ 1048576) :
    Calls Tryz.prog 11 #[.agg vs.toArray, .agg us.toArray] w (StepE p g w) := by
  have HM := Lib.hid (fun (W : World) (hW : Below w.heap.size w W) => implBurn_any (most := 1) (layProg.keep hp fun k hk => hW.block k (by omega)) (layGor.keep hg fun k hk => hW.block k (by omega)) (Nat.le_trans hhi hW.size) hnp (opCells_below hOC hW) (itemCells_below hIC hW (Nat.le_refl _)) hng (by decide))
  obtain ⟨A0, n0, c0, B2, m2, d2, A3, n3, c3, rfl, -⟩ := seeProg hp
  obtain ⟨A2, n2, c2, A4, n4, c4, rfl, -⟩ := seeGor hg
  clear hp hg hnp hng hOC hIC
  have hP0 := box_new w #[.slice A0 n0 c0, .int .i64 p.fMus, .slice B2 m2 d2, .slice A3 n3 c3] 40
  have hP0 := box_keep hP0 ((Below.refl _ _).alloc (Nat.le_refl _) (.cells #[.int .i64 g.fProc, .int .i64 g.fPc, .slice A2 n2 c2, .int .i64 g.fState, .slice A4 n4 c4] 34)) (by simp only [World.size_alloc]; omega)
  have hP0 := box_keep hP0 ((Below.refl _ _).alloc (Nat.le_refl _) (.cells #[.int .i64 0, .int .i64 0, .slice none 0 0, .int .i64 0, .slice none 0 0] 34)) (by simp only [World.size_alloc]; omega)
  have hG0 := box_new (w.alloc (.cells #[.slice A0 n0 c0, .int .i64 p.fMus, .slice B2 m2 d2, .slice A3 n3 c3] 40)) #[.int .i64 g.fProc, .int .i64 g.fPc, .slice A2 n2 c2, .int .i64 g.fState, .slice A4 n4 c4] 34
  have hG0 := box_keep hG0 ((Below.refl _ _).alloc (Nat.le_refl _) (.cells #[.int .i64 0, .int .i64 0, .slice none 0 0, .int .i64 0, .slice none 0 0] 34)) (by simp only [World.size_alloc]; omega)
  simp only [World.size_alloc, Nat.add_assoc, Nat.reduceAdd] at hG0
  have hR0 := box_new ((w.alloc (.cells #[.slice A0 n0 c0, .int .i64 p.fMus, .slice B2 m2 d2, .slice A3 n3 c3] 40)).alloc (.cells #[.int .i64 g.fProc, .int .i64 g.fPc, .slice A2 n2 c2, .int .i64 g.fState, .slice A4 n4 c4] 34)) #[.int .i64 0, .int .i64 0, .slice none 0 0, .int .i64 0, .slice none 0 0] 34
  simp only [World.size_alloc, Nat.add_assoc, Nat.reduceAdd] at hR0
  have hB0 : Below w.heap.size w (((w.alloc (.cells #[.slice A0 n0 c0, .int .i64 p.fMus, .slice B2 m2 d2, .slice A3 n3 c3] 40)).alloc (.cells #[.int .i64 g.fProc, .int .i64 g.fPc, .slice A2 n2 c2, .int .i64 g.fState, .slice A4 n4 c4] 34)).alloc (.cells #[.int .i64 0, .int .i64 0, .slice none 0 0, .int .i64 0, .slice none 0 0] 34)) := (((Below.refl _ _).alloc (Nat.le_refl _) _).alloc (by simp only [World.size_alloc]; omega) _).alloc (by simp only [World.size_alloc]; omega) _
  have hz0 : w.heap.size + 3 ≤ (((w.alloc (.cells #[.slice A0 n0 c0, .int .i64 p.fMus, .slice B2 m2 d2, .slice A3 n3 c3] 40)).alloc (.cells #[.int .i64 g.fProc, .int .i64 g.fPc, .slice A2 n2 c2, .int .i64 g.fState, .slice A4 n4 c4] 34)).alloc (.cells #[.int .i64 0, .int .i64 0, .slice none 0 0, .int .i64 0, .slice none 0 0] 34)).heap.size := by simp only [World.size_alloc]; omega
  have HP0 := Lib.hid hP0
  have HR0 := Lib.hid hR0
  have HB0 := Lib.hid hB0
  have hone : limN 1 = 1 := by decide
  rw [hone] at HM
  clear hone
  go_enter Tryz.func11, Tryz.ntmps11
  go_wp2_with fail
  refine (HM.out _ HB0.out).mono ?_
  rintro e w2 (⟨hb, rfl, hb2⟩ | ⟨hb, n, xp, xc, xr, xs, xt, E2, k2, e2, E4, k4, e4, hst, hx, rfl, H2, hb2⟩)
  · skip
    have HBB := Lib.hid (show (gorOkB p g && locB p g) = false by rw [hb]; rfl)
    clear hb
    have hz2 := hb2.size
    have HP2 := Lib.hid (box_keep HP0.out hb2 (by omega))
    have HR2 := Lib.hid (box_keep HR0.out hb2 (by omega))
    have HB2 := Lib.hid (HB0.out.trans (hb2.mono (by omega)))
    clear hb2 hP0 hG0 hR0 hB0 HB0 HR0 HP0
    go_upto_region 2 with (fail)
    have hbx : Below w2.heap.size w2 (w2.alloc (.cells #[.int .i64 0, .int .i64 0, .slice none 0 0, .int .i64 0, .slice none 0 0] 34)) := (Below.refl _ _).alloc (Nat.le_refl _) _
    have hzx : w2.heap.size < (w2.alloc (.cells #[.int .i64 0, .int .i64 0, .slice none 0 0, .int .i64 0, .slice none 0 0] 34)).heap.size := by simp
    have HX3 := Lib.hid (box_new w2 #[.int .i64 0, .int .i64 0, .slice none 0 0, .int .i64 0, .slice none 0 0] 34)
    have HP3 := Lib.hid (box_keep HP2.out hbx (by omega))
    have HR3 := Lib.hid (box_keep HR2.out hbx (by omega))
    have HB3 := Lib.hid (HB2.out.trans (hbx.mono (by omega)))
    clear hbx
    generalize (w2.alloc (.cells #[.int .i64 0, .int .i64 0, .slice none 0 0, .int .i64 0, .slice none 0 0] 34)) = W3 at *
    generalize w2.heap.size = bx at *
    have r0 := box_cell (j := 0) HR3.out rfl
    have r1 := box_cell (j := 1) HR3.out rfl
    have r2 := box_cell (j := 2) HR3.out rfl
    have r3 := box_cell (j := 3) HR3.out rfl
    have r4 := box_cell (j := 4) HR3.out rfl
    have rf0 := box_free HR3.out 0
    have rf1 := box_free HR3.out 1
    have rf2 := box_free HR3.out 2
    have rf3 := box_free HR3.out 3
    have rf4 := box_free HR3.out 4
    go_wp2_with fail
    have hfin := put5 (u0 := (.int .i64 0)) (u1 := (.int .i64 0)) (u2 := (.slice none 0 0)) (u3 := (.int .i64 0)) (u4 := (.slice none 0 0)) HR3.out
    have y0 := box_cell (j := 0) hfin.1 rfl
    have y1 := box_cell (j := 1) hfin.1 rfl
    have y2 := box_cell (j := 2) hfin.1 rfl
    have y3 := box_cell (j := 3) hfin.1 rfl
    have y4 := box_cell (j := 4) hfin.1 rfl
    refine bodyPost_ret (v := .tuple #[.agg #[.int .i64 0, .int .i64 0, .slice none 0 0, .int .i64 0, .slice none 0 0], .bool false]) (by simp [results, Tryz.results11, go_sem, y0, y1, y2, y3, y4]) rfl ?_
    exact .inl ⟨HBB.out, rfl, below_put5 HB3.out (by omega)⟩
  · skip
    have HH2 := Lib.hid H2
    clear H2
    have hz2 := hb2.size
    have HP2 := Lib.hid (box_keep HP0.out hb2 (by omega))
    have HR2 := Lib.hid (box_keep HR0.out hb2 (by omega))
    have HB2 := Lib.hid (HB0.out.trans (hb2.mono (by omega)))
    clear hb2 hP0 hG0 hR0 hB0 HB0 HR0 HP0
    have hn : n = 0 ∨ n = 1 := by have := hst.1; omega
    rcases hn with rfl | rfl
    · skip
      have HBB := Lib.hid (show (gorOkB p g && locB p g) = false by rw [hb]; exact hst.2.2 (by decide))
      clear hb hst hx
      go_upto_region 2 with (fail)
      have hbx : Below w2.heap.size w2 (w2.alloc (.cells #[.int .i64 xp, .int .i64 xc, .slice E2 k2 e2, .int .i64 xs, .slice E4 k4 e4] 34)) := (Below.refl _ _).alloc (Nat.le_refl _) _
      have hzx : w2.heap.size < (w2.alloc (.cells #[.int .i64 xp, .int .i64 xc, .slice E2 k2 e2, .int .i64 xs, .slice E4 k4 e4] 34)).heap.size := by simp
      have HX3 := Lib.hid (box_new w2 #[.int .i64 xp, .int .i64 xc, .slice E2 k2 e2, .int .i64 xs, .slice E4 k4 e4] 34)
      have HP3 := Lib.hid (box_keep HP2.out hbx (by omega))
      have HR3 := Lib.hid (box_keep HR2.out hbx (by omega))
      have HB3 := Lib.hid (HB2.out.trans (hbx.mono (by omega)))
      clear hbx
      generalize (w2.alloc (.cells #[.int .i64 xp, .int .i64 xc, .slice E2 k2 e2, .int .i64 xs, .slice E4 k4 e4] 34)) = W3 at *
      generalize w2.heap.size = bx at *
      have r0 := box_cell (j := 0) HR3.out rfl
      have r1 := box_cell (j := 1) HR3.out rfl
      have r2 := box_cell (j := 2) HR3.out rfl
      have r3 := box_cell (j := 3) HR3.out rfl
      have r4 := box_cell (j := 4) HR3.out rfl
      have rf0 := box_free HR3.out 0
      have rf1 := box_free HR3.out 1
      have rf2 := box_free HR3.out 2
      have rf3 := box_free HR3.out 3
      have rf4 := box_free HR3.out 4
      go_wp2_with fail
      have hfin := put5 (u0 := (.int .i64 0)) (u1 := (.int .i64 0)) (u2 := (.slice none 0 0)) (u3 := (.int .i64 0)) (u4 := (.slice none 0 0)) HR3.out
      have y0 := box_cell (j := 0) hfin.1 rfl
      have y1 := box_cell (j := 1) hfin.1 rfl
      have y2 := box_cell (j := 2) hfin.1 rfl
      have y3 := box_cell (j := 3) hfin.1 rfl
      have y4 := box_cell (j := 4) hfin.1 rfl
      refine bodyPost_ret (v := .tuple #[.agg #[.int .i64 0, .int .i64 0, .slice none 0 0, .int .i64 0, .slice none 0 0], .bool false]) (by simp [results, Tryz.results11, go_sem, y0, y1, y2, y3, y4]) rfl ?_
      exact .inl ⟨HBB.out, rfl, below_put5 HB3.out (by omega)⟩
    · skip
      have HBB := Lib.hid (show (gorOkB p g && locB p g) = true by rw [hb]; exact hst.2.1 0 (by decide))
      have HX := Lib.hid hx
      clear hb hst hx
      go_upto_region 2 with (fail)
      have hbx : Below w2.heap.size w2 (w2.alloc (.cells #[.int .i64 xp, .int .i64 xc, .slice E2 k2 e2, .int .i64 xs, .slice E4 k4 e4] 34)) := (Below.refl _ _).alloc (Nat.le_refl _) _
      have hzx : w2.heap.size < (w2.alloc (.cells #[.int .i64 xp, .int .i64 xc, .slice E2 k2 e2, .int .i64 xs, .slice E4 k4 e4] 34)).heap.size := by simp
      have HX3 := Lib.hid (box_new w2 #[.int .i64 xp, .int .i64 xc, .slice E2 k2 e2, .int .i64 xs, .slice E4 k4 e4] 34)
      have HP3 := Lib.hid (box_keep HP2.out hbx (by omega))
      have HR3 := Lib.hid (box_keep HR2.out hbx (by omega))
      have HB3 := Lib.hid (HB2.out.trans (hbx.mono (by omega)))
      have HH3 := Lib.hid (HH2.out.stay (fun k hk hl => hbx.block k hl) hbx.size)
      clear hbx
      generalize (w2.alloc (.cells #[.int .i64 xp, .int .i64 xc, .slice E2 k2 e2, .int .i64 xs, .slice E4 k4 e4] 34)) = W3 at *
      generalize w2.heap.size = bx at *
      have r0 := box_cell (j := 0) HR3.out rfl
      have r1 := box_cell (j := 1) HR3.out rfl
      have r2 := box_cell (j := 2) HR3.out rfl
      have r3 := box_cell (j := 3) HR3.out rfl
      have r4 := box_cell (j := 4) HR3.out rfl
      have rf0 := box_free HR3.out 0
      have rf1 := box_free HR3.out 1
      have rf2 := box_free HR3.out 2
      have rf3 := box_free HR3.out 3
      have rf4 := box_free HR3.out 4
      have x0 := box_cell (j := 0) HX3.out rfl
      have x1 := box_cell (j := 1) HX3.out rfl
      have x2 := box_cell (j := 2) HX3.out rfl
      have x3 := box_cell (j := 3) HX3.out rfl
      have x4 := box_cell (j := 4) HX3.out rfl
      go_wp2_with fail
      have hfin := put5 (u0 := (.int .i64 xp)) (u1 := (.int .i64 xc)) (u2 := (.slice E2 k2 e2)) (u3 := (.int .i64 xs)) (u4 := (.slice E4 k4 e4)) HR3.out
      have y0 := box_cell (j := 0) hfin.1 rfl
      have y1 := box_cell (j := 1) hfin.1 rfl
      have y2 := box_cell (j := 2) hfin.1 rfl
      have y3 := box_cell (j := 3) hfin.1 rfl
      have y4 := box_cell (j := 4) hfin.1 rfl
      refine bodyPost_ret (v := .tuple #[.agg #[.int .i64 xp, .int .i64 xc, .slice E2 k2 e2, .int .i64 xs, .slice E4 k4 e4], .bool true]) (by simp [results, Tryz.results11, go_sem, y0, y1, y2, y3, y4]) rfl ?_
      exact .inr ⟨HBB.out, xp, xc, xr, xs, xt, E2, k2, e2, E4, k4, e4, HX.out, rfl, (HH3.out.stay (fun k hk _ => hfin.2.1 k (by have := hk.1; omega)) (Nat.le_of_eq hfin.2.2.symm)).wide (fun k hk hl => ⟨by have := hk.1; omega, hl⟩), below_put5 HB3.out (by omega)⟩

set_option maxRecDepth 100000 in
set_option maxHeartbeats 4000000 in
theorem implNext_any {w : World} {hi : Nat} {p : DProg} {g : DGor} {vs us : List Value} (hp : layProg.see w hi p vs) (hg : layGor.see w hi g us) (hhi : hi ≤ w.heap.size) (hnp : szProg p ≤ 1048576) (hOC : OpCells w) (hIC : ItemCells w) (hng : szGor g ≤ 1048576) :
    Calls Tryz.prog 20 #[.agg vs.toArray, .agg us.toArray] w fun e w' => e = .returned (.tuple #[.agg #[.int .i64 (nextI p g).fOp, .int .i64 (nextI p g).fA, .int .i64 (nextI p g).fB, .int .i64 (nextI p g).fC], .bool (nextB p g)]) ∧ Below w.heap.size w w' := by
  have HM := Lib.hid (fun (W : World) (hW : Below w.heap.size w W) => implBurn_any (most := 500) (layProg.keep hp fun k hk => hW.block k (by omega)) (layGor.keep hg fun k hk => hW.block k (by omega)) (Nat.le_trans hhi hW.size) hnp (opCells_below hOC hW) (itemCells_below hIC hW (Nat.le_refl _)) hng (by decide))
  have HA := Lib.hid (fun (hok : gorOkB p g = true) (W : World) (hW : Below w.heap.size w W) (xs : List Value) (hx : layGor.see W W.heap.size (runR p g (cntR p g 500)) xs) => implAt_any (layProg.more (layProg.keep hp fun k hk => hW.block k (by omega)) (Nat.le_trans hhi hW.size)) hx (Nat.le_refl _) hnp (run_good (good_of hok).1 (good_of hok).2 _ (cnt_stops p g 500).2.1).1.1)
  have HL := Lib.hid (fun (hok : gorOkB p g = true) (W : World) (hW : Below w.heap.size w W) (xs : List Value) (hx : layGor.see W W.heap.size (runR p g (cntR p g 500)) xs) => implLoc_any (layProg.more (layProg.keep hp fun k hk => hW.block k (by omega)) (Nat.le_trans hhi hW.size)) hx (Nat.le_refl _) hnp (fun _ => (run_good (good_of hok).1 (good_of hok).2 _ (cnt_stops p g 500).2.1).1.1))
  obtain ⟨A0, n0, c0, B2, m2, d2, A3, n3, c3, rfl, -⟩ := seeProg hp
  obtain ⟨A2, n2, c2, A4, n4, c4, rfl, -⟩ := seeGor hg
  clear hp hg hnp hng hOC hIC
  have HNB := Lib.hid (show nextB p g = (gorOkB p g && (decide ((runR p g (cntR p g 500)).fState = 1) && sharedZ (atI p (runR p g (cntR p g 500))).fOp)) from rfl)
  have HNI := Lib.hid (show nextI p g = if nextB p g = true then atI p (runR p g (cntR p g 500)) else ⟨0, 0, 0, 0⟩ from rfl)
  have HUQ := Lib.hid (fun (n : Nat) (hn : Stops p g (limN 500) n) => stops_uniq (cnt_stops p g 500) hn)
  have HLB := Lib.hid (show locB p (runR p g (cntR p g 500)) = (decide ((runR p g (cntR p g 500)).fState = 1) && !sharedZ (atI p (runR p g (cntR p g 500))).fOp) from rfl)
  generalize hX : runR p g (cntR p g 500) = X at HA HL HNB HNI HLB
  have HXX := Lib.hid hX
  clear hX
  generalize atI p X = ins at *
  generalize locB p X = lb at *
  generalize nextB p g = nb at *
  generalize nextI p g = ni at *
  obtain ⟨jo, ja, jb, jc⟩ := ni
  have hP0 := box_new w #[.slice A0 n0 c0, .int .i64 p.fMus, .slice B2 m2 d2, .slice A3 n3 c3] 40
  have hP0 := box_keep hP0 ((Below.refl _ _).alloc (Nat.le_refl _) (.cells #[.int .i64 g.fProc, .int .i64 g.fPc, .slice A2 n2 c2, .int .i64 g.fState, .slice A4 n4 c4] 34)) (by simp only [World.size_alloc]; omega)
  have hP0 := box_keep hP0 ((Below.refl _ _).alloc (Nat.le_refl _) (.cells #[.int .i64 0, .int .i64 0, .int .i64 0, .int .i64 0] 52)) (by simp only [World.size_alloc]; omega)
  have hG0 := box_new (w.alloc (.cells #[.slice A0 n0 c0, .int .i64 p.fMus, .slice B2 m2 d2, .slice A3 n3 c3] 40)) #[.int .i64 g.fProc, .int .i64 g.fPc, .slice A2 n2 c2, .int .i64 g.fState, .slice A4 n4 c4] 34
  have hG0 := box_keep hG0 ((Below.refl _ _).alloc (Nat.le_refl _) (.cells #[.int .i64 0, .int .i64 0, .int .i64 0, .int .i64 0] 52)) (by simp only [World.size_alloc]; omega)
  simp only [World.size_alloc, Nat.add_assoc, Nat.reduceAdd] at hG0
  have hR0 := box_new ((w.alloc (.cells #[.slice A0 n0 c0, .int .i64 p.fMus, .slice B2 m2 d2, .slice A3 n3 c3] 40)).alloc (.cells #[.int .i64 g.fProc, .int .i64 g.fPc, .slice A2 n2 c2, .int .i64 g.fState, .slice A4 n4 c4] 34)) #[.int .i64 0, .int .i64 0, .int .i64 0, .int .i64 0] 52
  simp only [World.size_alloc, Nat.add_assoc, Nat.reduceAdd] at hR0
  have hB0 : Below w.heap.size w (((w.alloc (.cells #[.slice A0 n0 c0, .int .i64 p.fMus, .slice B2 m2 d2, .slice A3 n3 c3] 40)).alloc (.cells #[.int .i64 g.fProc, .int .i64 g.fPc, .slice A2 n2 c2, .int .i64 g.fState, .slice A4 n4 c4] 34)).alloc (.cells #[.int .i64 0, .int .i64 0, .int .i64 0, .int .i64 0] 52)) := (((Below.refl _ _).alloc (Nat.le_refl _) _).alloc (by simp only [World.size_alloc]; omega) _).alloc (by simp only [World.size_alloc]; omega) _
  have hz0 : w.heap.size + 3 ≤ (((w.alloc (.cells #[.slice A0 n0 c0, .int .i64 p.fMus, .slice B2 m2 d2, .slice A3 n3 c3] 40)).alloc (.cells #[.int .i64 g.fProc, .int .i64 g.fPc, .slice A2 n2 c2, .int .i64 g.fState, .slice A4 n4 c4] 34)).alloc (.cells #[.int .i64 0, .int .i64 0, .int .i64 0, .int .i64 0] 52)).heap.size := by simp only [World.size_alloc]; omega
  have HP0 := Lib.hid hP0
  have HR0 := Lib.hid hR0
  have HB0 := Lib.hid hB0
  go_enter Tryz.func20, Tryz.ntmps20
  go_wp2_with fail
  refine (HM.out _ HB0.out).mono ?_
  rintro e w2 (⟨hb, rfl, hb2⟩ | ⟨hb, n, xp, xc, xr, xs, xt, E2, k2, e2, E4, k4, e4, hst, hx, rfl, H2, hb2⟩)
  · skip
    rw [hb] at HNB
    clear hb
    have hz2 := hb2.size
    have HP2 := Lib.hid (box_keep HP0.out hb2 (by omega))
    have HR2 := Lib.hid (box_keep HR0.out hb2 (by omega))
    have HB2 := Lib.hid (HB0.out.trans (hb2.mono (by omega)))
    clear hb2 hP0 hG0 hR0 hB0 HB0 HR0 HP0
    go_upto_region 2 with (fail)
    have hbx : Below w2.heap.size w2 (w2.alloc (.cells #[.int .i64 0, .int .i64 0, .slice none 0 0, .int .i64 0, .slice none 0 0] 34)) := (Below.refl _ _).alloc (Nat.le_refl _) _
    have hzx : w2.heap.size < (w2.alloc (.cells #[.int .i64 0, .int .i64 0, .slice none 0 0, .int .i64 0, .slice none 0 0] 34)).heap.size := by simp
    have HX3 := Lib.hid (box_new w2 #[.int .i64 0, .int .i64 0, .slice none 0 0, .int .i64 0, .slice none 0 0] 34)
    have HP3 := Lib.hid (box_keep HP2.out hbx (by omega))
    have HR3 := Lib.hid (box_keep HR2.out hbx (by omega))
    have HB3 := Lib.hid (HB2.out.trans (hbx.mono (by omega)))
    clear hbx
    generalize (w2.alloc (.cells #[.int .i64 0, .int .i64 0, .slice none 0 0, .int .i64 0, .slice none 0 0] 34)) = W3 at *
    generalize w2.heap.size = bx at *
    have x0 := box_cell (j := 0) HX3.out rfl
    have x1 := box_cell (j := 1) HX3.out rfl
    have x2 := box_cell (j := 2) HX3.out rfl
    have x3 := box_cell (j := 3) HX3.out rfl
    have x4 := box_cell (j := 4) HX3.out rfl
    have r0 := box_cell (j := 0) HR3.out rfl
    have r1 := box_cell (j := 1) HR3.out rfl
    have r2 := box_cell (j := 2) HR3.out rfl
    have r3 := box_cell (j := 3) HR3.out rfl
    have rf0 := box_free HR3.out 0
    have rf1 := box_free HR3.out 1
    have rf2 := box_free HR3.out 2
    have rf3 := box_free HR3.out 3
    go_wp2_with fail
    have hfin := And.intro (box_set (j := 3) (u := (.int .i64 0)) (box_set (j := 2) (u := (.int .i64 0)) (box_set (j := 1) (u := (.int .i64 0)) (box_set (j := 0) (u := (.int .i64 0)) HR3.out)))) trivial
    have y0 := box_cell (j := 0) hfin.1 rfl
    have y1 := box_cell (j := 1) hfin.1 rfl
    have y2 := box_cell (j := 2) hfin.1 rfl
    have y3 := box_cell (j := 3) hfin.1 rfl
    refine bodyPost_ret (v := .tuple #[.agg #[.int .i64 0, .int .i64 0, .int .i64 0, .int .i64 0], .bool false]) (by simp [results, Tryz.results20, go_sem, y0, y1, y2, y3]) rfl ?_
    obtain rfl : nb = false := by rw [HNB.out]; rfl
    have hni := HNI.out
    rw [if_neg (by decide)] at hni
    injection hni with h1 h2 h3 h4
    subst h1 h2 h3 h4
    exact ⟨rfl, below_set4 HB3.out (by omega)⟩
  · skip
    have HH2 := Lib.hid H2
    clear H2
    have hz2 := hb2.size
    have HP2 := Lib.hid (box_keep HP0.out hb2 (by omega))
    have HR2 := Lib.hid (box_keep HR0.out hb2 (by omega))
    have HB2 := Lib.hid (HB0.out.trans (hb2.mono (by omega)))
    clear hb2 hP0 hG0 hR0 hB0 HB0 HR0 HP0
    have hn := HUQ.out n hst
    rw [← hn, HXX.out] at hx
    subst hx
    clear hn hst
    rw [hb] at HNB
    simp only at HNB HLB
    go_upto_region 2 with (fail)
    have hbx : Below w2.heap.size w2 (w2.alloc (.cells #[.int .i64 xp, .int .i64 xc, .slice E2 k2 e2, .int .i64 xs, .slice E4 k4 e4] 34)) := (Below.refl _ _).alloc (Nat.le_refl _) _
    have hzx : w2.heap.size < (w2.alloc (.cells #[.int .i64 xp, .int .i64 xc, .slice E2 k2 e2, .int .i64 xs, .slice E4 k4 e4] 34)).heap.size := by simp
    have HX3 := Lib.hid (box_new w2 #[.int .i64 xp, .int .i64 xc, .slice E2 k2 e2, .int .i64 xs, .slice E4 k4 e4] 34)
    have HP3 := Lib.hid (box_keep HP2.out hbx (by omega))
    have HR3 := Lib.hid (box_keep HR2.out hbx (by omega))
    have HB3 := Lib.hid (HB2.out.trans (hbx.mono (by omega)))
    have HH3 := Lib.hid (HH2.out.stay (fun k hk hl => hbx.block k hl) hbx.size)
    clear hbx
    generalize (w2.alloc (.cells #[.int .i64 xp, .int .i64 xc, .slice E2 k2 e2, .int .i64 xs, .slice E4 k4 e4] 34)) = W3 at *
    generalize w2.heap.size = bx at *
    have HA3 := Lib.hid (fun (W : World) (hW : Below W3.heap.size W3 W) => (HA.out hb W (HB3.out.trans (hW.mono (by have := HB3.out.size; omega))) [.int .i64 xp, .int .i64 xc, .slice E2 k2 e2, .int .i64 xs, .slice E4 k4 e4] (HoldG.see (HH3.out.stay (fun k _ hl => hW.block k hl) hW.size))))
    have HL3 := Lib.hid (HL.out hb W3 HB3.out [.int .i64 xp, .int .i64 xc, .slice E2 k2 e2, .int .i64 xs, .slice E4 k4 e4] (HoldG.see HH3.out))
    clear hb HA HL
    obtain ⟨io, ia, ib, ic⟩ := ins
    simp only at HA3 HL3 HNB HNI HLB
    have x0 := box_cell (j := 0) HX3.out rfl
    have x1 := box_cell (j := 1) HX3.out rfl
    have x2 := box_cell (j := 2) HX3.out rfl
    have x3 := box_cell (j := 3) HX3.out rfl
    have x4 := box_cell (j := 4) HX3.out rfl
    have p0 := box_cell (j := 0) HP3.out rfl
    have p1 := box_cell (j := 1) HP3.out rfl
    have p2 := box_cell (j := 2) HP3.out rfl
    have p3 := box_cell (j := 3) HP3.out rfl
    by_cases hs1 : xs = 1
    · subst hs1
      rw [show decide ((1 : Int) = 1) = true from rfl, Bool.true_and] at HNB HLB
      go_wp2_with fail
      refine (HL3.out).mono ?_
      rintro e w4 ⟨rfl, hb4⟩
      have hz4 := hb4.size
      have HX4 := Lib.hid (box_keep HX3.out hb4 (by omega))
      have HP4 := Lib.hid (box_keep HP3.out hb4 (by omega))
      have HR4 := Lib.hid (box_keep HR3.out hb4 (by omega))
      have HB4 := Lib.hid (HB3.out.trans (hb4.mono (by have := HB3.out.size; omega)))
      have HA4 := Lib.hid (HA3.out w4 hb4)
      clear hb4 p0 p1 p2 p3 x0 x1 x2 x3 x4
      cases lb
      · skip
        have HSH := Lib.hid (show sharedZ io = true by have := HLB.out; revert this; cases sharedZ io <;> simp)
        have x0 := box_cell (j := 0) HX4.out rfl
        have x1 := box_cell (j := 1) HX4.out rfl
        have x2 := box_cell (j := 2) HX4.out rfl
        have x3 := box_cell (j := 3) HX4.out rfl
        have x4 := box_cell (j := 4) HX4.out rfl
        have p0 := box_cell (j := 0) HP4.out rfl
        have p1 := box_cell (j := 1) HP4.out rfl
        have p2 := box_cell (j := 2) HP4.out rfl
        have p3 := box_cell (j := 3) HP4.out rfl
        go_wp2_with fail
        refine (HA4.out).mono ?_
        rintro e w6 ⟨rfl, hb6⟩
        have hz6 := hb6.size
        have HR6 := Lib.hid (box_keep HR4.out hb6 (by omega))
        have HB6 := Lib.hid (HB4.out.trans (hb6.mono (by have := HB4.out.size; omega)))
        clear hb6 p0 p1 p2 p3 x0 x1 x2 x3 x4
        have r0 := box_cell (j := 0) HR6.out rfl
        have r1 := box_cell (j := 1) HR6.out rfl
        have r2 := box_cell (j := 2) HR6.out rfl
        have r3 := box_cell (j := 3) HR6.out rfl
        have rf0 := box_free HR6.out 0
        have rf1 := box_free HR6.out 1
        have rf2 := box_free HR6.out 2
        have rf3 := box_free HR6.out 3
        go_wp2_with fail
        have hfin := And.intro (box_set (j := 3) (u := (.int .i64 ic)) (box_set (j := 2) (u := (.int .i64 ib)) (box_set (j := 1) (u := (.int .i64 ia)) (box_set (j := 0) (u := (.int .i64 io)) HR6.out)))) trivial
        have y0 := box_cell (j := 0) hfin.1 rfl
        have y1 := box_cell (j := 1) hfin.1 rfl
        have y2 := box_cell (j := 2) hfin.1 rfl
        have y3 := box_cell (j := 3) hfin.1 rfl
        refine bodyPost_ret (v := .tuple #[.agg #[.int .i64 io, .int .i64 ia, .int .i64 ib, .int .i64 ic], .bool true]) (by simp [results, Tryz.results20, go_sem, y0, y1, y2, y3]) rfl ?_
        obtain rfl : nb = true := by rw [HNB.out, HSH.out]; rfl
        have hni := HNI.out
        rw [if_pos rfl] at hni
        injection hni with h1 h2 h3 h4
        subst h1 h2 h3 h4
        exact ⟨rfl, below_set4 HB6.out (by omega)⟩
      · skip
        have HSH := Lib.hid (show sharedZ io = false by have := HLB.out; revert this; cases sharedZ io <;> simp)
        have r0 := box_cell (j := 0) HR4.out rfl
        have r1 := box_cell (j := 1) HR4.out rfl
        have r2 := box_cell (j := 2) HR4.out rfl
        have r3 := box_cell (j := 3) HR4.out rfl
        have rf0 := box_free HR4.out 0
        have rf1 := box_free HR4.out 1
        have rf2 := box_free HR4.out 2
        have rf3 := box_free HR4.out 3
        go_wp2_with fail
        have hfin := And.intro (box_set (j := 3) (u := (.int .i64 0)) (box_set (j := 2) (u := (.int .i64 0)) (box_set (j := 1) (u := (.int .i64 0)) (box_set (j := 0) (u := (.int .i64 0)) HR4.out)))) trivial
        have y0 := box_cell (j := 0) hfin.1 rfl
        have y1 := box_cell (j := 1) hfin.1 rfl
        have y2 := box_cell (j := 2) hfin.1 rfl
        have y3 := box_cell (j := 3) hfin.1 rfl
        refine bodyPost_ret (v := .tuple #[.agg #[.int .i64 0, .int .i64 0, .int .i64 0, .int .i64 0], .bool false]) (by simp [results, Tryz.results20, go_sem, y0, y1, y2, y3]) rfl ?_
        obtain rfl : nb = false := by rw [HNB.out]; rw [HSH.out]; rfl
        have hni := HNI.out
        rw [if_neg (by decide)] at hni
        injection hni with h1 h2 h3 h4
        subst h1 h2 h3 h4
        exact ⟨rfl, below_set4 HB4.out (by omega)⟩
    · skip
      clear p0 p1 p2 p3
      have r0 := box_cell (j := 0) HR3.out rfl
      have r1 := box_cell (j := 1) HR3.out rfl
      have r2 := box_cell (j := 2) HR3.out rfl
      have r3 := box_cell (j := 3) HR3.out rfl
      have rf0 := box_free HR3.out 0
      have rf1 := box_free HR3.out 1
      have rf2 := box_free HR3.out 2
      have rf3 := box_free HR3.out 3
      go_wp2_with fail
      have hfin := And.intro (box_set (j := 3) (u := (.int .i64 0)) (box_set (j := 2) (u := (.int .i64 0)) (box_set (j := 1) (u := (.int .i64 0)) (box_set (j := 0) (u := (.int .i64 0)) HR3.out)))) trivial
      have y0 := box_cell (j := 0) hfin.1 rfl
      have y1 := box_cell (j := 1) hfin.1 rfl
      have y2 := box_cell (j := 2) hfin.1 rfl
      have y3 := box_cell (j := 3) hfin.1 rfl
      refine bodyPost_ret (v := .tuple #[.agg #[.int .i64 0, .int .i64 0, .int .i64 0, .int .i64 0], .bool false]) (by simp [results, Tryz.results20, go_sem, y0, y1, y2, y3]) rfl ?_
      obtain rfl : nb = false := by rw [HNB.out]; rw [decide_eq_false hs1]; rfl
      have hni := HNI.out
      rw [if_neg (by decide)] at hni
      injection hni with h1 h2 h3 h4
      subst h1 h2 h3 h4
      exact ⟨rfl, below_set4 HB3.out (by omega)⟩
end Go.Proofs.YtapbjnfopniicaaGreatDoor
