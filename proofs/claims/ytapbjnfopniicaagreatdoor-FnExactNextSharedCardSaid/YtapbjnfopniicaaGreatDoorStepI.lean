
/- The program's doLocal: a step of a goroutine held in memory of its own, in place. Laid by wip/gen10/dolocal.py. -/

import Derived.Test.YtapbjnfopniicaaGreatDoorGorH

import Derived.Test.YtapbjnfopniicaaGreatDoorCalcS

import Derived.Test.YtapbjnfopniicaaGreatDoorGorOver

import Derived.Test.YtapbjnfopniicaaGreatDoorGInv

import Derived.Deep.Cut

namespace Go.Proofs.YtapbjnfopniicaaGreatDoor
set_option linter.unusedSimpArgs false
set_option linter.unusedVariables false
open Go.RowKit

theorem HoldG.reg {F : Nat → Prop} {pr pc st : Int} {regs : List Int} {tr : List DItem} {W : World} {A2 A4 : Option Addr} {n2 c2 n4 c4 : Nat} (h : HoldG F ⟨pr, pc, regs, st, tr⟩ W A2 n2 c2 A4 n4 c4) (hn : 0 < n2) :
    ∃ b, A2 = some ⟨b, 0, none⟩ ∧ F b ∧ b < W.heap.size ∧ (∀ r (hr : r < n2), ∃ hx : r < regs.length, W.cell? ⟨b, r, none⟩ = some (.int .i64 regs[r]) ∧ W.frozen? ⟨b, r, none⟩ = false) ∧
      ∀ r v, r < n2 → (Lit.int .i64 v).wf = true → HoldG F ⟨pr, pc, regs.set r v, st, tr⟩ (W.setCell ⟨b, r, none⟩ (.int .i64 v)) A2 n2 c2 A4 n4 c4 := by
  obtain ⟨h0, h1, h3, h2, h4, F2, F4, o2, o4, hF, hd⟩ := h
  simp only at h0 h1 h3 h2 h4 o2 o4
  obtain ⟨hx, b, G, vs, rfl, hFb, -⟩ := o2.focus hn
  refine ⟨b, rfl, (hF b (.inl hFb)).1, (hF b (.inl hFb)).2, fun r hr => ?_, fun r v hr hv => ?_⟩
  · obtain ⟨hx, b', G, vs, hb', -, -, -, -, ⟨rfl, -⟩, hcell, hfr, -⟩ := o2.focus hr
    injection hb' with hb'
    injection hb' with hb' _
    subst hb'
    have c0 := hcell 0 _ (by decide) rfl
    have f0 := hfr r
    simp only [show Lay.int.size = 1 from rfl, Nat.mul_one, Nat.add_zero, Nat.zero_add] at c0
    exact ⟨hx, c0, f0⟩
  · refine ⟨h0, h1, h3, by simp only [List.length_set]; exact h2, h4, F2, F4, o2.setI hr hv, OwnR.setCell o4 (fun hb => hd b hFb hb) _, fun g hg => ⟨(hF g hg).1, by simp only [World.size_setCell]; exact (hF g hg).2⟩, hd⟩
theorem HoldG.regSet {F : Nat → Prop} {pr pc st : Int} {regs : List Int} {tr : List DItem} {W : World} {bg : Nat} {A4 : Option Addr} {n2 c2 n4 c4 : Nat} (h : HoldG F ⟨pr, pc, regs, st, tr⟩ W (some ⟨bg, 0, none⟩) n2 c2 A4 n4 c4) {r : Nat} {v : Int} (hr : r < n2) (hv : (Lit.int .i64 v).wf = true) :
    HoldG F ⟨pr, pc, regs.set r v, st, tr⟩ (W.setCell ⟨bg, r, none⟩ (.int .i64 v)) (some ⟨bg, 0, none⟩) n2 c2 A4 n4 c4 := by
  obtain ⟨b, hb, -, -, -, hs⟩ := h.reg (by omega)
  injection hb with hb
  injection hb with hb _
  subst hb
  exact hs r v hr hv
theorem HoldG.regCell {F : Nat → Prop} {pr pc st : Int} {regs : List Int} {tr : List DItem} {W : World} {bg : Nat} {A4 : Option Addr} {n2 c2 n4 c4 : Nat} (h : HoldG F ⟨pr, pc, regs, st, tr⟩ W (some ⟨bg, 0, none⟩) n2 c2 A4 n4 c4) {r : Nat} (hr : r < n2) :
    W.cell? ⟨bg, r, none⟩ = some (.int .i64 (regZ ⟨pr, pc, regs, st, tr⟩ r)) ∧ W.frozen? ⟨bg, r, none⟩ = false := by
  obtain ⟨b, hb, -, -, hc, -⟩ := h.reg (by omega)
  injection hb with hb
  injection hb with hb _
  subst hb
  obtain ⟨hx, h1, h2⟩ := hc r hr
  refine ⟨?_, h2⟩
  rw [h1]
  unfold regZ
  simp [hx]
theorem HoldG.set {F : Nat → Prop} {x : DGor} {W : World} {A2 A4 : Option Addr} {n2 c2 n4 c4 b j : Nat} {u : Value} (h : HoldG F x W A2 n2 c2 A4 n4 c4) (hb : ¬ F b) : HoldG F x (W.setCell ⟨b, j, none⟩ u) A2 n2 c2 A4 n4 c4 :=
  h.stay (fun k hk _ => Below.heap_setCell _ _ _ k (by simp only; intro he; exact hb (he ▸ hk))) (by simp only [World.size_setCell]; exact Nat.le_refl _)
def DoneE (lo bo : Nat) (i : DInstr) (x : DGor) (w : World) (e : Ending) (w' : World) : Prop :=
  ∃ (xp xc : Int) (xr : List Int) (xs : Int) (xt : List DItem) (E2 : Option Addr) (k2 e2 : Nat) (E4 : Option Addr) (k4 e4 : Nat), stepR i x = ⟨xp, xc, xr, xs, xt⟩ ∧
      e = .returned (.agg #[.int .i64 xp, .int .i64 xc, .slice E2 k2 e2, .int .i64 xs, .slice E4 k4 e4]) ∧ HoldG (fun b => lo ≤ b ∧ b ≠ bo) ⟨xp, xc, xr, xs, xt⟩ w' E2 k2 e2 E4 k4 e4 ∧ Below lo w w' ∧ w'.heap[bo]? = w.heap[bo]?

set_option maxRecDepth 100000 in
set_option maxHeartbeats 20000000 in
theorem doLocal_any {w : World} {lo bo : Nat} {p : DProg} {iop ia ib ic pr pc st : Int} {regs : List Int} {tr : List DItem} {A2 A4 : Option Addr} {n2 c2 n4 c4 : Nat} (h : HoldG (fun b => lo ≤ b ∧ b ≠ bo) ⟨pr, pc, regs, st, tr⟩ w A2 n2 c2 A4 n4 c4) (hlo : lo ≤ w.heap.size) (hbo : bo < w.heap.size) (hlb : lo ≤ bo) (hng : szGor ⟨pr, pc, regs, st, tr⟩ ≤ 1048576) (hok : progOkB p = true) (hgd : GoodG p ⟨pr, pc, regs, st, tr⟩) (L : LocalI p ⟨pr, pc, regs, st, tr⟩ ⟨iop, ia, ib, ic⟩) :
    Calls Tryz.prog 97 #[.agg #[.int .i64 iop, .int .i64 ia, .int .i64 ib, .int .i64 ic], .agg #[.int .i64 pr, .int .i64 pc, .slice A2 n2 c2, .int .i64 st, .slice A4 n4 c4]] w (DoneE lo bo ⟨iop, ia, ib, ic⟩ ⟨pr, pc, regs, st, tr⟩ w) := by
  replace h := h.wide (F' := fun b => lo ≤ b ∧ b ≠ bo ∧ b < w.heap.size) (fun k hk hlt => ⟨hk.1, hk.2, hlt⟩)
  have hn2 : n2 = 6 := h.2.2.2.1.trans hgd.2.1
  have hrv := hgd.2
  have hpc := hgd.1.1
  have hpc2 := Int.lt_of_lt_of_le hgd.1.2 (instrsZ_small hok pr)
  have hsm := Lib.hid (instrsZ_small hok pr)
  have hop := L.op
  have LX := Lib.hid L
  have HWF := Lib.hid (And.intro h.1 (And.intro h.2.1 h.2.2.1))
  simp only at hrv hpc hpc2 hop HWF
  have HO := Lib.hid (fun (W : World) (hW : Below w.heap.size w W) => implOver_any (y := 0) (HoldG.see (h.stay (fun k _ hk => hW.block k hk) hW.size)) (Nat.le_refl _) hng (by decide))
  have HRZ := Lib.hid (fun (r : Int) (hr : 0 ≤ r ∧ r ≤ 5) => regZ_ok (g := ⟨pr, pc, regs, st, tr⟩) hr hrv.1 hrv.2)
  have hrl := Lib.hid hrv.1
  subst hn2
  obtain ⟨bg, rfl, hFg, hbgs, hregc, hregs⟩ := h.reg (by decide)
  have HH := Lib.hid h
  obtain ⟨hlg, hgb, -⟩ := hFg
  clear L hng hgd hrv h hregs
  have hI0 := box_new w #[.int .i64 iop, .int .i64 ia, .int .i64 ib, .int .i64 ic] 52
  have hI0 := box_keep hI0 ((Below.refl _ _).alloc (Nat.le_refl _) (.cells #[.int .i64 pr, .int .i64 pc, .slice (some ⟨bg, 0, none⟩) 6 c2, .int .i64 st, .slice A4 n4 c4] 34)) (by simp only [World.size_alloc]; omega)
  have hI0 := box_keep hI0 ((Below.refl _ _).alloc (Nat.le_refl _) (.cells #[.int .i64 0, .int .i64 0, .slice none 0 0, .int .i64 0, .slice none 0 0] 34)) (by simp only [World.size_alloc]; omega)
  have hG0 := box_new (w.alloc (.cells #[.int .i64 iop, .int .i64 ia, .int .i64 ib, .int .i64 ic] 52)) #[.int .i64 pr, .int .i64 pc, .slice (some ⟨bg, 0, none⟩) 6 c2, .int .i64 st, .slice A4 n4 c4] 34
  have hG0 := box_keep hG0 ((Below.refl _ _).alloc (Nat.le_refl _) (.cells #[.int .i64 0, .int .i64 0, .slice none 0 0, .int .i64 0, .slice none 0 0] 34)) (by simp only [World.size_alloc]; omega)
  simp only [World.size_alloc, Nat.add_assoc, Nat.reduceAdd] at hG0
  have hR0 := box_new ((w.alloc (.cells #[.int .i64 iop, .int .i64 ia, .int .i64 ib, .int .i64 ic] 52)).alloc (.cells #[.int .i64 pr, .int .i64 pc, .slice (some ⟨bg, 0, none⟩) 6 c2, .int .i64 st, .slice A4 n4 c4] 34)) #[.int .i64 0, .int .i64 0, .slice none 0 0, .int .i64 0, .slice none 0 0] 34
  simp only [World.size_alloc, Nat.add_assoc, Nat.reduceAdd] at hR0
  have hB0 : Below w.heap.size w (((w.alloc (.cells #[.int .i64 iop, .int .i64 ia, .int .i64 ib, .int .i64 ic] 52)).alloc (.cells #[.int .i64 pr, .int .i64 pc, .slice (some ⟨bg, 0, none⟩) 6 c2, .int .i64 st, .slice A4 n4 c4] 34)).alloc (.cells #[.int .i64 0, .int .i64 0, .slice none 0 0, .int .i64 0, .slice none 0 0] 34)) := (((Below.refl _ _).alloc (Nat.le_refl _) _).alloc (by simp only [World.size_alloc]; omega) _).alloc (by simp only [World.size_alloc]; omega) _
  have hz0 : w.heap.size + 3 ≤ (((w.alloc (.cells #[.int .i64 iop, .int .i64 ia, .int .i64 ib, .int .i64 ic] 52)).alloc (.cells #[.int .i64 pr, .int .i64 pc, .slice (some ⟨bg, 0, none⟩) 6 c2, .int .i64 st, .slice A4 n4 c4] 34)).alloc (.cells #[.int .i64 0, .int .i64 0, .slice none 0 0, .int .i64 0, .slice none 0 0] 34)).heap.size := by simp only [World.size_alloc]; omega
  have HH0 := Lib.hid (HH.out.stay (fun k _ hk => hB0.block k hk) hB0.size)
  go_enter Tryz.func97, Tryz.ntmps97
  go_upto_region 1 with (fail)
  generalize (((w.alloc (.cells #[.int .i64 iop, .int .i64 ia, .int .i64 ib, .int .i64 ic] 52)).alloc (.cells #[.int .i64 pr, .int .i64 pc, .slice (some ⟨bg, 0, none⟩) 6 c2, .int .i64 st, .slice A4 n4 c4] 34)).alloc (.cells #[.int .i64 0, .int .i64 0, .slice none 0 0, .int .i64 0, .slice none 0 0] 34)) = W0 at *
  have HI0 := Lib.hid hI0
  have HG0 := Lib.hid hG0
  have HR0 := Lib.hid hR0
  have HB0 := Lib.hid hB0
  clear hI0 hG0 hR0 hB0 hregc
  have i0 := box_cell (j := 0) HI0.out rfl
  have i1 := box_cell (j := 1) HI0.out rfl
  have i2 := box_cell (j := 2) HI0.out rfl
  have i3 := box_cell (j := 3) HI0.out rfl
  have g0 := box_cell (j := 0) HG0.out rfl
  have g1 := box_cell (j := 1) HG0.out rfl
  have g2 := box_cell (j := 2) HG0.out rfl
  have g3 := box_cell (j := 3) HG0.out rfl
  have g4 := box_cell (j := 4) HG0.out rfl
  have hsplit : iop = 1 ∨ iop = 2 ∨ (iop = 3 ∨ iop = 4 ∨ iop = 5) ∨ iop = 6 ∨ iop = 7 := by omega
  clear hop
  have hbg0 : bg < W0.heap.size := by omega
  rcases hsplit with rfl | rfl | h3 | rfl | rfl
  · skip
    have HST := Lib.hid (show stepR ⟨1, ia, ib, ic⟩ ⟨pr, pc, regs, st, tr⟩ = ⟨pr, pc, regs, 3, tr ++ [⟨9, 0, 0, false⟩]⟩ from rfl)
    go_wp2_with fail
    refine (HO.out _ HB0.out).mono ?_
    rintro e w5 hC
    obtain ⟨D2, q2, f2, D4, q4, f4, rfl, H5, hb5⟩ := hold_of hC HWF.out.1 HWF.out.2.1 (show (Lit.int .i64 3).wf = true by decide)
    clear hC
    have hz5 := hb5.size
    simp only [overR, tellR, if_true] at H5 ⊢
    clear g0 g1 g2 g3 g4
    clear i0 i1 i2 i3
    have HR5 := Lib.hid (box_keep HR0.out hb5 (by omega))
    have HB5 := Lib.hid (HB0.out.trans (hb5.mono (by omega)))
    have HH5 := Lib.hid H5
    clear H5 hb5
    have r0 := box_cell (j := 0) HR5.out rfl
    have r1 := box_cell (j := 1) HR5.out rfl
    have r2 := box_cell (j := 2) HR5.out rfl
    have r3 := box_cell (j := 3) HR5.out rfl
    have r4 := box_cell (j := 4) HR5.out rfl
    have rf0 := box_free HR5.out 0
    have rf1 := box_free HR5.out 1
    have rf2 := box_free HR5.out 2
    have rf3 := box_free HR5.out 3
    have rf4 := box_free HR5.out 4
    go_wp2_with fail
    have hfin := put5 (u0 := (.int .i64 pr)) (u1 := (.int .i64 pc)) (u2 := (.slice D2 q2 f2)) (u3 := (.int .i64 3)) (u4 := (.slice D4 q4 f4)) HR5.out
    have y0 := box_cell (j := 0) hfin.1 rfl
    have y1 := box_cell (j := 1) hfin.1 rfl
    have y2 := box_cell (j := 2) hfin.1 rfl
    have y3 := box_cell (j := 3) hfin.1 rfl
    have y4 := box_cell (j := 4) hfin.1 rfl
    refine bodyPost_ret (v := .agg #[.int .i64 pr, .int .i64 pc, .slice D2 q2 f2, .int .i64 3, .slice D4 q4 f4]) (by simp [results, Tryz.results97, go_sem, y0, y1, y2, y3, y4]) rfl ?_
    exact ⟨pr, pc, regs, 3, tr ++ [⟨9, 0, 0, false⟩], _, _, _, _, _, _, HST.out, rfl, (HH5.out.stay (fun k hk _ => hfin.2.1 k (by have := hk.1; omega)) (Nat.le_of_eq hfin.2.2.symm)).wide (fun k hk _ => ⟨by have := hk.1; omega, by have := hk.1; omega⟩), below_put5 (HB5.out.mono hlo) (by omega), (hfin.2.1 _ (by omega)).trans (HB5.out.block _ hbo)⟩
  · skip
    have hL2 := LX.out.set rfl
    simp only at hL2
    obtain ⟨ka, rfl⟩ : ∃ k : Nat, ia = k := ⟨ia.toNat, by omega⟩
    have hka : ka < 6 := by omega
    have hka0 : (0 : Int) ≤ (ka : Int) := by omega
    have hka1 : (ka : Int) < 6 := by omega
    have HST := Lib.hid (show stepR ⟨2, (ka : Int), ib, ic⟩ ⟨pr, pc, regs, st, tr⟩ = ⟨pr, pc + 1, regs.set ka ib, st, tr⟩ from rfl)
    obtain ⟨rc, rf⟩ := HH0.out.regCell hka
    have HL2 := Lib.hid (wf_val (v := ib) (by omega))
    clear hL2
    go_upto_region 16 with (fail)
    have HBW := Lib.hid HB0.out
    have HH1 := Lib.hid (HoldG.regSet (r := ka) (v := ib) HH0.out hka HL2.out)
    have HB1 := Lib.hid (below_set (p := ⟨bg, ka, none⟩) (HB0.out.mono hlo) hlg (.int .i64 ib))
    have HG1 := Lib.hid ((Below.heap_setCell W0 ⟨bg, ka, none⟩ (.int .i64 ib) (w.heap.size + 1) (by simp only; omega)).trans HG0.out)
    have HR1 := Lib.hid ((Below.heap_setCell W0 ⟨bg, ka, none⟩ (.int .i64 ib) (w.heap.size + 2) (by simp only; omega)).trans HR0.out)
    have HK1 := Lib.hid ((Below.heap_setCell W0 ⟨bg, ka, none⟩ (.int .i64 ib) bo (by simp only; omega)).trans (HBW.out.block _ hbo))
    have hz1 : w.heap.size + 3 ≤ (W0.setCell ⟨bg, ka, none⟩ (.int .i64 ib)).heap.size := by simp only [World.size_setCell]; omega
    generalize (W0.setCell ⟨bg, ka, none⟩ (.int .i64 ib)) = W1 at *
    clear rc rf
    clear g0 g1 g2 g3 g4
    clear i0 i1 i2 i3
    have g0 := box_cell (j := 0) HG1.out rfl
    have g1 := box_cell (j := 1) HG1.out rfl
    have g2 := box_cell (j := 2) HG1.out rfl
    have g3 := box_cell (j := 3) HG1.out rfl
    have g4 := box_cell (j := 4) HG1.out rfl
    have gf1 := box_free HG1.out 1
    go_upto_region 17 with (fail)
    have hput7 := put1 (j := 1) (u := .int .i64 (pc + 1)) HG1.out
    have HBx := Lib.hid (below_set (p := ⟨w.heap.size + 1, 1, none⟩) HB1.out (by simp only; omega) (.int .i64 (pc + 1)))
    have HK9 := Lib.hid ((Below.heap_setCell W1 ⟨w.heap.size + 1, 1, none⟩ (.int .i64 (pc + 1)) bo (by simp only; omega)).trans HK1.out)
    have HH7 := Lib.hid (((HH1.out).set (b := w.heap.size + 1) (j := 1) (u := .int .i64 (pc + 1)) (fun hb9 => by have := hb9.2.2; omega)).pc (v := (pc + 1)) (wf_val (by omega)))
    generalize (W1.setCell ⟨w.heap.size + 1, 1, none⟩ (.int .i64 (pc + 1))) = W7 at *
    obtain ⟨hG7, hk7, hs7⟩ := hput7
    have HRx := Lib.hid ((hk7 _ (by omega)).trans HR1.out)
    clear g0 g1 g2 g3 g4
    clear gf1 hk7
    have g0 := box_cell (j := 0) hG7 rfl
    have g1 := box_cell (j := 1) hG7 rfl
    have g2 := box_cell (j := 2) hG7 rfl
    have g3 := box_cell (j := 3) hG7 rfl
    have g4 := box_cell (j := 4) hG7 rfl
    have r0 := box_cell (j := 0) HRx.out rfl
    have r1 := box_cell (j := 1) HRx.out rfl
    have r2 := box_cell (j := 2) HRx.out rfl
    have r3 := box_cell (j := 3) HRx.out rfl
    have r4 := box_cell (j := 4) HRx.out rfl
    have rf0 := box_free HRx.out 0
    have rf1 := box_free HRx.out 1
    have rf2 := box_free HRx.out 2
    have rf3 := box_free HRx.out 3
    have rf4 := box_free HRx.out 4
    go_wp2_with fail
    have hfin := put5 (u0 := (.int .i64 pr)) (u1 := (.int .i64 (pc + 1))) (u2 := (.slice (some ⟨bg, 0, none⟩) 6 c2)) (u3 := (.int .i64 st)) (u4 := (.slice A4 n4 c4)) HRx.out
    have y0 := box_cell (j := 0) hfin.1 rfl
    have y1 := box_cell (j := 1) hfin.1 rfl
    have y2 := box_cell (j := 2) hfin.1 rfl
    have y3 := box_cell (j := 3) hfin.1 rfl
    have y4 := box_cell (j := 4) hfin.1 rfl
    refine bodyPost_ret (v := .agg #[.int .i64 pr, .int .i64 (pc + 1), .slice (some ⟨bg, 0, none⟩) 6 c2, .int .i64 st, .slice A4 n4 c4]) (by simp [results, Tryz.results97, go_sem, y0, y1, y2, y3, y4]) rfl ?_
    exact ⟨pr, pc + 1, regs.set ka ib, st, tr, _, _, _, _, _, _, HST.out, rfl, (HH7.out.stay (fun k hk _ => hfin.2.1 k (by have := hk.2.2; omega)) (Nat.le_of_eq hfin.2.2.symm)).wide (fun k hk _ => ⟨hk.1, hk.2.1⟩), below_put5 HBx.out (by omega), (hfin.2.1 _ (by omega)).trans HK9.out⟩
  · skip
    have hL3 := LX.out.calc3 h3
    simp only at hL3
    obtain ⟨ka, hkaE⟩ : ∃ k : Nat, ia = k := ⟨ia.toNat, by omega⟩
    obtain ⟨kb, hkbE⟩ : ∃ k : Nat, ib = k := ⟨ib.toNat, by omega⟩
    obtain ⟨kc, hkcE⟩ : ∃ k : Nat, ic = k := ⟨ic.toNat, by omega⟩
    have hst : stepR ⟨iop, ia, ib, ic⟩ ⟨pr, pc, regs, st, tr⟩ = ⟨pr, pc + 1, regs.set ia.toNat (calcZ iop (regZ ⟨pr, pc, regs, st, tr⟩ ib) (regZ ⟨pr, pc, regs, st, tr⟩ ic)), st, tr⟩ := by
      unfold stepR
      rw [if_neg (by simp only; omega), if_neg (by simp only; omega), if_pos (by simpa using h3)]
    have HRb := Lib.hid (HRZ.out ib hL3.2.1)
    have HRc := Lib.hid (HRZ.out ic hL3.2.2)
    subst hkaE
    subst hkbE
    subst hkcE
    rw [Int.toNat_natCast] at hst
    have hka : ka < 6 := by omega
    have hka0 : (0 : Int) ≤ (ka : Int) := by omega
    have hka1 : (ka : Int) < 6 := by omega
    have hkb : kb < 6 := by omega
    have hkb0 : (0 : Int) ≤ (kb : Int) := by omega
    have hkb1 : (kb : Int) < 6 := by omega
    have hkc : kc < 6 := by omega
    have hkc0 : (0 : Int) ≤ (kc : Int) := by omega
    have hkc1 : (kc : Int) < 6 := by omega
    clear hL3
    have HCA := Lib.hid (fun (W : World) (hW : Below W0.heap.size W0 W) => (HH0.out.stay (fun k _ hk => hW.block k hk) hW.size).regCell hka)
    have HCB := Lib.hid (fun (W : World) (hW : Below W0.heap.size W0 W) => (HH0.out.stay (fun k _ hk => hW.block k hk) hW.size).regCell hkb)
    have HCC := Lib.hid (fun (W : World) (hW : Below W0.heap.size W0 W) => (HH0.out.stay (fun k _ hk => hW.block k hk) hW.size).regCell hkc)
    generalize regZ ⟨pr, pc, regs, st, tr⟩ (kb : Int) = xb at *
    generalize regZ ⟨pr, pc, regs, st, tr⟩ (kc : Int) = xc at *
    have h1 : ¬ iop = 1 := by omega
    have h2 : ¬ iop = 2 := by omega
    have H3 := Lib.hid h3
    obtain ⟨xv, hxv⟩ : ∃ xv, xv = calcZ iop xb xc := ⟨_, rfl⟩
    have HVW := Lib.hid (wf_val (v := xv) (by rw [hxv]; have := calcZ_ok iop xb xc; omega))
    have HCl := Lib.hid (fun (W : World) => show Calls Tryz.prog 113 #[.int .i64 iop, .int .i64 xb, .int .i64 xc] W fun e w' => e = .returned (.int .i64 xv) ∧ W = w' from by rw [hxv]; exact implCalc_any H3.out HRb.out HRc.out W)
    rw [← hxv] at hst
    have HST := Lib.hid hst
    clear hst hxv
    rcases h3 with hop | hop | hop
    · skip
      subst hop
      go_upto_region 10 with (fail)
      clear h1 h2
      clear i0 i1 i2 i3
      clear g0 g1 g2 g3 g4
      refine wp_region_inv (fun AC0 L a W => ∃ sl28 sl29 sl30 sl31 sl32 sl33 sl34 sl35 sl36 sl37 sl38 sl39 sl40 sl41 sl42 sl43 sl44 sl45 sl46 sl47 : Value, a = ((((((((((((((((((((AC0.put (some 28) sl28).put (some 29) sl29).put (some 30) sl30).put (some 31) sl31).put (some 32) sl32).put (some 33) sl33).put (some 34) sl34).put (some 35) sl35).put (some 36) sl36).put (some 37) sl37).put (some 38) sl38).put (some 39) sl39).put (some 40) sl40).put (some 41) sl41).put (some 42) sl42).put (some 43) sl43).put (some 44) sl44).put (some 45) sl45).put (some 46) sl46).put (some 47) sl47) ∧ (((∀ j, 20 ≤ j → ¬ L j) ∧ Below W0.heap.size W0 W ∧ (L 0 → sl28 = .pointer (some ⟨w.heap.size + 1, 2, none⟩)) ∧ (L 1 → sl29 = (.slice (some ⟨bg, 0, none⟩) 6 c2)) ∧ (L 2 → sl30 = .pointer (some ⟨w.heap.size, 1, none⟩)) ∧ (L 3 → sl31 = (.int .i64 (ka : Int))) ∧ (L 4 → sl32 = .pointer (some ⟨w.heap.size, 0, none⟩)) ∧ (L 5 → sl33 = (.int .i64 3)) ∧ (L 6 → sl34 = .pointer (some ⟨w.heap.size + 1, 2, none⟩)) ∧ (L 7 → sl35 = (.slice (some ⟨bg, 0, none⟩) 6 c2)) ∧ (L 8 → sl36 = .pointer (some ⟨w.heap.size, 2, none⟩)) ∧ (L 9 → sl37 = (.int .i64 (kb : Int))) ∧ (L 10 → sl38 = .pointer (some ⟨bg, kb, none⟩)) ∧ (L 11 → sl39 = (.int .i64 xb)) ∧ (L 12 → sl40 = .pointer (some ⟨w.heap.size + 1, 2, none⟩)) ∧ (L 13 → sl41 = (.slice (some ⟨bg, 0, none⟩) 6 c2)) ∧ (L 14 → sl42 = .pointer (some ⟨w.heap.size, 3, none⟩)) ∧ (L 15 → sl43 = (.int .i64 (kc : Int))) ∧ (L 16 → sl44 = .pointer (some ⟨bg, kc, none⟩)) ∧ (L 17 → sl45 = (.int .i64 xc)) ∧ (L 18 → sl46 = (.int .i64 xv)) ∧ (L 19 → sl47 = .pointer (some ⟨bg, ka, none⟩))) ∨ ((∀ j, j < 21 → L j) ∧ (∀ j, 21 ≤ j → ¬ L j) ∧ ∃ (w5 : World), W = w5.setCell ⟨bg, ka, none⟩ (.int .i64 xv) ∧ Below W0.heap.size W0 w5))) (by kernel_rfl) (by kernel_rfl) ?_ ?_ ?_
      · exact ⟨undef, undef, undef, undef, undef, undef, undef, undef, undef, undef, undef, undef, undef, undef, undef, undef, undef, undef, undef, undef, by simp only [Act.put, List.setIfInBounds_toArray, List.set_cons_zero, List.set_cons_succ], .inl ⟨fun _ _ h => h, Below.drew (Below.refl _ _), fun h => absurd h id, fun h => absurd h id, fun h => absurd h id, fun h => absurd h id, fun h => absurd h id, fun h => absurd h id, fun h => absurd h id, fun h => absurd h id, fun h => absurd h id, fun h => absurd h id, fun h => absurd h id, fun h => absurd h id, fun h => absurd h id, fun h => absurd h id, fun h => absurd h id, fun h => absurd h id, fun h => absurd h id, fun h => absurd h id, fun h => absurd h id, fun h => absurd h id⟩⟩
      · intro Q9; refine InvFrom.cons (fun L a W hI hN hD K hK => ?_) ?_
        · obtain ⟨sl28, sl29, sl30, sl31, sl32, sl33, sl34, sl35, sl36, sl37, sl38, sl39, sl40, sl41, sl42, sl43, sl44, sl45, sl46, sl47, ha, hI⟩ := hI
          subst ha
          rcases hI with hI | h9
          rotate_left
          · exact absurd (h9.1 0 (by decide)) hN
          obtain ⟨hn, hB, f0, f1, f2, f3, f4, f5, f6, f7, f8, f9, f10, f11, f12, f13, f14, f15, f16, f17, f18, f19⟩ := hI
          have hz := hB.size
          refine Kept.mk ?_
          simp only [Act.put, List.setIfInBounds_toArray, List.set_cons_zero, List.set_cons_succ]
          go_simp
          refine hK.out _ _ ?_
          exact ⟨.pointer (some ⟨w.heap.size + 1, 2, none⟩), sl29, sl30, sl31, sl32, sl33, sl34, sl35, sl36, sl37, sl38, sl39, sl40, sl41, sl42, sl43, sl44, sl45, sl46, sl47, by simp only [Act.put, List.setIfInBounds_toArray, List.set_cons_zero, List.set_cons_succ], .inl ⟨fun j hj h => h.elim (hn j hj) (by omega), hB, fun _ => rfl, fun h => f1 (h.resolve_right (by decide)), fun h => f2 (h.resolve_right (by decide)), fun h => f3 (h.resolve_right (by decide)), fun h => f4 (h.resolve_right (by decide)), fun h => f5 (h.resolve_right (by decide)), fun h => f6 (h.resolve_right (by decide)), fun h => f7 (h.resolve_right (by decide)), fun h => f8 (h.resolve_right (by decide)), fun h => f9 (h.resolve_right (by decide)), fun h => f10 (h.resolve_right (by decide)), fun h => f11 (h.resolve_right (by decide)), fun h => f12 (h.resolve_right (by decide)), fun h => f13 (h.resolve_right (by decide)), fun h => f14 (h.resolve_right (by decide)), fun h => f15 (h.resolve_right (by decide)), fun h => f16 (h.resolve_right (by decide)), fun h => f17 (h.resolve_right (by decide)), fun h => f18 (h.resolve_right (by decide)), fun h => f19 (h.resolve_right (by decide))⟩⟩
        refine InvFrom.cons (fun L a W hI hN hD K hK => ?_) ?_
        · obtain ⟨sl28, sl29, sl30, sl31, sl32, sl33, sl34, sl35, sl36, sl37, sl38, sl39, sl40, sl41, sl42, sl43, sl44, sl45, sl46, sl47, ha, hI⟩ := hI
          subst ha
          rcases hI with hI | h9
          rotate_left
          · exact absurd (h9.1 1 (by decide)) hN
          obtain ⟨hn, hB, f0, f1, f2, f3, f4, f5, f6, f7, f8, f9, f10, f11, f12, f13, f14, f15, f16, f17, f18, f19⟩ := hI
          have hz := hB.size
          have d0 := f0 (hD 0 (by kernel_rfl))
          subst d0
          have pg0 := box_cell (j := 0) (box_keep HG0.out hB (by omega)) rfl
          have pg1 := box_cell (j := 1) (box_keep HG0.out hB (by omega)) rfl
          have pg2 := box_cell (j := 2) (box_keep HG0.out hB (by omega)) rfl
          have pg3 := box_cell (j := 3) (box_keep HG0.out hB (by omega)) rfl
          have pg4 := box_cell (j := 4) (box_keep HG0.out hB (by omega)) rfl
          refine Kept.mk ?_
          simp only [Act.put, List.setIfInBounds_toArray, List.set_cons_zero, List.set_cons_succ]
          go_simp
          refine hK.out _ _ ?_
          exact ⟨.pointer (some ⟨w.heap.size + 1, 2, none⟩), (.slice (some ⟨bg, 0, none⟩) 6 c2), sl30, sl31, sl32, sl33, sl34, sl35, sl36, sl37, sl38, sl39, sl40, sl41, sl42, sl43, sl44, sl45, sl46, sl47, by simp only [Act.put, List.setIfInBounds_toArray, List.set_cons_zero, List.set_cons_succ], .inl ⟨fun j hj h => h.elim (hn j hj) (by omega), hB, fun h => f0 (h.resolve_right (by decide)), fun _ => rfl, fun h => f2 (h.resolve_right (by decide)), fun h => f3 (h.resolve_right (by decide)), fun h => f4 (h.resolve_right (by decide)), fun h => f5 (h.resolve_right (by decide)), fun h => f6 (h.resolve_right (by decide)), fun h => f7 (h.resolve_right (by decide)), fun h => f8 (h.resolve_right (by decide)), fun h => f9 (h.resolve_right (by decide)), fun h => f10 (h.resolve_right (by decide)), fun h => f11 (h.resolve_right (by decide)), fun h => f12 (h.resolve_right (by decide)), fun h => f13 (h.resolve_right (by decide)), fun h => f14 (h.resolve_right (by decide)), fun h => f15 (h.resolve_right (by decide)), fun h => f16 (h.resolve_right (by decide)), fun h => f17 (h.resolve_right (by decide)), fun h => f18 (h.resolve_right (by decide)), fun h => f19 (h.resolve_right (by decide))⟩⟩
        refine InvFrom.cons (fun L a W hI hN hD K hK => ?_) ?_
        · obtain ⟨sl28, sl29, sl30, sl31, sl32, sl33, sl34, sl35, sl36, sl37, sl38, sl39, sl40, sl41, sl42, sl43, sl44, sl45, sl46, sl47, ha, hI⟩ := hI
          subst ha
          rcases hI with hI | h9
          rotate_left
          · exact absurd (h9.1 2 (by decide)) hN
          obtain ⟨hn, hB, f0, f1, f2, f3, f4, f5, f6, f7, f8, f9, f10, f11, f12, f13, f14, f15, f16, f17, f18, f19⟩ := hI
          have hz := hB.size
          refine Kept.mk ?_
          simp only [Act.put, List.setIfInBounds_toArray, List.set_cons_zero, List.set_cons_succ]
          go_simp
          refine hK.out _ _ ?_
          exact ⟨sl28, sl29, .pointer (some ⟨w.heap.size, 1, none⟩), sl31, sl32, sl33, sl34, sl35, sl36, sl37, sl38, sl39, sl40, sl41, sl42, sl43, sl44, sl45, sl46, sl47, by simp only [Act.put, List.setIfInBounds_toArray, List.set_cons_zero, List.set_cons_succ], .inl ⟨fun j hj h => h.elim (hn j hj) (by omega), hB, fun h => f0 (h.resolve_right (by decide)), fun h => f1 (h.resolve_right (by decide)), fun _ => rfl, fun h => f3 (h.resolve_right (by decide)), fun h => f4 (h.resolve_right (by decide)), fun h => f5 (h.resolve_right (by decide)), fun h => f6 (h.resolve_right (by decide)), fun h => f7 (h.resolve_right (by decide)), fun h => f8 (h.resolve_right (by decide)), fun h => f9 (h.resolve_right (by decide)), fun h => f10 (h.resolve_right (by decide)), fun h => f11 (h.resolve_right (by decide)), fun h => f12 (h.resolve_right (by decide)), fun h => f13 (h.resolve_right (by decide)), fun h => f14 (h.resolve_right (by decide)), fun h => f15 (h.resolve_right (by decide)), fun h => f16 (h.resolve_right (by decide)), fun h => f17 (h.resolve_right (by decide)), fun h => f18 (h.resolve_right (by decide)), fun h => f19 (h.resolve_right (by decide))⟩⟩
        refine InvFrom.cons (fun L a W hI hN hD K hK => ?_) ?_
        · obtain ⟨sl28, sl29, sl30, sl31, sl32, sl33, sl34, sl35, sl36, sl37, sl38, sl39, sl40, sl41, sl42, sl43, sl44, sl45, sl46, sl47, ha, hI⟩ := hI
          subst ha
          rcases hI with hI | h9
          rotate_left
          · exact absurd (h9.1 3 (by decide)) hN
          obtain ⟨hn, hB, f0, f1, f2, f3, f4, f5, f6, f7, f8, f9, f10, f11, f12, f13, f14, f15, f16, f17, f18, f19⟩ := hI
          have hz := hB.size
          have d2 := f2 (hD 2 (by kernel_rfl))
          subst d2
          have pi0 := box_cell (j := 0) (box_keep HI0.out hB (by omega)) rfl
          have pi1 := box_cell (j := 1) (box_keep HI0.out hB (by omega)) rfl
          have pi2 := box_cell (j := 2) (box_keep HI0.out hB (by omega)) rfl
          have pi3 := box_cell (j := 3) (box_keep HI0.out hB (by omega)) rfl
          refine Kept.mk ?_
          simp only [Act.put, List.setIfInBounds_toArray, List.set_cons_zero, List.set_cons_succ]
          go_simp
          refine hK.out _ _ ?_
          exact ⟨sl28, sl29, .pointer (some ⟨w.heap.size, 1, none⟩), (.int .i64 (ka : Int)), sl32, sl33, sl34, sl35, sl36, sl37, sl38, sl39, sl40, sl41, sl42, sl43, sl44, sl45, sl46, sl47, by simp only [Act.put, List.setIfInBounds_toArray, List.set_cons_zero, List.set_cons_succ], .inl ⟨fun j hj h => h.elim (hn j hj) (by omega), hB, fun h => f0 (h.resolve_right (by decide)), fun h => f1 (h.resolve_right (by decide)), fun h => f2 (h.resolve_right (by decide)), fun _ => rfl, fun h => f4 (h.resolve_right (by decide)), fun h => f5 (h.resolve_right (by decide)), fun h => f6 (h.resolve_right (by decide)), fun h => f7 (h.resolve_right (by decide)), fun h => f8 (h.resolve_right (by decide)), fun h => f9 (h.resolve_right (by decide)), fun h => f10 (h.resolve_right (by decide)), fun h => f11 (h.resolve_right (by decide)), fun h => f12 (h.resolve_right (by decide)), fun h => f13 (h.resolve_right (by decide)), fun h => f14 (h.resolve_right (by decide)), fun h => f15 (h.resolve_right (by decide)), fun h => f16 (h.resolve_right (by decide)), fun h => f17 (h.resolve_right (by decide)), fun h => f18 (h.resolve_right (by decide)), fun h => f19 (h.resolve_right (by decide))⟩⟩
        refine InvFrom.cons (fun L a W hI hN hD K hK => ?_) ?_
        · obtain ⟨sl28, sl29, sl30, sl31, sl32, sl33, sl34, sl35, sl36, sl37, sl38, sl39, sl40, sl41, sl42, sl43, sl44, sl45, sl46, sl47, ha, hI⟩ := hI
          subst ha
          rcases hI with hI | h9
          rotate_left
          · exact absurd (h9.1 4 (by decide)) hN
          obtain ⟨hn, hB, f0, f1, f2, f3, f4, f5, f6, f7, f8, f9, f10, f11, f12, f13, f14, f15, f16, f17, f18, f19⟩ := hI
          have hz := hB.size
          refine Kept.mk ?_
          simp only [Act.put, List.setIfInBounds_toArray, List.set_cons_zero, List.set_cons_succ]
          go_simp
          refine hK.out _ _ ?_
          exact ⟨sl28, sl29, sl30, sl31, .pointer (some ⟨w.heap.size, 0, none⟩), sl33, sl34, sl35, sl36, sl37, sl38, sl39, sl40, sl41, sl42, sl43, sl44, sl45, sl46, sl47, by simp only [Act.put, List.setIfInBounds_toArray, List.set_cons_zero, List.set_cons_succ], .inl ⟨fun j hj h => h.elim (hn j hj) (by omega), hB, fun h => f0 (h.resolve_right (by decide)), fun h => f1 (h.resolve_right (by decide)), fun h => f2 (h.resolve_right (by decide)), fun h => f3 (h.resolve_right (by decide)), fun _ => rfl, fun h => f5 (h.resolve_right (by decide)), fun h => f6 (h.resolve_right (by decide)), fun h => f7 (h.resolve_right (by decide)), fun h => f8 (h.resolve_right (by decide)), fun h => f9 (h.resolve_right (by decide)), fun h => f10 (h.resolve_right (by decide)), fun h => f11 (h.resolve_right (by decide)), fun h => f12 (h.resolve_right (by decide)), fun h => f13 (h.resolve_right (by decide)), fun h => f14 (h.resolve_right (by decide)), fun h => f15 (h.resolve_right (by decide)), fun h => f16 (h.resolve_right (by decide)), fun h => f17 (h.resolve_right (by decide)), fun h => f18 (h.resolve_right (by decide)), fun h => f19 (h.resolve_right (by decide))⟩⟩
        refine InvFrom.cons (fun L a W hI hN hD K hK => ?_) ?_
        · obtain ⟨sl28, sl29, sl30, sl31, sl32, sl33, sl34, sl35, sl36, sl37, sl38, sl39, sl40, sl41, sl42, sl43, sl44, sl45, sl46, sl47, ha, hI⟩ := hI
          subst ha
          rcases hI with hI | h9
          rotate_left
          · exact absurd (h9.1 5 (by decide)) hN
          obtain ⟨hn, hB, f0, f1, f2, f3, f4, f5, f6, f7, f8, f9, f10, f11, f12, f13, f14, f15, f16, f17, f18, f19⟩ := hI
          have hz := hB.size
          have d4 := f4 (hD 4 (by kernel_rfl))
          subst d4
          have pi0 := box_cell (j := 0) (box_keep HI0.out hB (by omega)) rfl
          have pi1 := box_cell (j := 1) (box_keep HI0.out hB (by omega)) rfl
          have pi2 := box_cell (j := 2) (box_keep HI0.out hB (by omega)) rfl
          have pi3 := box_cell (j := 3) (box_keep HI0.out hB (by omega)) rfl
          refine Kept.mk ?_
          simp only [Act.put, List.setIfInBounds_toArray, List.set_cons_zero, List.set_cons_succ]
          go_simp
          refine hK.out _ _ ?_
          exact ⟨sl28, sl29, sl30, sl31, .pointer (some ⟨w.heap.size, 0, none⟩), (.int .i64 3), sl34, sl35, sl36, sl37, sl38, sl39, sl40, sl41, sl42, sl43, sl44, sl45, sl46, sl47, by simp only [Act.put, List.setIfInBounds_toArray, List.set_cons_zero, List.set_cons_succ], .inl ⟨fun j hj h => h.elim (hn j hj) (by omega), hB, fun h => f0 (h.resolve_right (by decide)), fun h => f1 (h.resolve_right (by decide)), fun h => f2 (h.resolve_right (by decide)), fun h => f3 (h.resolve_right (by decide)), fun h => f4 (h.resolve_right (by decide)), fun _ => rfl, fun h => f6 (h.resolve_right (by decide)), fun h => f7 (h.resolve_right (by decide)), fun h => f8 (h.resolve_right (by decide)), fun h => f9 (h.resolve_right (by decide)), fun h => f10 (h.resolve_right (by decide)), fun h => f11 (h.resolve_right (by decide)), fun h => f12 (h.resolve_right (by decide)), fun h => f13 (h.resolve_right (by decide)), fun h => f14 (h.resolve_right (by decide)), fun h => f15 (h.resolve_right (by decide)), fun h => f16 (h.resolve_right (by decide)), fun h => f17 (h.resolve_right (by decide)), fun h => f18 (h.resolve_right (by decide)), fun h => f19 (h.resolve_right (by decide))⟩⟩
        refine InvFrom.cons (fun L a W hI hN hD K hK => ?_) ?_
        · obtain ⟨sl28, sl29, sl30, sl31, sl32, sl33, sl34, sl35, sl36, sl37, sl38, sl39, sl40, sl41, sl42, sl43, sl44, sl45, sl46, sl47, ha, hI⟩ := hI
          subst ha
          rcases hI with hI | h9
          rotate_left
          · exact absurd (h9.1 6 (by decide)) hN
          obtain ⟨hn, hB, f0, f1, f2, f3, f4, f5, f6, f7, f8, f9, f10, f11, f12, f13, f14, f15, f16, f17, f18, f19⟩ := hI
          have hz := hB.size
          refine Kept.mk ?_
          simp only [Act.put, List.setIfInBounds_toArray, List.set_cons_zero, List.set_cons_succ]
          go_simp
          refine hK.out _ _ ?_
          exact ⟨sl28, sl29, sl30, sl31, sl32, sl33, .pointer (some ⟨w.heap.size + 1, 2, none⟩), sl35, sl36, sl37, sl38, sl39, sl40, sl41, sl42, sl43, sl44, sl45, sl46, sl47, by simp only [Act.put, List.setIfInBounds_toArray, List.set_cons_zero, List.set_cons_succ], .inl ⟨fun j hj h => h.elim (hn j hj) (by omega), hB, fun h => f0 (h.resolve_right (by decide)), fun h => f1 (h.resolve_right (by decide)), fun h => f2 (h.resolve_right (by decide)), fun h => f3 (h.resolve_right (by decide)), fun h => f4 (h.resolve_right (by decide)), fun h => f5 (h.resolve_right (by decide)), fun _ => rfl, fun h => f7 (h.resolve_right (by decide)), fun h => f8 (h.resolve_right (by decide)), fun h => f9 (h.resolve_right (by decide)), fun h => f10 (h.resolve_right (by decide)), fun h => f11 (h.resolve_right (by decide)), fun h => f12 (h.resolve_right (by decide)), fun h => f13 (h.resolve_right (by decide)), fun h => f14 (h.resolve_right (by decide)), fun h => f15 (h.resolve_right (by decide)), fun h => f16 (h.resolve_right (by decide)), fun h => f17 (h.resolve_right (by decide)), fun h => f18 (h.resolve_right (by decide)), fun h => f19 (h.resolve_right (by decide))⟩⟩
        refine InvFrom.cons (fun L a W hI hN hD K hK => ?_) ?_
        · obtain ⟨sl28, sl29, sl30, sl31, sl32, sl33, sl34, sl35, sl36, sl37, sl38, sl39, sl40, sl41, sl42, sl43, sl44, sl45, sl46, sl47, ha, hI⟩ := hI
          subst ha
          rcases hI with hI | h9
          rotate_left
          · exact absurd (h9.1 7 (by decide)) hN
          obtain ⟨hn, hB, f0, f1, f2, f3, f4, f5, f6, f7, f8, f9, f10, f11, f12, f13, f14, f15, f16, f17, f18, f19⟩ := hI
          have hz := hB.size
          have d6 := f6 (hD 6 (by kernel_rfl))
          subst d6
          have pg0 := box_cell (j := 0) (box_keep HG0.out hB (by omega)) rfl
          have pg1 := box_cell (j := 1) (box_keep HG0.out hB (by omega)) rfl
          have pg2 := box_cell (j := 2) (box_keep HG0.out hB (by omega)) rfl
          have pg3 := box_cell (j := 3) (box_keep HG0.out hB (by omega)) rfl
          have pg4 := box_cell (j := 4) (box_keep HG0.out hB (by omega)) rfl
          refine Kept.mk ?_
          simp only [Act.put, List.setIfInBounds_toArray, List.set_cons_zero, List.set_cons_succ]
          go_simp
          refine hK.out _ _ ?_
          exact ⟨sl28, sl29, sl30, sl31, sl32, sl33, .pointer (some ⟨w.heap.size + 1, 2, none⟩), (.slice (some ⟨bg, 0, none⟩) 6 c2), sl36, sl37, sl38, sl39, sl40, sl41, sl42, sl43, sl44, sl45, sl46, sl47, by simp only [Act.put, List.setIfInBounds_toArray, List.set_cons_zero, List.set_cons_succ], .inl ⟨fun j hj h => h.elim (hn j hj) (by omega), hB, fun h => f0 (h.resolve_right (by decide)), fun h => f1 (h.resolve_right (by decide)), fun h => f2 (h.resolve_right (by decide)), fun h => f3 (h.resolve_right (by decide)), fun h => f4 (h.resolve_right (by decide)), fun h => f5 (h.resolve_right (by decide)), fun h => f6 (h.resolve_right (by decide)), fun _ => rfl, fun h => f8 (h.resolve_right (by decide)), fun h => f9 (h.resolve_right (by decide)), fun h => f10 (h.resolve_right (by decide)), fun h => f11 (h.resolve_right (by decide)), fun h => f12 (h.resolve_right (by decide)), fun h => f13 (h.resolve_right (by decide)), fun h => f14 (h.resolve_right (by decide)), fun h => f15 (h.resolve_right (by decide)), fun h => f16 (h.resolve_right (by decide)), fun h => f17 (h.resolve_right (by decide)), fun h => f18 (h.resolve_right (by decide)), fun h => f19 (h.resolve_right (by decide))⟩⟩
        refine InvFrom.cons (fun L a W hI hN hD K hK => ?_) ?_
        · obtain ⟨sl28, sl29, sl30, sl31, sl32, sl33, sl34, sl35, sl36, sl37, sl38, sl39, sl40, sl41, sl42, sl43, sl44, sl45, sl46, sl47, ha, hI⟩ := hI
          subst ha
          rcases hI with hI | h9
          rotate_left
          · exact absurd (h9.1 8 (by decide)) hN
          obtain ⟨hn, hB, f0, f1, f2, f3, f4, f5, f6, f7, f8, f9, f10, f11, f12, f13, f14, f15, f16, f17, f18, f19⟩ := hI
          have hz := hB.size
          refine Kept.mk ?_
          simp only [Act.put, List.setIfInBounds_toArray, List.set_cons_zero, List.set_cons_succ]
          go_simp
          refine hK.out _ _ ?_
          exact ⟨sl28, sl29, sl30, sl31, sl32, sl33, sl34, sl35, .pointer (some ⟨w.heap.size, 2, none⟩), sl37, sl38, sl39, sl40, sl41, sl42, sl43, sl44, sl45, sl46, sl47, by simp only [Act.put, List.setIfInBounds_toArray, List.set_cons_zero, List.set_cons_succ], .inl ⟨fun j hj h => h.elim (hn j hj) (by omega), hB, fun h => f0 (h.resolve_right (by decide)), fun h => f1 (h.resolve_right (by decide)), fun h => f2 (h.resolve_right (by decide)), fun h => f3 (h.resolve_right (by decide)), fun h => f4 (h.resolve_right (by decide)), fun h => f5 (h.resolve_right (by decide)), fun h => f6 (h.resolve_right (by decide)), fun h => f7 (h.resolve_right (by decide)), fun _ => rfl, fun h => f9 (h.resolve_right (by decide)), fun h => f10 (h.resolve_right (by decide)), fun h => f11 (h.resolve_right (by decide)), fun h => f12 (h.resolve_right (by decide)), fun h => f13 (h.resolve_right (by decide)), fun h => f14 (h.resolve_right (by decide)), fun h => f15 (h.resolve_right (by decide)), fun h => f16 (h.resolve_right (by decide)), fun h => f17 (h.resolve_right (by decide)), fun h => f18 (h.resolve_right (by decide)), fun h => f19 (h.resolve_right (by decide))⟩⟩
        refine InvFrom.cons (fun L a W hI hN hD K hK => ?_) ?_
        · obtain ⟨sl28, sl29, sl30, sl31, sl32, sl33, sl34, sl35, sl36, sl37, sl38, sl39, sl40, sl41, sl42, sl43, sl44, sl45, sl46, sl47, ha, hI⟩ := hI
          subst ha
          rcases hI with hI | h9
          rotate_left
          · exact absurd (h9.1 9 (by decide)) hN
          obtain ⟨hn, hB, f0, f1, f2, f3, f4, f5, f6, f7, f8, f9, f10, f11, f12, f13, f14, f15, f16, f17, f18, f19⟩ := hI
          have hz := hB.size
          have d8 := f8 (hD 8 (by kernel_rfl))
          subst d8
          have pi0 := box_cell (j := 0) (box_keep HI0.out hB (by omega)) rfl
          have pi1 := box_cell (j := 1) (box_keep HI0.out hB (by omega)) rfl
          have pi2 := box_cell (j := 2) (box_keep HI0.out hB (by omega)) rfl
          have pi3 := box_cell (j := 3) (box_keep HI0.out hB (by omega)) rfl
          refine Kept.mk ?_
          simp only [Act.put, List.setIfInBounds_toArray, List.set_cons_zero, List.set_cons_succ]
          go_simp
          refine hK.out _ _ ?_
          exact ⟨sl28, sl29, sl30, sl31, sl32, sl33, sl34, sl35, .pointer (some ⟨w.heap.size, 2, none⟩), (.int .i64 (kb : Int)), sl38, sl39, sl40, sl41, sl42, sl43, sl44, sl45, sl46, sl47, by simp only [Act.put, List.setIfInBounds_toArray, List.set_cons_zero, List.set_cons_succ], .inl ⟨fun j hj h => h.elim (hn j hj) (by omega), hB, fun h => f0 (h.resolve_right (by decide)), fun h => f1 (h.resolve_right (by decide)), fun h => f2 (h.resolve_right (by decide)), fun h => f3 (h.resolve_right (by decide)), fun h => f4 (h.resolve_right (by decide)), fun h => f5 (h.resolve_right (by decide)), fun h => f6 (h.resolve_right (by decide)), fun h => f7 (h.resolve_right (by decide)), fun h => f8 (h.resolve_right (by decide)), fun _ => rfl, fun h => f10 (h.resolve_right (by decide)), fun h => f11 (h.resolve_right (by decide)), fun h => f12 (h.resolve_right (by decide)), fun h => f13 (h.resolve_right (by decide)), fun h => f14 (h.resolve_right (by decide)), fun h => f15 (h.resolve_right (by decide)), fun h => f16 (h.resolve_right (by decide)), fun h => f17 (h.resolve_right (by decide)), fun h => f18 (h.resolve_right (by decide)), fun h => f19 (h.resolve_right (by decide))⟩⟩
        refine InvFrom.cons (fun L a W hI hN hD K hK => ?_) ?_
        · obtain ⟨sl28, sl29, sl30, sl31, sl32, sl33, sl34, sl35, sl36, sl37, sl38, sl39, sl40, sl41, sl42, sl43, sl44, sl45, sl46, sl47, ha, hI⟩ := hI
          subst ha
          rcases hI with hI | h9
          rotate_left
          · exact absurd (h9.1 10 (by decide)) hN
          obtain ⟨hn, hB, f0, f1, f2, f3, f4, f5, f6, f7, f8, f9, f10, f11, f12, f13, f14, f15, f16, f17, f18, f19⟩ := hI
          have hz := hB.size
          have d7 := f7 (hD 7 (by kernel_rfl))
          subst d7
          have d9 := f9 (hD 9 (by kernel_rfl))
          subst d9
          refine Kept.mk ?_
          simp only [Act.put, List.setIfInBounds_toArray, List.set_cons_zero, List.set_cons_succ]
          go_simp
          refine hK.out _ _ ?_
          exact ⟨sl28, sl29, sl30, sl31, sl32, sl33, sl34, (.slice (some ⟨bg, 0, none⟩) 6 c2), sl36, (.int .i64 (kb : Int)), .pointer (some ⟨bg, kb, none⟩), sl39, sl40, sl41, sl42, sl43, sl44, sl45, sl46, sl47, by simp only [Act.put, List.setIfInBounds_toArray, List.set_cons_zero, List.set_cons_succ], .inl ⟨fun j hj h => h.elim (hn j hj) (by omega), hB, fun h => f0 (h.resolve_right (by decide)), fun h => f1 (h.resolve_right (by decide)), fun h => f2 (h.resolve_right (by decide)), fun h => f3 (h.resolve_right (by decide)), fun h => f4 (h.resolve_right (by decide)), fun h => f5 (h.resolve_right (by decide)), fun h => f6 (h.resolve_right (by decide)), fun h => f7 (h.resolve_right (by decide)), fun h => f8 (h.resolve_right (by decide)), fun h => f9 (h.resolve_right (by decide)), fun _ => rfl, fun h => f11 (h.resolve_right (by decide)), fun h => f12 (h.resolve_right (by decide)), fun h => f13 (h.resolve_right (by decide)), fun h => f14 (h.resolve_right (by decide)), fun h => f15 (h.resolve_right (by decide)), fun h => f16 (h.resolve_right (by decide)), fun h => f17 (h.resolve_right (by decide)), fun h => f18 (h.resolve_right (by decide)), fun h => f19 (h.resolve_right (by decide))⟩⟩
        refine InvFrom.cons (fun L a W hI hN hD K hK => ?_) ?_
        · obtain ⟨sl28, sl29, sl30, sl31, sl32, sl33, sl34, sl35, sl36, sl37, sl38, sl39, sl40, sl41, sl42, sl43, sl44, sl45, sl46, sl47, ha, hI⟩ := hI
          subst ha
          rcases hI with hI | h9
          rotate_left
          · exact absurd (h9.1 11 (by decide)) hN
          obtain ⟨hn, hB, f0, f1, f2, f3, f4, f5, f6, f7, f8, f9, f10, f11, f12, f13, f14, f15, f16, f17, f18, f19⟩ := hI
          have hz := hB.size
          have d10 := f10 (hD 10 (by kernel_rfl))
          subst d10
          have hrr := (HCB.out W hB).1
          refine Kept.mk ?_
          simp only [Act.put, List.setIfInBounds_toArray, List.set_cons_zero, List.set_cons_succ]
          go_simp
          refine hK.out _ _ ?_
          exact ⟨sl28, sl29, sl30, sl31, sl32, sl33, sl34, sl35, sl36, sl37, .pointer (some ⟨bg, kb, none⟩), (.int .i64 xb), sl40, sl41, sl42, sl43, sl44, sl45, sl46, sl47, by simp only [Act.put, List.setIfInBounds_toArray, List.set_cons_zero, List.set_cons_succ], .inl ⟨fun j hj h => h.elim (hn j hj) (by omega), hB, fun h => f0 (h.resolve_right (by decide)), fun h => f1 (h.resolve_right (by decide)), fun h => f2 (h.resolve_right (by decide)), fun h => f3 (h.resolve_right (by decide)), fun h => f4 (h.resolve_right (by decide)), fun h => f5 (h.resolve_right (by decide)), fun h => f6 (h.resolve_right (by decide)), fun h => f7 (h.resolve_right (by decide)), fun h => f8 (h.resolve_right (by decide)), fun h => f9 (h.resolve_right (by decide)), fun h => f10 (h.resolve_right (by decide)), fun _ => rfl, fun h => f12 (h.resolve_right (by decide)), fun h => f13 (h.resolve_right (by decide)), fun h => f14 (h.resolve_right (by decide)), fun h => f15 (h.resolve_right (by decide)), fun h => f16 (h.resolve_right (by decide)), fun h => f17 (h.resolve_right (by decide)), fun h => f18 (h.resolve_right (by decide)), fun h => f19 (h.resolve_right (by decide))⟩⟩
        refine InvFrom.cons (fun L a W hI hN hD K hK => ?_) ?_
        · obtain ⟨sl28, sl29, sl30, sl31, sl32, sl33, sl34, sl35, sl36, sl37, sl38, sl39, sl40, sl41, sl42, sl43, sl44, sl45, sl46, sl47, ha, hI⟩ := hI
          subst ha
          rcases hI with hI | h9
          rotate_left
          · exact absurd (h9.1 12 (by decide)) hN
          obtain ⟨hn, hB, f0, f1, f2, f3, f4, f5, f6, f7, f8, f9, f10, f11, f12, f13, f14, f15, f16, f17, f18, f19⟩ := hI
          have hz := hB.size
          refine Kept.mk ?_
          simp only [Act.put, List.setIfInBounds_toArray, List.set_cons_zero, List.set_cons_succ]
          go_simp
          refine hK.out _ _ ?_
          exact ⟨sl28, sl29, sl30, sl31, sl32, sl33, sl34, sl35, sl36, sl37, sl38, sl39, .pointer (some ⟨w.heap.size + 1, 2, none⟩), sl41, sl42, sl43, sl44, sl45, sl46, sl47, by simp only [Act.put, List.setIfInBounds_toArray, List.set_cons_zero, List.set_cons_succ], .inl ⟨fun j hj h => h.elim (hn j hj) (by omega), hB, fun h => f0 (h.resolve_right (by decide)), fun h => f1 (h.resolve_right (by decide)), fun h => f2 (h.resolve_right (by decide)), fun h => f3 (h.resolve_right (by decide)), fun h => f4 (h.resolve_right (by decide)), fun h => f5 (h.resolve_right (by decide)), fun h => f6 (h.resolve_right (by decide)), fun h => f7 (h.resolve_right (by decide)), fun h => f8 (h.resolve_right (by decide)), fun h => f9 (h.resolve_right (by decide)), fun h => f10 (h.resolve_right (by decide)), fun h => f11 (h.resolve_right (by decide)), fun _ => rfl, fun h => f13 (h.resolve_right (by decide)), fun h => f14 (h.resolve_right (by decide)), fun h => f15 (h.resolve_right (by decide)), fun h => f16 (h.resolve_right (by decide)), fun h => f17 (h.resolve_right (by decide)), fun h => f18 (h.resolve_right (by decide)), fun h => f19 (h.resolve_right (by decide))⟩⟩
        refine InvFrom.cons (fun L a W hI hN hD K hK => ?_) ?_
        · obtain ⟨sl28, sl29, sl30, sl31, sl32, sl33, sl34, sl35, sl36, sl37, sl38, sl39, sl40, sl41, sl42, sl43, sl44, sl45, sl46, sl47, ha, hI⟩ := hI
          subst ha
          rcases hI with hI | h9
          rotate_left
          · exact absurd (h9.1 13 (by decide)) hN
          obtain ⟨hn, hB, f0, f1, f2, f3, f4, f5, f6, f7, f8, f9, f10, f11, f12, f13, f14, f15, f16, f17, f18, f19⟩ := hI
          have hz := hB.size
          have d12 := f12 (hD 12 (by kernel_rfl))
          subst d12
          have pg0 := box_cell (j := 0) (box_keep HG0.out hB (by omega)) rfl
          have pg1 := box_cell (j := 1) (box_keep HG0.out hB (by omega)) rfl
          have pg2 := box_cell (j := 2) (box_keep HG0.out hB (by omega)) rfl
          have pg3 := box_cell (j := 3) (box_keep HG0.out hB (by omega)) rfl
          have pg4 := box_cell (j := 4) (box_keep HG0.out hB (by omega)) rfl
          refine Kept.mk ?_
          simp only [Act.put, List.setIfInBounds_toArray, List.set_cons_zero, List.set_cons_succ]
          go_simp
          refine hK.out _ _ ?_
          exact ⟨sl28, sl29, sl30, sl31, sl32, sl33, sl34, sl35, sl36, sl37, sl38, sl39, .pointer (some ⟨w.heap.size + 1, 2, none⟩), (.slice (some ⟨bg, 0, none⟩) 6 c2), sl42, sl43, sl44, sl45, sl46, sl47, by simp only [Act.put, List.setIfInBounds_toArray, List.set_cons_zero, List.set_cons_succ], .inl ⟨fun j hj h => h.elim (hn j hj) (by omega), hB, fun h => f0 (h.resolve_right (by decide)), fun h => f1 (h.resolve_right (by decide)), fun h => f2 (h.resolve_right (by decide)), fun h => f3 (h.resolve_right (by decide)), fun h => f4 (h.resolve_right (by decide)), fun h => f5 (h.resolve_right (by decide)), fun h => f6 (h.resolve_right (by decide)), fun h => f7 (h.resolve_right (by decide)), fun h => f8 (h.resolve_right (by decide)), fun h => f9 (h.resolve_right (by decide)), fun h => f10 (h.resolve_right (by decide)), fun h => f11 (h.resolve_right (by decide)), fun h => f12 (h.resolve_right (by decide)), fun _ => rfl, fun h => f14 (h.resolve_right (by decide)), fun h => f15 (h.resolve_right (by decide)), fun h => f16 (h.resolve_right (by decide)), fun h => f17 (h.resolve_right (by decide)), fun h => f18 (h.resolve_right (by decide)), fun h => f19 (h.resolve_right (by decide))⟩⟩
        refine InvFrom.cons (fun L a W hI hN hD K hK => ?_) ?_
        · obtain ⟨sl28, sl29, sl30, sl31, sl32, sl33, sl34, sl35, sl36, sl37, sl38, sl39, sl40, sl41, sl42, sl43, sl44, sl45, sl46, sl47, ha, hI⟩ := hI
          subst ha
          rcases hI with hI | h9
          rotate_left
          · exact absurd (h9.1 14 (by decide)) hN
          obtain ⟨hn, hB, f0, f1, f2, f3, f4, f5, f6, f7, f8, f9, f10, f11, f12, f13, f14, f15, f16, f17, f18, f19⟩ := hI
          have hz := hB.size
          refine Kept.mk ?_
          simp only [Act.put, List.setIfInBounds_toArray, List.set_cons_zero, List.set_cons_succ]
          go_simp
          refine hK.out _ _ ?_
          exact ⟨sl28, sl29, sl30, sl31, sl32, sl33, sl34, sl35, sl36, sl37, sl38, sl39, sl40, sl41, .pointer (some ⟨w.heap.size, 3, none⟩), sl43, sl44, sl45, sl46, sl47, by simp only [Act.put, List.setIfInBounds_toArray, List.set_cons_zero, List.set_cons_succ], .inl ⟨fun j hj h => h.elim (hn j hj) (by omega), hB, fun h => f0 (h.resolve_right (by decide)), fun h => f1 (h.resolve_right (by decide)), fun h => f2 (h.resolve_right (by decide)), fun h => f3 (h.resolve_right (by decide)), fun h => f4 (h.resolve_right (by decide)), fun h => f5 (h.resolve_right (by decide)), fun h => f6 (h.resolve_right (by decide)), fun h => f7 (h.resolve_right (by decide)), fun h => f8 (h.resolve_right (by decide)), fun h => f9 (h.resolve_right (by decide)), fun h => f10 (h.resolve_right (by decide)), fun h => f11 (h.resolve_right (by decide)), fun h => f12 (h.resolve_right (by decide)), fun h => f13 (h.resolve_right (by decide)), fun _ => rfl, fun h => f15 (h.resolve_right (by decide)), fun h => f16 (h.resolve_right (by decide)), fun h => f17 (h.resolve_right (by decide)), fun h => f18 (h.resolve_right (by decide)), fun h => f19 (h.resolve_right (by decide))⟩⟩
        refine InvFrom.cons (fun L a W hI hN hD K hK => ?_) ?_
        · obtain ⟨sl28, sl29, sl30, sl31, sl32, sl33, sl34, sl35, sl36, sl37, sl38, sl39, sl40, sl41, sl42, sl43, sl44, sl45, sl46, sl47, ha, hI⟩ := hI
          subst ha
          rcases hI with hI | h9
          rotate_left
          · exact absurd (h9.1 15 (by decide)) hN
          obtain ⟨hn, hB, f0, f1, f2, f3, f4, f5, f6, f7, f8, f9, f10, f11, f12, f13, f14, f15, f16, f17, f18, f19⟩ := hI
          have hz := hB.size
          have d14 := f14 (hD 14 (by kernel_rfl))
          subst d14
          have pi0 := box_cell (j := 0) (box_keep HI0.out hB (by omega)) rfl
          have pi1 := box_cell (j := 1) (box_keep HI0.out hB (by omega)) rfl
          have pi2 := box_cell (j := 2) (box_keep HI0.out hB (by omega)) rfl
          have pi3 := box_cell (j := 3) (box_keep HI0.out hB (by omega)) rfl
          refine Kept.mk ?_
          simp only [Act.put, List.setIfInBounds_toArray, List.set_cons_zero, List.set_cons_succ]
          go_simp
          refine hK.out _ _ ?_
          exact ⟨sl28, sl29, sl30, sl31, sl32, sl33, sl34, sl35, sl36, sl37, sl38, sl39, sl40, sl41, .pointer (some ⟨w.heap.size, 3, none⟩), (.int .i64 (kc : Int)), sl44, sl45, sl46, sl47, by simp only [Act.put, List.setIfInBounds_toArray, List.set_cons_zero, List.set_cons_succ], .inl ⟨fun j hj h => h.elim (hn j hj) (by omega), hB, fun h => f0 (h.resolve_right (by decide)), fun h => f1 (h.resolve_right (by decide)), fun h => f2 (h.resolve_right (by decide)), fun h => f3 (h.resolve_right (by decide)), fun h => f4 (h.resolve_right (by decide)), fun h => f5 (h.resolve_right (by decide)), fun h => f6 (h.resolve_right (by decide)), fun h => f7 (h.resolve_right (by decide)), fun h => f8 (h.resolve_right (by decide)), fun h => f9 (h.resolve_right (by decide)), fun h => f10 (h.resolve_right (by decide)), fun h => f11 (h.resolve_right (by decide)), fun h => f12 (h.resolve_right (by decide)), fun h => f13 (h.resolve_right (by decide)), fun h => f14 (h.resolve_right (by decide)), fun _ => rfl, fun h => f16 (h.resolve_right (by decide)), fun h => f17 (h.resolve_right (by decide)), fun h => f18 (h.resolve_right (by decide)), fun h => f19 (h.resolve_right (by decide))⟩⟩
        refine InvFrom.cons (fun L a W hI hN hD K hK => ?_) ?_
        · obtain ⟨sl28, sl29, sl30, sl31, sl32, sl33, sl34, sl35, sl36, sl37, sl38, sl39, sl40, sl41, sl42, sl43, sl44, sl45, sl46, sl47, ha, hI⟩ := hI
          subst ha
          rcases hI with hI | h9
          rotate_left
          · exact absurd (h9.1 16 (by decide)) hN
          obtain ⟨hn, hB, f0, f1, f2, f3, f4, f5, f6, f7, f8, f9, f10, f11, f12, f13, f14, f15, f16, f17, f18, f19⟩ := hI
          have hz := hB.size
          have d13 := f13 (hD 13 (by kernel_rfl))
          subst d13
          have d15 := f15 (hD 15 (by kernel_rfl))
          subst d15
          refine Kept.mk ?_
          simp only [Act.put, List.setIfInBounds_toArray, List.set_cons_zero, List.set_cons_succ]
          go_simp
          refine hK.out _ _ ?_
          exact ⟨sl28, sl29, sl30, sl31, sl32, sl33, sl34, sl35, sl36, sl37, sl38, sl39, sl40, (.slice (some ⟨bg, 0, none⟩) 6 c2), sl42, (.int .i64 (kc : Int)), .pointer (some ⟨bg, kc, none⟩), sl45, sl46, sl47, by simp only [Act.put, List.setIfInBounds_toArray, List.set_cons_zero, List.set_cons_succ], .inl ⟨fun j hj h => h.elim (hn j hj) (by omega), hB, fun h => f0 (h.resolve_right (by decide)), fun h => f1 (h.resolve_right (by decide)), fun h => f2 (h.resolve_right (by decide)), fun h => f3 (h.resolve_right (by decide)), fun h => f4 (h.resolve_right (by decide)), fun h => f5 (h.resolve_right (by decide)), fun h => f6 (h.resolve_right (by decide)), fun h => f7 (h.resolve_right (by decide)), fun h => f8 (h.resolve_right (by decide)), fun h => f9 (h.resolve_right (by decide)), fun h => f10 (h.resolve_right (by decide)), fun h => f11 (h.resolve_right (by decide)), fun h => f12 (h.resolve_right (by decide)), fun h => f13 (h.resolve_right (by decide)), fun h => f14 (h.resolve_right (by decide)), fun h => f15 (h.resolve_right (by decide)), fun _ => rfl, fun h => f17 (h.resolve_right (by decide)), fun h => f18 (h.resolve_right (by decide)), fun h => f19 (h.resolve_right (by decide))⟩⟩
        refine InvFrom.cons (fun L a W hI hN hD K hK => ?_) ?_
        · obtain ⟨sl28, sl29, sl30, sl31, sl32, sl33, sl34, sl35, sl36, sl37, sl38, sl39, sl40, sl41, sl42, sl43, sl44, sl45, sl46, sl47, ha, hI⟩ := hI
          subst ha
          rcases hI with hI | h9
          rotate_left
          · exact absurd (h9.1 17 (by decide)) hN
          obtain ⟨hn, hB, f0, f1, f2, f3, f4, f5, f6, f7, f8, f9, f10, f11, f12, f13, f14, f15, f16, f17, f18, f19⟩ := hI
          have hz := hB.size
          have d16 := f16 (hD 16 (by kernel_rfl))
          subst d16
          have hrr := (HCC.out W hB).1
          refine Kept.mk ?_
          simp only [Act.put, List.setIfInBounds_toArray, List.set_cons_zero, List.set_cons_succ]
          go_simp
          refine hK.out _ _ ?_
          exact ⟨sl28, sl29, sl30, sl31, sl32, sl33, sl34, sl35, sl36, sl37, sl38, sl39, sl40, sl41, sl42, sl43, .pointer (some ⟨bg, kc, none⟩), (.int .i64 xc), sl46, sl47, by simp only [Act.put, List.setIfInBounds_toArray, List.set_cons_zero, List.set_cons_succ], .inl ⟨fun j hj h => h.elim (hn j hj) (by omega), hB, fun h => f0 (h.resolve_right (by decide)), fun h => f1 (h.resolve_right (by decide)), fun h => f2 (h.resolve_right (by decide)), fun h => f3 (h.resolve_right (by decide)), fun h => f4 (h.resolve_right (by decide)), fun h => f5 (h.resolve_right (by decide)), fun h => f6 (h.resolve_right (by decide)), fun h => f7 (h.resolve_right (by decide)), fun h => f8 (h.resolve_right (by decide)), fun h => f9 (h.resolve_right (by decide)), fun h => f10 (h.resolve_right (by decide)), fun h => f11 (h.resolve_right (by decide)), fun h => f12 (h.resolve_right (by decide)), fun h => f13 (h.resolve_right (by decide)), fun h => f14 (h.resolve_right (by decide)), fun h => f15 (h.resolve_right (by decide)), fun h => f16 (h.resolve_right (by decide)), fun _ => rfl, fun h => f18 (h.resolve_right (by decide)), fun h => f19 (h.resolve_right (by decide))⟩⟩
        refine InvFrom.cons (fun L a W hI hN hD K hK => ?_) ?_
        · obtain ⟨sl28, sl29, sl30, sl31, sl32, sl33, sl34, sl35, sl36, sl37, sl38, sl39, sl40, sl41, sl42, sl43, sl44, sl45, sl46, sl47, ha, hI⟩ := hI
          subst ha
          rcases hI with hI | h9
          rotate_left
          · exact absurd (h9.1 18 (by decide)) hN
          obtain ⟨hn, hB, f0, f1, f2, f3, f4, f5, f6, f7, f8, f9, f10, f11, f12, f13, f14, f15, f16, f17, f18, f19⟩ := hI
          have hz := hB.size
          have d5 := f5 (hD 5 (by kernel_rfl))
          subst d5
          have d11 := f11 (hD 11 (by kernel_rfl))
          subst d11
          have d17 := f17 (hD 17 (by kernel_rfl))
          subst d17
          refine kept_c3 rfl 113 _ _ _ _ rfl (fenters_of' Tryz.func113 (by kernel_rfl) (by kernel_rfl)) (.int .i64 3) (.int .i64 xb) (.int .i64 xc) (by kernel_rfl) (by kernel_rfl) (by kernel_rfl) (HCl.out W) ?_
          rintro e W1 ⟨rfl, rfl⟩
          refine ⟨_, rfl, hK.out _ _ ?_⟩
          exact ⟨sl28, sl29, sl30, sl31, sl32, (.int .i64 3), sl34, sl35, sl36, sl37, sl38, (.int .i64 xb), sl40, sl41, sl42, sl43, sl44, (.int .i64 xc), (.int .i64 xv), sl47, by simp only [Act.put, List.setIfInBounds_toArray, List.set_cons_zero, List.set_cons_succ], .inl ⟨fun j hj h => h.elim (hn j hj) (by omega), hB, fun h => f0 (h.resolve_right (by decide)), fun h => f1 (h.resolve_right (by decide)), fun h => f2 (h.resolve_right (by decide)), fun h => f3 (h.resolve_right (by decide)), fun h => f4 (h.resolve_right (by decide)), fun h => f5 (h.resolve_right (by decide)), fun h => f6 (h.resolve_right (by decide)), fun h => f7 (h.resolve_right (by decide)), fun h => f8 (h.resolve_right (by decide)), fun h => f9 (h.resolve_right (by decide)), fun h => f10 (h.resolve_right (by decide)), fun h => f11 (h.resolve_right (by decide)), fun h => f12 (h.resolve_right (by decide)), fun h => f13 (h.resolve_right (by decide)), fun h => f14 (h.resolve_right (by decide)), fun h => f15 (h.resolve_right (by decide)), fun h => f16 (h.resolve_right (by decide)), fun h => f17 (h.resolve_right (by decide)), fun _ => rfl, fun h => f19 (h.resolve_right (by decide))⟩⟩
        refine InvFrom.cons (fun L a W hI hN hD K hK => ?_) ?_
        · obtain ⟨sl28, sl29, sl30, sl31, sl32, sl33, sl34, sl35, sl36, sl37, sl38, sl39, sl40, sl41, sl42, sl43, sl44, sl45, sl46, sl47, ha, hI⟩ := hI
          subst ha
          rcases hI with hI | h9
          rotate_left
          · exact absurd (h9.1 19 (by decide)) hN
          obtain ⟨hn, hB, f0, f1, f2, f3, f4, f5, f6, f7, f8, f9, f10, f11, f12, f13, f14, f15, f16, f17, f18, f19⟩ := hI
          have hz := hB.size
          have d0 := f0 (hD 0 (by kernel_rfl))
          subst d0
          have d1 := f1 (hD 1 (by kernel_rfl))
          subst d1
          have d2 := f2 (hD 2 (by kernel_rfl))
          subst d2
          have d3 := f3 (hD 3 (by kernel_rfl))
          subst d3
          have d4 := f4 (hD 4 (by kernel_rfl))
          subst d4
          have d5 := f5 (hD 5 (by kernel_rfl))
          subst d5
          have d6 := f6 (hD 6 (by kernel_rfl))
          subst d6
          have d7 := f7 (hD 7 (by kernel_rfl))
          subst d7
          have d8 := f8 (hD 8 (by kernel_rfl))
          subst d8
          have d9 := f9 (hD 9 (by kernel_rfl))
          subst d9
          have d10 := f10 (hD 10 (by kernel_rfl))
          subst d10
          have d11 := f11 (hD 11 (by kernel_rfl))
          subst d11
          have d12 := f12 (hD 12 (by kernel_rfl))
          subst d12
          have d13 := f13 (hD 13 (by kernel_rfl))
          subst d13
          have d14 := f14 (hD 14 (by kernel_rfl))
          subst d14
          have d15 := f15 (hD 15 (by kernel_rfl))
          subst d15
          have d16 := f16 (hD 16 (by kernel_rfl))
          subst d16
          have d17 := f17 (hD 17 (by kernel_rfl))
          subst d17
          have d18 := f18 (hD 18 (by kernel_rfl))
          subst d18
          refine Kept.mk ?_
          simp only [Act.put, List.setIfInBounds_toArray, List.set_cons_zero, List.set_cons_succ]
          go_simp
          refine hK.out _ _ ?_
          exact ⟨.pointer (some ⟨w.heap.size + 1, 2, none⟩), (.slice (some ⟨bg, 0, none⟩) 6 c2), .pointer (some ⟨w.heap.size, 1, none⟩), (.int .i64 (ka : Int)), .pointer (some ⟨w.heap.size, 0, none⟩), (.int .i64 3), .pointer (some ⟨w.heap.size + 1, 2, none⟩), (.slice (some ⟨bg, 0, none⟩) 6 c2), .pointer (some ⟨w.heap.size, 2, none⟩), (.int .i64 (kb : Int)), .pointer (some ⟨bg, kb, none⟩), (.int .i64 xb), .pointer (some ⟨w.heap.size + 1, 2, none⟩), (.slice (some ⟨bg, 0, none⟩) 6 c2), .pointer (some ⟨w.heap.size, 3, none⟩), (.int .i64 (kc : Int)), .pointer (some ⟨bg, kc, none⟩), (.int .i64 xc), (.int .i64 xv), .pointer (some ⟨bg, ka, none⟩), by simp only [Act.put, List.setIfInBounds_toArray, List.set_cons_zero, List.set_cons_succ], .inl ⟨fun j hj h => h.elim (hn j hj) (by omega), hB, fun h => f0 (h.resolve_right (by decide)), fun h => f1 (h.resolve_right (by decide)), fun h => f2 (h.resolve_right (by decide)), fun h => f3 (h.resolve_right (by decide)), fun h => f4 (h.resolve_right (by decide)), fun h => f5 (h.resolve_right (by decide)), fun h => f6 (h.resolve_right (by decide)), fun h => f7 (h.resolve_right (by decide)), fun h => f8 (h.resolve_right (by decide)), fun h => f9 (h.resolve_right (by decide)), fun h => f10 (h.resolve_right (by decide)), fun h => f11 (h.resolve_right (by decide)), fun h => f12 (h.resolve_right (by decide)), fun h => f13 (h.resolve_right (by decide)), fun h => f14 (h.resolve_right (by decide)), fun h => f15 (h.resolve_right (by decide)), fun h => f16 (h.resolve_right (by decide)), fun h => f17 (h.resolve_right (by decide)), fun h => f18 (h.resolve_right (by decide)), fun _ => rfl⟩⟩
        refine InvFrom.cons (fun L a W hI hN hD K hK => ?_) ?_
        · obtain ⟨sl28, sl29, sl30, sl31, sl32, sl33, sl34, sl35, sl36, sl37, sl38, sl39, sl40, sl41, sl42, sl43, sl44, sl45, sl46, sl47, ha, hI⟩ := hI
          subst ha
          rcases hI with hI | h9
          rotate_left
          · exact absurd (h9.1 20 (by decide)) hN
          obtain ⟨hn, hB, f0, f1, f2, f3, f4, f5, f6, f7, f8, f9, f10, f11, f12, f13, f14, f15, f16, f17, f18, f19⟩ := hI
          have hz := hB.size
          have d18 := f18 (hD 18 (by kernel_rfl))
          subst d18
          have d19 := f19 (hD 19 (by kernel_rfl))
          subst d19
          obtain ⟨ra, raf⟩ := HCA.out W hB
          refine Kept.mk ?_
          simp only [Act.put, List.setIfInBounds_toArray, List.set_cons_zero, List.set_cons_succ]
          go_simp
          refine hK.out _ _ ?_
          have hall : ∀ j, j < 21 → (L j ∨ j = 20) := by
            intro j hj
            have hj2 : j = 0 ∨ j = 1 ∨ j = 2 ∨ j = 3 ∨ j = 4 ∨ j = 5 ∨ j = 6 ∨ j = 7 ∨ j = 8 ∨ j = 9 ∨ j = 10 ∨ j = 11 ∨ j = 12 ∨ j = 13 ∨ j = 14 ∨ j = 15 ∨ j = 16 ∨ j = 17 ∨ j = 18 ∨ j = 19 ∨ j = 20 := by omega
            rcases hj2 with rfl | rfl | rfl | rfl | rfl | rfl | rfl | rfl | rfl | rfl | rfl | rfl | rfl | rfl | rfl | rfl | rfl | rfl | rfl | rfl | rfl
            · exact .inl (hD 0 (by kernel_rfl))
            · exact .inl (hD 1 (by kernel_rfl))
            · exact .inl (hD 2 (by kernel_rfl))
            · exact .inl (hD 3 (by kernel_rfl))
            · exact .inl (hD 4 (by kernel_rfl))
            · exact .inl (hD 5 (by kernel_rfl))
            · exact .inl (hD 6 (by kernel_rfl))
            · exact .inl (hD 7 (by kernel_rfl))
            · exact .inl (hD 8 (by kernel_rfl))
            · exact .inl (hD 9 (by kernel_rfl))
            · exact .inl (hD 10 (by kernel_rfl))
            · exact .inl (hD 11 (by kernel_rfl))
            · exact .inl (hD 12 (by kernel_rfl))
            · exact .inl (hD 13 (by kernel_rfl))
            · exact .inl (hD 14 (by kernel_rfl))
            · exact .inl (hD 15 (by kernel_rfl))
            · exact .inl (hD 16 (by kernel_rfl))
            · exact .inl (hD 17 (by kernel_rfl))
            · exact .inl (hD 18 (by kernel_rfl))
            · exact .inl (hD 19 (by kernel_rfl))
            · exact .inr rfl
          exact ⟨sl28, sl29, sl30, sl31, sl32, sl33, sl34, sl35, sl36, sl37, sl38, sl39, sl40, sl41, sl42, sl43, sl44, sl45, (.int .i64 xv), .pointer (some ⟨bg, ka, none⟩), by simp only [Act.put, List.setIfInBounds_toArray, List.set_cons_zero, List.set_cons_succ], .inr (⟨hall, fun j hj h => h.elim (hn j (by omega)) (by omega), ⟨W, rfl, hB⟩⟩)⟩
        exact InvFrom.nil
      intro L a w8 hL hI
      obtain ⟨sl28, sl29, sl30, sl31, sl32, sl33, sl34, sl35, sl36, sl37, sl38, sl39, sl40, sl41, sl42, sl43, sl44, sl45, sl46, sl47, ha, hI⟩ := hI
      subst ha
      rcases hI with h9 | hI
      · exact absurd (hL 20 (by decide)) (h9.1 20 (by decide))
      have hfin := hI.2.2
      obtain ⟨w5, rfl, hb5⟩ := hfin
      clear hL hI
      refine Kept.mk ?_
      simp only [Act.put, List.setIfInBounds_toArray, List.set_cons_zero, List.set_cons_succ]
      have hz5 := hb5.size
      have HBW := Lib.hid (HB0.out.trans (hb5.mono (by omega)))
      have HG5 := Lib.hid (box_keep HG0.out hb5 (by omega))
      have HR5 := Lib.hid (box_keep HR0.out hb5 (by omega))
      have HH5 := Lib.hid (HH0.out.stay (fun k _ hk => hb5.block k hk) hb5.size)
      clear hb5
      have HH1 := Lib.hid (HoldG.regSet (r := ka) (v := xv) HH5.out hka HVW.out)
      have HB1 := Lib.hid (below_set (p := ⟨bg, ka, none⟩) (HBW.out.mono hlo) hlg (.int .i64 xv))
      have HG1 := Lib.hid ((Below.heap_setCell w5 ⟨bg, ka, none⟩ (.int .i64 xv) (w.heap.size + 1) (by simp only; omega)).trans HG5.out)
      have HR1 := Lib.hid ((Below.heap_setCell w5 ⟨bg, ka, none⟩ (.int .i64 xv) (w.heap.size + 2) (by simp only; omega)).trans HR5.out)
      have HK1 := Lib.hid ((Below.heap_setCell w5 ⟨bg, ka, none⟩ (.int .i64 xv) bo (by simp only; omega)).trans (HBW.out.block _ hbo))
      have hz1 : w.heap.size + 3 ≤ (w5.setCell ⟨bg, ka, none⟩ (.int .i64 xv)).heap.size := by simp only [World.size_setCell]; omega
      generalize (w5.setCell ⟨bg, ka, none⟩ (.int .i64 xv)) = W1 at *
      have g0 := box_cell (j := 0) HG1.out rfl
      have g1 := box_cell (j := 1) HG1.out rfl
      have g2 := box_cell (j := 2) HG1.out rfl
      have g3 := box_cell (j := 3) HG1.out rfl
      have g4 := box_cell (j := 4) HG1.out rfl
      have gf1 := box_free HG1.out 1
      go_upto_region 17 with (fail)
      have hput7 := put1 (j := 1) (u := .int .i64 (pc + 1)) HG1.out
      have HBx := Lib.hid (below_set (p := ⟨w.heap.size + 1, 1, none⟩) HB1.out (by simp only; omega) (.int .i64 (pc + 1)))
      have HK9 := Lib.hid ((Below.heap_setCell W1 ⟨w.heap.size + 1, 1, none⟩ (.int .i64 (pc + 1)) bo (by simp only; omega)).trans HK1.out)
      have HH7 := Lib.hid (((HH1.out).set (b := w.heap.size + 1) (j := 1) (u := .int .i64 (pc + 1)) (fun hb9 => by have := hb9.2.2; omega)).pc (v := (pc + 1)) (wf_val (by omega)))
      generalize (W1.setCell ⟨w.heap.size + 1, 1, none⟩ (.int .i64 (pc + 1))) = W7 at *
      obtain ⟨hG7, hk7, hs7⟩ := hput7
      have HRx := Lib.hid ((hk7 _ (by omega)).trans HR1.out)
      clear g0 g1 g2 g3 g4
      clear gf1 hk7
      have g0 := box_cell (j := 0) hG7 rfl
      have g1 := box_cell (j := 1) hG7 rfl
      have g2 := box_cell (j := 2) hG7 rfl
      have g3 := box_cell (j := 3) hG7 rfl
      have g4 := box_cell (j := 4) hG7 rfl
      have r0 := box_cell (j := 0) HRx.out rfl
      have r1 := box_cell (j := 1) HRx.out rfl
      have r2 := box_cell (j := 2) HRx.out rfl
      have r3 := box_cell (j := 3) HRx.out rfl
      have r4 := box_cell (j := 4) HRx.out rfl
      have rf0 := box_free HRx.out 0
      have rf1 := box_free HRx.out 1
      have rf2 := box_free HRx.out 2
      have rf3 := box_free HRx.out 3
      have rf4 := box_free HRx.out 4
      go_wp2_with fail
      have hfin := put5 (u0 := (.int .i64 pr)) (u1 := (.int .i64 (pc + 1))) (u2 := (.slice (some ⟨bg, 0, none⟩) 6 c2)) (u3 := (.int .i64 st)) (u4 := (.slice A4 n4 c4)) HRx.out
      have y0 := box_cell (j := 0) hfin.1 rfl
      have y1 := box_cell (j := 1) hfin.1 rfl
      have y2 := box_cell (j := 2) hfin.1 rfl
      have y3 := box_cell (j := 3) hfin.1 rfl
      have y4 := box_cell (j := 4) hfin.1 rfl
      refine bodyPost_ret (v := .agg #[.int .i64 pr, .int .i64 (pc + 1), .slice (some ⟨bg, 0, none⟩) 6 c2, .int .i64 st, .slice A4 n4 c4]) (by simp [results, Tryz.results97, go_sem, y0, y1, y2, y3, y4]) rfl ?_
      exact ⟨pr, pc + 1, regs.set ka xv, st, tr, _, _, _, _, _, _, HST.out, rfl, (HH7.out.stay (fun k hk _ => hfin.2.1 k (by have := hk.2.2; omega)) (Nat.le_of_eq hfin.2.2.symm)).wide (fun k hk _ => ⟨hk.1, hk.2.1⟩), below_put5 HBx.out (by omega), (hfin.2.1 _ (by omega)).trans HK9.out⟩
    · skip
      subst hop
      go_upto_region 10 with (fail)
      clear h1 h2
      clear i0 i1 i2 i3
      clear g0 g1 g2 g3 g4
      refine wp_region_inv (fun AC0 L a W => ∃ sl28 sl29 sl30 sl31 sl32 sl33 sl34 sl35 sl36 sl37 sl38 sl39 sl40 sl41 sl42 sl43 sl44 sl45 sl46 sl47 : Value, a = ((((((((((((((((((((AC0.put (some 28) sl28).put (some 29) sl29).put (some 30) sl30).put (some 31) sl31).put (some 32) sl32).put (some 33) sl33).put (some 34) sl34).put (some 35) sl35).put (some 36) sl36).put (some 37) sl37).put (some 38) sl38).put (some 39) sl39).put (some 40) sl40).put (some 41) sl41).put (some 42) sl42).put (some 43) sl43).put (some 44) sl44).put (some 45) sl45).put (some 46) sl46).put (some 47) sl47) ∧ (((∀ j, 20 ≤ j → ¬ L j) ∧ Below W0.heap.size W0 W ∧ (L 0 → sl28 = .pointer (some ⟨w.heap.size + 1, 2, none⟩)) ∧ (L 1 → sl29 = (.slice (some ⟨bg, 0, none⟩) 6 c2)) ∧ (L 2 → sl30 = .pointer (some ⟨w.heap.size, 1, none⟩)) ∧ (L 3 → sl31 = (.int .i64 (ka : Int))) ∧ (L 4 → sl32 = .pointer (some ⟨w.heap.size, 0, none⟩)) ∧ (L 5 → sl33 = (.int .i64 4)) ∧ (L 6 → sl34 = .pointer (some ⟨w.heap.size + 1, 2, none⟩)) ∧ (L 7 → sl35 = (.slice (some ⟨bg, 0, none⟩) 6 c2)) ∧ (L 8 → sl36 = .pointer (some ⟨w.heap.size, 2, none⟩)) ∧ (L 9 → sl37 = (.int .i64 (kb : Int))) ∧ (L 10 → sl38 = .pointer (some ⟨bg, kb, none⟩)) ∧ (L 11 → sl39 = (.int .i64 xb)) ∧ (L 12 → sl40 = .pointer (some ⟨w.heap.size + 1, 2, none⟩)) ∧ (L 13 → sl41 = (.slice (some ⟨bg, 0, none⟩) 6 c2)) ∧ (L 14 → sl42 = .pointer (some ⟨w.heap.size, 3, none⟩)) ∧ (L 15 → sl43 = (.int .i64 (kc : Int))) ∧ (L 16 → sl44 = .pointer (some ⟨bg, kc, none⟩)) ∧ (L 17 → sl45 = (.int .i64 xc)) ∧ (L 18 → sl46 = (.int .i64 xv)) ∧ (L 19 → sl47 = .pointer (some ⟨bg, ka, none⟩))) ∨ ((∀ j, j < 21 → L j) ∧ (∀ j, 21 ≤ j → ¬ L j) ∧ ∃ (w5 : World), W = w5.setCell ⟨bg, ka, none⟩ (.int .i64 xv) ∧ Below W0.heap.size W0 w5))) (by kernel_rfl) (by kernel_rfl) ?_ ?_ ?_
      · exact ⟨undef, undef, undef, undef, undef, undef, undef, undef, undef, undef, undef, undef, undef, undef, undef, undef, undef, undef, undef, undef, by simp only [Act.put, List.setIfInBounds_toArray, List.set_cons_zero, List.set_cons_succ], .inl ⟨fun _ _ h => h, Below.drew (Below.refl _ _), fun h => absurd h id, fun h => absurd h id, fun h => absurd h id, fun h => absurd h id, fun h => absurd h id, fun h => absurd h id, fun h => absurd h id, fun h => absurd h id, fun h => absurd h id, fun h => absurd h id, fun h => absurd h id, fun h => absurd h id, fun h => absurd h id, fun h => absurd h id, fun h => absurd h id, fun h => absurd h id, fun h => absurd h id, fun h => absurd h id, fun h => absurd h id, fun h => absurd h id⟩⟩
      · intro Q9; refine InvFrom.cons (fun L a W hI hN hD K hK => ?_) ?_
        · obtain ⟨sl28, sl29, sl30, sl31, sl32, sl33, sl34, sl35, sl36, sl37, sl38, sl39, sl40, sl41, sl42, sl43, sl44, sl45, sl46, sl47, ha, hI⟩ := hI
          subst ha
          rcases hI with hI | h9
          rotate_left
          · exact absurd (h9.1 0 (by decide)) hN
          obtain ⟨hn, hB, f0, f1, f2, f3, f4, f5, f6, f7, f8, f9, f10, f11, f12, f13, f14, f15, f16, f17, f18, f19⟩ := hI
          have hz := hB.size
          refine Kept.mk ?_
          simp only [Act.put, List.setIfInBounds_toArray, List.set_cons_zero, List.set_cons_succ]
          go_simp
          refine hK.out _ _ ?_
          exact ⟨.pointer (some ⟨w.heap.size + 1, 2, none⟩), sl29, sl30, sl31, sl32, sl33, sl34, sl35, sl36, sl37, sl38, sl39, sl40, sl41, sl42, sl43, sl44, sl45, sl46, sl47, by simp only [Act.put, List.setIfInBounds_toArray, List.set_cons_zero, List.set_cons_succ], .inl ⟨fun j hj h => h.elim (hn j hj) (by omega), hB, fun _ => rfl, fun h => f1 (h.resolve_right (by decide)), fun h => f2 (h.resolve_right (by decide)), fun h => f3 (h.resolve_right (by decide)), fun h => f4 (h.resolve_right (by decide)), fun h => f5 (h.resolve_right (by decide)), fun h => f6 (h.resolve_right (by decide)), fun h => f7 (h.resolve_right (by decide)), fun h => f8 (h.resolve_right (by decide)), fun h => f9 (h.resolve_right (by decide)), fun h => f10 (h.resolve_right (by decide)), fun h => f11 (h.resolve_right (by decide)), fun h => f12 (h.resolve_right (by decide)), fun h => f13 (h.resolve_right (by decide)), fun h => f14 (h.resolve_right (by decide)), fun h => f15 (h.resolve_right (by decide)), fun h => f16 (h.resolve_right (by decide)), fun h => f17 (h.resolve_right (by decide)), fun h => f18 (h.resolve_right (by decide)), fun h => f19 (h.resolve_right (by decide))⟩⟩
        refine InvFrom.cons (fun L a W hI hN hD K hK => ?_) ?_
        · obtain ⟨sl28, sl29, sl30, sl31, sl32, sl33, sl34, sl35, sl36, sl37, sl38, sl39, sl40, sl41, sl42, sl43, sl44, sl45, sl46, sl47, ha, hI⟩ := hI
          subst ha
          rcases hI with hI | h9
          rotate_left
          · exact absurd (h9.1 1 (by decide)) hN
          obtain ⟨hn, hB, f0, f1, f2, f3, f4, f5, f6, f7, f8, f9, f10, f11, f12, f13, f14, f15, f16, f17, f18, f19⟩ := hI
          have hz := hB.size
          have d0 := f0 (hD 0 (by kernel_rfl))
          subst d0
          have pg0 := box_cell (j := 0) (box_keep HG0.out hB (by omega)) rfl
          have pg1 := box_cell (j := 1) (box_keep HG0.out hB (by omega)) rfl
          have pg2 := box_cell (j := 2) (box_keep HG0.out hB (by omega)) rfl
          have pg3 := box_cell (j := 3) (box_keep HG0.out hB (by omega)) rfl
          have pg4 := box_cell (j := 4) (box_keep HG0.out hB (by omega)) rfl
          refine Kept.mk ?_
          simp only [Act.put, List.setIfInBounds_toArray, List.set_cons_zero, List.set_cons_succ]
          go_simp
          refine hK.out _ _ ?_
          exact ⟨.pointer (some ⟨w.heap.size + 1, 2, none⟩), (.slice (some ⟨bg, 0, none⟩) 6 c2), sl30, sl31, sl32, sl33, sl34, sl35, sl36, sl37, sl38, sl39, sl40, sl41, sl42, sl43, sl44, sl45, sl46, sl47, by simp only [Act.put, List.setIfInBounds_toArray, List.set_cons_zero, List.set_cons_succ], .inl ⟨fun j hj h => h.elim (hn j hj) (by omega), hB, fun h => f0 (h.resolve_right (by decide)), fun _ => rfl, fun h => f2 (h.resolve_right (by decide)), fun h => f3 (h.resolve_right (by decide)), fun h => f4 (h.resolve_right (by decide)), fun h => f5 (h.resolve_right (by decide)), fun h => f6 (h.resolve_right (by decide)), fun h => f7 (h.resolve_right (by decide)), fun h => f8 (h.resolve_right (by decide)), fun h => f9 (h.resolve_right (by decide)), fun h => f10 (h.resolve_right (by decide)), fun h => f11 (h.resolve_right (by decide)), fun h => f12 (h.resolve_right (by decide)), fun h => f13 (h.resolve_right (by decide)), fun h => f14 (h.resolve_right (by decide)), fun h => f15 (h.resolve_right (by decide)), fun h => f16 (h.resolve_right (by decide)), fun h => f17 (h.resolve_right (by decide)), fun h => f18 (h.resolve_right (by decide)), fun h => f19 (h.resolve_right (by decide))⟩⟩
        refine InvFrom.cons (fun L a W hI hN hD K hK => ?_) ?_
        · obtain ⟨sl28, sl29, sl30, sl31, sl32, sl33, sl34, sl35, sl36, sl37, sl38, sl39, sl40, sl41, sl42, sl43, sl44, sl45, sl46, sl47, ha, hI⟩ := hI
          subst ha
          rcases hI with hI | h9
          rotate_left
          · exact absurd (h9.1 2 (by decide)) hN
          obtain ⟨hn, hB, f0, f1, f2, f3, f4, f5, f6, f7, f8, f9, f10, f11, f12, f13, f14, f15, f16, f17, f18, f19⟩ := hI
          have hz := hB.size
          refine Kept.mk ?_
          simp only [Act.put, List.setIfInBounds_toArray, List.set_cons_zero, List.set_cons_succ]
          go_simp
          refine hK.out _ _ ?_
          exact ⟨sl28, sl29, .pointer (some ⟨w.heap.size, 1, none⟩), sl31, sl32, sl33, sl34, sl35, sl36, sl37, sl38, sl39, sl40, sl41, sl42, sl43, sl44, sl45, sl46, sl47, by simp only [Act.put, List.setIfInBounds_toArray, List.set_cons_zero, List.set_cons_succ], .inl ⟨fun j hj h => h.elim (hn j hj) (by omega), hB, fun h => f0 (h.resolve_right (by decide)), fun h => f1 (h.resolve_right (by decide)), fun _ => rfl, fun h => f3 (h.resolve_right (by decide)), fun h => f4 (h.resolve_right (by decide)), fun h => f5 (h.resolve_right (by decide)), fun h => f6 (h.resolve_right (by decide)), fun h => f7 (h.resolve_right (by decide)), fun h => f8 (h.resolve_right (by decide)), fun h => f9 (h.resolve_right (by decide)), fun h => f10 (h.resolve_right (by decide)), fun h => f11 (h.resolve_right (by decide)), fun h => f12 (h.resolve_right (by decide)), fun h => f13 (h.resolve_right (by decide)), fun h => f14 (h.resolve_right (by decide)), fun h => f15 (h.resolve_right (by decide)), fun h => f16 (h.resolve_right (by decide)), fun h => f17 (h.resolve_right (by decide)), fun h => f18 (h.resolve_right (by decide)), fun h => f19 (h.resolve_right (by decide))⟩⟩
        refine InvFrom.cons (fun L a W hI hN hD K hK => ?_) ?_
        · obtain ⟨sl28, sl29, sl30, sl31, sl32, sl33, sl34, sl35, sl36, sl37, sl38, sl39, sl40, sl41, sl42, sl43, sl44, sl45, sl46, sl47, ha, hI⟩ := hI
          subst ha
          rcases hI with hI | h9
          rotate_left
          · exact absurd (h9.1 3 (by decide)) hN
          obtain ⟨hn, hB, f0, f1, f2, f3, f4, f5, f6, f7, f8, f9, f10, f11, f12, f13, f14, f15, f16, f17, f18, f19⟩ := hI
          have hz := hB.size
          have d2 := f2 (hD 2 (by kernel_rfl))
          subst d2
          have pi0 := box_cell (j := 0) (box_keep HI0.out hB (by omega)) rfl
          have pi1 := box_cell (j := 1) (box_keep HI0.out hB (by omega)) rfl
          have pi2 := box_cell (j := 2) (box_keep HI0.out hB (by omega)) rfl
          have pi3 := box_cell (j := 3) (box_keep HI0.out hB (by omega)) rfl
          refine Kept.mk ?_
          simp only [Act.put, List.setIfInBounds_toArray, List.set_cons_zero, List.set_cons_succ]
          go_simp
          refine hK.out _ _ ?_
          exact ⟨sl28, sl29, .pointer (some ⟨w.heap.size, 1, none⟩), (.int .i64 (ka : Int)), sl32, sl33, sl34, sl35, sl36, sl37, sl38, sl39, sl40, sl41, sl42, sl43, sl44, sl45, sl46, sl47, by simp only [Act.put, List.setIfInBounds_toArray, List.set_cons_zero, List.set_cons_succ], .inl ⟨fun j hj h => h.elim (hn j hj) (by omega), hB, fun h => f0 (h.resolve_right (by decide)), fun h => f1 (h.resolve_right (by decide)), fun h => f2 (h.resolve_right (by decide)), fun _ => rfl, fun h => f4 (h.resolve_right (by decide)), fun h => f5 (h.resolve_right (by decide)), fun h => f6 (h.resolve_right (by decide)), fun h => f7 (h.resolve_right (by decide)), fun h => f8 (h.resolve_right (by decide)), fun h => f9 (h.resolve_right (by decide)), fun h => f10 (h.resolve_right (by decide)), fun h => f11 (h.resolve_right (by decide)), fun h => f12 (h.resolve_right (by decide)), fun h => f13 (h.resolve_right (by decide)), fun h => f14 (h.resolve_right (by decide)), fun h => f15 (h.resolve_right (by decide)), fun h => f16 (h.resolve_right (by decide)), fun h => f17 (h.resolve_right (by decide)), fun h => f18 (h.resolve_right (by decide)), fun h => f19 (h.resolve_right (by decide))⟩⟩
        refine InvFrom.cons (fun L a W hI hN hD K hK => ?_) ?_
        · obtain ⟨sl28, sl29, sl30, sl31, sl32, sl33, sl34, sl35, sl36, sl37, sl38, sl39, sl40, sl41, sl42, sl43, sl44, sl45, sl46, sl47, ha, hI⟩ := hI
          subst ha
          rcases hI with hI | h9
          rotate_left
          · exact absurd (h9.1 4 (by decide)) hN
          obtain ⟨hn, hB, f0, f1, f2, f3, f4, f5, f6, f7, f8, f9, f10, f11, f12, f13, f14, f15, f16, f17, f18, f19⟩ := hI
          have hz := hB.size
          refine Kept.mk ?_
          simp only [Act.put, List.setIfInBounds_toArray, List.set_cons_zero, List.set_cons_succ]
          go_simp
          refine hK.out _ _ ?_
          exact ⟨sl28, sl29, sl30, sl31, .pointer (some ⟨w.heap.size, 0, none⟩), sl33, sl34, sl35, sl36, sl37, sl38, sl39, sl40, sl41, sl42, sl43, sl44, sl45, sl46, sl47, by simp only [Act.put, List.setIfInBounds_toArray, List.set_cons_zero, List.set_cons_succ], .inl ⟨fun j hj h => h.elim (hn j hj) (by omega), hB, fun h => f0 (h.resolve_right (by decide)), fun h => f1 (h.resolve_right (by decide)), fun h => f2 (h.resolve_right (by decide)), fun h => f3 (h.resolve_right (by decide)), fun _ => rfl, fun h => f5 (h.resolve_right (by decide)), fun h => f6 (h.resolve_right (by decide)), fun h => f7 (h.resolve_right (by decide)), fun h => f8 (h.resolve_right (by decide)), fun h => f9 (h.resolve_right (by decide)), fun h => f10 (h.resolve_right (by decide)), fun h => f11 (h.resolve_right (by decide)), fun h => f12 (h.resolve_right (by decide)), fun h => f13 (h.resolve_right (by decide)), fun h => f14 (h.resolve_right (by decide)), fun h => f15 (h.resolve_right (by decide)), fun h => f16 (h.resolve_right (by decide)), fun h => f17 (h.resolve_right (by decide)), fun h => f18 (h.resolve_right (by decide)), fun h => f19 (h.resolve_right (by decide))⟩⟩
        refine InvFrom.cons (fun L a W hI hN hD K hK => ?_) ?_
        · obtain ⟨sl28, sl29, sl30, sl31, sl32, sl33, sl34, sl35, sl36, sl37, sl38, sl39, sl40, sl41, sl42, sl43, sl44, sl45, sl46, sl47, ha, hI⟩ := hI
          subst ha
          rcases hI with hI | h9
          rotate_left
          · exact absurd (h9.1 5 (by decide)) hN
          obtain ⟨hn, hB, f0, f1, f2, f3, f4, f5, f6, f7, f8, f9, f10, f11, f12, f13, f14, f15, f16, f17, f18, f19⟩ := hI
          have hz := hB.size
          have d4 := f4 (hD 4 (by kernel_rfl))
          subst d4
          have pi0 := box_cell (j := 0) (box_keep HI0.out hB (by omega)) rfl
          have pi1 := box_cell (j := 1) (box_keep HI0.out hB (by omega)) rfl
          have pi2 := box_cell (j := 2) (box_keep HI0.out hB (by omega)) rfl
          have pi3 := box_cell (j := 3) (box_keep HI0.out hB (by omega)) rfl
          refine Kept.mk ?_
          simp only [Act.put, List.setIfInBounds_toArray, List.set_cons_zero, List.set_cons_succ]
          go_simp
          refine hK.out _ _ ?_
          exact ⟨sl28, sl29, sl30, sl31, .pointer (some ⟨w.heap.size, 0, none⟩), (.int .i64 4), sl34, sl35, sl36, sl37, sl38, sl39, sl40, sl41, sl42, sl43, sl44, sl45, sl46, sl47, by simp only [Act.put, List.setIfInBounds_toArray, List.set_cons_zero, List.set_cons_succ], .inl ⟨fun j hj h => h.elim (hn j hj) (by omega), hB, fun h => f0 (h.resolve_right (by decide)), fun h => f1 (h.resolve_right (by decide)), fun h => f2 (h.resolve_right (by decide)), fun h => f3 (h.resolve_right (by decide)), fun h => f4 (h.resolve_right (by decide)), fun _ => rfl, fun h => f6 (h.resolve_right (by decide)), fun h => f7 (h.resolve_right (by decide)), fun h => f8 (h.resolve_right (by decide)), fun h => f9 (h.resolve_right (by decide)), fun h => f10 (h.resolve_right (by decide)), fun h => f11 (h.resolve_right (by decide)), fun h => f12 (h.resolve_right (by decide)), fun h => f13 (h.resolve_right (by decide)), fun h => f14 (h.resolve_right (by decide)), fun h => f15 (h.resolve_right (by decide)), fun h => f16 (h.resolve_right (by decide)), fun h => f17 (h.resolve_right (by decide)), fun h => f18 (h.resolve_right (by decide)), fun h => f19 (h.resolve_right (by decide))⟩⟩
        refine InvFrom.cons (fun L a W hI hN hD K hK => ?_) ?_
        · obtain ⟨sl28, sl29, sl30, sl31, sl32, sl33, sl34, sl35, sl36, sl37, sl38, sl39, sl40, sl41, sl42, sl43, sl44, sl45, sl46, sl47, ha, hI⟩ := hI
          subst ha
          rcases hI with hI | h9
          rotate_left
          · exact absurd (h9.1 6 (by decide)) hN
          obtain ⟨hn, hB, f0, f1, f2, f3, f4, f5, f6, f7, f8, f9, f10, f11, f12, f13, f14, f15, f16, f17, f18, f19⟩ := hI
          have hz := hB.size
          refine Kept.mk ?_
          simp only [Act.put, List.setIfInBounds_toArray, List.set_cons_zero, List.set_cons_succ]
          go_simp
          refine hK.out _ _ ?_
          exact ⟨sl28, sl29, sl30, sl31, sl32, sl33, .pointer (some ⟨w.heap.size + 1, 2, none⟩), sl35, sl36, sl37, sl38, sl39, sl40, sl41, sl42, sl43, sl44, sl45, sl46, sl47, by simp only [Act.put, List.setIfInBounds_toArray, List.set_cons_zero, List.set_cons_succ], .inl ⟨fun j hj h => h.elim (hn j hj) (by omega), hB, fun h => f0 (h.resolve_right (by decide)), fun h => f1 (h.resolve_right (by decide)), fun h => f2 (h.resolve_right (by decide)), fun h => f3 (h.resolve_right (by decide)), fun h => f4 (h.resolve_right (by decide)), fun h => f5 (h.resolve_right (by decide)), fun _ => rfl, fun h => f7 (h.resolve_right (by decide)), fun h => f8 (h.resolve_right (by decide)), fun h => f9 (h.resolve_right (by decide)), fun h => f10 (h.resolve_right (by decide)), fun h => f11 (h.resolve_right (by decide)), fun h => f12 (h.resolve_right (by decide)), fun h => f13 (h.resolve_right (by decide)), fun h => f14 (h.resolve_right (by decide)), fun h => f15 (h.resolve_right (by decide)), fun h => f16 (h.resolve_right (by decide)), fun h => f17 (h.resolve_right (by decide)), fun h => f18 (h.resolve_right (by decide)), fun h => f19 (h.resolve_right (by decide))⟩⟩
        refine InvFrom.cons (fun L a W hI hN hD K hK => ?_) ?_
        · obtain ⟨sl28, sl29, sl30, sl31, sl32, sl33, sl34, sl35, sl36, sl37, sl38, sl39, sl40, sl41, sl42, sl43, sl44, sl45, sl46, sl47, ha, hI⟩ := hI
          subst ha
          rcases hI with hI | h9
          rotate_left
          · exact absurd (h9.1 7 (by decide)) hN
          obtain ⟨hn, hB, f0, f1, f2, f3, f4, f5, f6, f7, f8, f9, f10, f11, f12, f13, f14, f15, f16, f17, f18, f19⟩ := hI
          have hz := hB.size
          have d6 := f6 (hD 6 (by kernel_rfl))
          subst d6
          have pg0 := box_cell (j := 0) (box_keep HG0.out hB (by omega)) rfl
          have pg1 := box_cell (j := 1) (box_keep HG0.out hB (by omega)) rfl
          have pg2 := box_cell (j := 2) (box_keep HG0.out hB (by omega)) rfl
          have pg3 := box_cell (j := 3) (box_keep HG0.out hB (by omega)) rfl
          have pg4 := box_cell (j := 4) (box_keep HG0.out hB (by omega)) rfl
          refine Kept.mk ?_
          simp only [Act.put, List.setIfInBounds_toArray, List.set_cons_zero, List.set_cons_succ]
          go_simp
          refine hK.out _ _ ?_
          exact ⟨sl28, sl29, sl30, sl31, sl32, sl33, .pointer (some ⟨w.heap.size + 1, 2, none⟩), (.slice (some ⟨bg, 0, none⟩) 6 c2), sl36, sl37, sl38, sl39, sl40, sl41, sl42, sl43, sl44, sl45, sl46, sl47, by simp only [Act.put, List.setIfInBounds_toArray, List.set_cons_zero, List.set_cons_succ], .inl ⟨fun j hj h => h.elim (hn j hj) (by omega), hB, fun h => f0 (h.resolve_right (by decide)), fun h => f1 (h.resolve_right (by decide)), fun h => f2 (h.resolve_right (by decide)), fun h => f3 (h.resolve_right (by decide)), fun h => f4 (h.resolve_right (by decide)), fun h => f5 (h.resolve_right (by decide)), fun h => f6 (h.resolve_right (by decide)), fun _ => rfl, fun h => f8 (h.resolve_right (by decide)), fun h => f9 (h.resolve_right (by decide)), fun h => f10 (h.resolve_right (by decide)), fun h => f11 (h.resolve_right (by decide)), fun h => f12 (h.resolve_right (by decide)), fun h => f13 (h.resolve_right (by decide)), fun h => f14 (h.resolve_right (by decide)), fun h => f15 (h.resolve_right (by decide)), fun h => f16 (h.resolve_right (by decide)), fun h => f17 (h.resolve_right (by decide)), fun h => f18 (h.resolve_right (by decide)), fun h => f19 (h.resolve_right (by decide))⟩⟩
        refine InvFrom.cons (fun L a W hI hN hD K hK => ?_) ?_
        · obtain ⟨sl28, sl29, sl30, sl31, sl32, sl33, sl34, sl35, sl36, sl37, sl38, sl39, sl40, sl41, sl42, sl43, sl44, sl45, sl46, sl47, ha, hI⟩ := hI
          subst ha
          rcases hI with hI | h9
          rotate_left
          · exact absurd (h9.1 8 (by decide)) hN
          obtain ⟨hn, hB, f0, f1, f2, f3, f4, f5, f6, f7, f8, f9, f10, f11, f12, f13, f14, f15, f16, f17, f18, f19⟩ := hI
          have hz := hB.size
          refine Kept.mk ?_
          simp only [Act.put, List.setIfInBounds_toArray, List.set_cons_zero, List.set_cons_succ]
          go_simp
          refine hK.out _ _ ?_
          exact ⟨sl28, sl29, sl30, sl31, sl32, sl33, sl34, sl35, .pointer (some ⟨w.heap.size, 2, none⟩), sl37, sl38, sl39, sl40, sl41, sl42, sl43, sl44, sl45, sl46, sl47, by simp only [Act.put, List.setIfInBounds_toArray, List.set_cons_zero, List.set_cons_succ], .inl ⟨fun j hj h => h.elim (hn j hj) (by omega), hB, fun h => f0 (h.resolve_right (by decide)), fun h => f1 (h.resolve_right (by decide)), fun h => f2 (h.resolve_right (by decide)), fun h => f3 (h.resolve_right (by decide)), fun h => f4 (h.resolve_right (by decide)), fun h => f5 (h.resolve_right (by decide)), fun h => f6 (h.resolve_right (by decide)), fun h => f7 (h.resolve_right (by decide)), fun _ => rfl, fun h => f9 (h.resolve_right (by decide)), fun h => f10 (h.resolve_right (by decide)), fun h => f11 (h.resolve_right (by decide)), fun h => f12 (h.resolve_right (by decide)), fun h => f13 (h.resolve_right (by decide)), fun h => f14 (h.resolve_right (by decide)), fun h => f15 (h.resolve_right (by decide)), fun h => f16 (h.resolve_right (by decide)), fun h => f17 (h.resolve_right (by decide)), fun h => f18 (h.resolve_right (by decide)), fun h => f19 (h.resolve_right (by decide))⟩⟩
        refine InvFrom.cons (fun L a W hI hN hD K hK => ?_) ?_
        · obtain ⟨sl28, sl29, sl30, sl31, sl32, sl33, sl34, sl35, sl36, sl37, sl38, sl39, sl40, sl41, sl42, sl43, sl44, sl45, sl46, sl47, ha, hI⟩ := hI
          subst ha
          rcases hI with hI | h9
          rotate_left
          · exact absurd (h9.1 9 (by decide)) hN
          obtain ⟨hn, hB, f0, f1, f2, f3, f4, f5, f6, f7, f8, f9, f10, f11, f12, f13, f14, f15, f16, f17, f18, f19⟩ := hI
          have hz := hB.size
          have d8 := f8 (hD 8 (by kernel_rfl))
          subst d8
          have pi0 := box_cell (j := 0) (box_keep HI0.out hB (by omega)) rfl
          have pi1 := box_cell (j := 1) (box_keep HI0.out hB (by omega)) rfl
          have pi2 := box_cell (j := 2) (box_keep HI0.out hB (by omega)) rfl
          have pi3 := box_cell (j := 3) (box_keep HI0.out hB (by omega)) rfl
          refine Kept.mk ?_
          simp only [Act.put, List.setIfInBounds_toArray, List.set_cons_zero, List.set_cons_succ]
          go_simp
          refine hK.out _ _ ?_
          exact ⟨sl28, sl29, sl30, sl31, sl32, sl33, sl34, sl35, .pointer (some ⟨w.heap.size, 2, none⟩), (.int .i64 (kb : Int)), sl38, sl39, sl40, sl41, sl42, sl43, sl44, sl45, sl46, sl47, by simp only [Act.put, List.setIfInBounds_toArray, List.set_cons_zero, List.set_cons_succ], .inl ⟨fun j hj h => h.elim (hn j hj) (by omega), hB, fun h => f0 (h.resolve_right (by decide)), fun h => f1 (h.resolve_right (by decide)), fun h => f2 (h.resolve_right (by decide)), fun h => f3 (h.resolve_right (by decide)), fun h => f4 (h.resolve_right (by decide)), fun h => f5 (h.resolve_right (by decide)), fun h => f6 (h.resolve_right (by decide)), fun h => f7 (h.resolve_right (by decide)), fun h => f8 (h.resolve_right (by decide)), fun _ => rfl, fun h => f10 (h.resolve_right (by decide)), fun h => f11 (h.resolve_right (by decide)), fun h => f12 (h.resolve_right (by decide)), fun h => f13 (h.resolve_right (by decide)), fun h => f14 (h.resolve_right (by decide)), fun h => f15 (h.resolve_right (by decide)), fun h => f16 (h.resolve_right (by decide)), fun h => f17 (h.resolve_right (by decide)), fun h => f18 (h.resolve_right (by decide)), fun h => f19 (h.resolve_right (by decide))⟩⟩
        refine InvFrom.cons (fun L a W hI hN hD K hK => ?_) ?_
        · obtain ⟨sl28, sl29, sl30, sl31, sl32, sl33, sl34, sl35, sl36, sl37, sl38, sl39, sl40, sl41, sl42, sl43, sl44, sl45, sl46, sl47, ha, hI⟩ := hI
          subst ha
          rcases hI with hI | h9
          rotate_left
          · exact absurd (h9.1 10 (by decide)) hN
          obtain ⟨hn, hB, f0, f1, f2, f3, f4, f5, f6, f7, f8, f9, f10, f11, f12, f13, f14, f15, f16, f17, f18, f19⟩ := hI
          have hz := hB.size
          have d7 := f7 (hD 7 (by kernel_rfl))
          subst d7
          have d9 := f9 (hD 9 (by kernel_rfl))
          subst d9
          refine Kept.mk ?_
          simp only [Act.put, List.setIfInBounds_toArray, List.set_cons_zero, List.set_cons_succ]
          go_simp
          refine hK.out _ _ ?_
          exact ⟨sl28, sl29, sl30, sl31, sl32, sl33, sl34, (.slice (some ⟨bg, 0, none⟩) 6 c2), sl36, (.int .i64 (kb : Int)), .pointer (some ⟨bg, kb, none⟩), sl39, sl40, sl41, sl42, sl43, sl44, sl45, sl46, sl47, by simp only [Act.put, List.setIfInBounds_toArray, List.set_cons_zero, List.set_cons_succ], .inl ⟨fun j hj h => h.elim (hn j hj) (by omega), hB, fun h => f0 (h.resolve_right (by decide)), fun h => f1 (h.resolve_right (by decide)), fun h => f2 (h.resolve_right (by decide)), fun h => f3 (h.resolve_right (by decide)), fun h => f4 (h.resolve_right (by decide)), fun h => f5 (h.resolve_right (by decide)), fun h => f6 (h.resolve_right (by decide)), fun h => f7 (h.resolve_right (by decide)), fun h => f8 (h.resolve_right (by decide)), fun h => f9 (h.resolve_right (by decide)), fun _ => rfl, fun h => f11 (h.resolve_right (by decide)), fun h => f12 (h.resolve_right (by decide)), fun h => f13 (h.resolve_right (by decide)), fun h => f14 (h.resolve_right (by decide)), fun h => f15 (h.resolve_right (by decide)), fun h => f16 (h.resolve_right (by decide)), fun h => f17 (h.resolve_right (by decide)), fun h => f18 (h.resolve_right (by decide)), fun h => f19 (h.resolve_right (by decide))⟩⟩
        refine InvFrom.cons (fun L a W hI hN hD K hK => ?_) ?_
        · obtain ⟨sl28, sl29, sl30, sl31, sl32, sl33, sl34, sl35, sl36, sl37, sl38, sl39, sl40, sl41, sl42, sl43, sl44, sl45, sl46, sl47, ha, hI⟩ := hI
          subst ha
          rcases hI with hI | h9
          rotate_left
          · exact absurd (h9.1 11 (by decide)) hN
          obtain ⟨hn, hB, f0, f1, f2, f3, f4, f5, f6, f7, f8, f9, f10, f11, f12, f13, f14, f15, f16, f17, f18, f19⟩ := hI
          have hz := hB.size
          have d10 := f10 (hD 10 (by kernel_rfl))
          subst d10
          have hrr := (HCB.out W hB).1
          refine Kept.mk ?_
          simp only [Act.put, List.setIfInBounds_toArray, List.set_cons_zero, List.set_cons_succ]
          go_simp
          refine hK.out _ _ ?_
          exact ⟨sl28, sl29, sl30, sl31, sl32, sl33, sl34, sl35, sl36, sl37, .pointer (some ⟨bg, kb, none⟩), (.int .i64 xb), sl40, sl41, sl42, sl43, sl44, sl45, sl46, sl47, by simp only [Act.put, List.setIfInBounds_toArray, List.set_cons_zero, List.set_cons_succ], .inl ⟨fun j hj h => h.elim (hn j hj) (by omega), hB, fun h => f0 (h.resolve_right (by decide)), fun h => f1 (h.resolve_right (by decide)), fun h => f2 (h.resolve_right (by decide)), fun h => f3 (h.resolve_right (by decide)), fun h => f4 (h.resolve_right (by decide)), fun h => f5 (h.resolve_right (by decide)), fun h => f6 (h.resolve_right (by decide)), fun h => f7 (h.resolve_right (by decide)), fun h => f8 (h.resolve_right (by decide)), fun h => f9 (h.resolve_right (by decide)), fun h => f10 (h.resolve_right (by decide)), fun _ => rfl, fun h => f12 (h.resolve_right (by decide)), fun h => f13 (h.resolve_right (by decide)), fun h => f14 (h.resolve_right (by decide)), fun h => f15 (h.resolve_right (by decide)), fun h => f16 (h.resolve_right (by decide)), fun h => f17 (h.resolve_right (by decide)), fun h => f18 (h.resolve_right (by decide)), fun h => f19 (h.resolve_right (by decide))⟩⟩
        refine InvFrom.cons (fun L a W hI hN hD K hK => ?_) ?_
        · obtain ⟨sl28, sl29, sl30, sl31, sl32, sl33, sl34, sl35, sl36, sl37, sl38, sl39, sl40, sl41, sl42, sl43, sl44, sl45, sl46, sl47, ha, hI⟩ := hI
          subst ha
          rcases hI with hI | h9
          rotate_left
          · exact absurd (h9.1 12 (by decide)) hN
          obtain ⟨hn, hB, f0, f1, f2, f3, f4, f5, f6, f7, f8, f9, f10, f11, f12, f13, f14, f15, f16, f17, f18, f19⟩ := hI
          have hz := hB.size
          refine Kept.mk ?_
          simp only [Act.put, List.setIfInBounds_toArray, List.set_cons_zero, List.set_cons_succ]
          go_simp
          refine hK.out _ _ ?_
          exact ⟨sl28, sl29, sl30, sl31, sl32, sl33, sl34, sl35, sl36, sl37, sl38, sl39, .pointer (some ⟨w.heap.size + 1, 2, none⟩), sl41, sl42, sl43, sl44, sl45, sl46, sl47, by simp only [Act.put, List.setIfInBounds_toArray, List.set_cons_zero, List.set_cons_succ], .inl ⟨fun j hj h => h.elim (hn j hj) (by omega), hB, fun h => f0 (h.resolve_right (by decide)), fun h => f1 (h.resolve_right (by decide)), fun h => f2 (h.resolve_right (by decide)), fun h => f3 (h.resolve_right (by decide)), fun h => f4 (h.resolve_right (by decide)), fun h => f5 (h.resolve_right (by decide)), fun h => f6 (h.resolve_right (by decide)), fun h => f7 (h.resolve_right (by decide)), fun h => f8 (h.resolve_right (by decide)), fun h => f9 (h.resolve_right (by decide)), fun h => f10 (h.resolve_right (by decide)), fun h => f11 (h.resolve_right (by decide)), fun _ => rfl, fun h => f13 (h.resolve_right (by decide)), fun h => f14 (h.resolve_right (by decide)), fun h => f15 (h.resolve_right (by decide)), fun h => f16 (h.resolve_right (by decide)), fun h => f17 (h.resolve_right (by decide)), fun h => f18 (h.resolve_right (by decide)), fun h => f19 (h.resolve_right (by decide))⟩⟩
        refine InvFrom.cons (fun L a W hI hN hD K hK => ?_) ?_
        · obtain ⟨sl28, sl29, sl30, sl31, sl32, sl33, sl34, sl35, sl36, sl37, sl38, sl39, sl40, sl41, sl42, sl43, sl44, sl45, sl46, sl47, ha, hI⟩ := hI
          subst ha
          rcases hI with hI | h9
          rotate_left
          · exact absurd (h9.1 13 (by decide)) hN
          obtain ⟨hn, hB, f0, f1, f2, f3, f4, f5, f6, f7, f8, f9, f10, f11, f12, f13, f14, f15, f16, f17, f18, f19⟩ := hI
          have hz := hB.size
          have d12 := f12 (hD 12 (by kernel_rfl))
          subst d12
          have pg0 := box_cell (j := 0) (box_keep HG0.out hB (by omega)) rfl
          have pg1 := box_cell (j := 1) (box_keep HG0.out hB (by omega)) rfl
          have pg2 := box_cell (j := 2) (box_keep HG0.out hB (by omega)) rfl
          have pg3 := box_cell (j := 3) (box_keep HG0.out hB (by omega)) rfl
          have pg4 := box_cell (j := 4) (box_keep HG0.out hB (by omega)) rfl
          refine Kept.mk ?_
          simp only [Act.put, List.setIfInBounds_toArray, List.set_cons_zero, List.set_cons_succ]
          go_simp
          refine hK.out _ _ ?_
          exact ⟨sl28, sl29, sl30, sl31, sl32, sl33, sl34, sl35, sl36, sl37, sl38, sl39, .pointer (some ⟨w.heap.size + 1, 2, none⟩), (.slice (some ⟨bg, 0, none⟩) 6 c2), sl42, sl43, sl44, sl45, sl46, sl47, by simp only [Act.put, List.setIfInBounds_toArray, List.set_cons_zero, List.set_cons_succ], .inl ⟨fun j hj h => h.elim (hn j hj) (by omega), hB, fun h => f0 (h.resolve_right (by decide)), fun h => f1 (h.resolve_right (by decide)), fun h => f2 (h.resolve_right (by decide)), fun h => f3 (h.resolve_right (by decide)), fun h => f4 (h.resolve_right (by decide)), fun h => f5 (h.resolve_right (by decide)), fun h => f6 (h.resolve_right (by decide)), fun h => f7 (h.resolve_right (by decide)), fun h => f8 (h.resolve_right (by decide)), fun h => f9 (h.resolve_right (by decide)), fun h => f10 (h.resolve_right (by decide)), fun h => f11 (h.resolve_right (by decide)), fun h => f12 (h.resolve_right (by decide)), fun _ => rfl, fun h => f14 (h.resolve_right (by decide)), fun h => f15 (h.resolve_right (by decide)), fun h => f16 (h.resolve_right (by decide)), fun h => f17 (h.resolve_right (by decide)), fun h => f18 (h.resolve_right (by decide)), fun h => f19 (h.resolve_right (by decide))⟩⟩
        refine InvFrom.cons (fun L a W hI hN hD K hK => ?_) ?_
        · obtain ⟨sl28, sl29, sl30, sl31, sl32, sl33, sl34, sl35, sl36, sl37, sl38, sl39, sl40, sl41, sl42, sl43, sl44, sl45, sl46, sl47, ha, hI⟩ := hI
          subst ha
          rcases hI with hI | h9
          rotate_left
          · exact absurd (h9.1 14 (by decide)) hN
          obtain ⟨hn, hB, f0, f1, f2, f3, f4, f5, f6, f7, f8, f9, f10, f11, f12, f13, f14, f15, f16, f17, f18, f19⟩ := hI
          have hz := hB.size
          refine Kept.mk ?_
          simp only [Act.put, List.setIfInBounds_toArray, List.set_cons_zero, List.set_cons_succ]
          go_simp
          refine hK.out _ _ ?_
          exact ⟨sl28, sl29, sl30, sl31, sl32, sl33, sl34, sl35, sl36, sl37, sl38, sl39, sl40, sl41, .pointer (some ⟨w.heap.size, 3, none⟩), sl43, sl44, sl45, sl46, sl47, by simp only [Act.put, List.setIfInBounds_toArray, List.set_cons_zero, List.set_cons_succ], .inl ⟨fun j hj h => h.elim (hn j hj) (by omega), hB, fun h => f0 (h.resolve_right (by decide)), fun h => f1 (h.resolve_right (by decide)), fun h => f2 (h.resolve_right (by decide)), fun h => f3 (h.resolve_right (by decide)), fun h => f4 (h.resolve_right (by decide)), fun h => f5 (h.resolve_right (by decide)), fun h => f6 (h.resolve_right (by decide)), fun h => f7 (h.resolve_right (by decide)), fun h => f8 (h.resolve_right (by decide)), fun h => f9 (h.resolve_right (by decide)), fun h => f10 (h.resolve_right (by decide)), fun h => f11 (h.resolve_right (by decide)), fun h => f12 (h.resolve_right (by decide)), fun h => f13 (h.resolve_right (by decide)), fun _ => rfl, fun h => f15 (h.resolve_right (by decide)), fun h => f16 (h.resolve_right (by decide)), fun h => f17 (h.resolve_right (by decide)), fun h => f18 (h.resolve_right (by decide)), fun h => f19 (h.resolve_right (by decide))⟩⟩
        refine InvFrom.cons (fun L a W hI hN hD K hK => ?_) ?_
        · obtain ⟨sl28, sl29, sl30, sl31, sl32, sl33, sl34, sl35, sl36, sl37, sl38, sl39, sl40, sl41, sl42, sl43, sl44, sl45, sl46, sl47, ha, hI⟩ := hI
          subst ha
          rcases hI with hI | h9
          rotate_left
          · exact absurd (h9.1 15 (by decide)) hN
          obtain ⟨hn, hB, f0, f1, f2, f3, f4, f5, f6, f7, f8, f9, f10, f11, f12, f13, f14, f15, f16, f17, f18, f19⟩ := hI
          have hz := hB.size
          have d14 := f14 (hD 14 (by kernel_rfl))
          subst d14
          have pi0 := box_cell (j := 0) (box_keep HI0.out hB (by omega)) rfl
          have pi1 := box_cell (j := 1) (box_keep HI0.out hB (by omega)) rfl
          have pi2 := box_cell (j := 2) (box_keep HI0.out hB (by omega)) rfl
          have pi3 := box_cell (j := 3) (box_keep HI0.out hB (by omega)) rfl
          refine Kept.mk ?_
          simp only [Act.put, List.setIfInBounds_toArray, List.set_cons_zero, List.set_cons_succ]
          go_simp
          refine hK.out _ _ ?_
          exact ⟨sl28, sl29, sl30, sl31, sl32, sl33, sl34, sl35, sl36, sl37, sl38, sl39, sl40, sl41, .pointer (some ⟨w.heap.size, 3, none⟩), (.int .i64 (kc : Int)), sl44, sl45, sl46, sl47, by simp only [Act.put, List.setIfInBounds_toArray, List.set_cons_zero, List.set_cons_succ], .inl ⟨fun j hj h => h.elim (hn j hj) (by omega), hB, fun h => f0 (h.resolve_right (by decide)), fun h => f1 (h.resolve_right (by decide)), fun h => f2 (h.resolve_right (by decide)), fun h => f3 (h.resolve_right (by decide)), fun h => f4 (h.resolve_right (by decide)), fun h => f5 (h.resolve_right (by decide)), fun h => f6 (h.resolve_right (by decide)), fun h => f7 (h.resolve_right (by decide)), fun h => f8 (h.resolve_right (by decide)), fun h => f9 (h.resolve_right (by decide)), fun h => f10 (h.resolve_right (by decide)), fun h => f11 (h.resolve_right (by decide)), fun h => f12 (h.resolve_right (by decide)), fun h => f13 (h.resolve_right (by decide)), fun h => f14 (h.resolve_right (by decide)), fun _ => rfl, fun h => f16 (h.resolve_right (by decide)), fun h => f17 (h.resolve_right (by decide)), fun h => f18 (h.resolve_right (by decide)), fun h => f19 (h.resolve_right (by decide))⟩⟩
        refine InvFrom.cons (fun L a W hI hN hD K hK => ?_) ?_
        · obtain ⟨sl28, sl29, sl30, sl31, sl32, sl33, sl34, sl35, sl36, sl37, sl38, sl39, sl40, sl41, sl42, sl43, sl44, sl45, sl46, sl47, ha, hI⟩ := hI
          subst ha
          rcases hI with hI | h9
          rotate_left
          · exact absurd (h9.1 16 (by decide)) hN
          obtain ⟨hn, hB, f0, f1, f2, f3, f4, f5, f6, f7, f8, f9, f10, f11, f12, f13, f14, f15, f16, f17, f18, f19⟩ := hI
          have hz := hB.size
          have d13 := f13 (hD 13 (by kernel_rfl))
          subst d13
          have d15 := f15 (hD 15 (by kernel_rfl))
          subst d15
          refine Kept.mk ?_
          simp only [Act.put, List.setIfInBounds_toArray, List.set_cons_zero, List.set_cons_succ]
          go_simp
          refine hK.out _ _ ?_
          exact ⟨sl28, sl29, sl30, sl31, sl32, sl33, sl34, sl35, sl36, sl37, sl38, sl39, sl40, (.slice (some ⟨bg, 0, none⟩) 6 c2), sl42, (.int .i64 (kc : Int)), .pointer (some ⟨bg, kc, none⟩), sl45, sl46, sl47, by simp only [Act.put, List.setIfInBounds_toArray, List.set_cons_zero, List.set_cons_succ], .inl ⟨fun j hj h => h.elim (hn j hj) (by omega), hB, fun h => f0 (h.resolve_right (by decide)), fun h => f1 (h.resolve_right (by decide)), fun h => f2 (h.resolve_right (by decide)), fun h => f3 (h.resolve_right (by decide)), fun h => f4 (h.resolve_right (by decide)), fun h => f5 (h.resolve_right (by decide)), fun h => f6 (h.resolve_right (by decide)), fun h => f7 (h.resolve_right (by decide)), fun h => f8 (h.resolve_right (by decide)), fun h => f9 (h.resolve_right (by decide)), fun h => f10 (h.resolve_right (by decide)), fun h => f11 (h.resolve_right (by decide)), fun h => f12 (h.resolve_right (by decide)), fun h => f13 (h.resolve_right (by decide)), fun h => f14 (h.resolve_right (by decide)), fun h => f15 (h.resolve_right (by decide)), fun _ => rfl, fun h => f17 (h.resolve_right (by decide)), fun h => f18 (h.resolve_right (by decide)), fun h => f19 (h.resolve_right (by decide))⟩⟩
        refine InvFrom.cons (fun L a W hI hN hD K hK => ?_) ?_
        · obtain ⟨sl28, sl29, sl30, sl31, sl32, sl33, sl34, sl35, sl36, sl37, sl38, sl39, sl40, sl41, sl42, sl43, sl44, sl45, sl46, sl47, ha, hI⟩ := hI
          subst ha
          rcases hI with hI | h9
          rotate_left
          · exact absurd (h9.1 17 (by decide)) hN
          obtain ⟨hn, hB, f0, f1, f2, f3, f4, f5, f6, f7, f8, f9, f10, f11, f12, f13, f14, f15, f16, f17, f18, f19⟩ := hI
          have hz := hB.size
          have d16 := f16 (hD 16 (by kernel_rfl))
          subst d16
          have hrr := (HCC.out W hB).1
          refine Kept.mk ?_
          simp only [Act.put, List.setIfInBounds_toArray, List.set_cons_zero, List.set_cons_succ]
          go_simp
          refine hK.out _ _ ?_
          exact ⟨sl28, sl29, sl30, sl31, sl32, sl33, sl34, sl35, sl36, sl37, sl38, sl39, sl40, sl41, sl42, sl43, .pointer (some ⟨bg, kc, none⟩), (.int .i64 xc), sl46, sl47, by simp only [Act.put, List.setIfInBounds_toArray, List.set_cons_zero, List.set_cons_succ], .inl ⟨fun j hj h => h.elim (hn j hj) (by omega), hB, fun h => f0 (h.resolve_right (by decide)), fun h => f1 (h.resolve_right (by decide)), fun h => f2 (h.resolve_right (by decide)), fun h => f3 (h.resolve_right (by decide)), fun h => f4 (h.resolve_right (by decide)), fun h => f5 (h.resolve_right (by decide)), fun h => f6 (h.resolve_right (by decide)), fun h => f7 (h.resolve_right (by decide)), fun h => f8 (h.resolve_right (by decide)), fun h => f9 (h.resolve_right (by decide)), fun h => f10 (h.resolve_right (by decide)), fun h => f11 (h.resolve_right (by decide)), fun h => f12 (h.resolve_right (by decide)), fun h => f13 (h.resolve_right (by decide)), fun h => f14 (h.resolve_right (by decide)), fun h => f15 (h.resolve_right (by decide)), fun h => f16 (h.resolve_right (by decide)), fun _ => rfl, fun h => f18 (h.resolve_right (by decide)), fun h => f19 (h.resolve_right (by decide))⟩⟩
        refine InvFrom.cons (fun L a W hI hN hD K hK => ?_) ?_
        · obtain ⟨sl28, sl29, sl30, sl31, sl32, sl33, sl34, sl35, sl36, sl37, sl38, sl39, sl40, sl41, sl42, sl43, sl44, sl45, sl46, sl47, ha, hI⟩ := hI
          subst ha
          rcases hI with hI | h9
          rotate_left
          · exact absurd (h9.1 18 (by decide)) hN
          obtain ⟨hn, hB, f0, f1, f2, f3, f4, f5, f6, f7, f8, f9, f10, f11, f12, f13, f14, f15, f16, f17, f18, f19⟩ := hI
          have hz := hB.size
          have d5 := f5 (hD 5 (by kernel_rfl))
          subst d5
          have d11 := f11 (hD 11 (by kernel_rfl))
          subst d11
          have d17 := f17 (hD 17 (by kernel_rfl))
          subst d17
          refine kept_c3 rfl 113 _ _ _ _ rfl (fenters_of' Tryz.func113 (by kernel_rfl) (by kernel_rfl)) (.int .i64 4) (.int .i64 xb) (.int .i64 xc) (by kernel_rfl) (by kernel_rfl) (by kernel_rfl) (HCl.out W) ?_
          rintro e W1 ⟨rfl, rfl⟩
          refine ⟨_, rfl, hK.out _ _ ?_⟩
          exact ⟨sl28, sl29, sl30, sl31, sl32, (.int .i64 4), sl34, sl35, sl36, sl37, sl38, (.int .i64 xb), sl40, sl41, sl42, sl43, sl44, (.int .i64 xc), (.int .i64 xv), sl47, by simp only [Act.put, List.setIfInBounds_toArray, List.set_cons_zero, List.set_cons_succ], .inl ⟨fun j hj h => h.elim (hn j hj) (by omega), hB, fun h => f0 (h.resolve_right (by decide)), fun h => f1 (h.resolve_right (by decide)), fun h => f2 (h.resolve_right (by decide)), fun h => f3 (h.resolve_right (by decide)), fun h => f4 (h.resolve_right (by decide)), fun h => f5 (h.resolve_right (by decide)), fun h => f6 (h.resolve_right (by decide)), fun h => f7 (h.resolve_right (by decide)), fun h => f8 (h.resolve_right (by decide)), fun h => f9 (h.resolve_right (by decide)), fun h => f10 (h.resolve_right (by decide)), fun h => f11 (h.resolve_right (by decide)), fun h => f12 (h.resolve_right (by decide)), fun h => f13 (h.resolve_right (by decide)), fun h => f14 (h.resolve_right (by decide)), fun h => f15 (h.resolve_right (by decide)), fun h => f16 (h.resolve_right (by decide)), fun h => f17 (h.resolve_right (by decide)), fun _ => rfl, fun h => f19 (h.resolve_right (by decide))⟩⟩
        refine InvFrom.cons (fun L a W hI hN hD K hK => ?_) ?_
        · obtain ⟨sl28, sl29, sl30, sl31, sl32, sl33, sl34, sl35, sl36, sl37, sl38, sl39, sl40, sl41, sl42, sl43, sl44, sl45, sl46, sl47, ha, hI⟩ := hI
          subst ha
          rcases hI with hI | h9
          rotate_left
          · exact absurd (h9.1 19 (by decide)) hN
          obtain ⟨hn, hB, f0, f1, f2, f3, f4, f5, f6, f7, f8, f9, f10, f11, f12, f13, f14, f15, f16, f17, f18, f19⟩ := hI
          have hz := hB.size
          have d0 := f0 (hD 0 (by kernel_rfl))
          subst d0
          have d1 := f1 (hD 1 (by kernel_rfl))
          subst d1
          have d2 := f2 (hD 2 (by kernel_rfl))
          subst d2
          have d3 := f3 (hD 3 (by kernel_rfl))
          subst d3
          have d4 := f4 (hD 4 (by kernel_rfl))
          subst d4
          have d5 := f5 (hD 5 (by kernel_rfl))
          subst d5
          have d6 := f6 (hD 6 (by kernel_rfl))
          subst d6
          have d7 := f7 (hD 7 (by kernel_rfl))
          subst d7
          have d8 := f8 (hD 8 (by kernel_rfl))
          subst d8
          have d9 := f9 (hD 9 (by kernel_rfl))
          subst d9
          have d10 := f10 (hD 10 (by kernel_rfl))
          subst d10
          have d11 := f11 (hD 11 (by kernel_rfl))
          subst d11
          have d12 := f12 (hD 12 (by kernel_rfl))
          subst d12
          have d13 := f13 (hD 13 (by kernel_rfl))
          subst d13
          have d14 := f14 (hD 14 (by kernel_rfl))
          subst d14
          have d15 := f15 (hD 15 (by kernel_rfl))
          subst d15
          have d16 := f16 (hD 16 (by kernel_rfl))
          subst d16
          have d17 := f17 (hD 17 (by kernel_rfl))
          subst d17
          have d18 := f18 (hD 18 (by kernel_rfl))
          subst d18
          refine Kept.mk ?_
          simp only [Act.put, List.setIfInBounds_toArray, List.set_cons_zero, List.set_cons_succ]
          go_simp
          refine hK.out _ _ ?_
          exact ⟨.pointer (some ⟨w.heap.size + 1, 2, none⟩), (.slice (some ⟨bg, 0, none⟩) 6 c2), .pointer (some ⟨w.heap.size, 1, none⟩), (.int .i64 (ka : Int)), .pointer (some ⟨w.heap.size, 0, none⟩), (.int .i64 4), .pointer (some ⟨w.heap.size + 1, 2, none⟩), (.slice (some ⟨bg, 0, none⟩) 6 c2), .pointer (some ⟨w.heap.size, 2, none⟩), (.int .i64 (kb : Int)), .pointer (some ⟨bg, kb, none⟩), (.int .i64 xb), .pointer (some ⟨w.heap.size + 1, 2, none⟩), (.slice (some ⟨bg, 0, none⟩) 6 c2), .pointer (some ⟨w.heap.size, 3, none⟩), (.int .i64 (kc : Int)), .pointer (some ⟨bg, kc, none⟩), (.int .i64 xc), (.int .i64 xv), .pointer (some ⟨bg, ka, none⟩), by simp only [Act.put, List.setIfInBounds_toArray, List.set_cons_zero, List.set_cons_succ], .inl ⟨fun j hj h => h.elim (hn j hj) (by omega), hB, fun h => f0 (h.resolve_right (by decide)), fun h => f1 (h.resolve_right (by decide)), fun h => f2 (h.resolve_right (by decide)), fun h => f3 (h.resolve_right (by decide)), fun h => f4 (h.resolve_right (by decide)), fun h => f5 (h.resolve_right (by decide)), fun h => f6 (h.resolve_right (by decide)), fun h => f7 (h.resolve_right (by decide)), fun h => f8 (h.resolve_right (by decide)), fun h => f9 (h.resolve_right (by decide)), fun h => f10 (h.resolve_right (by decide)), fun h => f11 (h.resolve_right (by decide)), fun h => f12 (h.resolve_right (by decide)), fun h => f13 (h.resolve_right (by decide)), fun h => f14 (h.resolve_right (by decide)), fun h => f15 (h.resolve_right (by decide)), fun h => f16 (h.resolve_right (by decide)), fun h => f17 (h.resolve_right (by decide)), fun h => f18 (h.resolve_right (by decide)), fun _ => rfl⟩⟩
        refine InvFrom.cons (fun L a W hI hN hD K hK => ?_) ?_
        · obtain ⟨sl28, sl29, sl30, sl31, sl32, sl33, sl34, sl35, sl36, sl37, sl38, sl39, sl40, sl41, sl42, sl43, sl44, sl45, sl46, sl47, ha, hI⟩ := hI
          subst ha
          rcases hI with hI | h9
          rotate_left
          · exact absurd (h9.1 20 (by decide)) hN
          obtain ⟨hn, hB, f0, f1, f2, f3, f4, f5, f6, f7, f8, f9, f10, f11, f12, f13, f14, f15, f16, f17, f18, f19⟩ := hI
          have hz := hB.size
          have d18 := f18 (hD 18 (by kernel_rfl))
          subst d18
          have d19 := f19 (hD 19 (by kernel_rfl))
          subst d19
          obtain ⟨ra, raf⟩ := HCA.out W hB
          refine Kept.mk ?_
          simp only [Act.put, List.setIfInBounds_toArray, List.set_cons_zero, List.set_cons_succ]
          go_simp
          refine hK.out _ _ ?_
          have hall : ∀ j, j < 21 → (L j ∨ j = 20) := by
            intro j hj
            have hj2 : j = 0 ∨ j = 1 ∨ j = 2 ∨ j = 3 ∨ j = 4 ∨ j = 5 ∨ j = 6 ∨ j = 7 ∨ j = 8 ∨ j = 9 ∨ j = 10 ∨ j = 11 ∨ j = 12 ∨ j = 13 ∨ j = 14 ∨ j = 15 ∨ j = 16 ∨ j = 17 ∨ j = 18 ∨ j = 19 ∨ j = 20 := by omega
            rcases hj2 with rfl | rfl | rfl | rfl | rfl | rfl | rfl | rfl | rfl | rfl | rfl | rfl | rfl | rfl | rfl | rfl | rfl | rfl | rfl | rfl | rfl
            · exact .inl (hD 0 (by kernel_rfl))
            · exact .inl (hD 1 (by kernel_rfl))
            · exact .inl (hD 2 (by kernel_rfl))
            · exact .inl (hD 3 (by kernel_rfl))
            · exact .inl (hD 4 (by kernel_rfl))
            · exact .inl (hD 5 (by kernel_rfl))
            · exact .inl (hD 6 (by kernel_rfl))
            · exact .inl (hD 7 (by kernel_rfl))
            · exact .inl (hD 8 (by kernel_rfl))
            · exact .inl (hD 9 (by kernel_rfl))
            · exact .inl (hD 10 (by kernel_rfl))
            · exact .inl (hD 11 (by kernel_rfl))
            · exact .inl (hD 12 (by kernel_rfl))
            · exact .inl (hD 13 (by kernel_rfl))
            · exact .inl (hD 14 (by kernel_rfl))
            · exact .inl (hD 15 (by kernel_rfl))
            · exact .inl (hD 16 (by kernel_rfl))
            · exact .inl (hD 17 (by kernel_rfl))
            · exact .inl (hD 18 (by kernel_rfl))
            · exact .inl (hD 19 (by kernel_rfl))
            · exact .inr rfl
          exact ⟨sl28, sl29, sl30, sl31, sl32, sl33, sl34, sl35, sl36, sl37, sl38, sl39, sl40, sl41, sl42, sl43, sl44, sl45, (.int .i64 xv), .pointer (some ⟨bg, ka, none⟩), by simp only [Act.put, List.setIfInBounds_toArray, List.set_cons_zero, List.set_cons_succ], .inr (⟨hall, fun j hj h => h.elim (hn j (by omega)) (by omega), ⟨W, rfl, hB⟩⟩)⟩
        exact InvFrom.nil
      intro L a w8 hL hI
      obtain ⟨sl28, sl29, sl30, sl31, sl32, sl33, sl34, sl35, sl36, sl37, sl38, sl39, sl40, sl41, sl42, sl43, sl44, sl45, sl46, sl47, ha, hI⟩ := hI
      subst ha
      rcases hI with h9 | hI
      · exact absurd (hL 20 (by decide)) (h9.1 20 (by decide))
      have hfin := hI.2.2
      obtain ⟨w5, rfl, hb5⟩ := hfin
      clear hL hI
      refine Kept.mk ?_
      simp only [Act.put, List.setIfInBounds_toArray, List.set_cons_zero, List.set_cons_succ]
      have hz5 := hb5.size
      have HBW := Lib.hid (HB0.out.trans (hb5.mono (by omega)))
      have HG5 := Lib.hid (box_keep HG0.out hb5 (by omega))
      have HR5 := Lib.hid (box_keep HR0.out hb5 (by omega))
      have HH5 := Lib.hid (HH0.out.stay (fun k _ hk => hb5.block k hk) hb5.size)
      clear hb5
      have HH1 := Lib.hid (HoldG.regSet (r := ka) (v := xv) HH5.out hka HVW.out)
      have HB1 := Lib.hid (below_set (p := ⟨bg, ka, none⟩) (HBW.out.mono hlo) hlg (.int .i64 xv))
      have HG1 := Lib.hid ((Below.heap_setCell w5 ⟨bg, ka, none⟩ (.int .i64 xv) (w.heap.size + 1) (by simp only; omega)).trans HG5.out)
      have HR1 := Lib.hid ((Below.heap_setCell w5 ⟨bg, ka, none⟩ (.int .i64 xv) (w.heap.size + 2) (by simp only; omega)).trans HR5.out)
      have HK1 := Lib.hid ((Below.heap_setCell w5 ⟨bg, ka, none⟩ (.int .i64 xv) bo (by simp only; omega)).trans (HBW.out.block _ hbo))
      have hz1 : w.heap.size + 3 ≤ (w5.setCell ⟨bg, ka, none⟩ (.int .i64 xv)).heap.size := by simp only [World.size_setCell]; omega
      generalize (w5.setCell ⟨bg, ka, none⟩ (.int .i64 xv)) = W1 at *
      have g0 := box_cell (j := 0) HG1.out rfl
      have g1 := box_cell (j := 1) HG1.out rfl
      have g2 := box_cell (j := 2) HG1.out rfl
      have g3 := box_cell (j := 3) HG1.out rfl
      have g4 := box_cell (j := 4) HG1.out rfl
      have gf1 := box_free HG1.out 1
      go_upto_region 17 with (fail)
      have hput7 := put1 (j := 1) (u := .int .i64 (pc + 1)) HG1.out
      have HBx := Lib.hid (below_set (p := ⟨w.heap.size + 1, 1, none⟩) HB1.out (by simp only; omega) (.int .i64 (pc + 1)))
      have HK9 := Lib.hid ((Below.heap_setCell W1 ⟨w.heap.size + 1, 1, none⟩ (.int .i64 (pc + 1)) bo (by simp only; omega)).trans HK1.out)
      have HH7 := Lib.hid (((HH1.out).set (b := w.heap.size + 1) (j := 1) (u := .int .i64 (pc + 1)) (fun hb9 => by have := hb9.2.2; omega)).pc (v := (pc + 1)) (wf_val (by omega)))
      generalize (W1.setCell ⟨w.heap.size + 1, 1, none⟩ (.int .i64 (pc + 1))) = W7 at *
      obtain ⟨hG7, hk7, hs7⟩ := hput7
      have HRx := Lib.hid ((hk7 _ (by omega)).trans HR1.out)
      clear g0 g1 g2 g3 g4
      clear gf1 hk7
      have g0 := box_cell (j := 0) hG7 rfl
      have g1 := box_cell (j := 1) hG7 rfl
      have g2 := box_cell (j := 2) hG7 rfl
      have g3 := box_cell (j := 3) hG7 rfl
      have g4 := box_cell (j := 4) hG7 rfl
      have r0 := box_cell (j := 0) HRx.out rfl
      have r1 := box_cell (j := 1) HRx.out rfl
      have r2 := box_cell (j := 2) HRx.out rfl
      have r3 := box_cell (j := 3) HRx.out rfl
      have r4 := box_cell (j := 4) HRx.out rfl
      have rf0 := box_free HRx.out 0
      have rf1 := box_free HRx.out 1
      have rf2 := box_free HRx.out 2
      have rf3 := box_free HRx.out 3
      have rf4 := box_free HRx.out 4
      go_wp2_with fail
      have hfin := put5 (u0 := (.int .i64 pr)) (u1 := (.int .i64 (pc + 1))) (u2 := (.slice (some ⟨bg, 0, none⟩) 6 c2)) (u3 := (.int .i64 st)) (u4 := (.slice A4 n4 c4)) HRx.out
      have y0 := box_cell (j := 0) hfin.1 rfl
      have y1 := box_cell (j := 1) hfin.1 rfl
      have y2 := box_cell (j := 2) hfin.1 rfl
      have y3 := box_cell (j := 3) hfin.1 rfl
      have y4 := box_cell (j := 4) hfin.1 rfl
      refine bodyPost_ret (v := .agg #[.int .i64 pr, .int .i64 (pc + 1), .slice (some ⟨bg, 0, none⟩) 6 c2, .int .i64 st, .slice A4 n4 c4]) (by simp [results, Tryz.results97, go_sem, y0, y1, y2, y3, y4]) rfl ?_
      exact ⟨pr, pc + 1, regs.set ka xv, st, tr, _, _, _, _, _, _, HST.out, rfl, (HH7.out.stay (fun k hk _ => hfin.2.1 k (by have := hk.2.2; omega)) (Nat.le_of_eq hfin.2.2.symm)).wide (fun k hk _ => ⟨hk.1, hk.2.1⟩), below_put5 HBx.out (by omega), (hfin.2.1 _ (by omega)).trans HK9.out⟩
    · skip
      subst hop
      go_upto_region 10 with (fail)
      clear h1 h2
      clear i0 i1 i2 i3
      clear g0 g1 g2 g3 g4
      refine wp_region_inv (fun AC0 L a W => ∃ sl28 sl29 sl30 sl31 sl32 sl33 sl34 sl35 sl36 sl37 sl38 sl39 sl40 sl41 sl42 sl43 sl44 sl45 sl46 sl47 : Value, a = ((((((((((((((((((((AC0.put (some 28) sl28).put (some 29) sl29).put (some 30) sl30).put (some 31) sl31).put (some 32) sl32).put (some 33) sl33).put (some 34) sl34).put (some 35) sl35).put (some 36) sl36).put (some 37) sl37).put (some 38) sl38).put (some 39) sl39).put (some 40) sl40).put (some 41) sl41).put (some 42) sl42).put (some 43) sl43).put (some 44) sl44).put (some 45) sl45).put (some 46) sl46).put (some 47) sl47) ∧ (((∀ j, 20 ≤ j → ¬ L j) ∧ Below W0.heap.size W0 W ∧ (L 0 → sl28 = .pointer (some ⟨w.heap.size + 1, 2, none⟩)) ∧ (L 1 → sl29 = (.slice (some ⟨bg, 0, none⟩) 6 c2)) ∧ (L 2 → sl30 = .pointer (some ⟨w.heap.size, 1, none⟩)) ∧ (L 3 → sl31 = (.int .i64 (ka : Int))) ∧ (L 4 → sl32 = .pointer (some ⟨w.heap.size, 0, none⟩)) ∧ (L 5 → sl33 = (.int .i64 5)) ∧ (L 6 → sl34 = .pointer (some ⟨w.heap.size + 1, 2, none⟩)) ∧ (L 7 → sl35 = (.slice (some ⟨bg, 0, none⟩) 6 c2)) ∧ (L 8 → sl36 = .pointer (some ⟨w.heap.size, 2, none⟩)) ∧ (L 9 → sl37 = (.int .i64 (kb : Int))) ∧ (L 10 → sl38 = .pointer (some ⟨bg, kb, none⟩)) ∧ (L 11 → sl39 = (.int .i64 xb)) ∧ (L 12 → sl40 = .pointer (some ⟨w.heap.size + 1, 2, none⟩)) ∧ (L 13 → sl41 = (.slice (some ⟨bg, 0, none⟩) 6 c2)) ∧ (L 14 → sl42 = .pointer (some ⟨w.heap.size, 3, none⟩)) ∧ (L 15 → sl43 = (.int .i64 (kc : Int))) ∧ (L 16 → sl44 = .pointer (some ⟨bg, kc, none⟩)) ∧ (L 17 → sl45 = (.int .i64 xc)) ∧ (L 18 → sl46 = (.int .i64 xv)) ∧ (L 19 → sl47 = .pointer (some ⟨bg, ka, none⟩))) ∨ ((∀ j, j < 21 → L j) ∧ (∀ j, 21 ≤ j → ¬ L j) ∧ ∃ (w5 : World), W = w5.setCell ⟨bg, ka, none⟩ (.int .i64 xv) ∧ Below W0.heap.size W0 w5))) (by kernel_rfl) (by kernel_rfl) ?_ ?_ ?_
      · exact ⟨undef, undef, undef, undef, undef, undef, undef, undef, undef, undef, undef, undef, undef, undef, undef, undef, undef, undef, undef, undef, by simp only [Act.put, List.setIfInBounds_toArray, List.set_cons_zero, List.set_cons_succ], .inl ⟨fun _ _ h => h, Below.drew (Below.refl _ _), fun h => absurd h id, fun h => absurd h id, fun h => absurd h id, fun h => absurd h id, fun h => absurd h id, fun h => absurd h id, fun h => absurd h id, fun h => absurd h id, fun h => absurd h id, fun h => absurd h id, fun h => absurd h id, fun h => absurd h id, fun h => absurd h id, fun h => absurd h id, fun h => absurd h id, fun h => absurd h id, fun h => absurd h id, fun h => absurd h id, fun h => absurd h id, fun h => absurd h id⟩⟩
      · intro Q9; refine InvFrom.cons (fun L a W hI hN hD K hK => ?_) ?_
        · obtain ⟨sl28, sl29, sl30, sl31, sl32, sl33, sl34, sl35, sl36, sl37, sl38, sl39, sl40, sl41, sl42, sl43, sl44, sl45, sl46, sl47, ha, hI⟩ := hI
          subst ha
          rcases hI with hI | h9
          rotate_left
          · exact absurd (h9.1 0 (by decide)) hN
          obtain ⟨hn, hB, f0, f1, f2, f3, f4, f5, f6, f7, f8, f9, f10, f11, f12, f13, f14, f15, f16, f17, f18, f19⟩ := hI
          have hz := hB.size
          refine Kept.mk ?_
          simp only [Act.put, List.setIfInBounds_toArray, List.set_cons_zero, List.set_cons_succ]
          go_simp
          refine hK.out _ _ ?_
          exact ⟨.pointer (some ⟨w.heap.size + 1, 2, none⟩), sl29, sl30, sl31, sl32, sl33, sl34, sl35, sl36, sl37, sl38, sl39, sl40, sl41, sl42, sl43, sl44, sl45, sl46, sl47, by simp only [Act.put, List.setIfInBounds_toArray, List.set_cons_zero, List.set_cons_succ], .inl ⟨fun j hj h => h.elim (hn j hj) (by omega), hB, fun _ => rfl, fun h => f1 (h.resolve_right (by decide)), fun h => f2 (h.resolve_right (by decide)), fun h => f3 (h.resolve_right (by decide)), fun h => f4 (h.resolve_right (by decide)), fun h => f5 (h.resolve_right (by decide)), fun h => f6 (h.resolve_right (by decide)), fun h => f7 (h.resolve_right (by decide)), fun h => f8 (h.resolve_right (by decide)), fun h => f9 (h.resolve_right (by decide)), fun h => f10 (h.resolve_right (by decide)), fun h => f11 (h.resolve_right (by decide)), fun h => f12 (h.resolve_right (by decide)), fun h => f13 (h.resolve_right (by decide)), fun h => f14 (h.resolve_right (by decide)), fun h => f15 (h.resolve_right (by decide)), fun h => f16 (h.resolve_right (by decide)), fun h => f17 (h.resolve_right (by decide)), fun h => f18 (h.resolve_right (by decide)), fun h => f19 (h.resolve_right (by decide))⟩⟩
        refine InvFrom.cons (fun L a W hI hN hD K hK => ?_) ?_
        · obtain ⟨sl28, sl29, sl30, sl31, sl32, sl33, sl34, sl35, sl36, sl37, sl38, sl39, sl40, sl41, sl42, sl43, sl44, sl45, sl46, sl47, ha, hI⟩ := hI
          subst ha
          rcases hI with hI | h9
          rotate_left
          · exact absurd (h9.1 1 (by decide)) hN
          obtain ⟨hn, hB, f0, f1, f2, f3, f4, f5, f6, f7, f8, f9, f10, f11, f12, f13, f14, f15, f16, f17, f18, f19⟩ := hI
          have hz := hB.size
          have d0 := f0 (hD 0 (by kernel_rfl))
          subst d0
          have pg0 := box_cell (j := 0) (box_keep HG0.out hB (by omega)) rfl
          have pg1 := box_cell (j := 1) (box_keep HG0.out hB (by omega)) rfl
          have pg2 := box_cell (j := 2) (box_keep HG0.out hB (by omega)) rfl
          have pg3 := box_cell (j := 3) (box_keep HG0.out hB (by omega)) rfl
          have pg4 := box_cell (j := 4) (box_keep HG0.out hB (by omega)) rfl
          refine Kept.mk ?_
          simp only [Act.put, List.setIfInBounds_toArray, List.set_cons_zero, List.set_cons_succ]
          go_simp
          refine hK.out _ _ ?_
          exact ⟨.pointer (some ⟨w.heap.size + 1, 2, none⟩), (.slice (some ⟨bg, 0, none⟩) 6 c2), sl30, sl31, sl32, sl33, sl34, sl35, sl36, sl37, sl38, sl39, sl40, sl41, sl42, sl43, sl44, sl45, sl46, sl47, by simp only [Act.put, List.setIfInBounds_toArray, List.set_cons_zero, List.set_cons_succ], .inl ⟨fun j hj h => h.elim (hn j hj) (by omega), hB, fun h => f0 (h.resolve_right (by decide)), fun _ => rfl, fun h => f2 (h.resolve_right (by decide)), fun h => f3 (h.resolve_right (by decide)), fun h => f4 (h.resolve_right (by decide)), fun h => f5 (h.resolve_right (by decide)), fun h => f6 (h.resolve_right (by decide)), fun h => f7 (h.resolve_right (by decide)), fun h => f8 (h.resolve_right (by decide)), fun h => f9 (h.resolve_right (by decide)), fun h => f10 (h.resolve_right (by decide)), fun h => f11 (h.resolve_right (by decide)), fun h => f12 (h.resolve_right (by decide)), fun h => f13 (h.resolve_right (by decide)), fun h => f14 (h.resolve_right (by decide)), fun h => f15 (h.resolve_right (by decide)), fun h => f16 (h.resolve_right (by decide)), fun h => f17 (h.resolve_right (by decide)), fun h => f18 (h.resolve_right (by decide)), fun h => f19 (h.resolve_right (by decide))⟩⟩
        refine InvFrom.cons (fun L a W hI hN hD K hK => ?_) ?_
        · obtain ⟨sl28, sl29, sl30, sl31, sl32, sl33, sl34, sl35, sl36, sl37, sl38, sl39, sl40, sl41, sl42, sl43, sl44, sl45, sl46, sl47, ha, hI⟩ := hI
          subst ha
          rcases hI with hI | h9
          rotate_left
          · exact absurd (h9.1 2 (by decide)) hN
          obtain ⟨hn, hB, f0, f1, f2, f3, f4, f5, f6, f7, f8, f9, f10, f11, f12, f13, f14, f15, f16, f17, f18, f19⟩ := hI
          have hz := hB.size
          refine Kept.mk ?_
          simp only [Act.put, List.setIfInBounds_toArray, List.set_cons_zero, List.set_cons_succ]
          go_simp
          refine hK.out _ _ ?_
          exact ⟨sl28, sl29, .pointer (some ⟨w.heap.size, 1, none⟩), sl31, sl32, sl33, sl34, sl35, sl36, sl37, sl38, sl39, sl40, sl41, sl42, sl43, sl44, sl45, sl46, sl47, by simp only [Act.put, List.setIfInBounds_toArray, List.set_cons_zero, List.set_cons_succ], .inl ⟨fun j hj h => h.elim (hn j hj) (by omega), hB, fun h => f0 (h.resolve_right (by decide)), fun h => f1 (h.resolve_right (by decide)), fun _ => rfl, fun h => f3 (h.resolve_right (by decide)), fun h => f4 (h.resolve_right (by decide)), fun h => f5 (h.resolve_right (by decide)), fun h => f6 (h.resolve_right (by decide)), fun h => f7 (h.resolve_right (by decide)), fun h => f8 (h.resolve_right (by decide)), fun h => f9 (h.resolve_right (by decide)), fun h => f10 (h.resolve_right (by decide)), fun h => f11 (h.resolve_right (by decide)), fun h => f12 (h.resolve_right (by decide)), fun h => f13 (h.resolve_right (by decide)), fun h => f14 (h.resolve_right (by decide)), fun h => f15 (h.resolve_right (by decide)), fun h => f16 (h.resolve_right (by decide)), fun h => f17 (h.resolve_right (by decide)), fun h => f18 (h.resolve_right (by decide)), fun h => f19 (h.resolve_right (by decide))⟩⟩
        refine InvFrom.cons (fun L a W hI hN hD K hK => ?_) ?_
        · obtain ⟨sl28, sl29, sl30, sl31, sl32, sl33, sl34, sl35, sl36, sl37, sl38, sl39, sl40, sl41, sl42, sl43, sl44, sl45, sl46, sl47, ha, hI⟩ := hI
          subst ha
          rcases hI with hI | h9
          rotate_left
          · exact absurd (h9.1 3 (by decide)) hN
          obtain ⟨hn, hB, f0, f1, f2, f3, f4, f5, f6, f7, f8, f9, f10, f11, f12, f13, f14, f15, f16, f17, f18, f19⟩ := hI
          have hz := hB.size
          have d2 := f2 (hD 2 (by kernel_rfl))
          subst d2
          have pi0 := box_cell (j := 0) (box_keep HI0.out hB (by omega)) rfl
          have pi1 := box_cell (j := 1) (box_keep HI0.out hB (by omega)) rfl
          have pi2 := box_cell (j := 2) (box_keep HI0.out hB (by omega)) rfl
          have pi3 := box_cell (j := 3) (box_keep HI0.out hB (by omega)) rfl
          refine Kept.mk ?_
          simp only [Act.put, List.setIfInBounds_toArray, List.set_cons_zero, List.set_cons_succ]
          go_simp
          refine hK.out _ _ ?_
          exact ⟨sl28, sl29, .pointer (some ⟨w.heap.size, 1, none⟩), (.int .i64 (ka : Int)), sl32, sl33, sl34, sl35, sl36, sl37, sl38, sl39, sl40, sl41, sl42, sl43, sl44, sl45, sl46, sl47, by simp only [Act.put, List.setIfInBounds_toArray, List.set_cons_zero, List.set_cons_succ], .inl ⟨fun j hj h => h.elim (hn j hj) (by omega), hB, fun h => f0 (h.resolve_right (by decide)), fun h => f1 (h.resolve_right (by decide)), fun h => f2 (h.resolve_right (by decide)), fun _ => rfl, fun h => f4 (h.resolve_right (by decide)), fun h => f5 (h.resolve_right (by decide)), fun h => f6 (h.resolve_right (by decide)), fun h => f7 (h.resolve_right (by decide)), fun h => f8 (h.resolve_right (by decide)), fun h => f9 (h.resolve_right (by decide)), fun h => f10 (h.resolve_right (by decide)), fun h => f11 (h.resolve_right (by decide)), fun h => f12 (h.resolve_right (by decide)), fun h => f13 (h.resolve_right (by decide)), fun h => f14 (h.resolve_right (by decide)), fun h => f15 (h.resolve_right (by decide)), fun h => f16 (h.resolve_right (by decide)), fun h => f17 (h.resolve_right (by decide)), fun h => f18 (h.resolve_right (by decide)), fun h => f19 (h.resolve_right (by decide))⟩⟩
        refine InvFrom.cons (fun L a W hI hN hD K hK => ?_) ?_
        · obtain ⟨sl28, sl29, sl30, sl31, sl32, sl33, sl34, sl35, sl36, sl37, sl38, sl39, sl40, sl41, sl42, sl43, sl44, sl45, sl46, sl47, ha, hI⟩ := hI
          subst ha
          rcases hI with hI | h9
          rotate_left
          · exact absurd (h9.1 4 (by decide)) hN
          obtain ⟨hn, hB, f0, f1, f2, f3, f4, f5, f6, f7, f8, f9, f10, f11, f12, f13, f14, f15, f16, f17, f18, f19⟩ := hI
          have hz := hB.size
          refine Kept.mk ?_
          simp only [Act.put, List.setIfInBounds_toArray, List.set_cons_zero, List.set_cons_succ]
          go_simp
          refine hK.out _ _ ?_
          exact ⟨sl28, sl29, sl30, sl31, .pointer (some ⟨w.heap.size, 0, none⟩), sl33, sl34, sl35, sl36, sl37, sl38, sl39, sl40, sl41, sl42, sl43, sl44, sl45, sl46, sl47, by simp only [Act.put, List.setIfInBounds_toArray, List.set_cons_zero, List.set_cons_succ], .inl ⟨fun j hj h => h.elim (hn j hj) (by omega), hB, fun h => f0 (h.resolve_right (by decide)), fun h => f1 (h.resolve_right (by decide)), fun h => f2 (h.resolve_right (by decide)), fun h => f3 (h.resolve_right (by decide)), fun _ => rfl, fun h => f5 (h.resolve_right (by decide)), fun h => f6 (h.resolve_right (by decide)), fun h => f7 (h.resolve_right (by decide)), fun h => f8 (h.resolve_right (by decide)), fun h => f9 (h.resolve_right (by decide)), fun h => f10 (h.resolve_right (by decide)), fun h => f11 (h.resolve_right (by decide)), fun h => f12 (h.resolve_right (by decide)), fun h => f13 (h.resolve_right (by decide)), fun h => f14 (h.resolve_right (by decide)), fun h => f15 (h.resolve_right (by decide)), fun h => f16 (h.resolve_right (by decide)), fun h => f17 (h.resolve_right (by decide)), fun h => f18 (h.resolve_right (by decide)), fun h => f19 (h.resolve_right (by decide))⟩⟩
        refine InvFrom.cons (fun L a W hI hN hD K hK => ?_) ?_
        · obtain ⟨sl28, sl29, sl30, sl31, sl32, sl33, sl34, sl35, sl36, sl37, sl38, sl39, sl40, sl41, sl42, sl43, sl44, sl45, sl46, sl47, ha, hI⟩ := hI
          subst ha
          rcases hI with hI | h9
          rotate_left
          · exact absurd (h9.1 5 (by decide)) hN
          obtain ⟨hn, hB, f0, f1, f2, f3, f4, f5, f6, f7, f8, f9, f10, f11, f12, f13, f14, f15, f16, f17, f18, f19⟩ := hI
          have hz := hB.size
          have d4 := f4 (hD 4 (by kernel_rfl))
          subst d4
          have pi0 := box_cell (j := 0) (box_keep HI0.out hB (by omega)) rfl
          have pi1 := box_cell (j := 1) (box_keep HI0.out hB (by omega)) rfl
          have pi2 := box_cell (j := 2) (box_keep HI0.out hB (by omega)) rfl
          have pi3 := box_cell (j := 3) (box_keep HI0.out hB (by omega)) rfl
          refine Kept.mk ?_
          simp only [Act.put, List.setIfInBounds_toArray, List.set_cons_zero, List.set_cons_succ]
          go_simp
          refine hK.out _ _ ?_
          exact ⟨sl28, sl29, sl30, sl31, .pointer (some ⟨w.heap.size, 0, none⟩), (.int .i64 5), sl34, sl35, sl36, sl37, sl38, sl39, sl40, sl41, sl42, sl43, sl44, sl45, sl46, sl47, by simp only [Act.put, List.setIfInBounds_toArray, List.set_cons_zero, List.set_cons_succ], .inl ⟨fun j hj h => h.elim (hn j hj) (by omega), hB, fun h => f0 (h.resolve_right (by decide)), fun h => f1 (h.resolve_right (by decide)), fun h => f2 (h.resolve_right (by decide)), fun h => f3 (h.resolve_right (by decide)), fun h => f4 (h.resolve_right (by decide)), fun _ => rfl, fun h => f6 (h.resolve_right (by decide)), fun h => f7 (h.resolve_right (by decide)), fun h => f8 (h.resolve_right (by decide)), fun h => f9 (h.resolve_right (by decide)), fun h => f10 (h.resolve_right (by decide)), fun h => f11 (h.resolve_right (by decide)), fun h => f12 (h.resolve_right (by decide)), fun h => f13 (h.resolve_right (by decide)), fun h => f14 (h.resolve_right (by decide)), fun h => f15 (h.resolve_right (by decide)), fun h => f16 (h.resolve_right (by decide)), fun h => f17 (h.resolve_right (by decide)), fun h => f18 (h.resolve_right (by decide)), fun h => f19 (h.resolve_right (by decide))⟩⟩
        refine InvFrom.cons (fun L a W hI hN hD K hK => ?_) ?_
        · obtain ⟨sl28, sl29, sl30, sl31, sl32, sl33, sl34, sl35, sl36, sl37, sl38, sl39, sl40, sl41, sl42, sl43, sl44, sl45, sl46, sl47, ha, hI⟩ := hI
          subst ha
          rcases hI with hI | h9
          rotate_left
          · exact absurd (h9.1 6 (by decide)) hN
          obtain ⟨hn, hB, f0, f1, f2, f3, f4, f5, f6, f7, f8, f9, f10, f11, f12, f13, f14, f15, f16, f17, f18, f19⟩ := hI
          have hz := hB.size
          refine Kept.mk ?_
          simp only [Act.put, List.setIfInBounds_toArray, List.set_cons_zero, List.set_cons_succ]
          go_simp
          refine hK.out _ _ ?_
          exact ⟨sl28, sl29, sl30, sl31, sl32, sl33, .pointer (some ⟨w.heap.size + 1, 2, none⟩), sl35, sl36, sl37, sl38, sl39, sl40, sl41, sl42, sl43, sl44, sl45, sl46, sl47, by simp only [Act.put, List.setIfInBounds_toArray, List.set_cons_zero, List.set_cons_succ], .inl ⟨fun j hj h => h.elim (hn j hj) (by omega), hB, fun h => f0 (h.resolve_right (by decide)), fun h => f1 (h.resolve_right (by decide)), fun h => f2 (h.resolve_right (by decide)), fun h => f3 (h.resolve_right (by decide)), fun h => f4 (h.resolve_right (by decide)), fun h => f5 (h.resolve_right (by decide)), fun _ => rfl, fun h => f7 (h.resolve_right (by decide)), fun h => f8 (h.resolve_right (by decide)), fun h => f9 (h.resolve_right (by decide)), fun h => f10 (h.resolve_right (by decide)), fun h => f11 (h.resolve_right (by decide)), fun h => f12 (h.resolve_right (by decide)), fun h => f13 (h.resolve_right (by decide)), fun h => f14 (h.resolve_right (by decide)), fun h => f15 (h.resolve_right (by decide)), fun h => f16 (h.resolve_right (by decide)), fun h => f17 (h.resolve_right (by decide)), fun h => f18 (h.resolve_right (by decide)), fun h => f19 (h.resolve_right (by decide))⟩⟩
        refine InvFrom.cons (fun L a W hI hN hD K hK => ?_) ?_
        · obtain ⟨sl28, sl29, sl30, sl31, sl32, sl33, sl34, sl35, sl36, sl37, sl38, sl39, sl40, sl41, sl42, sl43, sl44, sl45, sl46, sl47, ha, hI⟩ := hI
          subst ha
          rcases hI with hI | h9
          rotate_left
          · exact absurd (h9.1 7 (by decide)) hN
          obtain ⟨hn, hB, f0, f1, f2, f3, f4, f5, f6, f7, f8, f9, f10, f11, f12, f13, f14, f15, f16, f17, f18, f19⟩ := hI
          have hz := hB.size
          have d6 := f6 (hD 6 (by kernel_rfl))
          subst d6
          have pg0 := box_cell (j := 0) (box_keep HG0.out hB (by omega)) rfl
          have pg1 := box_cell (j := 1) (box_keep HG0.out hB (by omega)) rfl
          have pg2 := box_cell (j := 2) (box_keep HG0.out hB (by omega)) rfl
          have pg3 := box_cell (j := 3) (box_keep HG0.out hB (by omega)) rfl
          have pg4 := box_cell (j := 4) (box_keep HG0.out hB (by omega)) rfl
          refine Kept.mk ?_
          simp only [Act.put, List.setIfInBounds_toArray, List.set_cons_zero, List.set_cons_succ]
          go_simp
          refine hK.out _ _ ?_
          exact ⟨sl28, sl29, sl30, sl31, sl32, sl33, .pointer (some ⟨w.heap.size + 1, 2, none⟩), (.slice (some ⟨bg, 0, none⟩) 6 c2), sl36, sl37, sl38, sl39, sl40, sl41, sl42, sl43, sl44, sl45, sl46, sl47, by simp only [Act.put, List.setIfInBounds_toArray, List.set_cons_zero, List.set_cons_succ], .inl ⟨fun j hj h => h.elim (hn j hj) (by omega), hB, fun h => f0 (h.resolve_right (by decide)), fun h => f1 (h.resolve_right (by decide)), fun h => f2 (h.resolve_right (by decide)), fun h => f3 (h.resolve_right (by decide)), fun h => f4 (h.resolve_right (by decide)), fun h => f5 (h.resolve_right (by decide)), fun h => f6 (h.resolve_right (by decide)), fun _ => rfl, fun h => f8 (h.resolve_right (by decide)), fun h => f9 (h.resolve_right (by decide)), fun h => f10 (h.resolve_right (by decide)), fun h => f11 (h.resolve_right (by decide)), fun h => f12 (h.resolve_right (by decide)), fun h => f13 (h.resolve_right (by decide)), fun h => f14 (h.resolve_right (by decide)), fun h => f15 (h.resolve_right (by decide)), fun h => f16 (h.resolve_right (by decide)), fun h => f17 (h.resolve_right (by decide)), fun h => f18 (h.resolve_right (by decide)), fun h => f19 (h.resolve_right (by decide))⟩⟩
        refine InvFrom.cons (fun L a W hI hN hD K hK => ?_) ?_
        · obtain ⟨sl28, sl29, sl30, sl31, sl32, sl33, sl34, sl35, sl36, sl37, sl38, sl39, sl40, sl41, sl42, sl43, sl44, sl45, sl46, sl47, ha, hI⟩ := hI
          subst ha
          rcases hI with hI | h9
          rotate_left
          · exact absurd (h9.1 8 (by decide)) hN
          obtain ⟨hn, hB, f0, f1, f2, f3, f4, f5, f6, f7, f8, f9, f10, f11, f12, f13, f14, f15, f16, f17, f18, f19⟩ := hI
          have hz := hB.size
          refine Kept.mk ?_
          simp only [Act.put, List.setIfInBounds_toArray, List.set_cons_zero, List.set_cons_succ]
          go_simp
          refine hK.out _ _ ?_
          exact ⟨sl28, sl29, sl30, sl31, sl32, sl33, sl34, sl35, .pointer (some ⟨w.heap.size, 2, none⟩), sl37, sl38, sl39, sl40, sl41, sl42, sl43, sl44, sl45, sl46, sl47, by simp only [Act.put, List.setIfInBounds_toArray, List.set_cons_zero, List.set_cons_succ], .inl ⟨fun j hj h => h.elim (hn j hj) (by omega), hB, fun h => f0 (h.resolve_right (by decide)), fun h => f1 (h.resolve_right (by decide)), fun h => f2 (h.resolve_right (by decide)), fun h => f3 (h.resolve_right (by decide)), fun h => f4 (h.resolve_right (by decide)), fun h => f5 (h.resolve_right (by decide)), fun h => f6 (h.resolve_right (by decide)), fun h => f7 (h.resolve_right (by decide)), fun _ => rfl, fun h => f9 (h.resolve_right (by decide)), fun h => f10 (h.resolve_right (by decide)), fun h => f11 (h.resolve_right (by decide)), fun h => f12 (h.resolve_right (by decide)), fun h => f13 (h.resolve_right (by decide)), fun h => f14 (h.resolve_right (by decide)), fun h => f15 (h.resolve_right (by decide)), fun h => f16 (h.resolve_right (by decide)), fun h => f17 (h.resolve_right (by decide)), fun h => f18 (h.resolve_right (by decide)), fun h => f19 (h.resolve_right (by decide))⟩⟩
        refine InvFrom.cons (fun L a W hI hN hD K hK => ?_) ?_
        · obtain ⟨sl28, sl29, sl30, sl31, sl32, sl33, sl34, sl35, sl36, sl37, sl38, sl39, sl40, sl41, sl42, sl43, sl44, sl45, sl46, sl47, ha, hI⟩ := hI
          subst ha
          rcases hI with hI | h9
          rotate_left
          · exact absurd (h9.1 9 (by decide)) hN
          obtain ⟨hn, hB, f0, f1, f2, f3, f4, f5, f6, f7, f8, f9, f10, f11, f12, f13, f14, f15, f16, f17, f18, f19⟩ := hI
          have hz := hB.size
          have d8 := f8 (hD 8 (by kernel_rfl))
          subst d8
          have pi0 := box_cell (j := 0) (box_keep HI0.out hB (by omega)) rfl
          have pi1 := box_cell (j := 1) (box_keep HI0.out hB (by omega)) rfl
          have pi2 := box_cell (j := 2) (box_keep HI0.out hB (by omega)) rfl
          have pi3 := box_cell (j := 3) (box_keep HI0.out hB (by omega)) rfl
          refine Kept.mk ?_
          simp only [Act.put, List.setIfInBounds_toArray, List.set_cons_zero, List.set_cons_succ]
          go_simp
          refine hK.out _ _ ?_
          exact ⟨sl28, sl29, sl30, sl31, sl32, sl33, sl34, sl35, .pointer (some ⟨w.heap.size, 2, none⟩), (.int .i64 (kb : Int)), sl38, sl39, sl40, sl41, sl42, sl43, sl44, sl45, sl46, sl47, by simp only [Act.put, List.setIfInBounds_toArray, List.set_cons_zero, List.set_cons_succ], .inl ⟨fun j hj h => h.elim (hn j hj) (by omega), hB, fun h => f0 (h.resolve_right (by decide)), fun h => f1 (h.resolve_right (by decide)), fun h => f2 (h.resolve_right (by decide)), fun h => f3 (h.resolve_right (by decide)), fun h => f4 (h.resolve_right (by decide)), fun h => f5 (h.resolve_right (by decide)), fun h => f6 (h.resolve_right (by decide)), fun h => f7 (h.resolve_right (by decide)), fun h => f8 (h.resolve_right (by decide)), fun _ => rfl, fun h => f10 (h.resolve_right (by decide)), fun h => f11 (h.resolve_right (by decide)), fun h => f12 (h.resolve_right (by decide)), fun h => f13 (h.resolve_right (by decide)), fun h => f14 (h.resolve_right (by decide)), fun h => f15 (h.resolve_right (by decide)), fun h => f16 (h.resolve_right (by decide)), fun h => f17 (h.resolve_right (by decide)), fun h => f18 (h.resolve_right (by decide)), fun h => f19 (h.resolve_right (by decide))⟩⟩
        refine InvFrom.cons (fun L a W hI hN hD K hK => ?_) ?_
        · obtain ⟨sl28, sl29, sl30, sl31, sl32, sl33, sl34, sl35, sl36, sl37, sl38, sl39, sl40, sl41, sl42, sl43, sl44, sl45, sl46, sl47, ha, hI⟩ := hI
          subst ha
          rcases hI with hI | h9
          rotate_left
          · exact absurd (h9.1 10 (by decide)) hN
          obtain ⟨hn, hB, f0, f1, f2, f3, f4, f5, f6, f7, f8, f9, f10, f11, f12, f13, f14, f15, f16, f17, f18, f19⟩ := hI
          have hz := hB.size
          have d7 := f7 (hD 7 (by kernel_rfl))
          subst d7
          have d9 := f9 (hD 9 (by kernel_rfl))
          subst d9
          refine Kept.mk ?_
          simp only [Act.put, List.setIfInBounds_toArray, List.set_cons_zero, List.set_cons_succ]
          go_simp
          refine hK.out _ _ ?_
          exact ⟨sl28, sl29, sl30, sl31, sl32, sl33, sl34, (.slice (some ⟨bg, 0, none⟩) 6 c2), sl36, (.int .i64 (kb : Int)), .pointer (some ⟨bg, kb, none⟩), sl39, sl40, sl41, sl42, sl43, sl44, sl45, sl46, sl47, by simp only [Act.put, List.setIfInBounds_toArray, List.set_cons_zero, List.set_cons_succ], .inl ⟨fun j hj h => h.elim (hn j hj) (by omega), hB, fun h => f0 (h.resolve_right (by decide)), fun h => f1 (h.resolve_right (by decide)), fun h => f2 (h.resolve_right (by decide)), fun h => f3 (h.resolve_right (by decide)), fun h => f4 (h.resolve_right (by decide)), fun h => f5 (h.resolve_right (by decide)), fun h => f6 (h.resolve_right (by decide)), fun h => f7 (h.resolve_right (by decide)), fun h => f8 (h.resolve_right (by decide)), fun h => f9 (h.resolve_right (by decide)), fun _ => rfl, fun h => f11 (h.resolve_right (by decide)), fun h => f12 (h.resolve_right (by decide)), fun h => f13 (h.resolve_right (by decide)), fun h => f14 (h.resolve_right (by decide)), fun h => f15 (h.resolve_right (by decide)), fun h => f16 (h.resolve_right (by decide)), fun h => f17 (h.resolve_right (by decide)), fun h => f18 (h.resolve_right (by decide)), fun h => f19 (h.resolve_right (by decide))⟩⟩
        refine InvFrom.cons (fun L a W hI hN hD K hK => ?_) ?_
        · obtain ⟨sl28, sl29, sl30, sl31, sl32, sl33, sl34, sl35, sl36, sl37, sl38, sl39, sl40, sl41, sl42, sl43, sl44, sl45, sl46, sl47, ha, hI⟩ := hI
          subst ha
          rcases hI with hI | h9
          rotate_left
          · exact absurd (h9.1 11 (by decide)) hN
          obtain ⟨hn, hB, f0, f1, f2, f3, f4, f5, f6, f7, f8, f9, f10, f11, f12, f13, f14, f15, f16, f17, f18, f19⟩ := hI
          have hz := hB.size
          have d10 := f10 (hD 10 (by kernel_rfl))
          subst d10
          have hrr := (HCB.out W hB).1
          refine Kept.mk ?_
          simp only [Act.put, List.setIfInBounds_toArray, List.set_cons_zero, List.set_cons_succ]
          go_simp
          refine hK.out _ _ ?_
          exact ⟨sl28, sl29, sl30, sl31, sl32, sl33, sl34, sl35, sl36, sl37, .pointer (some ⟨bg, kb, none⟩), (.int .i64 xb), sl40, sl41, sl42, sl43, sl44, sl45, sl46, sl47, by simp only [Act.put, List.setIfInBounds_toArray, List.set_cons_zero, List.set_cons_succ], .inl ⟨fun j hj h => h.elim (hn j hj) (by omega), hB, fun h => f0 (h.resolve_right (by decide)), fun h => f1 (h.resolve_right (by decide)), fun h => f2 (h.resolve_right (by decide)), fun h => f3 (h.resolve_right (by decide)), fun h => f4 (h.resolve_right (by decide)), fun h => f5 (h.resolve_right (by decide)), fun h => f6 (h.resolve_right (by decide)), fun h => f7 (h.resolve_right (by decide)), fun h => f8 (h.resolve_right (by decide)), fun h => f9 (h.resolve_right (by decide)), fun h => f10 (h.resolve_right (by decide)), fun _ => rfl, fun h => f12 (h.resolve_right (by decide)), fun h => f13 (h.resolve_right (by decide)), fun h => f14 (h.resolve_right (by decide)), fun h => f15 (h.resolve_right (by decide)), fun h => f16 (h.resolve_right (by decide)), fun h => f17 (h.resolve_right (by decide)), fun h => f18 (h.resolve_right (by decide)), fun h => f19 (h.resolve_right (by decide))⟩⟩
        refine InvFrom.cons (fun L a W hI hN hD K hK => ?_) ?_
        · obtain ⟨sl28, sl29, sl30, sl31, sl32, sl33, sl34, sl35, sl36, sl37, sl38, sl39, sl40, sl41, sl42, sl43, sl44, sl45, sl46, sl47, ha, hI⟩ := hI
          subst ha
          rcases hI with hI | h9
          rotate_left
          · exact absurd (h9.1 12 (by decide)) hN
          obtain ⟨hn, hB, f0, f1, f2, f3, f4, f5, f6, f7, f8, f9, f10, f11, f12, f13, f14, f15, f16, f17, f18, f19⟩ := hI
          have hz := hB.size
          refine Kept.mk ?_
          simp only [Act.put, List.setIfInBounds_toArray, List.set_cons_zero, List.set_cons_succ]
          go_simp
          refine hK.out _ _ ?_
          exact ⟨sl28, sl29, sl30, sl31, sl32, sl33, sl34, sl35, sl36, sl37, sl38, sl39, .pointer (some ⟨w.heap.size + 1, 2, none⟩), sl41, sl42, sl43, sl44, sl45, sl46, sl47, by simp only [Act.put, List.setIfInBounds_toArray, List.set_cons_zero, List.set_cons_succ], .inl ⟨fun j hj h => h.elim (hn j hj) (by omega), hB, fun h => f0 (h.resolve_right (by decide)), fun h => f1 (h.resolve_right (by decide)), fun h => f2 (h.resolve_right (by decide)), fun h => f3 (h.resolve_right (by decide)), fun h => f4 (h.resolve_right (by decide)), fun h => f5 (h.resolve_right (by decide)), fun h => f6 (h.resolve_right (by decide)), fun h => f7 (h.resolve_right (by decide)), fun h => f8 (h.resolve_right (by decide)), fun h => f9 (h.resolve_right (by decide)), fun h => f10 (h.resolve_right (by decide)), fun h => f11 (h.resolve_right (by decide)), fun _ => rfl, fun h => f13 (h.resolve_right (by decide)), fun h => f14 (h.resolve_right (by decide)), fun h => f15 (h.resolve_right (by decide)), fun h => f16 (h.resolve_right (by decide)), fun h => f17 (h.resolve_right (by decide)), fun h => f18 (h.resolve_right (by decide)), fun h => f19 (h.resolve_right (by decide))⟩⟩
        refine InvFrom.cons (fun L a W hI hN hD K hK => ?_) ?_
        · obtain ⟨sl28, sl29, sl30, sl31, sl32, sl33, sl34, sl35, sl36, sl37, sl38, sl39, sl40, sl41, sl42, sl43, sl44, sl45, sl46, sl47, ha, hI⟩ := hI
          subst ha
          rcases hI with hI | h9
          rotate_left
          · exact absurd (h9.1 13 (by decide)) hN
          obtain ⟨hn, hB, f0, f1, f2, f3, f4, f5, f6, f7, f8, f9, f10, f11, f12, f13, f14, f15, f16, f17, f18, f19⟩ := hI
          have hz := hB.size
          have d12 := f12 (hD 12 (by kernel_rfl))
          subst d12
          have pg0 := box_cell (j := 0) (box_keep HG0.out hB (by omega)) rfl
          have pg1 := box_cell (j := 1) (box_keep HG0.out hB (by omega)) rfl
          have pg2 := box_cell (j := 2) (box_keep HG0.out hB (by omega)) rfl
          have pg3 := box_cell (j := 3) (box_keep HG0.out hB (by omega)) rfl
          have pg4 := box_cell (j := 4) (box_keep HG0.out hB (by omega)) rfl
          refine Kept.mk ?_
          simp only [Act.put, List.setIfInBounds_toArray, List.set_cons_zero, List.set_cons_succ]
          go_simp
          refine hK.out _ _ ?_
          exact ⟨sl28, sl29, sl30, sl31, sl32, sl33, sl34, sl35, sl36, sl37, sl38, sl39, .pointer (some ⟨w.heap.size + 1, 2, none⟩), (.slice (some ⟨bg, 0, none⟩) 6 c2), sl42, sl43, sl44, sl45, sl46, sl47, by simp only [Act.put, List.setIfInBounds_toArray, List.set_cons_zero, List.set_cons_succ], .inl ⟨fun j hj h => h.elim (hn j hj) (by omega), hB, fun h => f0 (h.resolve_right (by decide)), fun h => f1 (h.resolve_right (by decide)), fun h => f2 (h.resolve_right (by decide)), fun h => f3 (h.resolve_right (by decide)), fun h => f4 (h.resolve_right (by decide)), fun h => f5 (h.resolve_right (by decide)), fun h => f6 (h.resolve_right (by decide)), fun h => f7 (h.resolve_right (by decide)), fun h => f8 (h.resolve_right (by decide)), fun h => f9 (h.resolve_right (by decide)), fun h => f10 (h.resolve_right (by decide)), fun h => f11 (h.resolve_right (by decide)), fun h => f12 (h.resolve_right (by decide)), fun _ => rfl, fun h => f14 (h.resolve_right (by decide)), fun h => f15 (h.resolve_right (by decide)), fun h => f16 (h.resolve_right (by decide)), fun h => f17 (h.resolve_right (by decide)), fun h => f18 (h.resolve_right (by decide)), fun h => f19 (h.resolve_right (by decide))⟩⟩
        refine InvFrom.cons (fun L a W hI hN hD K hK => ?_) ?_
        · obtain ⟨sl28, sl29, sl30, sl31, sl32, sl33, sl34, sl35, sl36, sl37, sl38, sl39, sl40, sl41, sl42, sl43, sl44, sl45, sl46, sl47, ha, hI⟩ := hI
          subst ha
          rcases hI with hI | h9
          rotate_left
          · exact absurd (h9.1 14 (by decide)) hN
          obtain ⟨hn, hB, f0, f1, f2, f3, f4, f5, f6, f7, f8, f9, f10, f11, f12, f13, f14, f15, f16, f17, f18, f19⟩ := hI
          have hz := hB.size
          refine Kept.mk ?_
          simp only [Act.put, List.setIfInBounds_toArray, List.set_cons_zero, List.set_cons_succ]
          go_simp
          refine hK.out _ _ ?_
          exact ⟨sl28, sl29, sl30, sl31, sl32, sl33, sl34, sl35, sl36, sl37, sl38, sl39, sl40, sl41, .pointer (some ⟨w.heap.size, 3, none⟩), sl43, sl44, sl45, sl46, sl47, by simp only [Act.put, List.setIfInBounds_toArray, List.set_cons_zero, List.set_cons_succ], .inl ⟨fun j hj h => h.elim (hn j hj) (by omega), hB, fun h => f0 (h.resolve_right (by decide)), fun h => f1 (h.resolve_right (by decide)), fun h => f2 (h.resolve_right (by decide)), fun h => f3 (h.resolve_right (by decide)), fun h => f4 (h.resolve_right (by decide)), fun h => f5 (h.resolve_right (by decide)), fun h => f6 (h.resolve_right (by decide)), fun h => f7 (h.resolve_right (by decide)), fun h => f8 (h.resolve_right (by decide)), fun h => f9 (h.resolve_right (by decide)), fun h => f10 (h.resolve_right (by decide)), fun h => f11 (h.resolve_right (by decide)), fun h => f12 (h.resolve_right (by decide)), fun h => f13 (h.resolve_right (by decide)), fun _ => rfl, fun h => f15 (h.resolve_right (by decide)), fun h => f16 (h.resolve_right (by decide)), fun h => f17 (h.resolve_right (by decide)), fun h => f18 (h.resolve_right (by decide)), fun h => f19 (h.resolve_right (by decide))⟩⟩
        refine InvFrom.cons (fun L a W hI hN hD K hK => ?_) ?_
        · obtain ⟨sl28, sl29, sl30, sl31, sl32, sl33, sl34, sl35, sl36, sl37, sl38, sl39, sl40, sl41, sl42, sl43, sl44, sl45, sl46, sl47, ha, hI⟩ := hI
          subst ha
          rcases hI with hI | h9
          rotate_left
          · exact absurd (h9.1 15 (by decide)) hN
          obtain ⟨hn, hB, f0, f1, f2, f3, f4, f5, f6, f7, f8, f9, f10, f11, f12, f13, f14, f15, f16, f17, f18, f19⟩ := hI
          have hz := hB.size
          have d14 := f14 (hD 14 (by kernel_rfl))
          subst d14
          have pi0 := box_cell (j := 0) (box_keep HI0.out hB (by omega)) rfl
          have pi1 := box_cell (j := 1) (box_keep HI0.out hB (by omega)) rfl
          have pi2 := box_cell (j := 2) (box_keep HI0.out hB (by omega)) rfl
          have pi3 := box_cell (j := 3) (box_keep HI0.out hB (by omega)) rfl
          refine Kept.mk ?_
          simp only [Act.put, List.setIfInBounds_toArray, List.set_cons_zero, List.set_cons_succ]
          go_simp
          refine hK.out _ _ ?_
          exact ⟨sl28, sl29, sl30, sl31, sl32, sl33, sl34, sl35, sl36, sl37, sl38, sl39, sl40, sl41, .pointer (some ⟨w.heap.size, 3, none⟩), (.int .i64 (kc : Int)), sl44, sl45, sl46, sl47, by simp only [Act.put, List.setIfInBounds_toArray, List.set_cons_zero, List.set_cons_succ], .inl ⟨fun j hj h => h.elim (hn j hj) (by omega), hB, fun h => f0 (h.resolve_right (by decide)), fun h => f1 (h.resolve_right (by decide)), fun h => f2 (h.resolve_right (by decide)), fun h => f3 (h.resolve_right (by decide)), fun h => f4 (h.resolve_right (by decide)), fun h => f5 (h.resolve_right (by decide)), fun h => f6 (h.resolve_right (by decide)), fun h => f7 (h.resolve_right (by decide)), fun h => f8 (h.resolve_right (by decide)), fun h => f9 (h.resolve_right (by decide)), fun h => f10 (h.resolve_right (by decide)), fun h => f11 (h.resolve_right (by decide)), fun h => f12 (h.resolve_right (by decide)), fun h => f13 (h.resolve_right (by decide)), fun h => f14 (h.resolve_right (by decide)), fun _ => rfl, fun h => f16 (h.resolve_right (by decide)), fun h => f17 (h.resolve_right (by decide)), fun h => f18 (h.resolve_right (by decide)), fun h => f19 (h.resolve_right (by decide))⟩⟩
        refine InvFrom.cons (fun L a W hI hN hD K hK => ?_) ?_
        · obtain ⟨sl28, sl29, sl30, sl31, sl32, sl33, sl34, sl35, sl36, sl37, sl38, sl39, sl40, sl41, sl42, sl43, sl44, sl45, sl46, sl47, ha, hI⟩ := hI
          subst ha
          rcases hI with hI | h9
          rotate_left
          · exact absurd (h9.1 16 (by decide)) hN
          obtain ⟨hn, hB, f0, f1, f2, f3, f4, f5, f6, f7, f8, f9, f10, f11, f12, f13, f14, f15, f16, f17, f18, f19⟩ := hI
          have hz := hB.size
          have d13 := f13 (hD 13 (by kernel_rfl))
          subst d13
          have d15 := f15 (hD 15 (by kernel_rfl))
          subst d15
          refine Kept.mk ?_
          simp only [Act.put, List.setIfInBounds_toArray, List.set_cons_zero, List.set_cons_succ]
          go_simp
          refine hK.out _ _ ?_
          exact ⟨sl28, sl29, sl30, sl31, sl32, sl33, sl34, sl35, sl36, sl37, sl38, sl39, sl40, (.slice (some ⟨bg, 0, none⟩) 6 c2), sl42, (.int .i64 (kc : Int)), .pointer (some ⟨bg, kc, none⟩), sl45, sl46, sl47, by simp only [Act.put, List.setIfInBounds_toArray, List.set_cons_zero, List.set_cons_succ], .inl ⟨fun j hj h => h.elim (hn j hj) (by omega), hB, fun h => f0 (h.resolve_right (by decide)), fun h => f1 (h.resolve_right (by decide)), fun h => f2 (h.resolve_right (by decide)), fun h => f3 (h.resolve_right (by decide)), fun h => f4 (h.resolve_right (by decide)), fun h => f5 (h.resolve_right (by decide)), fun h => f6 (h.resolve_right (by decide)), fun h => f7 (h.resolve_right (by decide)), fun h => f8 (h.resolve_right (by decide)), fun h => f9 (h.resolve_right (by decide)), fun h => f10 (h.resolve_right (by decide)), fun h => f11 (h.resolve_right (by decide)), fun h => f12 (h.resolve_right (by decide)), fun h => f13 (h.resolve_right (by decide)), fun h => f14 (h.resolve_right (by decide)), fun h => f15 (h.resolve_right (by decide)), fun _ => rfl, fun h => f17 (h.resolve_right (by decide)), fun h => f18 (h.resolve_right (by decide)), fun h => f19 (h.resolve_right (by decide))⟩⟩
        refine InvFrom.cons (fun L a W hI hN hD K hK => ?_) ?_
        · obtain ⟨sl28, sl29, sl30, sl31, sl32, sl33, sl34, sl35, sl36, sl37, sl38, sl39, sl40, sl41, sl42, sl43, sl44, sl45, sl46, sl47, ha, hI⟩ := hI
          subst ha
          rcases hI with hI | h9
          rotate_left
          · exact absurd (h9.1 17 (by decide)) hN
          obtain ⟨hn, hB, f0, f1, f2, f3, f4, f5, f6, f7, f8, f9, f10, f11, f12, f13, f14, f15, f16, f17, f18, f19⟩ := hI
          have hz := hB.size
          have d16 := f16 (hD 16 (by kernel_rfl))
          subst d16
          have hrr := (HCC.out W hB).1
          refine Kept.mk ?_
          simp only [Act.put, List.setIfInBounds_toArray, List.set_cons_zero, List.set_cons_succ]
          go_simp
          refine hK.out _ _ ?_
          exact ⟨sl28, sl29, sl30, sl31, sl32, sl33, sl34, sl35, sl36, sl37, sl38, sl39, sl40, sl41, sl42, sl43, .pointer (some ⟨bg, kc, none⟩), (.int .i64 xc), sl46, sl47, by simp only [Act.put, List.setIfInBounds_toArray, List.set_cons_zero, List.set_cons_succ], .inl ⟨fun j hj h => h.elim (hn j hj) (by omega), hB, fun h => f0 (h.resolve_right (by decide)), fun h => f1 (h.resolve_right (by decide)), fun h => f2 (h.resolve_right (by decide)), fun h => f3 (h.resolve_right (by decide)), fun h => f4 (h.resolve_right (by decide)), fun h => f5 (h.resolve_right (by decide)), fun h => f6 (h.resolve_right (by decide)), fun h => f7 (h.resolve_right (by decide)), fun h => f8 (h.resolve_right (by decide)), fun h => f9 (h.resolve_right (by decide)), fun h => f10 (h.resolve_right (by decide)), fun h => f11 (h.resolve_right (by decide)), fun h => f12 (h.resolve_right (by decide)), fun h => f13 (h.resolve_right (by decide)), fun h => f14 (h.resolve_right (by decide)), fun h => f15 (h.resolve_right (by decide)), fun h => f16 (h.resolve_right (by decide)), fun _ => rfl, fun h => f18 (h.resolve_right (by decide)), fun h => f19 (h.resolve_right (by decide))⟩⟩
        refine InvFrom.cons (fun L a W hI hN hD K hK => ?_) ?_
        · obtain ⟨sl28, sl29, sl30, sl31, sl32, sl33, sl34, sl35, sl36, sl37, sl38, sl39, sl40, sl41, sl42, sl43, sl44, sl45, sl46, sl47, ha, hI⟩ := hI
          subst ha
          rcases hI with hI | h9
          rotate_left
          · exact absurd (h9.1 18 (by decide)) hN
          obtain ⟨hn, hB, f0, f1, f2, f3, f4, f5, f6, f7, f8, f9, f10, f11, f12, f13, f14, f15, f16, f17, f18, f19⟩ := hI
          have hz := hB.size
          have d5 := f5 (hD 5 (by kernel_rfl))
          subst d5
          have d11 := f11 (hD 11 (by kernel_rfl))
          subst d11
          have d17 := f17 (hD 17 (by kernel_rfl))
          subst d17
          refine kept_c3 rfl 113 _ _ _ _ rfl (fenters_of' Tryz.func113 (by kernel_rfl) (by kernel_rfl)) (.int .i64 5) (.int .i64 xb) (.int .i64 xc) (by kernel_rfl) (by kernel_rfl) (by kernel_rfl) (HCl.out W) ?_
          rintro e W1 ⟨rfl, rfl⟩
          refine ⟨_, rfl, hK.out _ _ ?_⟩
          exact ⟨sl28, sl29, sl30, sl31, sl32, (.int .i64 5), sl34, sl35, sl36, sl37, sl38, (.int .i64 xb), sl40, sl41, sl42, sl43, sl44, (.int .i64 xc), (.int .i64 xv), sl47, by simp only [Act.put, List.setIfInBounds_toArray, List.set_cons_zero, List.set_cons_succ], .inl ⟨fun j hj h => h.elim (hn j hj) (by omega), hB, fun h => f0 (h.resolve_right (by decide)), fun h => f1 (h.resolve_right (by decide)), fun h => f2 (h.resolve_right (by decide)), fun h => f3 (h.resolve_right (by decide)), fun h => f4 (h.resolve_right (by decide)), fun h => f5 (h.resolve_right (by decide)), fun h => f6 (h.resolve_right (by decide)), fun h => f7 (h.resolve_right (by decide)), fun h => f8 (h.resolve_right (by decide)), fun h => f9 (h.resolve_right (by decide)), fun h => f10 (h.resolve_right (by decide)), fun h => f11 (h.resolve_right (by decide)), fun h => f12 (h.resolve_right (by decide)), fun h => f13 (h.resolve_right (by decide)), fun h => f14 (h.resolve_right (by decide)), fun h => f15 (h.resolve_right (by decide)), fun h => f16 (h.resolve_right (by decide)), fun h => f17 (h.resolve_right (by decide)), fun _ => rfl, fun h => f19 (h.resolve_right (by decide))⟩⟩
        refine InvFrom.cons (fun L a W hI hN hD K hK => ?_) ?_
        · obtain ⟨sl28, sl29, sl30, sl31, sl32, sl33, sl34, sl35, sl36, sl37, sl38, sl39, sl40, sl41, sl42, sl43, sl44, sl45, sl46, sl47, ha, hI⟩ := hI
          subst ha
          rcases hI with hI | h9
          rotate_left
          · exact absurd (h9.1 19 (by decide)) hN
          obtain ⟨hn, hB, f0, f1, f2, f3, f4, f5, f6, f7, f8, f9, f10, f11, f12, f13, f14, f15, f16, f17, f18, f19⟩ := hI
          have hz := hB.size
          have d0 := f0 (hD 0 (by kernel_rfl))
          subst d0
          have d1 := f1 (hD 1 (by kernel_rfl))
          subst d1
          have d2 := f2 (hD 2 (by kernel_rfl))
          subst d2
          have d3 := f3 (hD 3 (by kernel_rfl))
          subst d3
          have d4 := f4 (hD 4 (by kernel_rfl))
          subst d4
          have d5 := f5 (hD 5 (by kernel_rfl))
          subst d5
          have d6 := f6 (hD 6 (by kernel_rfl))
          subst d6
          have d7 := f7 (hD 7 (by kernel_rfl))
          subst d7
          have d8 := f8 (hD 8 (by kernel_rfl))
          subst d8
          have d9 := f9 (hD 9 (by kernel_rfl))
          subst d9
          have d10 := f10 (hD 10 (by kernel_rfl))
          subst d10
          have d11 := f11 (hD 11 (by kernel_rfl))
          subst d11
          have d12 := f12 (hD 12 (by kernel_rfl))
          subst d12
          have d13 := f13 (hD 13 (by kernel_rfl))
          subst d13
          have d14 := f14 (hD 14 (by kernel_rfl))
          subst d14
          have d15 := f15 (hD 15 (by kernel_rfl))
          subst d15
          have d16 := f16 (hD 16 (by kernel_rfl))
          subst d16
          have d17 := f17 (hD 17 (by kernel_rfl))
          subst d17
          have d18 := f18 (hD 18 (by kernel_rfl))
          subst d18
          refine Kept.mk ?_
          simp only [Act.put, List.setIfInBounds_toArray, List.set_cons_zero, List.set_cons_succ]
          go_simp
          refine hK.out _ _ ?_
          exact ⟨.pointer (some ⟨w.heap.size + 1, 2, none⟩), (.slice (some ⟨bg, 0, none⟩) 6 c2), .pointer (some ⟨w.heap.size, 1, none⟩), (.int .i64 (ka : Int)), .pointer (some ⟨w.heap.size, 0, none⟩), (.int .i64 5), .pointer (some ⟨w.heap.size + 1, 2, none⟩), (.slice (some ⟨bg, 0, none⟩) 6 c2), .pointer (some ⟨w.heap.size, 2, none⟩), (.int .i64 (kb : Int)), .pointer (some ⟨bg, kb, none⟩), (.int .i64 xb), .pointer (some ⟨w.heap.size + 1, 2, none⟩), (.slice (some ⟨bg, 0, none⟩) 6 c2), .pointer (some ⟨w.heap.size, 3, none⟩), (.int .i64 (kc : Int)), .pointer (some ⟨bg, kc, none⟩), (.int .i64 xc), (.int .i64 xv), .pointer (some ⟨bg, ka, none⟩), by simp only [Act.put, List.setIfInBounds_toArray, List.set_cons_zero, List.set_cons_succ], .inl ⟨fun j hj h => h.elim (hn j hj) (by omega), hB, fun h => f0 (h.resolve_right (by decide)), fun h => f1 (h.resolve_right (by decide)), fun h => f2 (h.resolve_right (by decide)), fun h => f3 (h.resolve_right (by decide)), fun h => f4 (h.resolve_right (by decide)), fun h => f5 (h.resolve_right (by decide)), fun h => f6 (h.resolve_right (by decide)), fun h => f7 (h.resolve_right (by decide)), fun h => f8 (h.resolve_right (by decide)), fun h => f9 (h.resolve_right (by decide)), fun h => f10 (h.resolve_right (by decide)), fun h => f11 (h.resolve_right (by decide)), fun h => f12 (h.resolve_right (by decide)), fun h => f13 (h.resolve_right (by decide)), fun h => f14 (h.resolve_right (by decide)), fun h => f15 (h.resolve_right (by decide)), fun h => f16 (h.resolve_right (by decide)), fun h => f17 (h.resolve_right (by decide)), fun h => f18 (h.resolve_right (by decide)), fun _ => rfl⟩⟩
        refine InvFrom.cons (fun L a W hI hN hD K hK => ?_) ?_
        · obtain ⟨sl28, sl29, sl30, sl31, sl32, sl33, sl34, sl35, sl36, sl37, sl38, sl39, sl40, sl41, sl42, sl43, sl44, sl45, sl46, sl47, ha, hI⟩ := hI
          subst ha
          rcases hI with hI | h9
          rotate_left
          · exact absurd (h9.1 20 (by decide)) hN
          obtain ⟨hn, hB, f0, f1, f2, f3, f4, f5, f6, f7, f8, f9, f10, f11, f12, f13, f14, f15, f16, f17, f18, f19⟩ := hI
          have hz := hB.size
          have d18 := f18 (hD 18 (by kernel_rfl))
          subst d18
          have d19 := f19 (hD 19 (by kernel_rfl))
          subst d19
          obtain ⟨ra, raf⟩ := HCA.out W hB
          refine Kept.mk ?_
          simp only [Act.put, List.setIfInBounds_toArray, List.set_cons_zero, List.set_cons_succ]
          go_simp
          refine hK.out _ _ ?_
          have hall : ∀ j, j < 21 → (L j ∨ j = 20) := by
            intro j hj
            have hj2 : j = 0 ∨ j = 1 ∨ j = 2 ∨ j = 3 ∨ j = 4 ∨ j = 5 ∨ j = 6 ∨ j = 7 ∨ j = 8 ∨ j = 9 ∨ j = 10 ∨ j = 11 ∨ j = 12 ∨ j = 13 ∨ j = 14 ∨ j = 15 ∨ j = 16 ∨ j = 17 ∨ j = 18 ∨ j = 19 ∨ j = 20 := by omega
            rcases hj2 with rfl | rfl | rfl | rfl | rfl | rfl | rfl | rfl | rfl | rfl | rfl | rfl | rfl | rfl | rfl | rfl | rfl | rfl | rfl | rfl | rfl
            · exact .inl (hD 0 (by kernel_rfl))
            · exact .inl (hD 1 (by kernel_rfl))
            · exact .inl (hD 2 (by kernel_rfl))
            · exact .inl (hD 3 (by kernel_rfl))
            · exact .inl (hD 4 (by kernel_rfl))
            · exact .inl (hD 5 (by kernel_rfl))
            · exact .inl (hD 6 (by kernel_rfl))
            · exact .inl (hD 7 (by kernel_rfl))
            · exact .inl (hD 8 (by kernel_rfl))
            · exact .inl (hD 9 (by kernel_rfl))
            · exact .inl (hD 10 (by kernel_rfl))
            · exact .inl (hD 11 (by kernel_rfl))
            · exact .inl (hD 12 (by kernel_rfl))
            · exact .inl (hD 13 (by kernel_rfl))
            · exact .inl (hD 14 (by kernel_rfl))
            · exact .inl (hD 15 (by kernel_rfl))
            · exact .inl (hD 16 (by kernel_rfl))
            · exact .inl (hD 17 (by kernel_rfl))
            · exact .inl (hD 18 (by kernel_rfl))
            · exact .inl (hD 19 (by kernel_rfl))
            · exact .inr rfl
          exact ⟨sl28, sl29, sl30, sl31, sl32, sl33, sl34, sl35, sl36, sl37, sl38, sl39, sl40, sl41, sl42, sl43, sl44, sl45, (.int .i64 xv), .pointer (some ⟨bg, ka, none⟩), by simp only [Act.put, List.setIfInBounds_toArray, List.set_cons_zero, List.set_cons_succ], .inr (⟨hall, fun j hj h => h.elim (hn j (by omega)) (by omega), ⟨W, rfl, hB⟩⟩)⟩
        exact InvFrom.nil
      intro L a w8 hL hI
      obtain ⟨sl28, sl29, sl30, sl31, sl32, sl33, sl34, sl35, sl36, sl37, sl38, sl39, sl40, sl41, sl42, sl43, sl44, sl45, sl46, sl47, ha, hI⟩ := hI
      subst ha
      rcases hI with h9 | hI
      · exact absurd (hL 20 (by decide)) (h9.1 20 (by decide))
      have hfin := hI.2.2
      obtain ⟨w5, rfl, hb5⟩ := hfin
      clear hL hI
      refine Kept.mk ?_
      simp only [Act.put, List.setIfInBounds_toArray, List.set_cons_zero, List.set_cons_succ]
      have hz5 := hb5.size
      have HBW := Lib.hid (HB0.out.trans (hb5.mono (by omega)))
      have HG5 := Lib.hid (box_keep HG0.out hb5 (by omega))
      have HR5 := Lib.hid (box_keep HR0.out hb5 (by omega))
      have HH5 := Lib.hid (HH0.out.stay (fun k _ hk => hb5.block k hk) hb5.size)
      clear hb5
      have HH1 := Lib.hid (HoldG.regSet (r := ka) (v := xv) HH5.out hka HVW.out)
      have HB1 := Lib.hid (below_set (p := ⟨bg, ka, none⟩) (HBW.out.mono hlo) hlg (.int .i64 xv))
      have HG1 := Lib.hid ((Below.heap_setCell w5 ⟨bg, ka, none⟩ (.int .i64 xv) (w.heap.size + 1) (by simp only; omega)).trans HG5.out)
      have HR1 := Lib.hid ((Below.heap_setCell w5 ⟨bg, ka, none⟩ (.int .i64 xv) (w.heap.size + 2) (by simp only; omega)).trans HR5.out)
      have HK1 := Lib.hid ((Below.heap_setCell w5 ⟨bg, ka, none⟩ (.int .i64 xv) bo (by simp only; omega)).trans (HBW.out.block _ hbo))
      have hz1 : w.heap.size + 3 ≤ (w5.setCell ⟨bg, ka, none⟩ (.int .i64 xv)).heap.size := by simp only [World.size_setCell]; omega
      generalize (w5.setCell ⟨bg, ka, none⟩ (.int .i64 xv)) = W1 at *
      have g0 := box_cell (j := 0) HG1.out rfl
      have g1 := box_cell (j := 1) HG1.out rfl
      have g2 := box_cell (j := 2) HG1.out rfl
      have g3 := box_cell (j := 3) HG1.out rfl
      have g4 := box_cell (j := 4) HG1.out rfl
      have gf1 := box_free HG1.out 1
      go_upto_region 17 with (fail)
      have hput7 := put1 (j := 1) (u := .int .i64 (pc + 1)) HG1.out
      have HBx := Lib.hid (below_set (p := ⟨w.heap.size + 1, 1, none⟩) HB1.out (by simp only; omega) (.int .i64 (pc + 1)))
      have HK9 := Lib.hid ((Below.heap_setCell W1 ⟨w.heap.size + 1, 1, none⟩ (.int .i64 (pc + 1)) bo (by simp only; omega)).trans HK1.out)
      have HH7 := Lib.hid (((HH1.out).set (b := w.heap.size + 1) (j := 1) (u := .int .i64 (pc + 1)) (fun hb9 => by have := hb9.2.2; omega)).pc (v := (pc + 1)) (wf_val (by omega)))
      generalize (W1.setCell ⟨w.heap.size + 1, 1, none⟩ (.int .i64 (pc + 1))) = W7 at *
      obtain ⟨hG7, hk7, hs7⟩ := hput7
      have HRx := Lib.hid ((hk7 _ (by omega)).trans HR1.out)
      clear g0 g1 g2 g3 g4
      clear gf1 hk7
      have g0 := box_cell (j := 0) hG7 rfl
      have g1 := box_cell (j := 1) hG7 rfl
      have g2 := box_cell (j := 2) hG7 rfl
      have g3 := box_cell (j := 3) hG7 rfl
      have g4 := box_cell (j := 4) hG7 rfl
      have r0 := box_cell (j := 0) HRx.out rfl
      have r1 := box_cell (j := 1) HRx.out rfl
      have r2 := box_cell (j := 2) HRx.out rfl
      have r3 := box_cell (j := 3) HRx.out rfl
      have r4 := box_cell (j := 4) HRx.out rfl
      have rf0 := box_free HRx.out 0
      have rf1 := box_free HRx.out 1
      have rf2 := box_free HRx.out 2
      have rf3 := box_free HRx.out 3
      have rf4 := box_free HRx.out 4
      go_wp2_with fail
      have hfin := put5 (u0 := (.int .i64 pr)) (u1 := (.int .i64 (pc + 1))) (u2 := (.slice (some ⟨bg, 0, none⟩) 6 c2)) (u3 := (.int .i64 st)) (u4 := (.slice A4 n4 c4)) HRx.out
      have y0 := box_cell (j := 0) hfin.1 rfl
      have y1 := box_cell (j := 1) hfin.1 rfl
      have y2 := box_cell (j := 2) hfin.1 rfl
      have y3 := box_cell (j := 3) hfin.1 rfl
      have y4 := box_cell (j := 4) hfin.1 rfl
      refine bodyPost_ret (v := .agg #[.int .i64 pr, .int .i64 (pc + 1), .slice (some ⟨bg, 0, none⟩) 6 c2, .int .i64 st, .slice A4 n4 c4]) (by simp [results, Tryz.results97, go_sem, y0, y1, y2, y3, y4]) rfl ?_
      exact ⟨pr, pc + 1, regs.set ka xv, st, tr, _, _, _, _, _, _, HST.out, rfl, (HH7.out.stay (fun k hk _ => hfin.2.1 k (by have := hk.2.2; omega)) (Nat.le_of_eq hfin.2.2.symm)).wide (fun k hk _ => ⟨hk.1, hk.2.1⟩), below_put5 HBx.out (by omega), (hfin.2.1 _ (by omega)).trans HK9.out⟩
  · skip
    have hL6 := LX.out.jump rfl
    simp only at hL6
    have HST := Lib.hid (show stepR ⟨6, ia, ib, ic⟩ ⟨pr, pc, regs, st, tr⟩ = ⟨pr, ia, regs, st, tr⟩ from rfl)
    have HWA := Lib.hid (wf_val (v := ia) (by have := hsm.out; omega))
    clear hL6
    go_upto_region 16 with (fail)
    clear g0 g1 g2 g3 g4
    clear i0 i1 i2 i3
    have g0 := box_cell (j := 0) HG0.out rfl
    have g1 := box_cell (j := 1) HG0.out rfl
    have g2 := box_cell (j := 2) HG0.out rfl
    have g3 := box_cell (j := 3) HG0.out rfl
    have g4 := box_cell (j := 4) HG0.out rfl
    have gf1 := box_free HG0.out 1
    go_upto_region 17 with (fail)
    have hput7 := put1 (j := 1) (u := .int .i64 ia) HG0.out
    have HBx := Lib.hid (below_set (p := ⟨w.heap.size + 1, 1, none⟩) (HB0.out.mono hlo) (by simp only; omega) (.int .i64 ia))
    have HK9 := Lib.hid ((Below.heap_setCell W0 ⟨w.heap.size + 1, 1, none⟩ (.int .i64 ia) bo (by simp only; omega)).trans (HB0.out.block _ hbo))
    have HH7 := Lib.hid (((HH0.out).set (b := w.heap.size + 1) (j := 1) (u := .int .i64 ia) (fun hb9 => by have := hb9.2.2; omega)).pc (v := ia) HWA.out)
    generalize (W0.setCell ⟨w.heap.size + 1, 1, none⟩ (.int .i64 ia)) = W7 at *
    obtain ⟨hG7, hk7, hs7⟩ := hput7
    have HRx := Lib.hid ((hk7 _ (by omega)).trans HR0.out)
    clear g0 g1 g2 g3 g4
    clear gf1 hk7
    have g0 := box_cell (j := 0) hG7 rfl
    have g1 := box_cell (j := 1) hG7 rfl
    have g2 := box_cell (j := 2) hG7 rfl
    have g3 := box_cell (j := 3) hG7 rfl
    have g4 := box_cell (j := 4) hG7 rfl
    have r0 := box_cell (j := 0) HRx.out rfl
    have r1 := box_cell (j := 1) HRx.out rfl
    have r2 := box_cell (j := 2) HRx.out rfl
    have r3 := box_cell (j := 3) HRx.out rfl
    have r4 := box_cell (j := 4) HRx.out rfl
    have rf0 := box_free HRx.out 0
    have rf1 := box_free HRx.out 1
    have rf2 := box_free HRx.out 2
    have rf3 := box_free HRx.out 3
    have rf4 := box_free HRx.out 4
    go_wp2_with fail
    have hfin := put5 (u0 := (.int .i64 pr)) (u1 := (.int .i64 ia)) (u2 := (.slice (some ⟨bg, 0, none⟩) 6 c2)) (u3 := (.int .i64 st)) (u4 := (.slice A4 n4 c4)) HRx.out
    have y0 := box_cell (j := 0) hfin.1 rfl
    have y1 := box_cell (j := 1) hfin.1 rfl
    have y2 := box_cell (j := 2) hfin.1 rfl
    have y3 := box_cell (j := 3) hfin.1 rfl
    have y4 := box_cell (j := 4) hfin.1 rfl
    refine bodyPost_ret (v := .agg #[.int .i64 pr, .int .i64 ia, .slice (some ⟨bg, 0, none⟩) 6 c2, .int .i64 st, .slice A4 n4 c4]) (by simp [results, Tryz.results97, go_sem, y0, y1, y2, y3, y4]) rfl ?_
    exact ⟨pr, ia, regs, st, tr, _, _, _, _, _, _, HST.out, rfl, (HH7.out.stay (fun k hk _ => hfin.2.1 k (by have := hk.2.2; omega)) (Nat.le_of_eq hfin.2.2.symm)).wide (fun k hk _ => ⟨hk.1, hk.2.1⟩), below_put5 HBx.out (by omega), (hfin.2.1 _ (by omega)).trans HK9.out⟩
  · skip
    have hL7 := LX.out.cond rfl
    simp only at hL7
    obtain ⟨ka, rfl⟩ : ∃ k : Nat, ia = k := ⟨ia.toNat, by omega⟩
    have hka : ka < 6 := by omega
    have hka0 : (0 : Int) ≤ (ka : Int) := by omega
    have hka1 : (ka : Int) < 6 := by omega
    have HWA := Lib.hid (wf_val (v := ib) (by have := hsm.out; omega))
    obtain ⟨rc, rf⟩ := HH0.out.regCell hka
    obtain ⟨xa, hxa⟩ : ∃ xa, xa = regZ ⟨pr, pc, regs, st, tr⟩ (ka : Int) := ⟨_, rfl⟩
    rw [← hxa] at rc
    clear hL7 rf
    by_cases hx0 : xa = 0
    · skip
      have HST := Lib.hid (show stepR ⟨7, (ka : Int), ib, ic⟩ ⟨pr, pc, regs, st, tr⟩ = ⟨pr, pc + 1, regs, st, tr⟩ from by unfold stepR; rw [if_neg (by simp), if_neg (by simp), if_neg (by simp), if_neg (by simp), if_neg (by simp only; rw [← hxa, hx0]; simp)])
      clear hxa
      subst hx0
      go_upto_region 16 with (fail)
      clear rc
      clear g0 g1 g2 g3 g4
      clear i0 i1 i2 i3
      have g0 := box_cell (j := 0) HG0.out rfl
      have g1 := box_cell (j := 1) HG0.out rfl
      have g2 := box_cell (j := 2) HG0.out rfl
      have g3 := box_cell (j := 3) HG0.out rfl
      have g4 := box_cell (j := 4) HG0.out rfl
      have gf1 := box_free HG0.out 1
      go_upto_region 17 with (fail)
      have hput7 := put1 (j := 1) (u := .int .i64 (pc + 1)) HG0.out
      have HBx := Lib.hid (below_set (p := ⟨w.heap.size + 1, 1, none⟩) (HB0.out.mono hlo) (by simp only; omega) (.int .i64 (pc + 1)))
      have HK9 := Lib.hid ((Below.heap_setCell W0 ⟨w.heap.size + 1, 1, none⟩ (.int .i64 (pc + 1)) bo (by simp only; omega)).trans (HB0.out.block _ hbo))
      have HH7 := Lib.hid (((HH0.out).set (b := w.heap.size + 1) (j := 1) (u := .int .i64 (pc + 1)) (fun hb9 => by have := hb9.2.2; omega)).pc (v := (pc + 1)) (wf_val (by omega)))
      generalize (W0.setCell ⟨w.heap.size + 1, 1, none⟩ (.int .i64 (pc + 1))) = W7 at *
      obtain ⟨hG7, hk7, hs7⟩ := hput7
      have HRx := Lib.hid ((hk7 _ (by omega)).trans HR0.out)
      clear g0 g1 g2 g3 g4
      clear gf1 hk7
      have g0 := box_cell (j := 0) hG7 rfl
      have g1 := box_cell (j := 1) hG7 rfl
      have g2 := box_cell (j := 2) hG7 rfl
      have g3 := box_cell (j := 3) hG7 rfl
      have g4 := box_cell (j := 4) hG7 rfl
      have r0 := box_cell (j := 0) HRx.out rfl
      have r1 := box_cell (j := 1) HRx.out rfl
      have r2 := box_cell (j := 2) HRx.out rfl
      have r3 := box_cell (j := 3) HRx.out rfl
      have r4 := box_cell (j := 4) HRx.out rfl
      have rf0 := box_free HRx.out 0
      have rf1 := box_free HRx.out 1
      have rf2 := box_free HRx.out 2
      have rf3 := box_free HRx.out 3
      have rf4 := box_free HRx.out 4
      go_wp2_with fail
      have hfin := put5 (u0 := (.int .i64 pr)) (u1 := (.int .i64 (pc + 1))) (u2 := (.slice (some ⟨bg, 0, none⟩) 6 c2)) (u3 := (.int .i64 st)) (u4 := (.slice A4 n4 c4)) HRx.out
      have y0 := box_cell (j := 0) hfin.1 rfl
      have y1 := box_cell (j := 1) hfin.1 rfl
      have y2 := box_cell (j := 2) hfin.1 rfl
      have y3 := box_cell (j := 3) hfin.1 rfl
      have y4 := box_cell (j := 4) hfin.1 rfl
      refine bodyPost_ret (v := .agg #[.int .i64 pr, .int .i64 (pc + 1), .slice (some ⟨bg, 0, none⟩) 6 c2, .int .i64 st, .slice A4 n4 c4]) (by simp [results, Tryz.results97, go_sem, y0, y1, y2, y3, y4]) rfl ?_
      exact ⟨pr, pc + 1, regs, st, tr, _, _, _, _, _, _, HST.out, rfl, (HH7.out.stay (fun k hk _ => hfin.2.1 k (by have := hk.2.2; omega)) (Nat.le_of_eq hfin.2.2.symm)).wide (fun k hk _ => ⟨hk.1, hk.2.1⟩), below_put5 HBx.out (by omega), (hfin.2.1 _ (by omega)).trans HK9.out⟩
    · skip
      have HST := Lib.hid (show stepR ⟨7, (ka : Int), ib, ic⟩ ⟨pr, pc, regs, st, tr⟩ = ⟨pr, ib, regs, st, tr⟩ from by unfold stepR; rw [if_neg (by simp), if_neg (by simp), if_neg (by simp), if_neg (by simp), if_pos ⟨rfl, by simp only; rw [← hxa]; exact hx0⟩])
      clear hxa
      go_upto_region 16 with (fail)
      clear rc
      clear g0 g1 g2 g3 g4
      clear i0 i1 i2 i3
      have g0 := box_cell (j := 0) HG0.out rfl
      have g1 := box_cell (j := 1) HG0.out rfl
      have g2 := box_cell (j := 2) HG0.out rfl
      have g3 := box_cell (j := 3) HG0.out rfl
      have g4 := box_cell (j := 4) HG0.out rfl
      have gf1 := box_free HG0.out 1
      go_upto_region 17 with (fail)
      have hput7 := put1 (j := 1) (u := .int .i64 ib) HG0.out
      have HBx := Lib.hid (below_set (p := ⟨w.heap.size + 1, 1, none⟩) (HB0.out.mono hlo) (by simp only; omega) (.int .i64 ib))
      have HK9 := Lib.hid ((Below.heap_setCell W0 ⟨w.heap.size + 1, 1, none⟩ (.int .i64 ib) bo (by simp only; omega)).trans (HB0.out.block _ hbo))
      have HH7 := Lib.hid (((HH0.out).set (b := w.heap.size + 1) (j := 1) (u := .int .i64 ib) (fun hb9 => by have := hb9.2.2; omega)).pc (v := ib) HWA.out)
      generalize (W0.setCell ⟨w.heap.size + 1, 1, none⟩ (.int .i64 ib)) = W7 at *
      obtain ⟨hG7, hk7, hs7⟩ := hput7
      have HRx := Lib.hid ((hk7 _ (by omega)).trans HR0.out)
      clear g0 g1 g2 g3 g4
      clear gf1 hk7
      have g0 := box_cell (j := 0) hG7 rfl
      have g1 := box_cell (j := 1) hG7 rfl
      have g2 := box_cell (j := 2) hG7 rfl
      have g3 := box_cell (j := 3) hG7 rfl
      have g4 := box_cell (j := 4) hG7 rfl
      have r0 := box_cell (j := 0) HRx.out rfl
      have r1 := box_cell (j := 1) HRx.out rfl
      have r2 := box_cell (j := 2) HRx.out rfl
      have r3 := box_cell (j := 3) HRx.out rfl
      have r4 := box_cell (j := 4) HRx.out rfl
      have rf0 := box_free HRx.out 0
      have rf1 := box_free HRx.out 1
      have rf2 := box_free HRx.out 2
      have rf3 := box_free HRx.out 3
      have rf4 := box_free HRx.out 4
      go_wp2_with fail
      have hfin := put5 (u0 := (.int .i64 pr)) (u1 := (.int .i64 ib)) (u2 := (.slice (some ⟨bg, 0, none⟩) 6 c2)) (u3 := (.int .i64 st)) (u4 := (.slice A4 n4 c4)) HRx.out
      have y0 := box_cell (j := 0) hfin.1 rfl
      have y1 := box_cell (j := 1) hfin.1 rfl
      have y2 := box_cell (j := 2) hfin.1 rfl
      have y3 := box_cell (j := 3) hfin.1 rfl
      have y4 := box_cell (j := 4) hfin.1 rfl
      refine bodyPost_ret (v := .agg #[.int .i64 pr, .int .i64 ib, .slice (some ⟨bg, 0, none⟩) 6 c2, .int .i64 st, .slice A4 n4 c4]) (by simp [results, Tryz.results97, go_sem, y0, y1, y2, y3, y4]) rfl ?_
      exact ⟨pr, ib, regs, st, tr, _, _, _, _, _, _, HST.out, rfl, (HH7.out.stay (fun k hk _ => hfin.2.1 k (by have := hk.2.2; omega)) (Nat.le_of_eq hfin.2.2.symm)).wide (fun k hk _ => ⟨hk.1, hk.2.1⟩), below_put5 HBx.out (by omega), (hfin.2.1 _ (by omega)).trans HK9.out⟩
end Go.Proofs.YtapbjnfopniicaaGreatDoor
