
/- EngI, EngJ, merged for claims. -/

import Derived.Test.YtghkdkagnibkgaaGreatDoorGWaits

import Derived.Test.YtghkdkagnibkgaaGreatDoorMayW

import Derived.Test.YtghkdkagnibkgaaGreatDoorGQueue

import Derived.Deep.Cut

import Derived.Test.YtghkdkagnibkgaaGreatDoorGMutOk

import Derived.Test.YtghkdkagnibkgaaGreatDoorChanOkI

namespace Go.Proofs.YtghkdkagnibkgaaGreatDoor
set_option linter.unusedSimpArgs false
set_option linter.unusedVariables false
open Go.RowKit

/-- All ahead of place k are right. -/
def allTo {α : Type} (f : Nat → α → Bool) (l : List α) (k : Nat) : Prop := ∀ (j : Nat) (x : α), j < k → l[j]? = some x → f j x = true
theorem allTo_step {α : Type} {f : Nat → α → Bool} {l : List α} {k : Nat} {x : α} (h : allTo f l k) (hx : l[k]? = some x) (hf : f k x = true) : allTo f l (k + 1) := by
  intro j y hj hy
  by_cases hjk : j = k
  · subst hjk
    rw [hx] at hy
    injection hy with hy
    rw [← hy]
    exact hf
  · exact h j y (by omega) hy
theorem gors_yes {p : DProg} {gs : List DGor} (hl : 1 ≤ gs.length ∧ gs.length ≤ 10) (h : allTo (fun _ g => gorE p g) gs gs.length) : gorsB p gs = true := by
  unfold gorsB
  rw [decide_eq_true hl, Bool.true_and, List.all_eq_true]
  intro g hg
  obtain ⟨k, hk⟩ := List.getElem?_of_mem hg
  exact h k g (List.getElem?_eq_some_iff.1 hk).1 hk
theorem gors_no {p : DProg} {gs : List DGor} {k : Nat} {g : DGor} (hk : gs[k]? = some g) (h : gorE p g = false) : gorsB p gs = false := by
  unfold gorsB
  rw [all_no hk h, Bool.and_false]
theorem chans_yes {p : DProg} {cs : List DChan} (hl : cs.length = p.fCaps.length) (h : allTo (fun j _ => chanE p cs j) cs cs.length) : chansB p cs = true := by
  unfold chansB
  rw [decide_eq_true hl, Bool.true_and, List.all_eq_true]
  intro j hj
  have h1 := List.mem_range.1 hj
  exact h j _ h1 (List.getElem?_eq_getElem h1)
theorem chans_no {p : DProg} {cs : List DChan} {k : Nat} (hk : k < cs.length) (h : chanE p cs k = false) : chansB p cs = false := by
  unfold chansB
  have : (List.range cs.length).all (chanE p cs) = false := by
    rw [List.all_eq_false]
    exact ⟨k, List.mem_range.2 hk, by rw [h]; simp⟩
  rw [this, Bool.and_false]
theorem chanE_of {p : DProg} {cs : List DChan} {k : Nat} {c : DChan} {v : Int} (h1 : cs[k]? = some c) (h2 : p.fCaps[k]? = some v) : chanE p cs k = (chanOkB c && decide (c.fCap = v)) := by
  unfold chanE
  rw [h1, h2]
theorem mus_yes {p : DProg} {n : Nat} {ms : List DMutex} (hl : (ms.length : Int) = p.fMus) (h : allTo (fun _ m => musE n m) ms ms.length) : musB p n ms = true := by
  unfold musB
  rw [decide_eq_true hl, Bool.true_and, List.all_eq_true]
  intro g hg
  obtain ⟨k, hk⟩ := List.getElem?_of_mem hg
  exact h k g (List.getElem?_eq_some_iff.1 hk).1 hk
theorem mus_no {p : DProg} {n : Nat} {ms : List DMutex} {k : Nat} {m : DMutex} (hk : ms[k]? = some m) (h : musE n m = false) : musB p n ms = false := by
  unfold musB
  rw [all_no hk h, Bool.and_false]
theorem gorE_may {p : DProg} {g : DGor} (hp : progOkB p = true) (hg : gorB (instrsZ p g.fProc) g = true) : gorE p g = (!decide (g.fState = 2) || mayB p g) := by
  unfold gorE
  rw [hg, Bool.true_and]

set_option maxRecDepth 100000 in
set_option maxHeartbeats 8000000 in
theorem gorsOk_any {w : World} {hi n c : Nat} {p : DProg} {vs : List Value} {A : Option Addr} {gs : List DGor} (hp : layProg.see w hi p vs) (hs : SeenR layGor w hi A n gs) (hhi : hi ≤ w.heap.size) (hIC : ItemCells w) (hnp : szProg p ≤ 1048576) (hn : n + (gs.map szGor).sum ≤ 1048576) (hok : progOkB p = true) :
    Calls Tryz.prog 99 #[.agg vs.toArray, .slice A n c] w fun e w' => e = .returned (.bool (gorsB p gs)) ∧ Below w.heap.size w w' := by
  have HL := Lib.hid hs.1
  have HS := Lib.hid (fun (W : World) (hW : Below w.heap.size w W) => hs.below hW hhi)
  have HPS := Lib.hid (fun (W : World) (hW : Below w.heap.size w W) => layProg.keep hp (w' := W) fun k hk => hW.block k (by omega))
  have HIC := Lib.hid (fun (W : World) (hW : Below w.heap.size w W) => itemCells_below hIC hW (Nat.le_refl _))
  obtain ⟨A0, n0, c0, B2, m2, d2, A3, n3, c3, rfl, -⟩ := seeProg hp
  clear hp hs hIC
  have hB0 : Below w.heap.size w (w.alloc (.cells #[.slice A0 n0 c0, .int .i64 p.fMus, .slice B2 m2 d2, .slice A3 n3 c3] 38)) := (Below.refl _ _).alloc (Nat.le_refl _) _
  have hP0 := box_new w #[.slice A0 n0 c0, .int .i64 p.fMus, .slice B2 m2 d2, .slice A3 n3 c3] 38
  have hz0 : (w.alloc (.cells #[.slice A0 n0 c0, .int .i64 p.fMus, .slice B2 m2 d2, .slice A3 n3 c3] 38)).heap.size = w.heap.size + 1 := by simp
  by_cases hlen : 1 ≤ n ∧ n ≤ 10
  rotate_left
  · have HR := Lib.hid (show gorsB p gs = false by unfold gorsB; rw [decide_eq_false (by rw [HL.out]; exact hlen), Bool.false_and])
    by_cases h1 : n < 1
    · have q1 : decide ((n : Int) < 1) = true := decide_eq_true (by omega)
      clear hlen
      go_enter Tryz.func99, Tryz.ntmps99
      go_wp2_with fail
      go_ret
      exact ⟨by rw [HR.out]; rfl, hB0⟩
    · have q1 : decide ((n : Int) < 1) = false := decide_eq_false (by omega)
      have q2 : decide ((n : Int) > 10) = true := decide_eq_true (by omega)
      clear hlen
      go_enter Tryz.func99, Tryz.ntmps99
      go_wp2_with fail
      go_ret
      exact ⟨by rw [HR.out]; rfl, hB0⟩
  have q1 : decide ((n : Int) < 1) = false := decide_eq_false (by omega)
  have q2 : decide ((n : Int) > 10) = false := decide_eq_false (by omega)
  go_enter Tryz.func99, Tryz.ntmps99
  go_upto_region 1 with (fail)
  generalize (w.alloc (.cells #[.slice A0 n0 c0, .int .i64 p.fMus, .slice B2 m2 d2, .slice A3 n3 c3] 38)) = W0 at *
  have HP0 := Lib.hid hP0
  have HB0 := Lib.hid hB0
  clear hP0 hB0
  go_wp2_with fail
  clear q1 q2
  go_loopw [17] (fun i wr => ∃ k : Nat, k ≤ n ∧ i = .int .i64 k ∧ Hid (allTo (fun _ g => gorE p g) gs k) ∧ Below (w.heap.size + 1) W0 wr) (fun i _ => n - (intOf i).toNat)
  case atStart => exact ⟨0, Nat.zero_le _, rfl, Lib.hid (fun j x hj => by omega), by rw [← hz0]; exact Below.refl _ _⟩
  case round =>
    obtain ⟨k, hk, rfl, HA, hbr⟩ := hrel
    have hzr := hbr.size
    by_cases hlt : k < n
    · have hbw := HB0.out.trans (hbr.mono (by omega))
      obtain ⟨hx, g, o, ws, rfl, hg, hsee, hcell⟩ := (HS.out wr hbw).at_ hlt
      have HDK := Lib.hid (List.getElem?_eq_getElem hx)
      have hsz : szGor gs[k] ≤ 1048576 := Nat.le_trans (sum_mem_le szGor (List.getElem_mem hx)) (by omega)
      generalize gs[k] = d at *
      have HSE := Lib.hid (fun (W : World) (hW : Below wr.heap.size wr W) => layGor.keep hsee (w' := W) fun k hk => hW.block k (by omega))
      obtain ⟨E2, k2, v2, E4, k4, v4, rfl, -⟩ := seeGor hsee
      have cc0 := hcell 0 _ rfl
      have cc1 := hcell 1 _ rfl
      have cc2 := hcell 2 _ rfl
      have cc3 := hcell 3 _ rfl
      have cc4 := hcell 4 _ rfl
      simp only [show layGor.size = 5 from rfl, ← Nat.add_assoc, Nat.add_zero, Nat.mul_one] at cc0 cc1 cc2 cc3 cc4
      have hbA : Below wr.heap.size wr (wr.alloc (.cells #[.int .i64 d.fProc, .int .i64 d.fPc, .slice E2 k2 v2, .int .i64 d.fState, .slice E4 k4 v4] 65)) := (Below.refl _ _).alloc (Nat.le_refl _) _
      have hGA := box_new wr #[.int .i64 d.fProc, .int .i64 d.fPc, .slice E2 k2 v2, .int .i64 d.fState, .slice E4 k4 v4] 65
      have hPA := box_keep (box_keep HP0.out hbr (by omega)) hbA (by omega)
      have hzA : (wr.alloc (.cells #[.int .i64 d.fProc, .int .i64 d.fPc, .slice E2 k2 v2, .int .i64 d.fState, .slice E4 k4 v4] 65)).heap.size = wr.heap.size + 1 := by simp
      go_upto_region 6 with (fail)
      generalize (wr.alloc (.cells #[.int .i64 d.fProc, .int .i64 d.fPc, .slice E2 k2 v2, .int .i64 d.fState, .slice E4 k4 v4] 65)) = WA at *
      clear cc0 cc1 cc2 cc3 cc4 hcell hsee
      have HGA := Lib.hid hGA
      have HPA := Lib.hid hPA
      have HBA := Lib.hid (hbr.trans (hbA.mono (by omega)))
      have HBW := Lib.hid (hbw.trans (hbA.mono (by have := hbw.size; omega)))
      have HSA := Lib.hid (fun (W : World) (hW : Below WA.heap.size WA W) => HSE.out W (hbA.trans (hW.mono (by omega))))
      have HGF := Lib.hid (fun (W : World) (hW : Below WA.heap.size WA W) => gorFits_any (HPS.out W (HBW.out.trans (hW.mono (by have := HBW.out.size; omega)))) (HSA.out W hW) (by have := HBW.out.size; have := hW.size; omega) (HIC.out W (HBW.out.trans (hW.mono (by have := HBW.out.size; omega)))) hnp hsz)
      have HAT := Lib.hid (fun (hgb : gorB (instrsZ p d.fProc) d = true) (W : World) (hW : Below WA.heap.size WA W) => implAt_any (HPS.out W (HBW.out.trans (hW.mono (by have := HBW.out.size; omega)))) (HSA.out W hW) (by have := HBW.out.size; have := hW.size; omega) hnp (gorB_at hgb))
      have HMW := Lib.hid (fun (hgb : gorB (instrsZ p d.fProc) d = true) (W : World) (hW : Below WA.heap.size WA W) => show Calls Tryz.prog 130 #[.agg #[.slice A0 n0 c0, .int .i64 p.fMus, .slice B2 m2 d2, .slice A3 n3 c3], .agg #[.int .i64 (atI p d).fOp, .int .i64 (atI p d).fA, .int .i64 (atI p d).fB, .int .i64 (atI p d).fC]] W fun e w' => e = .returned (.bool (mayB p d)) ∧ Below W.heap.size W w' from by
        rw [← may_same hok (gorB_at hgb)]
        exact mayAt_any (HPS.out W (HBW.out.trans (hW.mono (by have := HBW.out.size; omega)))) (by have := HBW.out.size; have := hW.size; omega) hnp (fun h => ((at_names hok (gorB_at hgb)).2.2.1 h).1))
      have HGE := Lib.hid (show gorE p d = (gorB (instrsZ p d.fProc) d && (!decide (d.fState = 2) || mayB p d)) from rfl)
      clear hGA hPA hbA hbr hbw HSE
      generalize gorB (instrsZ p d.fProc) d = b1 at *
      generalize mayB p d = b2 at *
      generalize atI p d = ins at *
      cases b1
      · replace HGE : Hid (gorE p d = false) := Lib.hid (by rw [HGE.out]; rfl)
        refine wp_region_inv (fun AC0 L a W => ∃ sl21 sl22 sl23 sl24 sl25 sl26 sl27 sl28 sl29 sl30 sl31 sl32 sl33 sl34 sl35 sl36 sl37 : Value, a = (((((((((((((((((AC0.put (some 21) sl21).put (some 22) sl22).put (some 23) sl23).put (some 24) sl24).put (some 25) sl25).put (some 26) sl26).put (some 27) sl27).put (some 28) sl28).put (some 29) sl29).put (some 30) sl30).put (some 31) sl31).put (some 32) sl32).put (some 33) sl33).put (some 34) sl34).put (some 35) sl35).put (some 36) sl36).put (some 37) sl37) ∧ Below WA.heap.size WA W ∧ ((L 0 → sl21 = (.agg #[.slice A0 n0 c0, .int .i64 p.fMus, .slice B2 m2 d2, .slice A3 n3 c3])) ∧ (L 1 → sl22 = (.agg #[.int .i64 d.fProc, .int .i64 d.fPc, .slice E2 k2 v2, .int .i64 d.fState, .slice E4 k4 v4])) ∧ (L 2 → sl23 = (.bool false)) ∧ (L 3 → sl24 = (.bool true)) ∧ (L 4 → sl25 = (.bool true)) ∧ (L 5 → sl26 = undef) ∧ (L 6 → sl27 = undef) ∧ (L 7 → sl28 = undef) ∧ (L 8 → sl29 = undef) ∧ (L 9 → sl30 = undef) ∧ (L 10 → sl31 = undef) ∧ (L 11 → sl32 = undef) ∧ (L 12 → sl33 = undef) ∧ (L 13 → sl34 = undef) ∧ (L 14 → sl35 = undef) ∧ (L 15 → sl36 = undef) ∧ (L 16 → sl37 = (.bool true)))) (by kernel_rfl) (by kernel_rfl) ?_ ?_ ?_
        · exact ⟨u21, u22, u23, u24, u25, u26, u27, u28, u29, u30, u31, u32, u33, u34, u35, u36, u37, by kernel_rfl, Below.drew (Below.refl _ _), fun h => absurd h id, fun h => absurd h id, fun h => absurd h id, fun h => absurd h id, fun h => absurd h id, fun h => absurd h id, fun h => absurd h id, fun h => absurd h id, fun h => absurd h id, fun h => absurd h id, fun h => absurd h id, fun h => absurd h id, fun h => absurd h id, fun h => absurd h id, fun h => absurd h id, fun h => absurd h id, fun h => absurd h id⟩
        · intro Q9; refine InvFrom.cons (fun L a W hI hN hD K hK => ?_) ?_
          · obtain ⟨sl21, sl22, sl23, sl24, sl25, sl26, sl27, sl28, sl29, sl30, sl31, sl32, sl33, sl34, sl35, sl36, sl37, ha, hB, f0, f1, f2, f3, f4, f5, f6, f7, f8, f9, f10, f11, f12, f13, f14, f15, f16⟩ := hI
            subst ha
            have hz := hB.size
            have pp0 := box_cell (j := 0) (box_keep HPA.out hB (by omega)) rfl
            have pp1 := box_cell (j := 1) (box_keep HPA.out hB (by omega)) rfl
            have pp2 := box_cell (j := 2) (box_keep HPA.out hB (by omega)) rfl
            have pp3 := box_cell (j := 3) (box_keep HPA.out hB (by omega)) rfl
            refine Kept.mk ?_
            simp only [Act.put, pA, pZ, pS]
            go_simp
            refine hK.out _ _ ?_
            exact ⟨(.agg #[.slice A0 n0 c0, .int .i64 p.fMus, .slice B2 m2 d2, .slice A3 n3 c3]), sl22, sl23, sl24, sl25, sl26, sl27, sl28, sl29, sl30, sl31, sl32, sl33, sl34, sl35, sl36, sl37, by kernel_rfl, hB, fun _ => rfl, nf f1, nf f2, nf f3, nf f4, nf f5, nf f6, nf f7, nf f8, nf f9, nf f10, nf f11, nf f12, nf f13, nf f14, nf f15, nf f16⟩
          refine InvFrom.cons (fun L a W hI hN hD K hK => ?_) ?_
          · obtain ⟨sl21, sl22, sl23, sl24, sl25, sl26, sl27, sl28, sl29, sl30, sl31, sl32, sl33, sl34, sl35, sl36, sl37, ha, hB, f0, f1, f2, f3, f4, f5, f6, f7, f8, f9, f10, f11, f12, f13, f14, f15, f16⟩ := hI
            subst ha
            have hz := hB.size
            have pg0 := box_cell (j := 0) (box_keep HGA.out hB (by omega)) rfl
            have pg1 := box_cell (j := 1) (box_keep HGA.out hB (by omega)) rfl
            have pg2 := box_cell (j := 2) (box_keep HGA.out hB (by omega)) rfl
            have pg3 := box_cell (j := 3) (box_keep HGA.out hB (by omega)) rfl
            have pg4 := box_cell (j := 4) (box_keep HGA.out hB (by omega)) rfl
            refine Kept.mk ?_
            simp only [Act.put, pA, pZ, pS]
            go_simp
            refine hK.out _ _ ?_
            exact ⟨sl21, (.agg #[.int .i64 d.fProc, .int .i64 d.fPc, .slice E2 k2 v2, .int .i64 d.fState, .slice E4 k4 v4]), sl23, sl24, sl25, sl26, sl27, sl28, sl29, sl30, sl31, sl32, sl33, sl34, sl35, sl36, sl37, by kernel_rfl, hB, nf f0, fun _ => rfl, nf f2, nf f3, nf f4, nf f5, nf f6, nf f7, nf f8, nf f9, nf f10, nf f11, nf f12, nf f13, nf f14, nf f15, nf f16⟩
          refine InvFrom.cons (fun L a W hI hN hD K hK => ?_) ?_
          · obtain ⟨sl21, sl22, sl23, sl24, sl25, sl26, sl27, sl28, sl29, sl30, sl31, sl32, sl33, sl34, sl35, sl36, sl37, ha, hB, f0, f1, f2, f3, f4, f5, f6, f7, f8, f9, f10, f11, f12, f13, f14, f15, f16⟩ := hI
            subst ha
            have hz := hB.size
            have d0 := f0 (hD 0 (by kernel_rfl))
            subst d0
            have d1 := f1 (hD 1 (by kernel_rfl))
            subst d1
            refine kept_c2 rfl 129 _ _ _ rfl (fenters_of' Tryz.func129 (by kernel_rfl) (by kernel_rfl)) (.agg #[.slice A0 n0 c0, .int .i64 p.fMus, .slice B2 m2 d2, .slice A3 n3 c3]) (.agg #[.int .i64 d.fProc, .int .i64 d.fPc, .slice E2 k2 v2, .int .i64 d.fState, .slice E4 k4 v4]) (by kernel_rfl) (by kernel_rfl) (HGF.out W hB) ?_
            rintro e W1 ⟨rfl, hb1⟩
            refine ⟨_, rfl, hK.out _ _ ?_⟩
            exact ⟨(.agg #[.slice A0 n0 c0, .int .i64 p.fMus, .slice B2 m2 d2, .slice A3 n3 c3]), (.agg #[.int .i64 d.fProc, .int .i64 d.fPc, .slice E2 k2 v2, .int .i64 d.fState, .slice E4 k4 v4]), (.bool false), sl24, sl25, sl26, sl27, sl28, sl29, sl30, sl31, sl32, sl33, sl34, sl35, sl36, sl37, by kernel_rfl, hB.trans ((hb1.mono (Nat.le_refl _)).mono hz), nf f0, nf f1, fun _ => rfl, nf f3, nf f4, nf f5, nf f6, nf f7, nf f8, nf f9, nf f10, nf f11, nf f12, nf f13, nf f14, nf f15, nf f16⟩
          refine InvFrom.cons (fun L a W hI hN hD K hK => ?_) ?_
          · obtain ⟨sl21, sl22, sl23, sl24, sl25, sl26, sl27, sl28, sl29, sl30, sl31, sl32, sl33, sl34, sl35, sl36, sl37, ha, hB, f0, f1, f2, f3, f4, f5, f6, f7, f8, f9, f10, f11, f12, f13, f14, f15, f16⟩ := hI
            subst ha
            have hz := hB.size
            have d2 := f2 (hD 2 (by kernel_rfl))
            subst d2
            refine Kept.mk ?_
            simp only [Act.put, pA, pZ, pS]
            go_simp
            refine hK.out _ _ ?_
            exact ⟨sl21, sl22, (.bool false), (.bool true), sl25, sl26, sl27, sl28, sl29, sl30, sl31, sl32, sl33, sl34, sl35, sl36, sl37, by kernel_rfl, hB, nf f0, nf f1, nf f2, fun _ => rfl, nf f4, nf f5, nf f6, nf f7, nf f8, nf f9, nf f10, nf f11, nf f12, nf f13, nf f14, nf f15, nf f16⟩
          refine InvFrom.cons (fun L a W hI hN hD K hK => ?_) ?_
          · obtain ⟨sl21, sl22, sl23, sl24, sl25, sl26, sl27, sl28, sl29, sl30, sl31, sl32, sl33, sl34, sl35, sl36, sl37, ha, hB, f0, f1, f2, f3, f4, f5, f6, f7, f8, f9, f10, f11, f12, f13, f14, f15, f16⟩ := hI
            subst ha
            have hz := hB.size
            have d2 := f2 (hD 2 (by kernel_rfl))
            subst d2
            have d3 := f3 (hD 3 (by kernel_rfl))
            subst d3
            refine Kept.mk ?_
            simp only [Act.put, pA, pZ, pS]
            go_simp
            refine hK.out _ _ ?_
            exact ⟨sl21, sl22, (.bool false), (.bool true), (.bool true), sl26, sl27, sl28, sl29, sl30, sl31, sl32, sl33, sl34, sl35, sl36, sl37, by kernel_rfl, hB, nf f0, nf f1, nf f2, nf f3, fun _ => rfl, nf f5, nf f6, nf f7, nf f8, nf f9, nf f10, nf f11, nf f12, nf f13, nf f14, nf f15, nf f16⟩
          refine InvFrom.cons (fun L a W hI hN hD K hK => ?_) ?_
          · obtain ⟨sl21, sl22, sl23, sl24, sl25, sl26, sl27, sl28, sl29, sl30, sl31, sl32, sl33, sl34, sl35, sl36, sl37, ha, hB, f0, f1, f2, f3, f4, f5, f6, f7, f8, f9, f10, f11, f12, f13, f14, f15, f16⟩ := hI
            subst ha
            have hz := hB.size
            have d4 := f4 (hD 4 (by kernel_rfl))
            subst d4
            refine Kept.mk ?_
            simp only [Act.put, pA, pZ, pS]
            go_simp
            refine hK.out _ _ ?_
            exact ⟨sl21, sl22, sl23, sl24, (.bool true), undef, sl27, sl28, sl29, sl30, sl31, sl32, sl33, sl34, sl35, sl36, sl37, by kernel_rfl, hB, nf f0, nf f1, nf f2, nf f3, nf f4, fun _ => rfl, nf f6, nf f7, nf f8, nf f9, nf f10, nf f11, nf f12, nf f13, nf f14, nf f15, nf f16⟩
          refine InvFrom.cons (fun L a W hI hN hD K hK => ?_) ?_
          · obtain ⟨sl21, sl22, sl23, sl24, sl25, sl26, sl27, sl28, sl29, sl30, sl31, sl32, sl33, sl34, sl35, sl36, sl37, ha, hB, f0, f1, f2, f3, f4, f5, f6, f7, f8, f9, f10, f11, f12, f13, f14, f15, f16⟩ := hI
            subst ha
            have hz := hB.size
            have d4 := f4 (hD 4 (by kernel_rfl))
            subst d4
            have d5 := f5 (hD 5 (by kernel_rfl))
            subst d5
            refine Kept.mk ?_
            simp only [Act.put, pA, pZ, pS]
            go_simp
            refine hK.out _ _ ?_
            exact ⟨sl21, sl22, sl23, sl24, (.bool true), undef, undef, sl28, sl29, sl30, sl31, sl32, sl33, sl34, sl35, sl36, sl37, by kernel_rfl, hB, nf f0, nf f1, nf f2, nf f3, nf f4, nf f5, fun _ => rfl, nf f7, nf f8, nf f9, nf f10, nf f11, nf f12, nf f13, nf f14, nf f15, nf f16⟩
          refine InvFrom.cons (fun L a W hI hN hD K hK => ?_) ?_
          · obtain ⟨sl21, sl22, sl23, sl24, sl25, sl26, sl27, sl28, sl29, sl30, sl31, sl32, sl33, sl34, sl35, sl36, sl37, ha, hB, f0, f1, f2, f3, f4, f5, f6, f7, f8, f9, f10, f11, f12, f13, f14, f15, f16⟩ := hI
            subst ha
            have hz := hB.size
            have d4 := f4 (hD 4 (by kernel_rfl))
            subst d4
            have d6 := f6 (hD 6 (by kernel_rfl))
            subst d6
            refine Kept.mk ?_
            simp only [Act.put, pA, pZ, pS]
            go_simp
            refine hK.out _ _ ?_
            exact ⟨sl21, sl22, sl23, sl24, (.bool true), sl26, undef, undef, sl29, sl30, sl31, sl32, sl33, sl34, sl35, sl36, sl37, by kernel_rfl, hB, nf f0, nf f1, nf f2, nf f3, nf f4, nf f5, nf f6, fun _ => rfl, nf f8, nf f9, nf f10, nf f11, nf f12, nf f13, nf f14, nf f15, nf f16⟩
          refine InvFrom.cons (fun L a W hI hN hD K hK => ?_) ?_
          · obtain ⟨sl21, sl22, sl23, sl24, sl25, sl26, sl27, sl28, sl29, sl30, sl31, sl32, sl33, sl34, sl35, sl36, sl37, ha, hB, f0, f1, f2, f3, f4, f5, f6, f7, f8, f9, f10, f11, f12, f13, f14, f15, f16⟩ := hI
            subst ha
            have hz := hB.size
            have d4 := f4 (hD 4 (by kernel_rfl))
            subst d4
            have d7 := f7 (hD 7 (by kernel_rfl))
            subst d7
            refine Kept.mk ?_
            simp only [Act.put, pA, pZ, pS]
            go_simp
            refine hK.out _ _ ?_
            exact ⟨sl21, sl22, sl23, sl24, (.bool true), sl26, sl27, undef, undef, sl30, sl31, sl32, sl33, sl34, sl35, sl36, sl37, by kernel_rfl, hB, nf f0, nf f1, nf f2, nf f3, nf f4, nf f5, nf f6, nf f7, fun _ => rfl, nf f9, nf f10, nf f11, nf f12, nf f13, nf f14, nf f15, nf f16⟩
          refine InvFrom.cons (fun L a W hI hN hD K hK => ?_) ?_
          · obtain ⟨sl21, sl22, sl23, sl24, sl25, sl26, sl27, sl28, sl29, sl30, sl31, sl32, sl33, sl34, sl35, sl36, sl37, ha, hB, f0, f1, f2, f3, f4, f5, f6, f7, f8, f9, f10, f11, f12, f13, f14, f15, f16⟩ := hI
            subst ha
            have hz := hB.size
            have d8 := f8 (hD 8 (by kernel_rfl))
            subst d8
            refine Kept.mk ?_
            simp only [Act.put, pA, pZ, pS]
            go_simp
            refine hK.out _ _ ?_
            exact ⟨sl21, sl22, sl23, sl24, sl25, sl26, sl27, sl28, undef, undef, sl31, sl32, sl33, sl34, sl35, sl36, sl37, by kernel_rfl, hB, nf f0, nf f1, nf f2, nf f3, nf f4, nf f5, nf f6, nf f7, nf f8, fun _ => rfl, nf f10, nf f11, nf f12, nf f13, nf f14, nf f15, nf f16⟩
          refine InvFrom.cons (fun L a W hI hN hD K hK => ?_) ?_
          · obtain ⟨sl21, sl22, sl23, sl24, sl25, sl26, sl27, sl28, sl29, sl30, sl31, sl32, sl33, sl34, sl35, sl36, sl37, ha, hB, f0, f1, f2, f3, f4, f5, f6, f7, f8, f9, f10, f11, f12, f13, f14, f15, f16⟩ := hI
            subst ha
            have hz := hB.size
            have d8 := f8 (hD 8 (by kernel_rfl))
            subst d8
            refine Kept.mk ?_
            simp only [Act.put, pA, pZ, pS]
            go_simp
            refine hK.out _ _ ?_
            exact ⟨sl21, sl22, sl23, sl24, sl25, sl26, sl27, sl28, undef, sl30, undef, sl32, sl33, sl34, sl35, sl36, sl37, by kernel_rfl, hB, nf f0, nf f1, nf f2, nf f3, nf f4, nf f5, nf f6, nf f7, nf f8, nf f9, fun _ => rfl, nf f11, nf f12, nf f13, nf f14, nf f15, nf f16⟩
          refine InvFrom.cons (fun L a W hI hN hD K hK => ?_) ?_
          · obtain ⟨sl21, sl22, sl23, sl24, sl25, sl26, sl27, sl28, sl29, sl30, sl31, sl32, sl33, sl34, sl35, sl36, sl37, ha, hB, f0, f1, f2, f3, f4, f5, f6, f7, f8, f9, f10, f11, f12, f13, f14, f15, f16⟩ := hI
            subst ha
            have hz := hB.size
            have d8 := f8 (hD 8 (by kernel_rfl))
            subst d8
            refine Kept.mk ?_
            simp only [Act.put, pA, pZ, pS]
            go_simp
            refine hK.out _ _ ?_
            exact ⟨sl21, sl22, sl23, sl24, sl25, sl26, sl27, sl28, undef, sl30, sl31, undef, sl33, sl34, sl35, sl36, sl37, by kernel_rfl, hB, nf f0, nf f1, nf f2, nf f3, nf f4, nf f5, nf f6, nf f7, nf f8, nf f9, nf f10, fun _ => rfl, nf f12, nf f13, nf f14, nf f15, nf f16⟩
          refine InvFrom.cons (fun L a W hI hN hD K hK => ?_) ?_
          · obtain ⟨sl21, sl22, sl23, sl24, sl25, sl26, sl27, sl28, sl29, sl30, sl31, sl32, sl33, sl34, sl35, sl36, sl37, ha, hB, f0, f1, f2, f3, f4, f5, f6, f7, f8, f9, f10, f11, f12, f13, f14, f15, f16⟩ := hI
            subst ha
            have hz := hB.size
            have d8 := f8 (hD 8 (by kernel_rfl))
            subst d8
            have d10 := f10 (hD 10 (by kernel_rfl))
            subst d10
            have d11 := f11 (hD 11 (by kernel_rfl))
            subst d11
            refine Kept.mk ?_
            simp only [Act.put, pA, pZ, pS]
            go_simp
            refine hK.out _ _ ?_
            exact ⟨sl21, sl22, sl23, sl24, sl25, sl26, sl27, sl28, undef, sl30, undef, undef, undef, sl34, sl35, sl36, sl37, by kernel_rfl, hB, nf f0, nf f1, nf f2, nf f3, nf f4, nf f5, nf f6, nf f7, nf f8, nf f9, nf f10, nf f11, fun _ => rfl, nf f13, nf f14, nf f15, nf f16⟩
          refine InvFrom.cons (fun L a W hI hN hD K hK => ?_) ?_
          · obtain ⟨sl21, sl22, sl23, sl24, sl25, sl26, sl27, sl28, sl29, sl30, sl31, sl32, sl33, sl34, sl35, sl36, sl37, ha, hB, f0, f1, f2, f3, f4, f5, f6, f7, f8, f9, f10, f11, f12, f13, f14, f15, f16⟩ := hI
            subst ha
            have hz := hB.size
            have d8 := f8 (hD 8 (by kernel_rfl))
            subst d8
            have d9 := f9 (hD 9 (by kernel_rfl))
            subst d9
            have d12 := f12 (hD 12 (by kernel_rfl))
            subst d12
            refine Kept.mk ?_
            simp only [Act.put, pA, pZ, pS]
            go_simp
            refine hK.out _ _ ?_
            exact ⟨sl21, sl22, sl23, sl24, sl25, sl26, sl27, sl28, undef, undef, sl31, sl32, undef, undef, sl35, sl36, sl37, by kernel_rfl, hB, nf f0, nf f1, nf f2, nf f3, nf f4, nf f5, nf f6, nf f7, nf f8, nf f9, nf f10, nf f11, nf f12, fun _ => rfl, nf f14, nf f15, nf f16⟩
          refine InvFrom.cons (fun L a W hI hN hD K hK => ?_) ?_
          · obtain ⟨sl21, sl22, sl23, sl24, sl25, sl26, sl27, sl28, sl29, sl30, sl31, sl32, sl33, sl34, sl35, sl36, sl37, ha, hB, f0, f1, f2, f3, f4, f5, f6, f7, f8, f9, f10, f11, f12, f13, f14, f15, f16⟩ := hI
            subst ha
            have hz := hB.size
            have d8 := f8 (hD 8 (by kernel_rfl))
            subst d8
            have d13 := f13 (hD 13 (by kernel_rfl))
            subst d13
            refine Kept.mk ?_
            simp only [Act.put, pA, pZ, pS]
            go_simp
            refine hK.out _ _ ?_
            exact ⟨sl21, sl22, sl23, sl24, sl25, sl26, sl27, sl28, undef, sl30, sl31, sl32, sl33, undef, undef, sl36, sl37, by kernel_rfl, hB, nf f0, nf f1, nf f2, nf f3, nf f4, nf f5, nf f6, nf f7, nf f8, nf f9, nf f10, nf f11, nf f12, nf f13, fun _ => rfl, nf f15, nf f16⟩
          refine InvFrom.cons (fun L a W hI hN hD K hK => ?_) ?_
          · obtain ⟨sl21, sl22, sl23, sl24, sl25, sl26, sl27, sl28, sl29, sl30, sl31, sl32, sl33, sl34, sl35, sl36, sl37, ha, hB, f0, f1, f2, f3, f4, f5, f6, f7, f8, f9, f10, f11, f12, f13, f14, f15, f16⟩ := hI
            subst ha
            have hz := hB.size
            have d4 := f4 (hD 4 (by kernel_rfl))
            subst d4
            have d8 := f8 (hD 8 (by kernel_rfl))
            subst d8
            have d14 := f14 (hD 14 (by kernel_rfl))
            subst d14
            refine Kept.mk ?_
            simp only [Act.put, pA, pZ, pS]
            go_simp
            refine hK.out _ _ ?_
            exact ⟨sl21, sl22, sl23, sl24, (.bool true), sl26, sl27, sl28, undef, sl30, sl31, sl32, sl33, sl34, undef, undef, sl37, by kernel_rfl, hB, nf f0, nf f1, nf f2, nf f3, nf f4, nf f5, nf f6, nf f7, nf f8, nf f9, nf f10, nf f11, nf f12, nf f13, nf f14, fun _ => rfl, nf f16⟩
          refine InvFrom.cons (fun L a W hI hN hD K hK => ?_) ?_
          · obtain ⟨sl21, sl22, sl23, sl24, sl25, sl26, sl27, sl28, sl29, sl30, sl31, sl32, sl33, sl34, sl35, sl36, sl37, ha, hB, f0, f1, f2, f3, f4, f5, f6, f7, f8, f9, f10, f11, f12, f13, f14, f15, f16⟩ := hI
            subst ha
            have hz := hB.size
            have d4 := f4 (hD 4 (by kernel_rfl))
            subst d4
            have d15 := f15 (hD 15 (by kernel_rfl))
            subst d15
            refine Kept.mk ?_
            simp only [Act.put, pA, pZ, pS]
            go_simp
            refine hK.out _ _ ?_
            exact ⟨sl21, sl22, sl23, sl24, (.bool true), sl26, sl27, sl28, sl29, sl30, sl31, sl32, sl33, sl34, sl35, undef, (.bool true), by kernel_rfl, hB, nf f0, nf f1, nf f2, nf f3, nf f4, nf f5, nf f6, nf f7, nf f8, nf f9, nf f10, nf f11, nf f12, nf f13, nf f14, nf f15, fun _ => rfl⟩
          exact InvFrom.nil
        intro L a w9 hL hI
        obtain ⟨sl21, sl22, sl23, sl24, sl25, sl26, sl27, sl28, sl29, sl30, sl31, sl32, sl33, sl34, sl35, sl36, sl37, ha, hbw9, hI⟩ := hI
        subst ha
        have hfin := hI.2.2.2.2.2.2.2.2.2.2.2.2.2.2.2.2 (hL 16 (by decide))
        subst hfin
        clear hL hI
        refine Kept.mk ?_
        simp only [Act.put, pA, pZ, pS]
        have HB9 := Lib.hid (HBW.out.trans (hbw9.mono (by have := HBW.out.size; omega)))
        clear hbw9
        go_wp2_with fail
        go_ret
        exact ⟨by rw [gors_no HDK.out HGE.out]; rfl, HB9.out⟩
      by_cases hst : d.fState = 2
      rotate_left
      · have qs : (d.fState == 2) = false := by simp [hst]
        replace HGE : Hid (gorE p d = true) := Lib.hid (by rw [HGE.out, decide_eq_false hst]; rfl)
        clear hst
        refine wp_region_inv (fun AC0 L a W => ∃ sl21 sl22 sl23 sl24 sl25 sl26 sl27 sl28 sl29 sl30 sl31 sl32 sl33 sl34 sl35 sl36 sl37 : Value, a = (((((((((((((((((AC0.put (some 21) sl21).put (some 22) sl22).put (some 23) sl23).put (some 24) sl24).put (some 25) sl25).put (some 26) sl26).put (some 27) sl27).put (some 28) sl28).put (some 29) sl29).put (some 30) sl30).put (some 31) sl31).put (some 32) sl32).put (some 33) sl33).put (some 34) sl34).put (some 35) sl35).put (some 36) sl36).put (some 37) sl37) ∧ Below WA.heap.size WA W ∧ ((L 0 → sl21 = (.agg #[.slice A0 n0 c0, .int .i64 p.fMus, .slice B2 m2 d2, .slice A3 n3 c3])) ∧ (L 1 → sl22 = (.agg #[.int .i64 d.fProc, .int .i64 d.fPc, .slice E2 k2 v2, .int .i64 d.fState, .slice E4 k4 v4])) ∧ (L 2 → sl23 = (.bool true)) ∧ (L 3 → sl24 = (.bool false)) ∧ (L 4 → sl25 = (.bool false)) ∧ (L 5 → sl26 = (.pointer (some ⟨wr.heap.size, 3, none⟩))) ∧ (L 6 → sl27 = (.int .i64 d.fState)) ∧ (L 7 → sl28 = (.bool false)) ∧ (L 8 → sl29 = (.bool false)) ∧ (L 9 → sl30 = undef) ∧ (L 10 → sl31 = undef) ∧ (L 11 → sl32 = undef) ∧ (L 12 → sl33 = undef) ∧ (L 13 → sl34 = undef) ∧ (L 14 → sl35 = undef) ∧ (L 15 → sl36 = (.bool false)) ∧ (L 16 → sl37 = (.bool false)))) (by kernel_rfl) (by kernel_rfl) ?_ ?_ ?_
        · exact ⟨u21, u22, u23, u24, u25, u26, u27, u28, u29, u30, u31, u32, u33, u34, u35, u36, u37, by kernel_rfl, Below.drew (Below.refl _ _), fun h => absurd h id, fun h => absurd h id, fun h => absurd h id, fun h => absurd h id, fun h => absurd h id, fun h => absurd h id, fun h => absurd h id, fun h => absurd h id, fun h => absurd h id, fun h => absurd h id, fun h => absurd h id, fun h => absurd h id, fun h => absurd h id, fun h => absurd h id, fun h => absurd h id, fun h => absurd h id, fun h => absurd h id⟩
        · intro Q9; refine InvFrom.cons (fun L a W hI hN hD K hK => ?_) ?_
          · obtain ⟨sl21, sl22, sl23, sl24, sl25, sl26, sl27, sl28, sl29, sl30, sl31, sl32, sl33, sl34, sl35, sl36, sl37, ha, hB, f0, f1, f2, f3, f4, f5, f6, f7, f8, f9, f10, f11, f12, f13, f14, f15, f16⟩ := hI
            subst ha
            have hz := hB.size
            have pp0 := box_cell (j := 0) (box_keep HPA.out hB (by omega)) rfl
            have pp1 := box_cell (j := 1) (box_keep HPA.out hB (by omega)) rfl
            have pp2 := box_cell (j := 2) (box_keep HPA.out hB (by omega)) rfl
            have pp3 := box_cell (j := 3) (box_keep HPA.out hB (by omega)) rfl
            refine Kept.mk ?_
            simp only [Act.put, pA, pZ, pS]
            go_simp
            refine hK.out _ _ ?_
            exact ⟨(.agg #[.slice A0 n0 c0, .int .i64 p.fMus, .slice B2 m2 d2, .slice A3 n3 c3]), sl22, sl23, sl24, sl25, sl26, sl27, sl28, sl29, sl30, sl31, sl32, sl33, sl34, sl35, sl36, sl37, by kernel_rfl, hB, fun _ => rfl, nf f1, nf f2, nf f3, nf f4, nf f5, nf f6, nf f7, nf f8, nf f9, nf f10, nf f11, nf f12, nf f13, nf f14, nf f15, nf f16⟩
          refine InvFrom.cons (fun L a W hI hN hD K hK => ?_) ?_
          · obtain ⟨sl21, sl22, sl23, sl24, sl25, sl26, sl27, sl28, sl29, sl30, sl31, sl32, sl33, sl34, sl35, sl36, sl37, ha, hB, f0, f1, f2, f3, f4, f5, f6, f7, f8, f9, f10, f11, f12, f13, f14, f15, f16⟩ := hI
            subst ha
            have hz := hB.size
            have pg0 := box_cell (j := 0) (box_keep HGA.out hB (by omega)) rfl
            have pg1 := box_cell (j := 1) (box_keep HGA.out hB (by omega)) rfl
            have pg2 := box_cell (j := 2) (box_keep HGA.out hB (by omega)) rfl
            have pg3 := box_cell (j := 3) (box_keep HGA.out hB (by omega)) rfl
            have pg4 := box_cell (j := 4) (box_keep HGA.out hB (by omega)) rfl
            refine Kept.mk ?_
            simp only [Act.put, pA, pZ, pS]
            go_simp
            refine hK.out _ _ ?_
            exact ⟨sl21, (.agg #[.int .i64 d.fProc, .int .i64 d.fPc, .slice E2 k2 v2, .int .i64 d.fState, .slice E4 k4 v4]), sl23, sl24, sl25, sl26, sl27, sl28, sl29, sl30, sl31, sl32, sl33, sl34, sl35, sl36, sl37, by kernel_rfl, hB, nf f0, fun _ => rfl, nf f2, nf f3, nf f4, nf f5, nf f6, nf f7, nf f8, nf f9, nf f10, nf f11, nf f12, nf f13, nf f14, nf f15, nf f16⟩
          refine InvFrom.cons (fun L a W hI hN hD K hK => ?_) ?_
          · obtain ⟨sl21, sl22, sl23, sl24, sl25, sl26, sl27, sl28, sl29, sl30, sl31, sl32, sl33, sl34, sl35, sl36, sl37, ha, hB, f0, f1, f2, f3, f4, f5, f6, f7, f8, f9, f10, f11, f12, f13, f14, f15, f16⟩ := hI
            subst ha
            have hz := hB.size
            have d0 := f0 (hD 0 (by kernel_rfl))
            subst d0
            have d1 := f1 (hD 1 (by kernel_rfl))
            subst d1
            refine kept_c2 rfl 129 _ _ _ rfl (fenters_of' Tryz.func129 (by kernel_rfl) (by kernel_rfl)) (.agg #[.slice A0 n0 c0, .int .i64 p.fMus, .slice B2 m2 d2, .slice A3 n3 c3]) (.agg #[.int .i64 d.fProc, .int .i64 d.fPc, .slice E2 k2 v2, .int .i64 d.fState, .slice E4 k4 v4]) (by kernel_rfl) (by kernel_rfl) (HGF.out W hB) ?_
            rintro e W1 ⟨rfl, hb1⟩
            refine ⟨_, rfl, hK.out _ _ ?_⟩
            exact ⟨(.agg #[.slice A0 n0 c0, .int .i64 p.fMus, .slice B2 m2 d2, .slice A3 n3 c3]), (.agg #[.int .i64 d.fProc, .int .i64 d.fPc, .slice E2 k2 v2, .int .i64 d.fState, .slice E4 k4 v4]), (.bool true), sl24, sl25, sl26, sl27, sl28, sl29, sl30, sl31, sl32, sl33, sl34, sl35, sl36, sl37, by kernel_rfl, hB.trans ((hb1.mono (Nat.le_refl _)).mono hz), nf f0, nf f1, fun _ => rfl, nf f3, nf f4, nf f5, nf f6, nf f7, nf f8, nf f9, nf f10, nf f11, nf f12, nf f13, nf f14, nf f15, nf f16⟩
          refine InvFrom.cons (fun L a W hI hN hD K hK => ?_) ?_
          · obtain ⟨sl21, sl22, sl23, sl24, sl25, sl26, sl27, sl28, sl29, sl30, sl31, sl32, sl33, sl34, sl35, sl36, sl37, ha, hB, f0, f1, f2, f3, f4, f5, f6, f7, f8, f9, f10, f11, f12, f13, f14, f15, f16⟩ := hI
            subst ha
            have hz := hB.size
            have d2 := f2 (hD 2 (by kernel_rfl))
            subst d2
            refine Kept.mk ?_
            simp only [Act.put, pA, pZ, pS]
            go_simp
            refine hK.out _ _ ?_
            exact ⟨sl21, sl22, (.bool true), (.bool false), sl25, sl26, sl27, sl28, sl29, sl30, sl31, sl32, sl33, sl34, sl35, sl36, sl37, by kernel_rfl, hB, nf f0, nf f1, nf f2, fun _ => rfl, nf f4, nf f5, nf f6, nf f7, nf f8, nf f9, nf f10, nf f11, nf f12, nf f13, nf f14, nf f15, nf f16⟩
          refine InvFrom.cons (fun L a W hI hN hD K hK => ?_) ?_
          · obtain ⟨sl21, sl22, sl23, sl24, sl25, sl26, sl27, sl28, sl29, sl30, sl31, sl32, sl33, sl34, sl35, sl36, sl37, ha, hB, f0, f1, f2, f3, f4, f5, f6, f7, f8, f9, f10, f11, f12, f13, f14, f15, f16⟩ := hI
            subst ha
            have hz := hB.size
            have d2 := f2 (hD 2 (by kernel_rfl))
            subst d2
            have d3 := f3 (hD 3 (by kernel_rfl))
            subst d3
            refine Kept.mk ?_
            simp only [Act.put, pA, pZ, pS]
            go_simp
            refine hK.out _ _ ?_
            exact ⟨sl21, sl22, (.bool true), (.bool false), (.bool false), sl26, sl27, sl28, sl29, sl30, sl31, sl32, sl33, sl34, sl35, sl36, sl37, by kernel_rfl, hB, nf f0, nf f1, nf f2, nf f3, fun _ => rfl, nf f5, nf f6, nf f7, nf f8, nf f9, nf f10, nf f11, nf f12, nf f13, nf f14, nf f15, nf f16⟩
          refine InvFrom.cons (fun L a W hI hN hD K hK => ?_) ?_
          · obtain ⟨sl21, sl22, sl23, sl24, sl25, sl26, sl27, sl28, sl29, sl30, sl31, sl32, sl33, sl34, sl35, sl36, sl37, ha, hB, f0, f1, f2, f3, f4, f5, f6, f7, f8, f9, f10, f11, f12, f13, f14, f15, f16⟩ := hI
            subst ha
            have hz := hB.size
            have d4 := f4 (hD 4 (by kernel_rfl))
            subst d4
            refine Kept.mk ?_
            simp only [Act.put, pA, pZ, pS]
            go_simp
            refine hK.out _ _ ?_
            exact ⟨sl21, sl22, sl23, sl24, (.bool false), (.pointer (some ⟨wr.heap.size, 3, none⟩)), sl27, sl28, sl29, sl30, sl31, sl32, sl33, sl34, sl35, sl36, sl37, by kernel_rfl, hB, nf f0, nf f1, nf f2, nf f3, nf f4, fun _ => rfl, nf f6, nf f7, nf f8, nf f9, nf f10, nf f11, nf f12, nf f13, nf f14, nf f15, nf f16⟩
          refine InvFrom.cons (fun L a W hI hN hD K hK => ?_) ?_
          · obtain ⟨sl21, sl22, sl23, sl24, sl25, sl26, sl27, sl28, sl29, sl30, sl31, sl32, sl33, sl34, sl35, sl36, sl37, ha, hB, f0, f1, f2, f3, f4, f5, f6, f7, f8, f9, f10, f11, f12, f13, f14, f15, f16⟩ := hI
            subst ha
            have hz := hB.size
            have d4 := f4 (hD 4 (by kernel_rfl))
            subst d4
            have d5 := f5 (hD 5 (by kernel_rfl))
            subst d5
            have pg := box_cell (j := 3) (box_keep HGA.out hB (by omega)) rfl
            refine Kept.mk ?_
            simp only [Act.put, pA, pZ, pS]
            go_simp
            refine hK.out _ _ ?_
            exact ⟨sl21, sl22, sl23, sl24, (.bool false), (.pointer (some ⟨wr.heap.size, 3, none⟩)), (.int .i64 d.fState), sl28, sl29, sl30, sl31, sl32, sl33, sl34, sl35, sl36, sl37, by kernel_rfl, hB, nf f0, nf f1, nf f2, nf f3, nf f4, nf f5, fun _ => rfl, nf f7, nf f8, nf f9, nf f10, nf f11, nf f12, nf f13, nf f14, nf f15, nf f16⟩
          refine InvFrom.cons (fun L a W hI hN hD K hK => ?_) ?_
          · obtain ⟨sl21, sl22, sl23, sl24, sl25, sl26, sl27, sl28, sl29, sl30, sl31, sl32, sl33, sl34, sl35, sl36, sl37, ha, hB, f0, f1, f2, f3, f4, f5, f6, f7, f8, f9, f10, f11, f12, f13, f14, f15, f16⟩ := hI
            subst ha
            have hz := hB.size
            have d4 := f4 (hD 4 (by kernel_rfl))
            subst d4
            have d6 := f6 (hD 6 (by kernel_rfl))
            subst d6
            refine Kept.mk ?_
            simp only [Act.put, pA, pZ, pS]
            go_simp
            refine hK.out _ _ ?_
            exact ⟨sl21, sl22, sl23, sl24, (.bool false), sl26, (.int .i64 d.fState), (.bool false), sl29, sl30, sl31, sl32, sl33, sl34, sl35, sl36, sl37, by kernel_rfl, hB, nf f0, nf f1, nf f2, nf f3, nf f4, nf f5, nf f6, fun _ => rfl, nf f8, nf f9, nf f10, nf f11, nf f12, nf f13, nf f14, nf f15, nf f16⟩
          refine InvFrom.cons (fun L a W hI hN hD K hK => ?_) ?_
          · obtain ⟨sl21, sl22, sl23, sl24, sl25, sl26, sl27, sl28, sl29, sl30, sl31, sl32, sl33, sl34, sl35, sl36, sl37, ha, hB, f0, f1, f2, f3, f4, f5, f6, f7, f8, f9, f10, f11, f12, f13, f14, f15, f16⟩ := hI
            subst ha
            have hz := hB.size
            have d4 := f4 (hD 4 (by kernel_rfl))
            subst d4
            have d7 := f7 (hD 7 (by kernel_rfl))
            subst d7
            refine Kept.mk ?_
            simp only [Act.put, pA, pZ, pS]
            go_simp
            refine hK.out _ _ ?_
            exact ⟨sl21, sl22, sl23, sl24, (.bool false), sl26, sl27, (.bool false), (.bool false), sl30, sl31, sl32, sl33, sl34, sl35, sl36, sl37, by kernel_rfl, hB, nf f0, nf f1, nf f2, nf f3, nf f4, nf f5, nf f6, nf f7, fun _ => rfl, nf f9, nf f10, nf f11, nf f12, nf f13, nf f14, nf f15, nf f16⟩
          refine InvFrom.cons (fun L a W hI hN hD K hK => ?_) ?_
          · obtain ⟨sl21, sl22, sl23, sl24, sl25, sl26, sl27, sl28, sl29, sl30, sl31, sl32, sl33, sl34, sl35, sl36, sl37, ha, hB, f0, f1, f2, f3, f4, f5, f6, f7, f8, f9, f10, f11, f12, f13, f14, f15, f16⟩ := hI
            subst ha
            have hz := hB.size
            have d8 := f8 (hD 8 (by kernel_rfl))
            subst d8
            refine Kept.mk ?_
            simp only [Act.put, pA, pZ, pS]
            go_simp
            refine hK.out _ _ ?_
            exact ⟨sl21, sl22, sl23, sl24, sl25, sl26, sl27, sl28, (.bool false), undef, sl31, sl32, sl33, sl34, sl35, sl36, sl37, by kernel_rfl, hB, nf f0, nf f1, nf f2, nf f3, nf f4, nf f5, nf f6, nf f7, nf f8, fun _ => rfl, nf f10, nf f11, nf f12, nf f13, nf f14, nf f15, nf f16⟩
          refine InvFrom.cons (fun L a W hI hN hD K hK => ?_) ?_
          · obtain ⟨sl21, sl22, sl23, sl24, sl25, sl26, sl27, sl28, sl29, sl30, sl31, sl32, sl33, sl34, sl35, sl36, sl37, ha, hB, f0, f1, f2, f3, f4, f5, f6, f7, f8, f9, f10, f11, f12, f13, f14, f15, f16⟩ := hI
            subst ha
            have hz := hB.size
            have d8 := f8 (hD 8 (by kernel_rfl))
            subst d8
            refine Kept.mk ?_
            simp only [Act.put, pA, pZ, pS]
            go_simp
            refine hK.out _ _ ?_
            exact ⟨sl21, sl22, sl23, sl24, sl25, sl26, sl27, sl28, (.bool false), sl30, undef, sl32, sl33, sl34, sl35, sl36, sl37, by kernel_rfl, hB, nf f0, nf f1, nf f2, nf f3, nf f4, nf f5, nf f6, nf f7, nf f8, nf f9, fun _ => rfl, nf f11, nf f12, nf f13, nf f14, nf f15, nf f16⟩
          refine InvFrom.cons (fun L a W hI hN hD K hK => ?_) ?_
          · obtain ⟨sl21, sl22, sl23, sl24, sl25, sl26, sl27, sl28, sl29, sl30, sl31, sl32, sl33, sl34, sl35, sl36, sl37, ha, hB, f0, f1, f2, f3, f4, f5, f6, f7, f8, f9, f10, f11, f12, f13, f14, f15, f16⟩ := hI
            subst ha
            have hz := hB.size
            have d8 := f8 (hD 8 (by kernel_rfl))
            subst d8
            refine Kept.mk ?_
            simp only [Act.put, pA, pZ, pS]
            go_simp
            refine hK.out _ _ ?_
            exact ⟨sl21, sl22, sl23, sl24, sl25, sl26, sl27, sl28, (.bool false), sl30, sl31, undef, sl33, sl34, sl35, sl36, sl37, by kernel_rfl, hB, nf f0, nf f1, nf f2, nf f3, nf f4, nf f5, nf f6, nf f7, nf f8, nf f9, nf f10, fun _ => rfl, nf f12, nf f13, nf f14, nf f15, nf f16⟩
          refine InvFrom.cons (fun L a W hI hN hD K hK => ?_) ?_
          · obtain ⟨sl21, sl22, sl23, sl24, sl25, sl26, sl27, sl28, sl29, sl30, sl31, sl32, sl33, sl34, sl35, sl36, sl37, ha, hB, f0, f1, f2, f3, f4, f5, f6, f7, f8, f9, f10, f11, f12, f13, f14, f15, f16⟩ := hI
            subst ha
            have hz := hB.size
            have d8 := f8 (hD 8 (by kernel_rfl))
            subst d8
            have d10 := f10 (hD 10 (by kernel_rfl))
            subst d10
            have d11 := f11 (hD 11 (by kernel_rfl))
            subst d11
            refine Kept.mk ?_
            simp only [Act.put, pA, pZ, pS]
            go_simp
            refine hK.out _ _ ?_
            exact ⟨sl21, sl22, sl23, sl24, sl25, sl26, sl27, sl28, (.bool false), sl30, undef, undef, undef, sl34, sl35, sl36, sl37, by kernel_rfl, hB, nf f0, nf f1, nf f2, nf f3, nf f4, nf f5, nf f6, nf f7, nf f8, nf f9, nf f10, nf f11, fun _ => rfl, nf f13, nf f14, nf f15, nf f16⟩
          refine InvFrom.cons (fun L a W hI hN hD K hK => ?_) ?_
          · obtain ⟨sl21, sl22, sl23, sl24, sl25, sl26, sl27, sl28, sl29, sl30, sl31, sl32, sl33, sl34, sl35, sl36, sl37, ha, hB, f0, f1, f2, f3, f4, f5, f6, f7, f8, f9, f10, f11, f12, f13, f14, f15, f16⟩ := hI
            subst ha
            have hz := hB.size
            have d8 := f8 (hD 8 (by kernel_rfl))
            subst d8
            have d9 := f9 (hD 9 (by kernel_rfl))
            subst d9
            have d12 := f12 (hD 12 (by kernel_rfl))
            subst d12
            refine Kept.mk ?_
            simp only [Act.put, pA, pZ, pS]
            go_simp
            refine hK.out _ _ ?_
            exact ⟨sl21, sl22, sl23, sl24, sl25, sl26, sl27, sl28, (.bool false), undef, sl31, sl32, undef, undef, sl35, sl36, sl37, by kernel_rfl, hB, nf f0, nf f1, nf f2, nf f3, nf f4, nf f5, nf f6, nf f7, nf f8, nf f9, nf f10, nf f11, nf f12, fun _ => rfl, nf f14, nf f15, nf f16⟩
          refine InvFrom.cons (fun L a W hI hN hD K hK => ?_) ?_
          · obtain ⟨sl21, sl22, sl23, sl24, sl25, sl26, sl27, sl28, sl29, sl30, sl31, sl32, sl33, sl34, sl35, sl36, sl37, ha, hB, f0, f1, f2, f3, f4, f5, f6, f7, f8, f9, f10, f11, f12, f13, f14, f15, f16⟩ := hI
            subst ha
            have hz := hB.size
            have d8 := f8 (hD 8 (by kernel_rfl))
            subst d8
            have d13 := f13 (hD 13 (by kernel_rfl))
            subst d13
            refine Kept.mk ?_
            simp only [Act.put, pA, pZ, pS]
            go_simp
            refine hK.out _ _ ?_
            exact ⟨sl21, sl22, sl23, sl24, sl25, sl26, sl27, sl28, (.bool false), sl30, sl31, sl32, sl33, undef, undef, sl36, sl37, by kernel_rfl, hB, nf f0, nf f1, nf f2, nf f3, nf f4, nf f5, nf f6, nf f7, nf f8, nf f9, nf f10, nf f11, nf f12, nf f13, fun _ => rfl, nf f15, nf f16⟩
          refine InvFrom.cons (fun L a W hI hN hD K hK => ?_) ?_
          · obtain ⟨sl21, sl22, sl23, sl24, sl25, sl26, sl27, sl28, sl29, sl30, sl31, sl32, sl33, sl34, sl35, sl36, sl37, ha, hB, f0, f1, f2, f3, f4, f5, f6, f7, f8, f9, f10, f11, f12, f13, f14, f15, f16⟩ := hI
            subst ha
            have hz := hB.size
            have d4 := f4 (hD 4 (by kernel_rfl))
            subst d4
            have d8 := f8 (hD 8 (by kernel_rfl))
            subst d8
            have d14 := f14 (hD 14 (by kernel_rfl))
            subst d14
            refine Kept.mk ?_
            simp only [Act.put, pA, pZ, pS]
            go_simp
            refine hK.out _ _ ?_
            exact ⟨sl21, sl22, sl23, sl24, (.bool false), sl26, sl27, sl28, (.bool false), sl30, sl31, sl32, sl33, sl34, undef, (.bool false), sl37, by kernel_rfl, hB, nf f0, nf f1, nf f2, nf f3, nf f4, nf f5, nf f6, nf f7, nf f8, nf f9, nf f10, nf f11, nf f12, nf f13, nf f14, fun _ => rfl, nf f16⟩
          refine InvFrom.cons (fun L a W hI hN hD K hK => ?_) ?_
          · obtain ⟨sl21, sl22, sl23, sl24, sl25, sl26, sl27, sl28, sl29, sl30, sl31, sl32, sl33, sl34, sl35, sl36, sl37, ha, hB, f0, f1, f2, f3, f4, f5, f6, f7, f8, f9, f10, f11, f12, f13, f14, f15, f16⟩ := hI
            subst ha
            have hz := hB.size
            have d4 := f4 (hD 4 (by kernel_rfl))
            subst d4
            have d15 := f15 (hD 15 (by kernel_rfl))
            subst d15
            refine Kept.mk ?_
            simp only [Act.put, pA, pZ, pS]
            go_simp
            refine hK.out _ _ ?_
            exact ⟨sl21, sl22, sl23, sl24, (.bool false), sl26, sl27, sl28, sl29, sl30, sl31, sl32, sl33, sl34, sl35, (.bool false), (.bool false), by kernel_rfl, hB, nf f0, nf f1, nf f2, nf f3, nf f4, nf f5, nf f6, nf f7, nf f8, nf f9, nf f10, nf f11, nf f12, nf f13, nf f14, nf f15, fun _ => rfl⟩
          exact InvFrom.nil
        intro L a w9 hL hI
        obtain ⟨sl21, sl22, sl23, sl24, sl25, sl26, sl27, sl28, sl29, sl30, sl31, sl32, sl33, sl34, sl35, sl36, sl37, ha, hbw9, hI⟩ := hI
        subst ha
        have hfin := hI.2.2.2.2.2.2.2.2.2.2.2.2.2.2.2.2 (hL 16 (by decide))
        subst hfin
        clear hL hI
        refine Kept.mk ?_
        simp only [Act.put, pA, pZ, pS]
        have HB9 := Lib.hid (HBA.out.trans (hbw9.mono (by omega)))
        clear hbw9
        go_wp2_with fail
        go_roundw
        case rel => exact ⟨k + 1, by omega, by go_num, Lib.hid (allTo_step HA.out HDK.out HGE.out), HB9.out⟩
        case measure => simp [intOf]; omega
      have qs : (d.fState == 2) = true := by simp [hst]
      replace HGE : Hid (gorE p d = b2) := Lib.hid (by rw [HGE.out, decide_eq_true hst]; simp)
      clear hst
      refine wp_region_inv (fun AC0 L a W => ∃ sl21 sl22 sl23 sl24 sl25 sl26 sl27 sl28 sl29 sl30 sl31 sl32 sl33 sl34 sl35 sl36 sl37 : Value, a = (((((((((((((((((AC0.put (some 21) sl21).put (some 22) sl22).put (some 23) sl23).put (some 24) sl24).put (some 25) sl25).put (some 26) sl26).put (some 27) sl27).put (some 28) sl28).put (some 29) sl29).put (some 30) sl30).put (some 31) sl31).put (some 32) sl32).put (some 33) sl33).put (some 34) sl34).put (some 35) sl35).put (some 36) sl36).put (some 37) sl37) ∧ Below WA.heap.size WA W ∧ ((L 0 → sl21 = (.agg #[.slice A0 n0 c0, .int .i64 p.fMus, .slice B2 m2 d2, .slice A3 n3 c3])) ∧ (L 1 → sl22 = (.agg #[.int .i64 d.fProc, .int .i64 d.fPc, .slice E2 k2 v2, .int .i64 d.fState, .slice E4 k4 v4])) ∧ (L 2 → sl23 = (.bool true)) ∧ (L 3 → sl24 = (.bool false)) ∧ (L 4 → sl25 = (.bool false)) ∧ (L 5 → sl26 = (.pointer (some ⟨wr.heap.size, 3, none⟩))) ∧ (L 6 → sl27 = (.int .i64 d.fState)) ∧ (L 7 → sl28 = (.bool true)) ∧ (L 8 → sl29 = (.bool true)) ∧ (L 9 → sl30 = (.agg #[.slice A0 n0 c0, .int .i64 p.fMus, .slice B2 m2 d2, .slice A3 n3 c3])) ∧ (L 10 → sl31 = (.agg #[.slice A0 n0 c0, .int .i64 p.fMus, .slice B2 m2 d2, .slice A3 n3 c3])) ∧ (L 11 → sl32 = (.agg #[.int .i64 d.fProc, .int .i64 d.fPc, .slice E2 k2 v2, .int .i64 d.fState, .slice E4 k4 v4])) ∧ (L 12 → sl33 = (.agg #[.int .i64 ins.fOp, .int .i64 ins.fA, .int .i64 ins.fB, .int .i64 ins.fC])) ∧ (L 13 → sl34 = (.bool b2)) ∧ (L 14 → sl35 = (.bool (!b2))) ∧ (L 15 → sl36 = (.bool (!b2))) ∧ (L 16 → sl37 = (.bool (!b2))))) (by kernel_rfl) (by kernel_rfl) ?_ ?_ ?_
      · exact ⟨u21, u22, u23, u24, u25, u26, u27, u28, u29, u30, u31, u32, u33, u34, u35, u36, u37, by kernel_rfl, Below.drew (Below.refl _ _), fun h => absurd h id, fun h => absurd h id, fun h => absurd h id, fun h => absurd h id, fun h => absurd h id, fun h => absurd h id, fun h => absurd h id, fun h => absurd h id, fun h => absurd h id, fun h => absurd h id, fun h => absurd h id, fun h => absurd h id, fun h => absurd h id, fun h => absurd h id, fun h => absurd h id, fun h => absurd h id, fun h => absurd h id⟩
      · intro Q9; refine InvFrom.cons (fun L a W hI hN hD K hK => ?_) ?_
        · obtain ⟨sl21, sl22, sl23, sl24, sl25, sl26, sl27, sl28, sl29, sl30, sl31, sl32, sl33, sl34, sl35, sl36, sl37, ha, hB, f0, f1, f2, f3, f4, f5, f6, f7, f8, f9, f10, f11, f12, f13, f14, f15, f16⟩ := hI
          subst ha
          have hz := hB.size
          have pp0 := box_cell (j := 0) (box_keep HPA.out hB (by omega)) rfl
          have pp1 := box_cell (j := 1) (box_keep HPA.out hB (by omega)) rfl
          have pp2 := box_cell (j := 2) (box_keep HPA.out hB (by omega)) rfl
          have pp3 := box_cell (j := 3) (box_keep HPA.out hB (by omega)) rfl
          refine Kept.mk ?_
          simp only [Act.put, pA, pZ, pS]
          go_simp
          refine hK.out _ _ ?_
          exact ⟨(.agg #[.slice A0 n0 c0, .int .i64 p.fMus, .slice B2 m2 d2, .slice A3 n3 c3]), sl22, sl23, sl24, sl25, sl26, sl27, sl28, sl29, sl30, sl31, sl32, sl33, sl34, sl35, sl36, sl37, by kernel_rfl, hB, fun _ => rfl, nf f1, nf f2, nf f3, nf f4, nf f5, nf f6, nf f7, nf f8, nf f9, nf f10, nf f11, nf f12, nf f13, nf f14, nf f15, nf f16⟩
        refine InvFrom.cons (fun L a W hI hN hD K hK => ?_) ?_
        · obtain ⟨sl21, sl22, sl23, sl24, sl25, sl26, sl27, sl28, sl29, sl30, sl31, sl32, sl33, sl34, sl35, sl36, sl37, ha, hB, f0, f1, f2, f3, f4, f5, f6, f7, f8, f9, f10, f11, f12, f13, f14, f15, f16⟩ := hI
          subst ha
          have hz := hB.size
          have pg0 := box_cell (j := 0) (box_keep HGA.out hB (by omega)) rfl
          have pg1 := box_cell (j := 1) (box_keep HGA.out hB (by omega)) rfl
          have pg2 := box_cell (j := 2) (box_keep HGA.out hB (by omega)) rfl
          have pg3 := box_cell (j := 3) (box_keep HGA.out hB (by omega)) rfl
          have pg4 := box_cell (j := 4) (box_keep HGA.out hB (by omega)) rfl
          refine Kept.mk ?_
          simp only [Act.put, pA, pZ, pS]
          go_simp
          refine hK.out _ _ ?_
          exact ⟨sl21, (.agg #[.int .i64 d.fProc, .int .i64 d.fPc, .slice E2 k2 v2, .int .i64 d.fState, .slice E4 k4 v4]), sl23, sl24, sl25, sl26, sl27, sl28, sl29, sl30, sl31, sl32, sl33, sl34, sl35, sl36, sl37, by kernel_rfl, hB, nf f0, fun _ => rfl, nf f2, nf f3, nf f4, nf f5, nf f6, nf f7, nf f8, nf f9, nf f10, nf f11, nf f12, nf f13, nf f14, nf f15, nf f16⟩
        refine InvFrom.cons (fun L a W hI hN hD K hK => ?_) ?_
        · obtain ⟨sl21, sl22, sl23, sl24, sl25, sl26, sl27, sl28, sl29, sl30, sl31, sl32, sl33, sl34, sl35, sl36, sl37, ha, hB, f0, f1, f2, f3, f4, f5, f6, f7, f8, f9, f10, f11, f12, f13, f14, f15, f16⟩ := hI
          subst ha
          have hz := hB.size
          have d0 := f0 (hD 0 (by kernel_rfl))
          subst d0
          have d1 := f1 (hD 1 (by kernel_rfl))
          subst d1
          refine kept_c2 rfl 129 _ _ _ rfl (fenters_of' Tryz.func129 (by kernel_rfl) (by kernel_rfl)) (.agg #[.slice A0 n0 c0, .int .i64 p.fMus, .slice B2 m2 d2, .slice A3 n3 c3]) (.agg #[.int .i64 d.fProc, .int .i64 d.fPc, .slice E2 k2 v2, .int .i64 d.fState, .slice E4 k4 v4]) (by kernel_rfl) (by kernel_rfl) (HGF.out W hB) ?_
          rintro e W1 ⟨rfl, hb1⟩
          refine ⟨_, rfl, hK.out _ _ ?_⟩
          exact ⟨(.agg #[.slice A0 n0 c0, .int .i64 p.fMus, .slice B2 m2 d2, .slice A3 n3 c3]), (.agg #[.int .i64 d.fProc, .int .i64 d.fPc, .slice E2 k2 v2, .int .i64 d.fState, .slice E4 k4 v4]), (.bool true), sl24, sl25, sl26, sl27, sl28, sl29, sl30, sl31, sl32, sl33, sl34, sl35, sl36, sl37, by kernel_rfl, hB.trans ((hb1.mono (Nat.le_refl _)).mono hz), nf f0, nf f1, fun _ => rfl, nf f3, nf f4, nf f5, nf f6, nf f7, nf f8, nf f9, nf f10, nf f11, nf f12, nf f13, nf f14, nf f15, nf f16⟩
        refine InvFrom.cons (fun L a W hI hN hD K hK => ?_) ?_
        · obtain ⟨sl21, sl22, sl23, sl24, sl25, sl26, sl27, sl28, sl29, sl30, sl31, sl32, sl33, sl34, sl35, sl36, sl37, ha, hB, f0, f1, f2, f3, f4, f5, f6, f7, f8, f9, f10, f11, f12, f13, f14, f15, f16⟩ := hI
          subst ha
          have hz := hB.size
          have d2 := f2 (hD 2 (by kernel_rfl))
          subst d2
          refine Kept.mk ?_
          simp only [Act.put, pA, pZ, pS]
          go_simp
          refine hK.out _ _ ?_
          exact ⟨sl21, sl22, (.bool true), (.bool false), sl25, sl26, sl27, sl28, sl29, sl30, sl31, sl32, sl33, sl34, sl35, sl36, sl37, by kernel_rfl, hB, nf f0, nf f1, nf f2, fun _ => rfl, nf f4, nf f5, nf f6, nf f7, nf f8, nf f9, nf f10, nf f11, nf f12, nf f13, nf f14, nf f15, nf f16⟩
        refine InvFrom.cons (fun L a W hI hN hD K hK => ?_) ?_
        · obtain ⟨sl21, sl22, sl23, sl24, sl25, sl26, sl27, sl28, sl29, sl30, sl31, sl32, sl33, sl34, sl35, sl36, sl37, ha, hB, f0, f1, f2, f3, f4, f5, f6, f7, f8, f9, f10, f11, f12, f13, f14, f15, f16⟩ := hI
          subst ha
          have hz := hB.size
          have d2 := f2 (hD 2 (by kernel_rfl))
          subst d2
          have d3 := f3 (hD 3 (by kernel_rfl))
          subst d3
          refine Kept.mk ?_
          simp only [Act.put, pA, pZ, pS]
          go_simp
          refine hK.out _ _ ?_
          exact ⟨sl21, sl22, (.bool true), (.bool false), (.bool false), sl26, sl27, sl28, sl29, sl30, sl31, sl32, sl33, sl34, sl35, sl36, sl37, by kernel_rfl, hB, nf f0, nf f1, nf f2, nf f3, fun _ => rfl, nf f5, nf f6, nf f7, nf f8, nf f9, nf f10, nf f11, nf f12, nf f13, nf f14, nf f15, nf f16⟩
        refine InvFrom.cons (fun L a W hI hN hD K hK => ?_) ?_
        · obtain ⟨sl21, sl22, sl23, sl24, sl25, sl26, sl27, sl28, sl29, sl30, sl31, sl32, sl33, sl34, sl35, sl36, sl37, ha, hB, f0, f1, f2, f3, f4, f5, f6, f7, f8, f9, f10, f11, f12, f13, f14, f15, f16⟩ := hI
          subst ha
          have hz := hB.size
          have d4 := f4 (hD 4 (by kernel_rfl))
          subst d4
          refine Kept.mk ?_
          simp only [Act.put, pA, pZ, pS]
          go_simp
          refine hK.out _ _ ?_
          exact ⟨sl21, sl22, sl23, sl24, (.bool false), (.pointer (some ⟨wr.heap.size, 3, none⟩)), sl27, sl28, sl29, sl30, sl31, sl32, sl33, sl34, sl35, sl36, sl37, by kernel_rfl, hB, nf f0, nf f1, nf f2, nf f3, nf f4, fun _ => rfl, nf f6, nf f7, nf f8, nf f9, nf f10, nf f11, nf f12, nf f13, nf f14, nf f15, nf f16⟩
        refine InvFrom.cons (fun L a W hI hN hD K hK => ?_) ?_
        · obtain ⟨sl21, sl22, sl23, sl24, sl25, sl26, sl27, sl28, sl29, sl30, sl31, sl32, sl33, sl34, sl35, sl36, sl37, ha, hB, f0, f1, f2, f3, f4, f5, f6, f7, f8, f9, f10, f11, f12, f13, f14, f15, f16⟩ := hI
          subst ha
          have hz := hB.size
          have d4 := f4 (hD 4 (by kernel_rfl))
          subst d4
          have d5 := f5 (hD 5 (by kernel_rfl))
          subst d5
          have pg := box_cell (j := 3) (box_keep HGA.out hB (by omega)) rfl
          refine Kept.mk ?_
          simp only [Act.put, pA, pZ, pS]
          go_simp
          refine hK.out _ _ ?_
          exact ⟨sl21, sl22, sl23, sl24, (.bool false), (.pointer (some ⟨wr.heap.size, 3, none⟩)), (.int .i64 d.fState), sl28, sl29, sl30, sl31, sl32, sl33, sl34, sl35, sl36, sl37, by kernel_rfl, hB, nf f0, nf f1, nf f2, nf f3, nf f4, nf f5, fun _ => rfl, nf f7, nf f8, nf f9, nf f10, nf f11, nf f12, nf f13, nf f14, nf f15, nf f16⟩
        refine InvFrom.cons (fun L a W hI hN hD K hK => ?_) ?_
        · obtain ⟨sl21, sl22, sl23, sl24, sl25, sl26, sl27, sl28, sl29, sl30, sl31, sl32, sl33, sl34, sl35, sl36, sl37, ha, hB, f0, f1, f2, f3, f4, f5, f6, f7, f8, f9, f10, f11, f12, f13, f14, f15, f16⟩ := hI
          subst ha
          have hz := hB.size
          have d4 := f4 (hD 4 (by kernel_rfl))
          subst d4
          have d6 := f6 (hD 6 (by kernel_rfl))
          subst d6
          refine Kept.mk ?_
          simp only [Act.put, pA, pZ, pS]
          go_simp
          refine hK.out _ _ ?_
          exact ⟨sl21, sl22, sl23, sl24, (.bool false), sl26, (.int .i64 d.fState), (.bool true), sl29, sl30, sl31, sl32, sl33, sl34, sl35, sl36, sl37, by kernel_rfl, hB, nf f0, nf f1, nf f2, nf f3, nf f4, nf f5, nf f6, fun _ => rfl, nf f8, nf f9, nf f10, nf f11, nf f12, nf f13, nf f14, nf f15, nf f16⟩
        refine InvFrom.cons (fun L a W hI hN hD K hK => ?_) ?_
        · obtain ⟨sl21, sl22, sl23, sl24, sl25, sl26, sl27, sl28, sl29, sl30, sl31, sl32, sl33, sl34, sl35, sl36, sl37, ha, hB, f0, f1, f2, f3, f4, f5, f6, f7, f8, f9, f10, f11, f12, f13, f14, f15, f16⟩ := hI
          subst ha
          have hz := hB.size
          have d4 := f4 (hD 4 (by kernel_rfl))
          subst d4
          have d7 := f7 (hD 7 (by kernel_rfl))
          subst d7
          refine Kept.mk ?_
          simp only [Act.put, pA, pZ, pS]
          go_simp
          refine hK.out _ _ ?_
          exact ⟨sl21, sl22, sl23, sl24, (.bool false), sl26, sl27, (.bool true), (.bool true), sl30, sl31, sl32, sl33, sl34, sl35, sl36, sl37, by kernel_rfl, hB, nf f0, nf f1, nf f2, nf f3, nf f4, nf f5, nf f6, nf f7, fun _ => rfl, nf f9, nf f10, nf f11, nf f12, nf f13, nf f14, nf f15, nf f16⟩
        refine InvFrom.cons (fun L a W hI hN hD K hK => ?_) ?_
        · obtain ⟨sl21, sl22, sl23, sl24, sl25, sl26, sl27, sl28, sl29, sl30, sl31, sl32, sl33, sl34, sl35, sl36, sl37, ha, hB, f0, f1, f2, f3, f4, f5, f6, f7, f8, f9, f10, f11, f12, f13, f14, f15, f16⟩ := hI
          subst ha
          have hz := hB.size
          have d8 := f8 (hD 8 (by kernel_rfl))
          subst d8
          have pp0 := box_cell (j := 0) (box_keep HPA.out hB (by omega)) rfl
          have pp1 := box_cell (j := 1) (box_keep HPA.out hB (by omega)) rfl
          have pp2 := box_cell (j := 2) (box_keep HPA.out hB (by omega)) rfl
          have pp3 := box_cell (j := 3) (box_keep HPA.out hB (by omega)) rfl
          refine Kept.mk ?_
          simp only [Act.put, pA, pZ, pS]
          go_simp
          refine hK.out _ _ ?_
          exact ⟨sl21, sl22, sl23, sl24, sl25, sl26, sl27, sl28, (.bool true), (.agg #[.slice A0 n0 c0, .int .i64 p.fMus, .slice B2 m2 d2, .slice A3 n3 c3]), sl31, sl32, sl33, sl34, sl35, sl36, sl37, by kernel_rfl, hB, nf f0, nf f1, nf f2, nf f3, nf f4, nf f5, nf f6, nf f7, nf f8, fun _ => rfl, nf f10, nf f11, nf f12, nf f13, nf f14, nf f15, nf f16⟩
        refine InvFrom.cons (fun L a W hI hN hD K hK => ?_) ?_
        · obtain ⟨sl21, sl22, sl23, sl24, sl25, sl26, sl27, sl28, sl29, sl30, sl31, sl32, sl33, sl34, sl35, sl36, sl37, ha, hB, f0, f1, f2, f3, f4, f5, f6, f7, f8, f9, f10, f11, f12, f13, f14, f15, f16⟩ := hI
          subst ha
          have hz := hB.size
          have d8 := f8 (hD 8 (by kernel_rfl))
          subst d8
          have pp0 := box_cell (j := 0) (box_keep HPA.out hB (by omega)) rfl
          have pp1 := box_cell (j := 1) (box_keep HPA.out hB (by omega)) rfl
          have pp2 := box_cell (j := 2) (box_keep HPA.out hB (by omega)) rfl
          have pp3 := box_cell (j := 3) (box_keep HPA.out hB (by omega)) rfl
          refine Kept.mk ?_
          simp only [Act.put, pA, pZ, pS]
          go_simp
          refine hK.out _ _ ?_
          exact ⟨sl21, sl22, sl23, sl24, sl25, sl26, sl27, sl28, (.bool true), sl30, (.agg #[.slice A0 n0 c0, .int .i64 p.fMus, .slice B2 m2 d2, .slice A3 n3 c3]), sl32, sl33, sl34, sl35, sl36, sl37, by kernel_rfl, hB, nf f0, nf f1, nf f2, nf f3, nf f4, nf f5, nf f6, nf f7, nf f8, nf f9, fun _ => rfl, nf f11, nf f12, nf f13, nf f14, nf f15, nf f16⟩
        refine InvFrom.cons (fun L a W hI hN hD K hK => ?_) ?_
        · obtain ⟨sl21, sl22, sl23, sl24, sl25, sl26, sl27, sl28, sl29, sl30, sl31, sl32, sl33, sl34, sl35, sl36, sl37, ha, hB, f0, f1, f2, f3, f4, f5, f6, f7, f8, f9, f10, f11, f12, f13, f14, f15, f16⟩ := hI
          subst ha
          have hz := hB.size
          have d8 := f8 (hD 8 (by kernel_rfl))
          subst d8
          have pg0 := box_cell (j := 0) (box_keep HGA.out hB (by omega)) rfl
          have pg1 := box_cell (j := 1) (box_keep HGA.out hB (by omega)) rfl
          have pg2 := box_cell (j := 2) (box_keep HGA.out hB (by omega)) rfl
          have pg3 := box_cell (j := 3) (box_keep HGA.out hB (by omega)) rfl
          have pg4 := box_cell (j := 4) (box_keep HGA.out hB (by omega)) rfl
          refine Kept.mk ?_
          simp only [Act.put, pA, pZ, pS]
          go_simp
          refine hK.out _ _ ?_
          exact ⟨sl21, sl22, sl23, sl24, sl25, sl26, sl27, sl28, (.bool true), sl30, sl31, (.agg #[.int .i64 d.fProc, .int .i64 d.fPc, .slice E2 k2 v2, .int .i64 d.fState, .slice E4 k4 v4]), sl33, sl34, sl35, sl36, sl37, by kernel_rfl, hB, nf f0, nf f1, nf f2, nf f3, nf f4, nf f5, nf f6, nf f7, nf f8, nf f9, nf f10, fun _ => rfl, nf f12, nf f13, nf f14, nf f15, nf f16⟩
        refine InvFrom.cons (fun L a W hI hN hD K hK => ?_) ?_
        · obtain ⟨sl21, sl22, sl23, sl24, sl25, sl26, sl27, sl28, sl29, sl30, sl31, sl32, sl33, sl34, sl35, sl36, sl37, ha, hB, f0, f1, f2, f3, f4, f5, f6, f7, f8, f9, f10, f11, f12, f13, f14, f15, f16⟩ := hI
          subst ha
          have hz := hB.size
          have d8 := f8 (hD 8 (by kernel_rfl))
          subst d8
          have d10 := f10 (hD 10 (by kernel_rfl))
          subst d10
          have d11 := f11 (hD 11 (by kernel_rfl))
          subst d11
          refine kept_w2 (by kernel_rfl) 66 _ _ _ rfl (fenters_of' Tryz.func66 (by kernel_rfl) (by kernel_rfl)) (.agg #[.slice A0 n0 c0, .int .i64 p.fMus, .slice B2 m2 d2, .slice A3 n3 c3]) (.agg #[.int .i64 d.fProc, .int .i64 d.fPc, .slice E2 k2 v2, .int .i64 d.fState, .slice E4 k4 v4]) (by kernel_rfl) (by kernel_rfl) (HAT.out (by trivial) W hB) ?_
          rintro e W1 ⟨rfl, hb1⟩
          refine ⟨_, rfl, hK.out _ _ ?_⟩
          exact ⟨sl21, sl22, sl23, sl24, sl25, sl26, sl27, sl28, (.bool true), sl30, (.agg #[.slice A0 n0 c0, .int .i64 p.fMus, .slice B2 m2 d2, .slice A3 n3 c3]), (.agg #[.int .i64 d.fProc, .int .i64 d.fPc, .slice E2 k2 v2, .int .i64 d.fState, .slice E4 k4 v4]), (.agg #[.int .i64 ins.fOp, .int .i64 ins.fA, .int .i64 ins.fB, .int .i64 ins.fC]), sl34, sl35, sl36, sl37, by kernel_rfl, hB.trans ((hb1.mono (Nat.le_refl _)).mono hz), nf f0, nf f1, nf f2, nf f3, nf f4, nf f5, nf f6, nf f7, nf f8, nf f9, nf f10, nf f11, fun _ => rfl, nf f13, nf f14, nf f15, nf f16⟩
        refine InvFrom.cons (fun L a W hI hN hD K hK => ?_) ?_
        · obtain ⟨sl21, sl22, sl23, sl24, sl25, sl26, sl27, sl28, sl29, sl30, sl31, sl32, sl33, sl34, sl35, sl36, sl37, ha, hB, f0, f1, f2, f3, f4, f5, f6, f7, f8, f9, f10, f11, f12, f13, f14, f15, f16⟩ := hI
          subst ha
          have hz := hB.size
          have d8 := f8 (hD 8 (by kernel_rfl))
          subst d8
          have d9 := f9 (hD 9 (by kernel_rfl))
          subst d9
          have d12 := f12 (hD 12 (by kernel_rfl))
          subst d12
          refine kept_w2 (by kernel_rfl) 130 _ _ _ rfl (fenters_of' Tryz.func130 (by kernel_rfl) (by kernel_rfl)) (.agg #[.slice A0 n0 c0, .int .i64 p.fMus, .slice B2 m2 d2, .slice A3 n3 c3]) (.agg #[.int .i64 ins.fOp, .int .i64 ins.fA, .int .i64 ins.fB, .int .i64 ins.fC]) (by kernel_rfl) (by kernel_rfl) (HMW.out (by trivial) W hB) ?_
          rintro e W1 ⟨rfl, hb1⟩
          refine ⟨_, rfl, hK.out _ _ ?_⟩
          exact ⟨sl21, sl22, sl23, sl24, sl25, sl26, sl27, sl28, (.bool true), (.agg #[.slice A0 n0 c0, .int .i64 p.fMus, .slice B2 m2 d2, .slice A3 n3 c3]), sl31, sl32, (.agg #[.int .i64 ins.fOp, .int .i64 ins.fA, .int .i64 ins.fB, .int .i64 ins.fC]), (.bool b2), sl35, sl36, sl37, by kernel_rfl, hB.trans ((hb1.mono (Nat.le_refl _)).mono hz), nf f0, nf f1, nf f2, nf f3, nf f4, nf f5, nf f6, nf f7, nf f8, nf f9, nf f10, nf f11, nf f12, fun _ => rfl, nf f14, nf f15, nf f16⟩
        refine InvFrom.cons (fun L a W hI hN hD K hK => ?_) ?_
        · obtain ⟨sl21, sl22, sl23, sl24, sl25, sl26, sl27, sl28, sl29, sl30, sl31, sl32, sl33, sl34, sl35, sl36, sl37, ha, hB, f0, f1, f2, f3, f4, f5, f6, f7, f8, f9, f10, f11, f12, f13, f14, f15, f16⟩ := hI
          subst ha
          have hz := hB.size
          have d8 := f8 (hD 8 (by kernel_rfl))
          subst d8
          have d13 := f13 (hD 13 (by kernel_rfl))
          subst d13
          refine Kept.mk ?_
          simp only [Act.put, pA, pZ, pS]
          go_simp
          refine hK.out _ _ ?_
          exact ⟨sl21, sl22, sl23, sl24, sl25, sl26, sl27, sl28, (.bool true), sl30, sl31, sl32, sl33, (.bool b2), (.bool (!b2)), sl36, sl37, by kernel_rfl, hB, nf f0, nf f1, nf f2, nf f3, nf f4, nf f5, nf f6, nf f7, nf f8, nf f9, nf f10, nf f11, nf f12, nf f13, fun _ => rfl, nf f15, nf f16⟩
        refine InvFrom.cons (fun L a W hI hN hD K hK => ?_) ?_
        · obtain ⟨sl21, sl22, sl23, sl24, sl25, sl26, sl27, sl28, sl29, sl30, sl31, sl32, sl33, sl34, sl35, sl36, sl37, ha, hB, f0, f1, f2, f3, f4, f5, f6, f7, f8, f9, f10, f11, f12, f13, f14, f15, f16⟩ := hI
          subst ha
          have hz := hB.size
          have d4 := f4 (hD 4 (by kernel_rfl))
          subst d4
          have d8 := f8 (hD 8 (by kernel_rfl))
          subst d8
          have d14 := f14 (hD 14 (by kernel_rfl))
          subst d14
          refine Kept.mk ?_
          simp only [Act.put, pA, pZ, pS]
          go_simp
          refine hK.out _ _ ?_
          exact ⟨sl21, sl22, sl23, sl24, (.bool false), sl26, sl27, sl28, (.bool true), sl30, sl31, sl32, sl33, sl34, (.bool (!b2)), (.bool (!b2)), sl37, by kernel_rfl, hB, nf f0, nf f1, nf f2, nf f3, nf f4, nf f5, nf f6, nf f7, nf f8, nf f9, nf f10, nf f11, nf f12, nf f13, nf f14, fun _ => rfl, nf f16⟩
        refine InvFrom.cons (fun L a W hI hN hD K hK => ?_) ?_
        · obtain ⟨sl21, sl22, sl23, sl24, sl25, sl26, sl27, sl28, sl29, sl30, sl31, sl32, sl33, sl34, sl35, sl36, sl37, ha, hB, f0, f1, f2, f3, f4, f5, f6, f7, f8, f9, f10, f11, f12, f13, f14, f15, f16⟩ := hI
          subst ha
          have hz := hB.size
          have d4 := f4 (hD 4 (by kernel_rfl))
          subst d4
          have d15 := f15 (hD 15 (by kernel_rfl))
          subst d15
          refine Kept.mk ?_
          simp only [Act.put, pA, pZ, pS]
          go_simp
          refine hK.out _ _ ?_
          exact ⟨sl21, sl22, sl23, sl24, (.bool false), sl26, sl27, sl28, sl29, sl30, sl31, sl32, sl33, sl34, sl35, (.bool (!b2)), (.bool (!b2)), by kernel_rfl, hB, nf f0, nf f1, nf f2, nf f3, nf f4, nf f5, nf f6, nf f7, nf f8, nf f9, nf f10, nf f11, nf f12, nf f13, nf f14, nf f15, fun _ => rfl⟩
        exact InvFrom.nil
      intro L a w9 hL hI
      obtain ⟨sl21, sl22, sl23, sl24, sl25, sl26, sl27, sl28, sl29, sl30, sl31, sl32, sl33, sl34, sl35, sl36, sl37, ha, hbw9, hI⟩ := hI
      subst ha
      have hfin := hI.2.2.2.2.2.2.2.2.2.2.2.2.2.2.2.2 (hL 16 (by decide))
      subst hfin
      clear hL hI
      refine Kept.mk ?_
      simp only [Act.put, pA, pZ, pS]
      cases b2
      · have HB9 := Lib.hid (HBW.out.trans (hbw9.mono (by have := HBW.out.size; omega)))
        clear hbw9
        go_wp2_with fail
        go_ret
        exact ⟨by rw [gors_no HDK.out HGE.out]; rfl, HB9.out⟩
      · have HB9 := Lib.hid (HBA.out.trans (hbw9.mono (by omega)))
        clear hbw9
        go_wp2_with fail
        go_roundw
        case rel => exact ⟨k + 1, by omega, by go_num, Lib.hid (allTo_step HA.out HDK.out HGE.out), HB9.out⟩
        case measure => simp [intOf]; omega
    · obtain rfl : k = n := by omega
      have HB9 := Lib.hid (HB0.out.trans (hbr.mono (by omega)))
      clear hbr
      go_wp2_with fail
      go_ret
      exact ⟨by rw [gors_yes (by rw [HL.out]; exact hlen) (by rw [HL.out]; exact HA.out)]; rfl, HB9.out⟩
end Go.Proofs.YtghkdkagnibkgaaGreatDoor

namespace Go.Proofs.YtghkdkagnibkgaaGreatDoor
set_option linter.unusedSimpArgs false
set_option linter.unusedVariables false
open Go.RowKit

set_option maxRecDepth 100000 in
set_option maxHeartbeats 8000000 in
theorem chansOk_any {w : World} {hi n c : Nat} {p : DProg} {vs : List Value} {A : Option Addr} {cs : List DChan} (hp : layProg.see w hi p vs) (hs : SeenR layChan w hi A n cs) (hhi : hi ≤ w.heap.size) (hnp : szProg p ≤ 1048576) (hn : n ≤ 1048576) :
    Calls Tryz.prog 100 #[.agg vs.toArray, .slice A n c] w fun e w' => e = .returned (.bool (chansB p cs)) ∧ Below w.heap.size w w' := by
  have HL := Lib.hid hs.1
  have HS := Lib.hid (fun (W : World) (hW : Below w.heap.size w W) => hs.below hW hhi)
  obtain ⟨A0, n0, c0, B2, m2, d2, A3, n3, c3, rfl, ⟨hc0, hm0, s0⟩, -⟩ := seeProg hp
  have HL0 := Lib.hid s0.1
  have HS0 := Lib.hid (fun (W : World) (hW : Below w.heap.size w W) => s0.below hW hhi)
  have hn0 : n0 ≤ 1048576 := by have := s0.1; unfold szProg at hnp; omega
  clear hp hs s0
  have hB0 : Below w.heap.size w (w.alloc (.cells #[.slice A0 n0 c0, .int .i64 p.fMus, .slice B2 m2 d2, .slice A3 n3 c3] 38)) := (Below.refl _ _).alloc (Nat.le_refl _) _
  have hP0 := box_new w #[.slice A0 n0 c0, .int .i64 p.fMus, .slice B2 m2 d2, .slice A3 n3 c3] 38
  have hz0 : (w.alloc (.cells #[.slice A0 n0 c0, .int .i64 p.fMus, .slice B2 m2 d2, .slice A3 n3 c3] 38)).heap.size = w.heap.size + 1 := by simp
  go_enter Tryz.func100, Tryz.ntmps100
  go_upto_region 1 with (fail)
  generalize (w.alloc (.cells #[.slice A0 n0 c0, .int .i64 p.fMus, .slice B2 m2 d2, .slice A3 n3 c3] 38)) = W0 at *
  have HP0 := Lib.hid hP0
  have HB0 := Lib.hid hB0
  have p0 := box_cell (j := 0) hP0 rfl
  clear hP0 hB0
  by_cases hlen : n = n0
  rotate_left
  · have HR := Lib.hid (show chansB p cs = false by unfold chansB; rw [decide_eq_false (by rw [HL.out, HL0.out]; exact hlen), Bool.false_and])
    have q1 : ((n : Int) != (n0 : Int)) = true := by simp; omega
    clear hlen
    go_wp2_with fail
    go_ret
    exact ⟨by rw [HR.out]; rfl, HB0.out⟩
  have q1 : ((n : Int) != (n0 : Int)) = false := by simp; omega
  have HLEN := Lib.hid hlen
  clear hlen
  go_wp2_with fail
  clear q1 p0
  go_loopw [15] (fun i wr => ∃ k : Nat, k ≤ n ∧ i = .int .i64 k ∧ Hid (allTo (fun j _ => chanE p cs j) cs k) ∧ Below (w.heap.size + 1) W0 wr) (fun i _ => n - (intOf i).toNat)
  case atStart => exact ⟨0, Nat.zero_le _, rfl, Lib.hid (fun j x hj => by omega), by rw [← hz0]; exact Below.refl _ _⟩
  case round =>
    obtain ⟨k, hk, rfl, HA, hbr⟩ := hrel
    have hzr := hbr.size
    by_cases hlt : k < n
    · have hbw := HB0.out.trans (hbr.mono (by omega))
      obtain ⟨hx, g, o, ws, rfl, hg, hsee, hcell⟩ := (HS.out wr hbw).at_ hlt
      have HDK := Lib.hid (List.getElem?_eq_getElem hx)
      generalize cs[k] = d at *
      have HSE := Lib.hid (fun (W : World) (hW : Below wr.heap.size wr W) => layChan.keep hsee (w' := W) fun k hk => hW.block k (by omega))
      obtain ⟨E1, k1, v1, E2, k2, v2, E3, k3, v3, rfl, -⟩ := seeChan hsee
      have cc0 := hcell 0 _ rfl
      have cc1 := hcell 1 _ rfl
      have cc2 := hcell 2 _ rfl
      have cc3 := hcell 3 _ rfl
      have cc4 := hcell 4 _ rfl
      simp only [show layChan.size = 5 from rfl, ← Nat.add_assoc, Nat.add_zero, Nat.mul_one] at cc0 cc1 cc2 cc3 cc4
      have hbA : Below wr.heap.size wr (wr.alloc (.cells #[.int .i64 d.fCap, .slice E1 k1 v1, .slice E2 k2 v2, .slice E3 k3 v3, .bool d.fClosed] 124)) := (Below.refl _ _).alloc (Nat.le_refl _) _
      have hGA := box_new wr #[.int .i64 d.fCap, .slice E1 k1 v1, .slice E2 k2 v2, .slice E3 k3 v3, .bool d.fClosed] 124
      have hPA := box_keep (box_keep HP0.out hbr (by omega)) hbA (by omega)
      have hzA : (wr.alloc (.cells #[.int .i64 d.fCap, .slice E1 k1 v1, .slice E2 k2 v2, .slice E3 k3 v3, .bool d.fClosed] 124)).heap.size = wr.heap.size + 1 := by simp
      have hk0 : k < n0 := by have := HLEN.out; omega
      obtain ⟨hx0, gV, oV, ws0, rfl, hgV, ⟨rfl, -⟩, hcell0⟩ := (HS0.out wr hbw).at_ hk0
      have HDV := Lib.hid (List.getElem?_eq_getElem hx0)
      have hv0 := hcell0 0 _ rfl
      simp only [Lay.int, Lay.flat, Nat.add_zero, Nat.mul_one] at hv0
      generalize p.fCaps[k] = v at *
      have hi1 : (k : Int) < (n0 : Int) := by have := HLEN.out; omega
      have hiq : (0 : Int) ≤ (k : Int) := by omega
      go_upto_region 6 with (fail)
      have HVA := Lib.hid (fun (W : World) (hW : Below (wr.alloc (.cells #[.int .i64 d.fCap, .slice E1 k1 v1, .slice E2 k2 v2, .slice E3 k3 v3, .bool d.fClosed] 124)).heap.size (wr.alloc (.cells #[.int .i64 d.fCap, .slice E1 k1 v1, .slice E2 k2 v2, .slice E3 k3 v3, .bool d.fClosed] 124)) W) => cell_kept (hbA.trans (hW.mono (by omega))) hv0)
      generalize (wr.alloc (.cells #[.int .i64 d.fCap, .slice E1 k1 v1, .slice E2 k2 v2, .slice E3 k3 v3, .bool d.fClosed] 124)) = WA at *
      clear cc0 cc1 cc2 cc3 cc4 hcell hsee hcell0 hv0
      have HGA := Lib.hid hGA
      have HPA := Lib.hid hPA
      have HBA := Lib.hid (hbr.trans (hbA.mono (by omega)))
      have HBW := Lib.hid (hbw.trans (hbA.mono (by have := hbw.size; omega)))
      have HOK := Lib.hid (fun (W : World) (hW : Below WA.heap.size WA W) => implChanOk_any (HSE.out W (hbA.trans (hW.mono (by omega)))) (by have := HBW.out.size; have := hW.size; omega))
      have HCE := Lib.hid (chanE_of HDK.out HDV.out)
      clear hGA hPA hbA hbr hbw HSE
      generalize chanOkB d = b1 at *
      cases b1
      · replace HCE : Hid (chanE p cs k = false) := Lib.hid (by rw [HCE.out]; rfl)
        refine wp_region_inv (fun AC0 L a W => ∃ sl20 sl21 sl22 sl23 sl24 sl25 sl26 sl27 sl28 sl29 sl30 sl31 sl32 : Value, a = (((((((((((((AC0.put (some 20) sl20).put (some 21) sl21).put (some 22) sl22).put (some 23) sl23).put (some 24) sl24).put (some 25) sl25).put (some 26) sl26).put (some 27) sl27).put (some 28) sl28).put (some 29) sl29).put (some 30) sl30).put (some 31) sl31).put (some 32) sl32) ∧ Below WA.heap.size WA W ∧ ((L 0 → sl20 = (.agg #[.int .i64 d.fCap, .slice E1 k1 v1, .slice E2 k2 v2, .slice E3 k3 v3, .bool d.fClosed])) ∧ (L 1 → sl21 = (.bool false)) ∧ (L 2 → sl22 = (.bool true)) ∧ (L 3 → sl23 = (.bool true)) ∧ (L 4 → sl24 = undef) ∧ (L 5 → sl25 = undef) ∧ (L 6 → sl26 = undef) ∧ (L 7 → sl27 = undef) ∧ (L 8 → sl28 = undef) ∧ (L 9 → sl29 = undef) ∧ (L 10 → sl30 = undef) ∧ (L 11 → sl31 = undef) ∧ (L 12 → sl32 = (.bool true)))) (by kernel_rfl) (by kernel_rfl) ?_ ?_ ?_
        · exact ⟨u20, u21, u22, u23, u24, u25, u26, u27, u28, u29, u30, u31, u32, by kernel_rfl, Below.drew (Below.refl _ _), fun h => absurd h id, fun h => absurd h id, fun h => absurd h id, fun h => absurd h id, fun h => absurd h id, fun h => absurd h id, fun h => absurd h id, fun h => absurd h id, fun h => absurd h id, fun h => absurd h id, fun h => absurd h id, fun h => absurd h id, fun h => absurd h id⟩
        · intro Q9; refine InvFrom.cons (fun L a W hI hN hD K hK => ?_) ?_
          · obtain ⟨sl20, sl21, sl22, sl23, sl24, sl25, sl26, sl27, sl28, sl29, sl30, sl31, sl32, ha, hB, f0, f1, f2, f3, f4, f5, f6, f7, f8, f9, f10, f11, f12⟩ := hI
            subst ha
            have hz := hB.size
            have pg0 := box_cell (j := 0) (box_keep HGA.out hB (by omega)) rfl
            have pg1 := box_cell (j := 1) (box_keep HGA.out hB (by omega)) rfl
            have pg2 := box_cell (j := 2) (box_keep HGA.out hB (by omega)) rfl
            have pg3 := box_cell (j := 3) (box_keep HGA.out hB (by omega)) rfl
            have pg4 := box_cell (j := 4) (box_keep HGA.out hB (by omega)) rfl
            refine Kept.mk ?_
            simp only [Act.put, pA, pZ, pS]
            go_simp
            refine hK.out _ _ ?_
            exact ⟨(.agg #[.int .i64 d.fCap, .slice E1 k1 v1, .slice E2 k2 v2, .slice E3 k3 v3, .bool d.fClosed]), sl21, sl22, sl23, sl24, sl25, sl26, sl27, sl28, sl29, sl30, sl31, sl32, by kernel_rfl, hB, fun _ => rfl, nf f1, nf f2, nf f3, nf f4, nf f5, nf f6, nf f7, nf f8, nf f9, nf f10, nf f11, nf f12⟩
          refine InvFrom.cons (fun L a W hI hN hD K hK => ?_) ?_
          · obtain ⟨sl20, sl21, sl22, sl23, sl24, sl25, sl26, sl27, sl28, sl29, sl30, sl31, sl32, ha, hB, f0, f1, f2, f3, f4, f5, f6, f7, f8, f9, f10, f11, f12⟩ := hI
            subst ha
            have hz := hB.size
            have d0 := f0 (hD 0 (by kernel_rfl))
            subst d0
            refine kept_c1 rfl 131 _ _ rfl (fenters_of' Tryz.func131 (by kernel_rfl) (by kernel_rfl)) (.agg #[.int .i64 d.fCap, .slice E1 k1 v1, .slice E2 k2 v2, .slice E3 k3 v3, .bool d.fClosed]) (by kernel_rfl) (HOK.out W hB) ?_
            rintro e W1 ⟨rfl, hb1⟩
            refine ⟨_, rfl, hK.out _ _ ?_⟩
            exact ⟨(.agg #[.int .i64 d.fCap, .slice E1 k1 v1, .slice E2 k2 v2, .slice E3 k3 v3, .bool d.fClosed]), (.bool false), sl22, sl23, sl24, sl25, sl26, sl27, sl28, sl29, sl30, sl31, sl32, by kernel_rfl, hB.trans ((hb1.mono (Nat.le_refl _)).mono hz), nf f0, fun _ => rfl, nf f2, nf f3, nf f4, nf f5, nf f6, nf f7, nf f8, nf f9, nf f10, nf f11, nf f12⟩
          refine InvFrom.cons (fun L a W hI hN hD K hK => ?_) ?_
          · obtain ⟨sl20, sl21, sl22, sl23, sl24, sl25, sl26, sl27, sl28, sl29, sl30, sl31, sl32, ha, hB, f0, f1, f2, f3, f4, f5, f6, f7, f8, f9, f10, f11, f12⟩ := hI
            subst ha
            have hz := hB.size
            have d1 := f1 (hD 1 (by kernel_rfl))
            subst d1
            refine Kept.mk ?_
            simp only [Act.put, pA, pZ, pS]
            go_simp
            refine hK.out _ _ ?_
            exact ⟨sl20, (.bool false), (.bool true), sl23, sl24, sl25, sl26, sl27, sl28, sl29, sl30, sl31, sl32, by kernel_rfl, hB, nf f0, nf f1, fun _ => rfl, nf f3, nf f4, nf f5, nf f6, nf f7, nf f8, nf f9, nf f10, nf f11, nf f12⟩
          refine InvFrom.cons (fun L a W hI hN hD K hK => ?_) ?_
          · obtain ⟨sl20, sl21, sl22, sl23, sl24, sl25, sl26, sl27, sl28, sl29, sl30, sl31, sl32, ha, hB, f0, f1, f2, f3, f4, f5, f6, f7, f8, f9, f10, f11, f12⟩ := hI
            subst ha
            have hz := hB.size
            have d1 := f1 (hD 1 (by kernel_rfl))
            subst d1
            have d2 := f2 (hD 2 (by kernel_rfl))
            subst d2
            refine Kept.mk ?_
            simp only [Act.put, pA, pZ, pS]
            go_simp
            refine hK.out _ _ ?_
            exact ⟨sl20, (.bool false), (.bool true), (.bool true), sl24, sl25, sl26, sl27, sl28, sl29, sl30, sl31, sl32, by kernel_rfl, hB, nf f0, nf f1, nf f2, fun _ => rfl, nf f4, nf f5, nf f6, nf f7, nf f8, nf f9, nf f10, nf f11, nf f12⟩
          refine InvFrom.cons (fun L a W hI hN hD K hK => ?_) ?_
          · obtain ⟨sl20, sl21, sl22, sl23, sl24, sl25, sl26, sl27, sl28, sl29, sl30, sl31, sl32, ha, hB, f0, f1, f2, f3, f4, f5, f6, f7, f8, f9, f10, f11, f12⟩ := hI
            subst ha
            have hz := hB.size
            have d3 := f3 (hD 3 (by kernel_rfl))
            subst d3
            refine Kept.mk ?_
            simp only [Act.put, pA, pZ, pS]
            go_simp
            refine hK.out _ _ ?_
            exact ⟨sl20, sl21, sl22, (.bool true), undef, sl25, sl26, sl27, sl28, sl29, sl30, sl31, sl32, by kernel_rfl, hB, nf f0, nf f1, nf f2, nf f3, fun _ => rfl, nf f5, nf f6, nf f7, nf f8, nf f9, nf f10, nf f11, nf f12⟩
          refine InvFrom.cons (fun L a W hI hN hD K hK => ?_) ?_
          · obtain ⟨sl20, sl21, sl22, sl23, sl24, sl25, sl26, sl27, sl28, sl29, sl30, sl31, sl32, ha, hB, f0, f1, f2, f3, f4, f5, f6, f7, f8, f9, f10, f11, f12⟩ := hI
            subst ha
            have hz := hB.size
            have d3 := f3 (hD 3 (by kernel_rfl))
            subst d3
            have d4 := f4 (hD 4 (by kernel_rfl))
            subst d4
            refine Kept.mk ?_
            simp only [Act.put, pA, pZ, pS]
            go_simp
            refine hK.out _ _ ?_
            exact ⟨sl20, sl21, sl22, (.bool true), undef, undef, sl26, sl27, sl28, sl29, sl30, sl31, sl32, by kernel_rfl, hB, nf f0, nf f1, nf f2, nf f3, nf f4, fun _ => rfl, nf f6, nf f7, nf f8, nf f9, nf f10, nf f11, nf f12⟩
          refine InvFrom.cons (fun L a W hI hN hD K hK => ?_) ?_
          · obtain ⟨sl20, sl21, sl22, sl23, sl24, sl25, sl26, sl27, sl28, sl29, sl30, sl31, sl32, ha, hB, f0, f1, f2, f3, f4, f5, f6, f7, f8, f9, f10, f11, f12⟩ := hI
            subst ha
            have hz := hB.size
            have d3 := f3 (hD 3 (by kernel_rfl))
            subst d3
            refine Kept.mk ?_
            simp only [Act.put, pA, pZ, pS]
            go_simp
            refine hK.out _ _ ?_
            exact ⟨sl20, sl21, sl22, (.bool true), sl24, sl25, undef, sl27, sl28, sl29, sl30, sl31, sl32, by kernel_rfl, hB, nf f0, nf f1, nf f2, nf f3, nf f4, nf f5, fun _ => rfl, nf f7, nf f8, nf f9, nf f10, nf f11, nf f12⟩
          refine InvFrom.cons (fun L a W hI hN hD K hK => ?_) ?_
          · obtain ⟨sl20, sl21, sl22, sl23, sl24, sl25, sl26, sl27, sl28, sl29, sl30, sl31, sl32, ha, hB, f0, f1, f2, f3, f4, f5, f6, f7, f8, f9, f10, f11, f12⟩ := hI
            subst ha
            have hz := hB.size
            have d3 := f3 (hD 3 (by kernel_rfl))
            subst d3
            have d6 := f6 (hD 6 (by kernel_rfl))
            subst d6
            refine Kept.mk ?_
            simp only [Act.put, pA, pZ, pS]
            go_simp
            refine hK.out _ _ ?_
            exact ⟨sl20, sl21, sl22, (.bool true), sl24, sl25, undef, undef, sl28, sl29, sl30, sl31, sl32, by kernel_rfl, hB, nf f0, nf f1, nf f2, nf f3, nf f4, nf f5, nf f6, fun _ => rfl, nf f8, nf f9, nf f10, nf f11, nf f12⟩
          refine InvFrom.cons (fun L a W hI hN hD K hK => ?_) ?_
          · obtain ⟨sl20, sl21, sl22, sl23, sl24, sl25, sl26, sl27, sl28, sl29, sl30, sl31, sl32, ha, hB, f0, f1, f2, f3, f4, f5, f6, f7, f8, f9, f10, f11, f12⟩ := hI
            subst ha
            have hz := hB.size
            have d3 := f3 (hD 3 (by kernel_rfl))
            subst d3
            refine Kept.mk ?_
            simp only [Act.put, pA, pZ, pS]
            go_simp
            refine hK.out _ _ ?_
            exact ⟨sl20, sl21, sl22, (.bool true), sl24, sl25, sl26, sl27, undef, sl29, sl30, sl31, sl32, by kernel_rfl, hB, nf f0, nf f1, nf f2, nf f3, nf f4, nf f5, nf f6, nf f7, fun _ => rfl, nf f9, nf f10, nf f11, nf f12⟩
          refine InvFrom.cons (fun L a W hI hN hD K hK => ?_) ?_
          · obtain ⟨sl20, sl21, sl22, sl23, sl24, sl25, sl26, sl27, sl28, sl29, sl30, sl31, sl32, ha, hB, f0, f1, f2, f3, f4, f5, f6, f7, f8, f9, f10, f11, f12⟩ := hI
            subst ha
            have hz := hB.size
            have d3 := f3 (hD 3 (by kernel_rfl))
            subst d3
            have d7 := f7 (hD 7 (by kernel_rfl))
            subst d7
            have d8 := f8 (hD 8 (by kernel_rfl))
            subst d8
            refine Kept.mk ?_
            simp only [Act.put, pA, pZ, pS]
            go_simp
            refine hK.out _ _ ?_
            exact ⟨sl20, sl21, sl22, (.bool true), sl24, sl25, sl26, undef, undef, undef, sl30, sl31, sl32, by kernel_rfl, hB, nf f0, nf f1, nf f2, nf f3, nf f4, nf f5, nf f6, nf f7, nf f8, fun _ => rfl, nf f10, nf f11, nf f12⟩
          refine InvFrom.cons (fun L a W hI hN hD K hK => ?_) ?_
          · obtain ⟨sl20, sl21, sl22, sl23, sl24, sl25, sl26, sl27, sl28, sl29, sl30, sl31, sl32, ha, hB, f0, f1, f2, f3, f4, f5, f6, f7, f8, f9, f10, f11, f12⟩ := hI
            subst ha
            have hz := hB.size
            have d3 := f3 (hD 3 (by kernel_rfl))
            subst d3
            have d9 := f9 (hD 9 (by kernel_rfl))
            subst d9
            refine Kept.mk ?_
            simp only [Act.put, pA, pZ, pS]
            go_simp
            refine hK.out _ _ ?_
            exact ⟨sl20, sl21, sl22, (.bool true), sl24, sl25, sl26, sl27, sl28, undef, undef, sl31, sl32, by kernel_rfl, hB, nf f0, nf f1, nf f2, nf f3, nf f4, nf f5, nf f6, nf f7, nf f8, nf f9, fun _ => rfl, nf f11, nf f12⟩
          refine InvFrom.cons (fun L a W hI hN hD K hK => ?_) ?_
          · obtain ⟨sl20, sl21, sl22, sl23, sl24, sl25, sl26, sl27, sl28, sl29, sl30, sl31, sl32, ha, hB, f0, f1, f2, f3, f4, f5, f6, f7, f8, f9, f10, f11, f12⟩ := hI
            subst ha
            have hz := hB.size
            have d3 := f3 (hD 3 (by kernel_rfl))
            subst d3
            have d5 := f5 (hD 5 (by kernel_rfl))
            subst d5
            have d10 := f10 (hD 10 (by kernel_rfl))
            subst d10
            refine Kept.mk ?_
            simp only [Act.put, pA, pZ, pS]
            go_simp
            refine hK.out _ _ ?_
            exact ⟨sl20, sl21, sl22, (.bool true), sl24, undef, sl26, sl27, sl28, sl29, undef, undef, sl32, by kernel_rfl, hB, nf f0, nf f1, nf f2, nf f3, nf f4, nf f5, nf f6, nf f7, nf f8, nf f9, nf f10, fun _ => rfl, nf f12⟩
          refine InvFrom.cons (fun L a W hI hN hD K hK => ?_) ?_
          · obtain ⟨sl20, sl21, sl22, sl23, sl24, sl25, sl26, sl27, sl28, sl29, sl30, sl31, sl32, ha, hB, f0, f1, f2, f3, f4, f5, f6, f7, f8, f9, f10, f11, f12⟩ := hI
            subst ha
            have hz := hB.size
            have d3 := f3 (hD 3 (by kernel_rfl))
            subst d3
            have d11 := f11 (hD 11 (by kernel_rfl))
            subst d11
            refine Kept.mk ?_
            simp only [Act.put, pA, pZ, pS]
            go_simp
            refine hK.out _ _ ?_
            exact ⟨sl20, sl21, sl22, (.bool true), sl24, sl25, sl26, sl27, sl28, sl29, sl30, undef, (.bool true), by kernel_rfl, hB, nf f0, nf f1, nf f2, nf f3, nf f4, nf f5, nf f6, nf f7, nf f8, nf f9, nf f10, nf f11, fun _ => rfl⟩
          exact InvFrom.nil
        intro L a w9 hL hI
        obtain ⟨sl20, sl21, sl22, sl23, sl24, sl25, sl26, sl27, sl28, sl29, sl30, sl31, sl32, ha, hbw9, hI⟩ := hI
        subst ha
        have hfin := hI.2.2.2.2.2.2.2.2.2.2.2.2 (hL 12 (by decide))
        subst hfin
        clear hL hI
        refine Kept.mk ?_
        simp only [Act.put, pA, pZ, pS]
        have HB9 := Lib.hid (HBW.out.trans (hbw9.mono (by have := HBW.out.size; omega)))
        clear hbw9
        go_wp2_with fail
        go_ret
        exact ⟨by rw [chans_no (by rw [HL.out]; exact hlt) HCE.out]; rfl, HB9.out⟩
      obtain ⟨b2, hb2⟩ : ∃ b, b = (d.fCap != v) := ⟨_, rfl⟩
      replace HCE : Hid (chanE p cs k = !b2) := Lib.hid (by rw [HCE.out, hb2, Bool.true_and]; by_cases hq : d.fCap = v <;> simp [hq])
      have hqb : (d.fCap != v) = b2 := hb2.symm
      clear hb2
      refine wp_region_inv (fun AC0 L a W => ∃ sl20 sl21 sl22 sl23 sl24 sl25 sl26 sl27 sl28 sl29 sl30 sl31 sl32 : Value, a = (((((((((((((AC0.put (some 20) sl20).put (some 21) sl21).put (some 22) sl22).put (some 23) sl23).put (some 24) sl24).put (some 25) sl25).put (some 26) sl26).put (some 27) sl27).put (some 28) sl28).put (some 29) sl29).put (some 30) sl30).put (some 31) sl31).put (some 32) sl32) ∧ Below WA.heap.size WA W ∧ ((L 0 → sl20 = (.agg #[.int .i64 d.fCap, .slice E1 k1 v1, .slice E2 k2 v2, .slice E3 k3 v3, .bool d.fClosed])) ∧ (L 1 → sl21 = (.bool true)) ∧ (L 2 → sl22 = (.bool false)) ∧ (L 3 → sl23 = (.bool false)) ∧ (L 4 → sl24 = (.pointer (some ⟨wr.heap.size, 0, none⟩))) ∧ (L 5 → sl25 = (.int .i64 d.fCap)) ∧ (L 6 → sl26 = (.pointer (some ⟨w.heap.size, 0, none⟩))) ∧ (L 7 → sl27 = (.slice (some ⟨gV, oV, none⟩) n0 c0)) ∧ (L 8 → sl28 = (.int .i64 (k : Int))) ∧ (L 9 → sl29 = (.pointer (some ⟨gV, oV + k, none⟩))) ∧ (L 10 → sl30 = (.int .i64 v)) ∧ (L 11 → sl31 = (.bool b2)) ∧ (L 12 → sl32 = (.bool b2)))) (by kernel_rfl) (by kernel_rfl) ?_ ?_ ?_
      · exact ⟨u20, u21, u22, u23, u24, u25, u26, u27, u28, u29, u30, u31, u32, by kernel_rfl, Below.drew (Below.refl _ _), fun h => absurd h id, fun h => absurd h id, fun h => absurd h id, fun h => absurd h id, fun h => absurd h id, fun h => absurd h id, fun h => absurd h id, fun h => absurd h id, fun h => absurd h id, fun h => absurd h id, fun h => absurd h id, fun h => absurd h id, fun h => absurd h id⟩
      · intro Q9; refine InvFrom.cons (fun L a W hI hN hD K hK => ?_) ?_
        · obtain ⟨sl20, sl21, sl22, sl23, sl24, sl25, sl26, sl27, sl28, sl29, sl30, sl31, sl32, ha, hB, f0, f1, f2, f3, f4, f5, f6, f7, f8, f9, f10, f11, f12⟩ := hI
          subst ha
          have hz := hB.size
          have pg0 := box_cell (j := 0) (box_keep HGA.out hB (by omega)) rfl
          have pg1 := box_cell (j := 1) (box_keep HGA.out hB (by omega)) rfl
          have pg2 := box_cell (j := 2) (box_keep HGA.out hB (by omega)) rfl
          have pg3 := box_cell (j := 3) (box_keep HGA.out hB (by omega)) rfl
          have pg4 := box_cell (j := 4) (box_keep HGA.out hB (by omega)) rfl
          refine Kept.mk ?_
          simp only [Act.put, pA, pZ, pS]
          go_simp
          refine hK.out _ _ ?_
          exact ⟨(.agg #[.int .i64 d.fCap, .slice E1 k1 v1, .slice E2 k2 v2, .slice E3 k3 v3, .bool d.fClosed]), sl21, sl22, sl23, sl24, sl25, sl26, sl27, sl28, sl29, sl30, sl31, sl32, by kernel_rfl, hB, fun _ => rfl, nf f1, nf f2, nf f3, nf f4, nf f5, nf f6, nf f7, nf f8, nf f9, nf f10, nf f11, nf f12⟩
        refine InvFrom.cons (fun L a W hI hN hD K hK => ?_) ?_
        · obtain ⟨sl20, sl21, sl22, sl23, sl24, sl25, sl26, sl27, sl28, sl29, sl30, sl31, sl32, ha, hB, f0, f1, f2, f3, f4, f5, f6, f7, f8, f9, f10, f11, f12⟩ := hI
          subst ha
          have hz := hB.size
          have d0 := f0 (hD 0 (by kernel_rfl))
          subst d0
          refine kept_c1 rfl 131 _ _ rfl (fenters_of' Tryz.func131 (by kernel_rfl) (by kernel_rfl)) (.agg #[.int .i64 d.fCap, .slice E1 k1 v1, .slice E2 k2 v2, .slice E3 k3 v3, .bool d.fClosed]) (by kernel_rfl) (HOK.out W hB) ?_
          rintro e W1 ⟨rfl, hb1⟩
          refine ⟨_, rfl, hK.out _ _ ?_⟩
          exact ⟨(.agg #[.int .i64 d.fCap, .slice E1 k1 v1, .slice E2 k2 v2, .slice E3 k3 v3, .bool d.fClosed]), (.bool true), sl22, sl23, sl24, sl25, sl26, sl27, sl28, sl29, sl30, sl31, sl32, by kernel_rfl, hB.trans ((hb1.mono (Nat.le_refl _)).mono hz), nf f0, fun _ => rfl, nf f2, nf f3, nf f4, nf f5, nf f6, nf f7, nf f8, nf f9, nf f10, nf f11, nf f12⟩
        refine InvFrom.cons (fun L a W hI hN hD K hK => ?_) ?_
        · obtain ⟨sl20, sl21, sl22, sl23, sl24, sl25, sl26, sl27, sl28, sl29, sl30, sl31, sl32, ha, hB, f0, f1, f2, f3, f4, f5, f6, f7, f8, f9, f10, f11, f12⟩ := hI
          subst ha
          have hz := hB.size
          have d1 := f1 (hD 1 (by kernel_rfl))
          subst d1
          refine Kept.mk ?_
          simp only [Act.put, pA, pZ, pS]
          go_simp
          refine hK.out _ _ ?_
          exact ⟨sl20, (.bool true), (.bool false), sl23, sl24, sl25, sl26, sl27, sl28, sl29, sl30, sl31, sl32, by kernel_rfl, hB, nf f0, nf f1, fun _ => rfl, nf f3, nf f4, nf f5, nf f6, nf f7, nf f8, nf f9, nf f10, nf f11, nf f12⟩
        refine InvFrom.cons (fun L a W hI hN hD K hK => ?_) ?_
        · obtain ⟨sl20, sl21, sl22, sl23, sl24, sl25, sl26, sl27, sl28, sl29, sl30, sl31, sl32, ha, hB, f0, f1, f2, f3, f4, f5, f6, f7, f8, f9, f10, f11, f12⟩ := hI
          subst ha
          have hz := hB.size
          have d1 := f1 (hD 1 (by kernel_rfl))
          subst d1
          have d2 := f2 (hD 2 (by kernel_rfl))
          subst d2
          refine Kept.mk ?_
          simp only [Act.put, pA, pZ, pS]
          go_simp
          refine hK.out _ _ ?_
          exact ⟨sl20, (.bool true), (.bool false), (.bool false), sl24, sl25, sl26, sl27, sl28, sl29, sl30, sl31, sl32, by kernel_rfl, hB, nf f0, nf f1, nf f2, fun _ => rfl, nf f4, nf f5, nf f6, nf f7, nf f8, nf f9, nf f10, nf f11, nf f12⟩
        refine InvFrom.cons (fun L a W hI hN hD K hK => ?_) ?_
        · obtain ⟨sl20, sl21, sl22, sl23, sl24, sl25, sl26, sl27, sl28, sl29, sl30, sl31, sl32, ha, hB, f0, f1, f2, f3, f4, f5, f6, f7, f8, f9, f10, f11, f12⟩ := hI
          subst ha
          have hz := hB.size
          have d3 := f3 (hD 3 (by kernel_rfl))
          subst d3
          refine Kept.mk ?_
          simp only [Act.put, pA, pZ, pS]
          go_simp
          refine hK.out _ _ ?_
          exact ⟨sl20, sl21, sl22, (.bool false), (.pointer (some ⟨wr.heap.size, 0, none⟩)), sl25, sl26, sl27, sl28, sl29, sl30, sl31, sl32, by kernel_rfl, hB, nf f0, nf f1, nf f2, nf f3, fun _ => rfl, nf f5, nf f6, nf f7, nf f8, nf f9, nf f10, nf f11, nf f12⟩
        refine InvFrom.cons (fun L a W hI hN hD K hK => ?_) ?_
        · obtain ⟨sl20, sl21, sl22, sl23, sl24, sl25, sl26, sl27, sl28, sl29, sl30, sl31, sl32, ha, hB, f0, f1, f2, f3, f4, f5, f6, f7, f8, f9, f10, f11, f12⟩ := hI
          subst ha
          have hz := hB.size
          have d3 := f3 (hD 3 (by kernel_rfl))
          subst d3
          have d4 := f4 (hD 4 (by kernel_rfl))
          subst d4
          have pg := box_cell (j := 0) (box_keep HGA.out hB (by omega)) rfl
          refine Kept.mk ?_
          simp only [Act.put, pA, pZ, pS]
          go_simp
          refine hK.out _ _ ?_
          exact ⟨sl20, sl21, sl22, (.bool false), (.pointer (some ⟨wr.heap.size, 0, none⟩)), (.int .i64 d.fCap), sl26, sl27, sl28, sl29, sl30, sl31, sl32, by kernel_rfl, hB, nf f0, nf f1, nf f2, nf f3, nf f4, fun _ => rfl, nf f6, nf f7, nf f8, nf f9, nf f10, nf f11, nf f12⟩
        refine InvFrom.cons (fun L a W hI hN hD K hK => ?_) ?_
        · obtain ⟨sl20, sl21, sl22, sl23, sl24, sl25, sl26, sl27, sl28, sl29, sl30, sl31, sl32, ha, hB, f0, f1, f2, f3, f4, f5, f6, f7, f8, f9, f10, f11, f12⟩ := hI
          subst ha
          have hz := hB.size
          have d3 := f3 (hD 3 (by kernel_rfl))
          subst d3
          refine Kept.mk ?_
          simp only [Act.put, pA, pZ, pS]
          go_simp
          refine hK.out _ _ ?_
          exact ⟨sl20, sl21, sl22, (.bool false), sl24, sl25, (.pointer (some ⟨w.heap.size, 0, none⟩)), sl27, sl28, sl29, sl30, sl31, sl32, by kernel_rfl, hB, nf f0, nf f1, nf f2, nf f3, nf f4, nf f5, fun _ => rfl, nf f7, nf f8, nf f9, nf f10, nf f11, nf f12⟩
        refine InvFrom.cons (fun L a W hI hN hD K hK => ?_) ?_
        · obtain ⟨sl20, sl21, sl22, sl23, sl24, sl25, sl26, sl27, sl28, sl29, sl30, sl31, sl32, ha, hB, f0, f1, f2, f3, f4, f5, f6, f7, f8, f9, f10, f11, f12⟩ := hI
          subst ha
          have hz := hB.size
          have d3 := f3 (hD 3 (by kernel_rfl))
          subst d3
          have d6 := f6 (hD 6 (by kernel_rfl))
          subst d6
          have pp := box_cell (j := 0) (box_keep HPA.out hB (by omega)) rfl
          refine Kept.mk ?_
          simp only [Act.put, pA, pZ, pS]
          go_simp
          refine hK.out _ _ ?_
          exact ⟨sl20, sl21, sl22, (.bool false), sl24, sl25, (.pointer (some ⟨w.heap.size, 0, none⟩)), (.slice (some ⟨gV, oV, none⟩) n0 c0), sl28, sl29, sl30, sl31, sl32, by kernel_rfl, hB, nf f0, nf f1, nf f2, nf f3, nf f4, nf f5, nf f6, fun _ => rfl, nf f8, nf f9, nf f10, nf f11, nf f12⟩
        refine InvFrom.cons (fun L a W hI hN hD K hK => ?_) ?_
        · obtain ⟨sl20, sl21, sl22, sl23, sl24, sl25, sl26, sl27, sl28, sl29, sl30, sl31, sl32, ha, hB, f0, f1, f2, f3, f4, f5, f6, f7, f8, f9, f10, f11, f12⟩ := hI
          subst ha
          have hz := hB.size
          have d3 := f3 (hD 3 (by kernel_rfl))
          subst d3
          refine Kept.mk ?_
          simp only [Act.put, pA, pZ, pS]
          go_simp
          refine hK.out _ _ ?_
          exact ⟨sl20, sl21, sl22, (.bool false), sl24, sl25, sl26, sl27, (.int .i64 (k : Int)), sl29, sl30, sl31, sl32, by kernel_rfl, hB, nf f0, nf f1, nf f2, nf f3, nf f4, nf f5, nf f6, nf f7, fun _ => rfl, nf f9, nf f10, nf f11, nf f12⟩
        refine InvFrom.cons (fun L a W hI hN hD K hK => ?_) ?_
        · obtain ⟨sl20, sl21, sl22, sl23, sl24, sl25, sl26, sl27, sl28, sl29, sl30, sl31, sl32, ha, hB, f0, f1, f2, f3, f4, f5, f6, f7, f8, f9, f10, f11, f12⟩ := hI
          subst ha
          have hz := hB.size
          have d3 := f3 (hD 3 (by kernel_rfl))
          subst d3
          have d7 := f7 (hD 7 (by kernel_rfl))
          subst d7
          have d8 := f8 (hD 8 (by kernel_rfl))
          subst d8
          refine Kept.mk ?_
          simp only [Act.put, pA, pZ, pS]
          go_simp
          refine hK.out _ _ ?_
          exact ⟨sl20, sl21, sl22, (.bool false), sl24, sl25, sl26, (.slice (some ⟨gV, oV, none⟩) n0 c0), (.int .i64 (k : Int)), (.pointer (some ⟨gV, oV + k, none⟩)), sl30, sl31, sl32, by kernel_rfl, hB, nf f0, nf f1, nf f2, nf f3, nf f4, nf f5, nf f6, nf f7, nf f8, fun _ => rfl, nf f10, nf f11, nf f12⟩
        refine InvFrom.cons (fun L a W hI hN hD K hK => ?_) ?_
        · obtain ⟨sl20, sl21, sl22, sl23, sl24, sl25, sl26, sl27, sl28, sl29, sl30, sl31, sl32, ha, hB, f0, f1, f2, f3, f4, f5, f6, f7, f8, f9, f10, f11, f12⟩ := hI
          subst ha
          have hz := hB.size
          have d3 := f3 (hD 3 (by kernel_rfl))
          subst d3
          have d9 := f9 (hD 9 (by kernel_rfl))
          subst d9
          have pv := HVA.out W hB
          refine Kept.mk ?_
          simp only [Act.put, pA, pZ, pS]
          go_simp
          refine hK.out _ _ ?_
          exact ⟨sl20, sl21, sl22, (.bool false), sl24, sl25, sl26, sl27, sl28, (.pointer (some ⟨gV, oV + k, none⟩)), (.int .i64 v), sl31, sl32, by kernel_rfl, hB, nf f0, nf f1, nf f2, nf f3, nf f4, nf f5, nf f6, nf f7, nf f8, nf f9, fun _ => rfl, nf f11, nf f12⟩
        refine InvFrom.cons (fun L a W hI hN hD K hK => ?_) ?_
        · obtain ⟨sl20, sl21, sl22, sl23, sl24, sl25, sl26, sl27, sl28, sl29, sl30, sl31, sl32, ha, hB, f0, f1, f2, f3, f4, f5, f6, f7, f8, f9, f10, f11, f12⟩ := hI
          subst ha
          have hz := hB.size
          have d3 := f3 (hD 3 (by kernel_rfl))
          subst d3
          have d5 := f5 (hD 5 (by kernel_rfl))
          subst d5
          have d10 := f10 (hD 10 (by kernel_rfl))
          subst d10
          refine Kept.mk ?_
          simp only [Act.put, pA, pZ, pS]
          go_simp
          refine hK.out _ _ ?_
          exact ⟨sl20, sl21, sl22, (.bool false), sl24, (.int .i64 d.fCap), sl26, sl27, sl28, sl29, (.int .i64 v), (.bool b2), sl32, by kernel_rfl, hB, nf f0, nf f1, nf f2, nf f3, nf f4, nf f5, nf f6, nf f7, nf f8, nf f9, nf f10, fun _ => rfl, nf f12⟩
        refine InvFrom.cons (fun L a W hI hN hD K hK => ?_) ?_
        · obtain ⟨sl20, sl21, sl22, sl23, sl24, sl25, sl26, sl27, sl28, sl29, sl30, sl31, sl32, ha, hB, f0, f1, f2, f3, f4, f5, f6, f7, f8, f9, f10, f11, f12⟩ := hI
          subst ha
          have hz := hB.size
          have d3 := f3 (hD 3 (by kernel_rfl))
          subst d3
          have d11 := f11 (hD 11 (by kernel_rfl))
          subst d11
          refine Kept.mk ?_
          simp only [Act.put, pA, pZ, pS]
          go_simp
          refine hK.out _ _ ?_
          exact ⟨sl20, sl21, sl22, (.bool false), sl24, sl25, sl26, sl27, sl28, sl29, sl30, (.bool b2), (.bool b2), by kernel_rfl, hB, nf f0, nf f1, nf f2, nf f3, nf f4, nf f5, nf f6, nf f7, nf f8, nf f9, nf f10, nf f11, fun _ => rfl⟩
        exact InvFrom.nil
      intro L a w9 hL hI
      obtain ⟨sl20, sl21, sl22, sl23, sl24, sl25, sl26, sl27, sl28, sl29, sl30, sl31, sl32, ha, hbw9, hI⟩ := hI
      subst ha
      have hfin := hI.2.2.2.2.2.2.2.2.2.2.2.2 (hL 12 (by decide))
      subst hfin
      clear hL hI
      refine Kept.mk ?_
      simp only [Act.put, pA, pZ, pS]
      cases b2
      rotate_left
      · have HB9 := Lib.hid (HBW.out.trans (hbw9.mono (by have := HBW.out.size; omega)))
        clear hbw9
        go_wp2_with fail
        go_ret
        exact ⟨by rw [chans_no (by rw [HL.out]; exact hlt) HCE.out]; rfl, HB9.out⟩
      · have HB9 := Lib.hid (HBA.out.trans (hbw9.mono (by omega)))
        clear hbw9
        go_wp2_with fail
        go_roundw
        case rel => exact ⟨k + 1, by omega, by go_num, Lib.hid (allTo_step HA.out HDK.out HCE.out), HB9.out⟩
        case measure => simp [intOf]; omega
    · obtain rfl : k = n := by omega
      have HB9 := Lib.hid (HB0.out.trans (hbr.mono (by omega)))
      clear hbr
      go_wp2_with fail
      go_ret
      exact ⟨by rw [chans_yes (by rw [HL.out, HL0.out]; exact HLEN.out) (by rw [HL.out]; exact HA.out)]; rfl, HB9.out⟩

set_option maxRecDepth 100000 in
set_option maxHeartbeats 8000000 in
theorem musOk_any {w : World} {hi n c t : Nat} {p : DProg} {vs : List Value} {A : Option Addr} {ms : List DMutex} (hp : layProg.see w hi p vs) (hs : SeenR layMutex w hi A n ms) (hhi : hi ≤ w.heap.size) (hnp : szProg p ≤ 1048576) (hn : n + (ms.map szMutex).sum ≤ 1048576) :
    Calls Tryz.prog 101 #[.agg vs.toArray, .slice A n c, .int .i64 (t : Int)] w fun e w' => e = .returned (.bool (musB p t ms)) ∧ Below w.heap.size w w' := by
  have HL := Lib.hid hs.1
  have HS := Lib.hid (fun (W : World) (hW : Below w.heap.size w W) => hs.below hW hhi)
  obtain ⟨A0, n0, c0, B2, m2, d2, A3, n3, c3, rfl, -⟩ := seeProg hp
  clear hp hs
  have hB0 : Below w.heap.size w (w.alloc (.cells #[.slice A0 n0 c0, .int .i64 p.fMus, .slice B2 m2 d2, .slice A3 n3 c3] 38)) := (Below.refl _ _).alloc (Nat.le_refl _) _
  have hP0 := box_new w #[.slice A0 n0 c0, .int .i64 p.fMus, .slice B2 m2 d2, .slice A3 n3 c3] 38
  have hz0 : (w.alloc (.cells #[.slice A0 n0 c0, .int .i64 p.fMus, .slice B2 m2 d2, .slice A3 n3 c3] 38)).heap.size = w.heap.size + 1 := by simp
  go_enter Tryz.func101, Tryz.ntmps101
  go_upto_region 1 with (fail)
  generalize (w.alloc (.cells #[.slice A0 n0 c0, .int .i64 p.fMus, .slice B2 m2 d2, .slice A3 n3 c3] 38)) = W0 at *
  have HP0 := Lib.hid hP0
  have HB0 := Lib.hid hB0
  have p1 := box_cell (j := 1) hP0 rfl
  clear hP0 hB0
  by_cases hlen : (n : Int) = p.fMus
  rotate_left
  · have HR := Lib.hid (show musB p t ms = false by unfold musB; rw [decide_eq_false (by rw [HL.out]; exact hlen), Bool.false_and])
    have q1 : ((n : Int) != p.fMus) = true := by simp [hlen]
    clear hlen
    go_wp2_with fail
    go_ret
    exact ⟨by rw [HR.out]; rfl, HB0.out⟩
  have q1 : ((n : Int) != p.fMus) = false := by simp [hlen]
  have HLEN := Lib.hid hlen
  clear hlen
  go_wp2_with fail
  clear q1 p1
  go_loopw [16] (fun i wr => ∃ k : Nat, k ≤ n ∧ i = .int .i64 k ∧ Hid (allTo (fun _ m => musE t m) ms k) ∧ Below (w.heap.size + 1) W0 wr) (fun i _ => n - (intOf i).toNat)
  case atStart => exact ⟨0, Nat.zero_le _, rfl, Lib.hid (fun j x hj => by omega), by rw [← hz0]; exact Below.refl _ _⟩
  case round =>
    obtain ⟨k, hk, rfl, HA, hbr⟩ := hrel
    have hzr := hbr.size
    by_cases hlt : k < n
    · have hbw := HB0.out.trans (hbr.mono (by omega))
      obtain ⟨hx, g, o, ws, rfl, hg, hsee, hcell⟩ := (HS.out wr hbw).at_ hlt
      have HDK := Lib.hid (List.getElem?_eq_getElem hx)
      have hsz : szMutex ms[k] ≤ 1048576 := Nat.le_trans (sum_mem_le szMutex (List.getElem_mem hx)) (by omega)
      generalize ms[k] = d at *
      have HSE := Lib.hid (fun (W : World) (hW : Below wr.heap.size wr W) => layMutex.keep hsee (w' := W) fun k hk => hW.block k (by omega))
      obtain ⟨E1, k1, v1, rfl, -⟩ := seeMutex hsee
      have cc0 := hcell 0 _ rfl
      have cc1 := hcell 1 _ rfl
      simp only [show layMutex.size = 2 from rfl, ← Nat.add_assoc, Nat.add_zero, Nat.mul_one] at cc0 cc1
      have hbA : Below wr.heap.size wr (wr.alloc (.cells #[.int .i64 d.fOwner, .slice E1 k1 v1] 91)) := (Below.refl _ _).alloc (Nat.le_refl _) _
      have hGA := box_new wr #[.int .i64 d.fOwner, .slice E1 k1 v1] 91
      have hzA : (wr.alloc (.cells #[.int .i64 d.fOwner, .slice E1 k1 v1] 91)).heap.size = wr.heap.size + 1 := by simp
      go_upto_region 6 with (fail)
      generalize (wr.alloc (.cells #[.int .i64 d.fOwner, .slice E1 k1 v1] 91)) = WA at *
      clear cc0 cc1 hcell hsee
      have HOK := Lib.hid (implMutexOk_any (HSE.out WA hbA) (by have := hbw.size; omega) hsz)
      have HCE := Lib.hid (show musE t d = (mutOkB d && decide (d.fOwner < (t : Int))) from rfl)
      have HBA := Lib.hid (hbr.trans (hbA.mono (by omega)))
      have HBW := Lib.hid (hbw.trans (hbA.mono (by have := hbw.size; omega)))
      have g0 := box_cell (j := 0) hGA rfl
      have g1 := box_cell (j := 1) hGA rfl
      clear hbA hbr hbw HSE
      generalize mutOkB d = b1 at *
      go_wp2_with fail
      refine HOK.out.mono ?_
      rintro e w9 ⟨rfl, hb9⟩
      have hG9 := box_keep hGA hb9 (by omega)
      have HB9 := Lib.hid (HBW.out.trans (hb9.mono (by have := HBW.out.size; omega)))
      have HC9 := Lib.hid (HBA.out.trans (hb9.mono (by omega)))
      clear g0 g1 hb9 hGA
      cases b1
      · replace HCE : Hid (musE t d = false) := Lib.hid (by rw [HCE.out]; rfl)
        go_wp2_with fail
        go_ret
        exact ⟨by rw [mus_no HDK.out HCE.out]; rfl, HB9.out⟩
      have g0 := box_cell (j := 0) hG9 rfl
      by_cases ho : d.fOwner < (t : Int)
      · replace HCE : Hid (musE t d = true) := Lib.hid (by rw [HCE.out, decide_eq_true ho]; rfl)
        have qo : decide (d.fOwner ≥ (t : Int)) = false := decide_eq_false (by omega)
        clear ho
        go_wp2_with fail
        go_roundw
        case rel => exact ⟨k + 1, by omega, by go_num, Lib.hid (allTo_step HA.out HDK.out HCE.out), HC9.out⟩
        case measure => simp [intOf]; omega
      · replace HCE : Hid (musE t d = false) := Lib.hid (by rw [HCE.out, decide_eq_false ho]; rfl)
        have qo : decide (d.fOwner ≥ (t : Int)) = true := decide_eq_true (by omega)
        clear ho
        go_wp2_with fail
        go_ret
        exact ⟨by rw [mus_no HDK.out HCE.out]; rfl, HB9.out⟩
    · obtain rfl : k = n := by omega
      have HB9 := Lib.hid (HB0.out.trans (hbr.mono (by omega)))
      clear hbr
      go_wp2_with fail
      go_ret
      exact ⟨by rw [mus_yes (by rw [HL.out]; exact HLEN.out) (by rw [HL.out]; exact HA.out)]; rfl, HB9.out⟩
theorem gors_each {p : DProg} {gs : List DGor} (h : gorsB p gs = true) : ∀ g ∈ gs, gorB (instrsZ p g.fProc) g = true := by
  unfold gorsB at h
  rw [Bool.and_eq_true, List.all_eq_true] at h
  intro g hg
  have := h.2 g hg
  unfold gorE at this
  rw [Bool.and_eq_true] at this
  exact this.1

set_option maxRecDepth 100000 in
set_option maxHeartbeats 8000000 in
theorem implEngOk_any {w : World} {hi : Nat} {p : DProg} {x : DEng} {vs us : List Value} (hp : layProg.see w hi p vs) (he : layEng.see w hi x us) (hhi : hi ≤ w.heap.size) (hOC : OpCells w) (hIC : ItemCells w) (hnp : szProg p ≤ 1048576) (hne : szEng x ≤ 1048576) :
    Calls Tryz.prog 64 #[.agg vs.toArray, .agg us.toArray] w fun e w' => e = .returned (.bool (engB p x)) ∧ Below w.heap.size w w' := by
  have HP1 := Lib.hid (fun (W : World) (hW : Below w.heap.size w W) => implProgOk_any (layProg.keep hp (w' := W) fun k hk => hW.block k (by omega)) (Nat.le_trans hhi hW.size) (opCells_below hOC hW) hnp)
  have HW4 := Lib.hid (fun (hok : progOkB p = true) (hgs : gorsB p x.fGs = true) (W : World) (hW : Below w.heap.size w W) => waitsAsTold_any (layProg.keep hp (w' := W) fun k hk => hW.block k (by omega)) (layEng.keep he (w' := W) fun k hk => hW.block k (by omega)) (Nat.le_trans hhi hW.size) hnp hne hok (gors_each hgs))
  have HPS := Lib.hid (fun (W : World) (hW : Below w.heap.size w W) => layProg.keep hp (w' := W) fun k hk => hW.block k (by omega))
  obtain ⟨A4, n4, c4, A5, n5, c5, A6, n6, c6, rfl, ⟨-, -, s4⟩, ⟨-, -, s5⟩, ⟨-, -, s6⟩⟩ := seeEng he
  have L4 := s4.1
  have hz : n4 + (x.fGs.map szGor).sum + (n5 + (x.fChans.map szChan).sum) + (n6 + (x.fMus.map szMutex).sum) ≤ 1048576 := by have := s5.1; have := s6.1; unfold szEng at hne; omega
  have HG := Lib.hid (fun (hok : progOkB p = true) (W : World) (hW : Below w.heap.size w W) => gorsOk_any (c := c4) (HPS.out W hW) (s4.below hW hhi) (Nat.le_trans hhi hW.size) (itemCells_below hIC hW (Nat.le_refl _)) hnp (by omega) hok)
  have HC := Lib.hid (fun (W : World) (hW : Below w.heap.size w W) => chansOk_any (c := c5) (HPS.out W hW) (s5.below hW hhi) (Nat.le_trans hhi hW.size) hnp (by omega))
  have HM := Lib.hid (fun (W : World) (hW : Below w.heap.size w W) => musOk_any (c := c6) (t := n4) (HPS.out W hW) (s6.below hW hhi) (Nat.le_trans hhi hW.size) hnp (by omega))
  obtain ⟨A0, n0, c0, B2, m2, d2, A3, n3, c3, rfl, -⟩ := seeProg hp
  have HR := Lib.hid (show engB p x = (progOkB p && (gorsB p x.fGs && (chansB p x.fChans && (musB p n4 x.fMus && decide ((toldL p x).Perm (foundL x)))))) by unfold engB; rw [L4])
  clear hp he hOC hIC HPS s4 s5 s6 L4 hz hnp hne
  generalize progOkB p = b1 at *
  generalize gorsB p x.fGs = b2 at *
  generalize chansB p x.fChans = b3 at *
  generalize musB p n4 x.fMus = b4 at *
  generalize decide ((toldL p x).Perm (foundL x)) = b5 at *
  have hB0 : Below w.heap.size w ((w.alloc (.cells #[.slice A0 n0 c0, .int .i64 p.fMus, .slice B2 m2 d2, .slice A3 n3 c3] 38)).alloc (.cells #[.slice A4 n4 c4, .slice A5 n5 c5, .slice A6 n6 c6] 44)) := ((Below.refl _ _).alloc (Nat.le_refl _) _).alloc (by simp) _
  have hP0 := box_keep (box_new w #[.slice A0 n0 c0, .int .i64 p.fMus, .slice B2 m2 d2, .slice A3 n3 c3] 38) ((Below.refl _ _).alloc (Nat.le_refl _) (.cells #[.slice A4 n4 c4, .slice A5 n5 c5, .slice A6 n6 c6] 44)) (by simp)
  have hG0 := box_new (w.alloc (.cells #[.slice A0 n0 c0, .int .i64 p.fMus, .slice B2 m2 d2, .slice A3 n3 c3] 38)) #[.slice A4 n4 c4, .slice A5 n5 c5, .slice A6 n6 c6] 44
  rw [World.size_alloc] at hG0
  have hz0 : w.heap.size + 2 ≤ ((w.alloc (.cells #[.slice A0 n0 c0, .int .i64 p.fMus, .slice B2 m2 d2, .slice A3 n3 c3] 38)).alloc (.cells #[.slice A4 n4 c4, .slice A5 n5 c5, .slice A6 n6 c6] 44)).heap.size := by simp
  go_enter Tryz.func64, Tryz.ntmps64
  go_upto_region 1 with (fail)
  generalize ((w.alloc (.cells #[.slice A0 n0 c0, .int .i64 p.fMus, .slice B2 m2 d2, .slice A3 n3 c3] 38)).alloc (.cells #[.slice A4 n4 c4, .slice A5 n5 c5, .slice A6 n6 c6] 44)) = w0 at *
  have HB0 := Lib.hid hB0
  clear hB0
  have p0 := box_cell (j := 0) hP0 rfl
  have p1 := box_cell (j := 1) hP0 rfl
  have p2 := box_cell (j := 2) hP0 rfl
  have p3 := box_cell (j := 3) hP0 rfl
  have g0 := box_cell (j := 0) hG0 rfl
  have g1 := box_cell (j := 1) hG0 rfl
  have g2 := box_cell (j := 2) hG0 rfl
  go_wp2_with fail
  refine (HP1.out _ HB0.out).mono ?_
  rintro e w1 ⟨rfl, hb⟩
  clear p0 p1 p2 p3 g0 g1 g2
  have HB1 := Lib.hid (HB0.out.trans (hb.mono (by have := HB0.out.size; omega)))
  have hP1 := box_keep hP0 hb (by omega)
  have hG1 := box_keep hG0 hb (by omega)
  have hz1 : w.heap.size + 2 ≤ w1.heap.size := by have := hb.size; omega
  clear hb hP0 hG0
  cases b1
  · replace HR : Hid (engB p x = false) := Lib.hid (by rw [HR.out]; simp)
    go_wp2_with fail
    go_ret
    exact ⟨by rw [HR.out] <;> rfl, HB1.out⟩
  have p0 := box_cell (j := 0) hP1 rfl
  have p1 := box_cell (j := 1) hP1 rfl
  have p2 := box_cell (j := 2) hP1 rfl
  have p3 := box_cell (j := 3) hP1 rfl
  have g0 := box_cell (j := 0) hG1 rfl
  have g1 := box_cell (j := 1) hG1 rfl
  have g2 := box_cell (j := 2) hG1 rfl
  go_wp2_with fail
  refine (HG.out (by simp) _ HB1.out).mono ?_
  rintro e w2 ⟨rfl, hb⟩
  clear p0 p1 p2 p3 g0 g1 g2
  have HB2 := Lib.hid (HB1.out.trans (hb.mono (by have := HB1.out.size; omega)))
  have hP2 := box_keep hP1 hb (by omega)
  have hG2 := box_keep hG1 hb (by omega)
  have hz2 : w.heap.size + 2 ≤ w2.heap.size := by have := hb.size; omega
  clear hb hP1 hG1
  cases b2
  · replace HR : Hid (engB p x = false) := Lib.hid (by rw [HR.out]; simp)
    go_wp2_with fail
    go_ret
    exact ⟨by rw [HR.out] <;> rfl, HB2.out⟩
  have p0 := box_cell (j := 0) hP2 rfl
  have p1 := box_cell (j := 1) hP2 rfl
  have p2 := box_cell (j := 2) hP2 rfl
  have p3 := box_cell (j := 3) hP2 rfl
  have g0 := box_cell (j := 0) hG2 rfl
  have g1 := box_cell (j := 1) hG2 rfl
  have g2 := box_cell (j := 2) hG2 rfl
  go_wp2_with fail
  refine (HC.out _ HB2.out).mono ?_
  rintro e w3 ⟨rfl, hb⟩
  clear p0 p1 p2 p3 g0 g1 g2
  have HB3 := Lib.hid (HB2.out.trans (hb.mono (by have := HB2.out.size; omega)))
  have hP3 := box_keep hP2 hb (by omega)
  have hG3 := box_keep hG2 hb (by omega)
  have hz3 : w.heap.size + 2 ≤ w3.heap.size := by have := hb.size; omega
  clear hb hP2 hG2
  cases b3
  · replace HR : Hid (engB p x = false) := Lib.hid (by rw [HR.out]; simp)
    go_wp2_with fail
    go_ret
    exact ⟨by rw [HR.out] <;> rfl, HB3.out⟩
  have p0 := box_cell (j := 0) hP3 rfl
  have p1 := box_cell (j := 1) hP3 rfl
  have p2 := box_cell (j := 2) hP3 rfl
  have p3 := box_cell (j := 3) hP3 rfl
  have g0 := box_cell (j := 0) hG3 rfl
  have g1 := box_cell (j := 1) hG3 rfl
  have g2 := box_cell (j := 2) hG3 rfl
  go_wp2_with fail
  refine (HM.out _ HB3.out).mono ?_
  rintro e w4 ⟨rfl, hb⟩
  clear p0 p1 p2 p3 g0 g1 g2
  have HB4 := Lib.hid (HB3.out.trans (hb.mono (by have := HB3.out.size; omega)))
  have hP4 := box_keep hP3 hb (by omega)
  have hG4 := box_keep hG3 hb (by omega)
  have hz4 : w.heap.size + 2 ≤ w4.heap.size := by have := hb.size; omega
  clear hb hP3 hG3
  cases b4
  · replace HR : Hid (engB p x = false) := Lib.hid (by rw [HR.out]; simp)
    go_wp2_with fail
    go_ret
    exact ⟨by rw [HR.out] <;> rfl, HB4.out⟩
  have p0 := box_cell (j := 0) hP4 rfl
  have p1 := box_cell (j := 1) hP4 rfl
  have p2 := box_cell (j := 2) hP4 rfl
  have p3 := box_cell (j := 3) hP4 rfl
  have g0 := box_cell (j := 0) hG4 rfl
  have g1 := box_cell (j := 1) hG4 rfl
  have g2 := box_cell (j := 2) hG4 rfl
  go_wp2_with fail
  refine (HW4.out (by simp) (by simp) _ HB4.out).mono ?_
  rintro e w5 ⟨rfl, hb⟩
  clear p0 p1 p2 p3 g0 g1 g2
  have HB5 := Lib.hid (HB4.out.trans (hb.mono (by have := HB4.out.size; omega)))
  replace HR : Hid (engB p x = b5) := Lib.hid (by rw [HR.out]; simp)
  go_wp2_with fail
  go_ret
  exact ⟨by rw [HR.out] <;> rfl, HB5.out⟩
end Go.Proofs.YtghkdkagnibkgaaGreatDoor
