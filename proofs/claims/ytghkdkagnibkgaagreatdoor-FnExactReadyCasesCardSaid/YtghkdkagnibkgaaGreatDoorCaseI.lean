
/- The program's cases that are ready. Laid by wip/gen11/caseI.py. -/

import Derived.Test.YtghkdkagnibkgaaGreatDoorGCas

import Derived.Test.YtghkdkagnibkgaaGreatDoorChanCanI

import Derived.Deep.Cut

import Derived.Laws.EntriesVeiled

namespace Go.Proofs.YtghkdkagnibkgaaGreatDoor
set_option linter.unusedSimpArgs false
set_option linter.unusedVariables false
open Go.RowKit

theorem isPl_any (v : Int) (c : Nat) (w : World) : Calls Tryz.prog 65 #[.int .i64 v, .int .i64 (c : Int)] w fun e w' => e = .returned (.bool (decide (0 ≤ v ∧ v < c))) ∧ w = w' := by
  by_cases h0 : 0 ≤ v
  · by_cases h1 : v < c
    · rw [decide_eq_true ⟨h0, h1⟩]
      go_enter Tryz.func65, Tryz.ntmps65
      go_wp2
      go_ret
      exact ⟨rfl, rfl⟩
    · rw [decide_eq_false (fun h => h1 h.2)]
      have h2 : decide (v < c) = false := decide_eq_false h1
      clear h1
      go_enter Tryz.func65, Tryz.ntmps65
      go_wp2
      go_ret
      exact ⟨rfl, rfl⟩
  · rw [decide_eq_false (fun h => h0 h.1)]
    have h2 : decide (0 ≤ v) = false := decide_eq_false h0
    clear h0
    go_enter Tryz.func65, Tryz.ntmps65
    go_wp2
    go_ret
    exact ⟨rfl, rfl⟩


set_option maxRecDepth 100000 in
set_option maxHeartbeats 4000000 in
theorem ofCase1_any {w : World} {hi : Nat} {x : DEng} {vs : List Value} (h : layEng.see w hi x vs) (hhi : hi ≤ w.heap.size) {b1 b2 : Nat} {snd : Bool} {ch rg ok to : Int} (h1 : w.heap[b1]? = some (.cells #[.bool snd, .int .i64 ch, .int .i64 rg, .int .i64 ok, .int .i64 to] 89 (0, 0))) (h2 : w.heap[b2]? = some (.cells #[(.func (.func (if snd then 104 else 103)) #[] #[])] 138 (0, 0))) :
    Calls Tryz.prog 105 #[.agg vs.toArray, .pointer (some ⟨b1, 0, none⟩), .pointer (some ⟨b2, 0, none⟩)] w fun e w' => e = .returned (.bool (canB x ⟨snd, ch, rg, ok, to⟩)) ∧ Below w.heap.size w w' := by
  have hl1 := lt_of_block h1
  have hl2 := lt_of_block h2
  obtain ⟨A0, n0, c0, A1, n1, c1, A2, n2, c2, rfl, -, ⟨hc1, hm1, s1⟩, -⟩ := seeEng h
  have hE0 := box_new w #[.slice A0 n0 c0, .slice A1 n1 c1, .slice A2 n2 c2] 44
  have hB0 : Below w.heap.size w (w.alloc (.cells #[.slice A0 n0 c0, .slice A1 n1 c1, .slice A2 n2 c2] 44)) := (Below.refl _ _).alloc (Nat.le_refl _) _
  have hz0 : w.heap.size + 1 ≤ (w.alloc (.cells #[.slice A0 n0 c0, .slice A1 n1 c1, .slice A2 n2 c2] 44)).heap.size := by simp only [World.size_alloc]; omega
  have HX1 := Lib.hid (box_keep h1 hB0 hl1)
  have HX2 := Lib.hid (box_keep h2 hB0 hl2)
  have HE0 := Lib.hid hE0
  have HB0 := Lib.hid hB0
  have HS := Lib.hid s1
  have hL := s1.1
  clear h h1 h2 hE0 hB0 s1
  have hIP := fun W => isPl_any ch n1 W
  by_cases hin : 0 ≤ ch ∧ ch < (n1 : Int)
  · obtain ⟨q, rfl⟩ := Int.eq_ofNat_of_zero_le hin.1
    have hq : q < n1 := by have := hin.2; omega
    simp only [decide_eq_true hin] at hIP
    obtain ⟨hx, g, o, us, rfl, hg, hsee, hcell⟩ := HS.out.at_ hq
    have HR := canB_in (x := ⟨snd, (q : Int), rg, ok, to⟩) rfl (List.getElem?_eq_getElem hx)
    rw [HR]
    clear HR HS
    generalize x.fChans[q] = c at *
    have HCS := Lib.hid (fun (W : World) (hW : Below w.heap.size w W) => implCanSend_any (layChan.keep hsee fun k hk => hW.block k (by omega)) (Nat.le_trans hhi hW.size))
    have HCR := Lib.hid (fun (W : World) (hW : Below w.heap.size w W) => implCanRecv_any (layChan.keep hsee fun k hk => hW.block k (by omega)) (Nat.le_trans hhi hW.size))
    obtain ⟨E1, k1, e1, E2, k2, e2, E3, k3, e3, rfl, -⟩ := seeChan hsee
    have cc0 := hcell 0 _ rfl
    have cc1 := hcell 1 _ rfl
    have cc2 := hcell 2 _ rfl
    have cc3 := hcell 3 _ rfl
    have cc4 := hcell 4 _ rfl
    simp only [show layChan.size = 5 from rfl, ← Nat.add_assoc, Nat.add_zero, Nat.mul_one] at cc0 cc1 cc2 cc3 cc4
    have HCC0 := Lib.hid cc0
    have HCC1 := Lib.hid cc1
    have HCC2 := Lib.hid cc2
    have HCC3 := Lib.hid cc3
    have HCC4 := Lib.hid cc4
    have hi0 : (0 : Int) ≤ (q : Int) := by omega
    have hi1 : (q : Int) < (n1 : Int) := by omega
    clear cc0 cc1 cc2 cc3 cc4 hcell hsee hin
    have HEN := Lib.hid (show Enters (if snd then 104 else 103) from by cases snd; exact fenters_of' Tryz.func103 (by kernel_rfl) (by kernel_rfl); exact fenters_of' Tryz.func104 (by kernel_rfl) (by kernel_rfl))
    have HC := Lib.hid (fun (W : World) (hW : Below w.heap.size w W) => show Calls Tryz.prog (if snd then 104 else 103) #[.agg #[.int .i64 c.fCap, .slice E1 k1 e1, .slice E2 k2 e2, .slice E3 k3 e3, .bool c.fClosed]] W fun e W' => e = .returned (.bool (if snd then canSendB c else canRecvB c)) ∧ Below W.heap.size W W' from by cases snd; exact HCR.out W hW; exact HCS.out W hW)
    clear HCS HCR
    generalize (if snd = true then canSendB c else canRecvB c) = rb at *
    generalize (if snd = true then 104 else 103) = fv at *
    go_enter Tryz.func105, Tryz.ntmps105
    go_upto_region 1 with (fail)
    generalize (w.alloc (.cells #[.slice A0 n0 c0, .slice (some ⟨g, o, none⟩) n1 c1, .slice A2 n2 c2] 44)) = W0 at *
    refine wp_region_inv (fun AC0 L a W => ∃ sl5 sl6 sl7 sl8 sl9 sl10 sl11 sl12 sl13 sl14 sl15 sl16 sl17 sl18 sl19 sl20 sl4 : Value, a = (((((((((((((((((AC0.put (some 5) sl5).put (some 6) sl6).put (some 7) sl7).put (some 8) sl8).put (some 9) sl9).put (some 10) sl10).put (some 11) sl11).put (some 12) sl12).put (some 13) sl13).put (some 14) sl14).put (some 15) sl15).put (some 16) sl16).put (some 17) sl17).put (some 18) sl18).put (some 19) sl19).put (some 20) sl20).put (some 4) sl4) ∧ Below W0.heap.size W0 W ∧ ((L 0 → sl5 = (.pointer (some ⟨b1, 1, none⟩))) ∧ (L 1 → sl6 = (.int .i64 (q : Int))) ∧ (L 2 → sl7 = (.pointer (some ⟨w.heap.size, 1, none⟩))) ∧ (L 3 → sl8 = (.slice (some ⟨g, o, none⟩) n1 c1)) ∧ (L 4 → sl9 = (.int .i64 (n1 : Int))) ∧ (L 5 → sl10 = (.bool true)) ∧ (L 6 → sl11 = (.bool true)) ∧ (L 7 → sl12 = (.func (.func fv) #[] #[])) ∧ (L 8 → sl13 = (.pointer (some ⟨w.heap.size, 1, none⟩))) ∧ (L 9 → sl14 = (.slice (some ⟨g, o, none⟩) n1 c1)) ∧ (L 10 → sl15 = (.pointer (some ⟨b1, 1, none⟩))) ∧ (L 11 → sl16 = (.int .i64 (q : Int))) ∧ (L 12 → sl17 = (.pointer (some ⟨g, o + q * 5, none⟩))) ∧ (L 13 → sl18 = (.agg #[.int .i64 c.fCap, .slice E1 k1 e1, .slice E2 k2 e2, .slice E3 k3 e3, .bool c.fClosed])) ∧ (L 14 → sl19 = (.bool rb)) ∧ (L 15 → sl20 = (.bool rb)) ∧ (L 16 → sl4 = (.bool rb)))) (by kernel_rfl) (by kernel_rfl) ?_ ?_ ?_
    · exact ⟨undef, undef, undef, undef, undef, undef, undef, undef, undef, undef, undef, undef, undef, undef, undef, undef, (.bool false), by kernel_rfl, Below.drew (Below.refl _ _), fun h => absurd h id, fun h => absurd h id, fun h => absurd h id, fun h => absurd h id, fun h => absurd h id, fun h => absurd h id, fun h => absurd h id, fun h => absurd h id, fun h => absurd h id, fun h => absurd h id, fun h => absurd h id, fun h => absurd h id, fun h => absurd h id, fun h => absurd h id, fun h => absurd h id, fun h => absurd h id, fun h => absurd h id⟩
    · intro Q9; refine InvFrom.cons (fun L a W hI hN hD K hK => ?_) ?_
      · obtain ⟨sl5, sl6, sl7, sl8, sl9, sl10, sl11, sl12, sl13, sl14, sl15, sl16, sl17, sl18, sl19, sl20, sl4, ha, hB, f0, f1, f2, f3, f4, f5, f6, f7, f8, f9, f10, f11, f12, f13, f14, f15, f16⟩ := hI
        subst ha
        have hz := hB.size
        refine Kept.mk ?_
        simp only [Act.put, pA, pZ, pS]
        go_simp
        refine hK.out _ _ ?_
        exact ⟨(.pointer (some ⟨b1, 1, none⟩)), sl6, sl7, sl8, sl9, sl10, sl11, sl12, sl13, sl14, sl15, sl16, sl17, sl18, sl19, sl20, sl4, by kernel_rfl, hB, fun _ => rfl, nf f1, nf f2, nf f3, nf f4, nf f5, nf f6, nf f7, nf f8, nf f9, nf f10, nf f11, nf f12, nf f13, nf f14, nf f15, nf f16⟩
      refine InvFrom.cons (fun L a W hI hN hD K hK => ?_) ?_
      · obtain ⟨sl5, sl6, sl7, sl8, sl9, sl10, sl11, sl12, sl13, sl14, sl15, sl16, sl17, sl18, sl19, sl20, sl4, ha, hB, f0, f1, f2, f3, f4, f5, f6, f7, f8, f9, f10, f11, f12, f13, f14, f15, f16⟩ := hI
        subst ha
        have hz := hB.size
        have d0 := f0 (hD 0 (by kernel_rfl))
        subst d0
        have px1 := box_cell (j := 1) (box_keep HX1.out hB (by omega)) rfl
        refine Kept.mk ?_
        simp only [Act.put, pA, pZ, pS]
        go_simp
        refine hK.out _ _ ?_
        exact ⟨(.pointer (some ⟨b1, 1, none⟩)), (.int .i64 (q : Int)), sl7, sl8, sl9, sl10, sl11, sl12, sl13, sl14, sl15, sl16, sl17, sl18, sl19, sl20, sl4, by kernel_rfl, hB, nf f0, fun _ => rfl, nf f2, nf f3, nf f4, nf f5, nf f6, nf f7, nf f8, nf f9, nf f10, nf f11, nf f12, nf f13, nf f14, nf f15, nf f16⟩
      refine InvFrom.cons (fun L a W hI hN hD K hK => ?_) ?_
      · obtain ⟨sl5, sl6, sl7, sl8, sl9, sl10, sl11, sl12, sl13, sl14, sl15, sl16, sl17, sl18, sl19, sl20, sl4, ha, hB, f0, f1, f2, f3, f4, f5, f6, f7, f8, f9, f10, f11, f12, f13, f14, f15, f16⟩ := hI
        subst ha
        have hz := hB.size
        refine Kept.mk ?_
        simp only [Act.put, pA, pZ, pS]
        go_simp
        refine hK.out _ _ ?_
        exact ⟨sl5, sl6, (.pointer (some ⟨w.heap.size, 1, none⟩)), sl8, sl9, sl10, sl11, sl12, sl13, sl14, sl15, sl16, sl17, sl18, sl19, sl20, sl4, by kernel_rfl, hB, nf f0, nf f1, fun _ => rfl, nf f3, nf f4, nf f5, nf f6, nf f7, nf f8, nf f9, nf f10, nf f11, nf f12, nf f13, nf f14, nf f15, nf f16⟩
      refine InvFrom.cons (fun L a W hI hN hD K hK => ?_) ?_
      · obtain ⟨sl5, sl6, sl7, sl8, sl9, sl10, sl11, sl12, sl13, sl14, sl15, sl16, sl17, sl18, sl19, sl20, sl4, ha, hB, f0, f1, f2, f3, f4, f5, f6, f7, f8, f9, f10, f11, f12, f13, f14, f15, f16⟩ := hI
        subst ha
        have hz := hB.size
        have d2 := f2 (hD 2 (by kernel_rfl))
        subst d2
        have pe1 := box_cell (j := 1) (box_keep HE0.out hB (by omega)) rfl
        refine Kept.mk ?_
        simp only [Act.put, pA, pZ, pS]
        go_simp
        refine hK.out _ _ ?_
        exact ⟨sl5, sl6, (.pointer (some ⟨w.heap.size, 1, none⟩)), (.slice (some ⟨g, o, none⟩) n1 c1), sl9, sl10, sl11, sl12, sl13, sl14, sl15, sl16, sl17, sl18, sl19, sl20, sl4, by kernel_rfl, hB, nf f0, nf f1, nf f2, fun _ => rfl, nf f4, nf f5, nf f6, nf f7, nf f8, nf f9, nf f10, nf f11, nf f12, nf f13, nf f14, nf f15, nf f16⟩
      refine InvFrom.cons (fun L a W hI hN hD K hK => ?_) ?_
      · obtain ⟨sl5, sl6, sl7, sl8, sl9, sl10, sl11, sl12, sl13, sl14, sl15, sl16, sl17, sl18, sl19, sl20, sl4, ha, hB, f0, f1, f2, f3, f4, f5, f6, f7, f8, f9, f10, f11, f12, f13, f14, f15, f16⟩ := hI
        subst ha
        have hz := hB.size
        have d3 := f3 (hD 3 (by kernel_rfl))
        subst d3
        refine Kept.mk ?_
        simp only [Act.put, pA, pZ, pS]
        go_simp
        refine hK.out _ _ ?_
        exact ⟨sl5, sl6, sl7, (.slice (some ⟨g, o, none⟩) n1 c1), (.int .i64 (n1 : Int)), sl10, sl11, sl12, sl13, sl14, sl15, sl16, sl17, sl18, sl19, sl20, sl4, by kernel_rfl, hB, nf f0, nf f1, nf f2, nf f3, fun _ => rfl, nf f5, nf f6, nf f7, nf f8, nf f9, nf f10, nf f11, nf f12, nf f13, nf f14, nf f15, nf f16⟩
      refine InvFrom.cons (fun L a W hI hN hD K hK => ?_) ?_
      · obtain ⟨sl5, sl6, sl7, sl8, sl9, sl10, sl11, sl12, sl13, sl14, sl15, sl16, sl17, sl18, sl19, sl20, sl4, ha, hB, f0, f1, f2, f3, f4, f5, f6, f7, f8, f9, f10, f11, f12, f13, f14, f15, f16⟩ := hI
        subst ha
        have hz := hB.size
        have d1 := f1 (hD 1 (by kernel_rfl))
        subst d1
        have d4 := f4 (hD 4 (by kernel_rfl))
        subst d4
        refine kept_c2 rfl 65 _ _ _ rfl (fenters_of' Tryz.func65 (by kernel_rfl) (by kernel_rfl)) (.int .i64 (q : Int)) (.int .i64 (n1 : Int)) (by kernel_rfl) (by kernel_rfl) (hIP W) ?_
        rintro e W1 ⟨rfl, rfl⟩
        refine ⟨_, rfl, hK.out _ _ ?_⟩
        exact ⟨sl5, (.int .i64 (q : Int)), sl7, sl8, (.int .i64 (n1 : Int)), (.bool true), sl11, sl12, sl13, sl14, sl15, sl16, sl17, sl18, sl19, sl20, sl4, by kernel_rfl, hB.trans ((Below.refl _ _).mono hz), nf f0, nf f1, nf f2, nf f3, nf f4, fun _ => rfl, nf f6, nf f7, nf f8, nf f9, nf f10, nf f11, nf f12, nf f13, nf f14, nf f15, nf f16⟩
      refine InvFrom.cons (fun L a W hI hN hD K hK => ?_) ?_
      · obtain ⟨sl5, sl6, sl7, sl8, sl9, sl10, sl11, sl12, sl13, sl14, sl15, sl16, sl17, sl18, sl19, sl20, sl4, ha, hB, f0, f1, f2, f3, f4, f5, f6, f7, f8, f9, f10, f11, f12, f13, f14, f15, f16⟩ := hI
        subst ha
        have hz := hB.size
        have d5 := f5 (hD 5 (by kernel_rfl))
        subst d5
        refine Kept.mk ?_
        simp only [Act.put, pA, pZ, pS]
        go_simp
        refine hK.out _ _ ?_
        exact ⟨sl5, sl6, sl7, sl8, sl9, (.bool true), (.bool true), sl12, sl13, sl14, sl15, sl16, sl17, sl18, sl19, sl20, sl4, by kernel_rfl, hB, nf f0, nf f1, nf f2, nf f3, nf f4, nf f5, fun _ => rfl, nf f7, nf f8, nf f9, nf f10, nf f11, nf f12, nf f13, nf f14, nf f15, nf f16⟩
      refine InvFrom.cons (fun L a W hI hN hD K hK => ?_) ?_
      · obtain ⟨sl5, sl6, sl7, sl8, sl9, sl10, sl11, sl12, sl13, sl14, sl15, sl16, sl17, sl18, sl19, sl20, sl4, ha, hB, f0, f1, f2, f3, f4, f5, f6, f7, f8, f9, f10, f11, f12, f13, f14, f15, f16⟩ := hI
        subst ha
        have hz := hB.size
        have d6 := f6 (hD 6 (by kernel_rfl))
        subst d6
        have pf0 := box_cell (j := 0) (box_keep HX2.out hB (by omega)) rfl
        refine Kept.mk ?_
        simp only [Act.put, pA, pZ, pS]
        go_simp
        refine hK.out _ _ ?_
        exact ⟨sl5, sl6, sl7, sl8, sl9, sl10, (.bool true), (.func (.func fv) #[] #[]), sl13, sl14, sl15, sl16, sl17, sl18, sl19, sl20, sl4, by kernel_rfl, hB, nf f0, nf f1, nf f2, nf f3, nf f4, nf f5, nf f6, fun _ => rfl, nf f8, nf f9, nf f10, nf f11, nf f12, nf f13, nf f14, nf f15, nf f16⟩
      refine InvFrom.cons (fun L a W hI hN hD K hK => ?_) ?_
      · obtain ⟨sl5, sl6, sl7, sl8, sl9, sl10, sl11, sl12, sl13, sl14, sl15, sl16, sl17, sl18, sl19, sl20, sl4, ha, hB, f0, f1, f2, f3, f4, f5, f6, f7, f8, f9, f10, f11, f12, f13, f14, f15, f16⟩ := hI
        subst ha
        have hz := hB.size
        have d6 := f6 (hD 6 (by kernel_rfl))
        subst d6
        refine Kept.mk ?_
        simp only [Act.put, pA, pZ, pS]
        go_simp
        refine hK.out _ _ ?_
        exact ⟨sl5, sl6, sl7, sl8, sl9, sl10, (.bool true), sl12, (.pointer (some ⟨w.heap.size, 1, none⟩)), sl14, sl15, sl16, sl17, sl18, sl19, sl20, sl4, by kernel_rfl, hB, nf f0, nf f1, nf f2, nf f3, nf f4, nf f5, nf f6, nf f7, fun _ => rfl, nf f9, nf f10, nf f11, nf f12, nf f13, nf f14, nf f15, nf f16⟩
      refine InvFrom.cons (fun L a W hI hN hD K hK => ?_) ?_
      · obtain ⟨sl5, sl6, sl7, sl8, sl9, sl10, sl11, sl12, sl13, sl14, sl15, sl16, sl17, sl18, sl19, sl20, sl4, ha, hB, f0, f1, f2, f3, f4, f5, f6, f7, f8, f9, f10, f11, f12, f13, f14, f15, f16⟩ := hI
        subst ha
        have hz := hB.size
        have d6 := f6 (hD 6 (by kernel_rfl))
        subst d6
        have d8 := f8 (hD 8 (by kernel_rfl))
        subst d8
        have pe1 := box_cell (j := 1) (box_keep HE0.out hB (by omega)) rfl
        refine Kept.mk ?_
        simp only [Act.put, pA, pZ, pS]
        go_simp
        refine hK.out _ _ ?_
        exact ⟨sl5, sl6, sl7, sl8, sl9, sl10, (.bool true), sl12, (.pointer (some ⟨w.heap.size, 1, none⟩)), (.slice (some ⟨g, o, none⟩) n1 c1), sl15, sl16, sl17, sl18, sl19, sl20, sl4, by kernel_rfl, hB, nf f0, nf f1, nf f2, nf f3, nf f4, nf f5, nf f6, nf f7, nf f8, fun _ => rfl, nf f10, nf f11, nf f12, nf f13, nf f14, nf f15, nf f16⟩
      refine InvFrom.cons (fun L a W hI hN hD K hK => ?_) ?_
      · obtain ⟨sl5, sl6, sl7, sl8, sl9, sl10, sl11, sl12, sl13, sl14, sl15, sl16, sl17, sl18, sl19, sl20, sl4, ha, hB, f0, f1, f2, f3, f4, f5, f6, f7, f8, f9, f10, f11, f12, f13, f14, f15, f16⟩ := hI
        subst ha
        have hz := hB.size
        have d6 := f6 (hD 6 (by kernel_rfl))
        subst d6
        refine Kept.mk ?_
        simp only [Act.put, pA, pZ, pS]
        go_simp
        refine hK.out _ _ ?_
        exact ⟨sl5, sl6, sl7, sl8, sl9, sl10, (.bool true), sl12, sl13, sl14, (.pointer (some ⟨b1, 1, none⟩)), sl16, sl17, sl18, sl19, sl20, sl4, by kernel_rfl, hB, nf f0, nf f1, nf f2, nf f3, nf f4, nf f5, nf f6, nf f7, nf f8, nf f9, fun _ => rfl, nf f11, nf f12, nf f13, nf f14, nf f15, nf f16⟩
      refine InvFrom.cons (fun L a W hI hN hD K hK => ?_) ?_
      · obtain ⟨sl5, sl6, sl7, sl8, sl9, sl10, sl11, sl12, sl13, sl14, sl15, sl16, sl17, sl18, sl19, sl20, sl4, ha, hB, f0, f1, f2, f3, f4, f5, f6, f7, f8, f9, f10, f11, f12, f13, f14, f15, f16⟩ := hI
        subst ha
        have hz := hB.size
        have d6 := f6 (hD 6 (by kernel_rfl))
        subst d6
        have d10 := f10 (hD 10 (by kernel_rfl))
        subst d10
        have px1 := box_cell (j := 1) (box_keep HX1.out hB (by omega)) rfl
        refine Kept.mk ?_
        simp only [Act.put, pA, pZ, pS]
        go_simp
        refine hK.out _ _ ?_
        exact ⟨sl5, sl6, sl7, sl8, sl9, sl10, (.bool true), sl12, sl13, sl14, (.pointer (some ⟨b1, 1, none⟩)), (.int .i64 (q : Int)), sl17, sl18, sl19, sl20, sl4, by kernel_rfl, hB, nf f0, nf f1, nf f2, nf f3, nf f4, nf f5, nf f6, nf f7, nf f8, nf f9, nf f10, fun _ => rfl, nf f12, nf f13, nf f14, nf f15, nf f16⟩
      refine InvFrom.cons (fun L a W hI hN hD K hK => ?_) ?_
      · obtain ⟨sl5, sl6, sl7, sl8, sl9, sl10, sl11, sl12, sl13, sl14, sl15, sl16, sl17, sl18, sl19, sl20, sl4, ha, hB, f0, f1, f2, f3, f4, f5, f6, f7, f8, f9, f10, f11, f12, f13, f14, f15, f16⟩ := hI
        subst ha
        have hz := hB.size
        have d6 := f6 (hD 6 (by kernel_rfl))
        subst d6
        have d9 := f9 (hD 9 (by kernel_rfl))
        subst d9
        have d11 := f11 (hD 11 (by kernel_rfl))
        subst d11
        refine Kept.mk ?_
        simp only [Act.put, pA, pZ, pS]
        go_simp
        refine hK.out _ _ ?_
        exact ⟨sl5, sl6, sl7, sl8, sl9, sl10, (.bool true), sl12, sl13, (.slice (some ⟨g, o, none⟩) n1 c1), sl15, (.int .i64 (q : Int)), (.pointer (some ⟨g, o + q * 5, none⟩)), sl18, sl19, sl20, sl4, by kernel_rfl, hB, nf f0, nf f1, nf f2, nf f3, nf f4, nf f5, nf f6, nf f7, nf f8, nf f9, nf f10, nf f11, fun _ => rfl, nf f13, nf f14, nf f15, nf f16⟩
      refine InvFrom.cons (fun L a W hI hN hD K hK => ?_) ?_
      · obtain ⟨sl5, sl6, sl7, sl8, sl9, sl10, sl11, sl12, sl13, sl14, sl15, sl16, sl17, sl18, sl19, sl20, sl4, ha, hB, f0, f1, f2, f3, f4, f5, f6, f7, f8, f9, f10, f11, f12, f13, f14, f15, f16⟩ := hI
        subst ha
        have hz := hB.size
        have d6 := f6 (hD 6 (by kernel_rfl))
        subst d6
        have d12 := f12 (hD 12 (by kernel_rfl))
        subst d12
        have cw0 := cell_up HCC0.out (HB0.out.trans (hB.mono (by omega)))
        have cw1 := cell_up HCC1.out (HB0.out.trans (hB.mono (by omega)))
        have cw2 := cell_up HCC2.out (HB0.out.trans (hB.mono (by omega)))
        have cw3 := cell_up HCC3.out (HB0.out.trans (hB.mono (by omega)))
        have cw4 := cell_up HCC4.out (HB0.out.trans (hB.mono (by omega)))
        refine Kept.mk ?_
        simp only [Act.put, pA, pZ, pS]
        go_simp
        refine hK.out _ _ ?_
        exact ⟨sl5, sl6, sl7, sl8, sl9, sl10, (.bool true), sl12, sl13, sl14, sl15, sl16, (.pointer (some ⟨g, o + q * 5, none⟩)), (.agg #[.int .i64 c.fCap, .slice E1 k1 e1, .slice E2 k2 e2, .slice E3 k3 e3, .bool c.fClosed]), sl19, sl20, sl4, by kernel_rfl, hB, nf f0, nf f1, nf f2, nf f3, nf f4, nf f5, nf f6, nf f7, nf f8, nf f9, nf f10, nf f11, nf f12, fun _ => rfl, nf f14, nf f15, nf f16⟩
      refine InvFrom.cons (fun L a W hI hN hD K hK => ?_) ?_
      · obtain ⟨sl5, sl6, sl7, sl8, sl9, sl10, sl11, sl12, sl13, sl14, sl15, sl16, sl17, sl18, sl19, sl20, sl4, ha, hB, f0, f1, f2, f3, f4, f5, f6, f7, f8, f9, f10, f11, f12, f13, f14, f15, f16⟩ := hI
        subst ha
        have hz := hB.size
        have d6 := f6 (hD 6 (by kernel_rfl))
        subst d6
        have d7 := f7 (hD 7 (by kernel_rfl))
        subst d7
        have d13 := f13 (hD 13 (by kernel_rfl))
        subst d13
        refine kept_vw1 (by kernel_rfl) fv #[] _ _ _ rfl HEN.out (by kernel_rfl) (.agg #[.int .i64 c.fCap, .slice E1 k1 e1, .slice E2 k2 e2, .slice E3 k3 e3, .bool c.fClosed]) (by kernel_rfl) (HC.out W (HB0.out.trans (hB.mono (by omega)))) ?_
        rintro e W1 ⟨rfl, hb1⟩
        refine ⟨_, rfl, hK.out _ _ ?_⟩
        exact ⟨sl5, sl6, sl7, sl8, sl9, sl10, (.bool true), (.func (.func fv) #[] #[]), sl13, sl14, sl15, sl16, sl17, (.agg #[.int .i64 c.fCap, .slice E1 k1 e1, .slice E2 k2 e2, .slice E3 k3 e3, .bool c.fClosed]), (.bool rb), sl20, sl4, by kernel_rfl, hB.trans ((hb1.mono (Nat.le_refl _)).mono hz), nf f0, nf f1, nf f2, nf f3, nf f4, nf f5, nf f6, nf f7, nf f8, nf f9, nf f10, nf f11, nf f12, nf f13, fun _ => rfl, nf f15, nf f16⟩
      refine InvFrom.cons (fun L a W hI hN hD K hK => ?_) ?_
      · obtain ⟨sl5, sl6, sl7, sl8, sl9, sl10, sl11, sl12, sl13, sl14, sl15, sl16, sl17, sl18, sl19, sl20, sl4, ha, hB, f0, f1, f2, f3, f4, f5, f6, f7, f8, f9, f10, f11, f12, f13, f14, f15, f16⟩ := hI
        subst ha
        have hz := hB.size
        have d6 := f6 (hD 6 (by kernel_rfl))
        subst d6
        have d14 := f14 (hD 14 (by kernel_rfl))
        subst d14
        refine Kept.mk ?_
        simp only [Act.put, pA, pZ, pS]
        go_simp
        refine hK.out _ _ ?_
        exact ⟨sl5, sl6, sl7, sl8, sl9, sl10, (.bool true), sl12, sl13, sl14, sl15, sl16, sl17, sl18, (.bool rb), (.bool rb), sl4, by kernel_rfl, hB, nf f0, nf f1, nf f2, nf f3, nf f4, nf f5, nf f6, nf f7, nf f8, nf f9, nf f10, nf f11, nf f12, nf f13, nf f14, fun _ => rfl, nf f16⟩
      refine InvFrom.cons (fun L a W hI hN hD K hK => ?_) ?_
      · obtain ⟨sl5, sl6, sl7, sl8, sl9, sl10, sl11, sl12, sl13, sl14, sl15, sl16, sl17, sl18, sl19, sl20, sl4, ha, hB, f0, f1, f2, f3, f4, f5, f6, f7, f8, f9, f10, f11, f12, f13, f14, f15, f16⟩ := hI
        subst ha
        have hz := hB.size
        have d0 := f0 (hD 0 (by kernel_rfl))
        subst d0
        have d1 := f1 (hD 1 (by kernel_rfl))
        subst d1
        have d2 := f2 (hD 2 (by kernel_rfl))
        subst d2
        have d3 := f3 (hD 3 (by kernel_rfl))
        subst d3
        have d4 := f4 (hD 4 (by kernel_rfl))
        subst d4
        have d5 := f5 (hD 5 (by kernel_rfl))
        subst d5
        have d6 := f6 (hD 6 (by kernel_rfl))
        subst d6
        have d7 := f7 (hD 7 (by kernel_rfl))
        subst d7
        have d8 := f8 (hD 8 (by kernel_rfl))
        subst d8
        have d9 := f9 (hD 9 (by kernel_rfl))
        subst d9
        have d10 := f10 (hD 10 (by kernel_rfl))
        subst d10
        have d11 := f11 (hD 11 (by kernel_rfl))
        subst d11
        have d12 := f12 (hD 12 (by kernel_rfl))
        subst d12
        have d13 := f13 (hD 13 (by kernel_rfl))
        subst d13
        have d14 := f14 (hD 14 (by kernel_rfl))
        subst d14
        have d15 := f15 (hD 15 (by kernel_rfl))
        subst d15
        refine Kept.mk ?_
        simp only [Act.put, pA, pZ, pS]
        go_simp
        refine hK.out _ _ ?_
        exact ⟨(.pointer (some ⟨b1, 1, none⟩)), (.int .i64 (q : Int)), (.pointer (some ⟨w.heap.size, 1, none⟩)), (.slice (some ⟨g, o, none⟩) n1 c1), (.int .i64 (n1 : Int)), (.bool true), (.bool true), (.func (.func fv) #[] #[]), (.pointer (some ⟨w.heap.size, 1, none⟩)), (.slice (some ⟨g, o, none⟩) n1 c1), (.pointer (some ⟨b1, 1, none⟩)), (.int .i64 (q : Int)), (.pointer (some ⟨g, o + q * 5, none⟩)), (.agg #[.int .i64 c.fCap, .slice E1 k1 e1, .slice E2 k2 e2, .slice E3 k3 e3, .bool c.fClosed]), (.bool rb), (.bool rb), (.bool rb), by kernel_rfl, hB, nf f0, nf f1, nf f2, nf f3, nf f4, nf f5, nf f6, nf f7, nf f8, nf f9, nf f10, nf f11, nf f12, nf f13, nf f14, nf f15, fun _ => rfl⟩
      exact InvFrom.nil
    intro L a w1 hL hI
    obtain ⟨sl5, sl6, sl7, sl8, sl9, sl10, sl11, sl12, sl13, sl14, sl15, sl16, sl17, sl18, sl19, sl20, sl4, ha, hbw1, hI⟩ := hI
    subst ha
    have hfin := hI.2.2.2.2.2.2.2.2.2.2.2.2.2.2.2.2 (hL 16 (by decide))
    subst hfin
    clear hL hI
    refine Kept.mk ?_
    simp only [Act.put, pA, pZ, pS]
    go_wp2_with fail
    go_ret
    exact ⟨rfl, HB0.out.trans (hbw1.mono (by omega))⟩
  · rw [canB_out (fun h9 => hin ⟨h9.1, by have h8 := h9.2; simp only at h8; omega⟩)]
    simp only [decide_eq_false hin] at hIP
    clear HS hin
    go_enter Tryz.func105, Tryz.ntmps105
    go_upto_region 1 with (fail)
    generalize (w.alloc (.cells #[.slice A0 n0 c0, .slice A1 n1 c1, .slice A2 n2 c2] 44)) = W0 at *
    refine wp_region_inv (fun AC0 L a W => ∃ sl5 sl6 sl7 sl8 sl9 sl10 sl11 sl12 sl13 sl14 sl15 sl16 sl17 sl18 sl19 sl20 sl4 : Value, a = (((((((((((((((((AC0.put (some 5) sl5).put (some 6) sl6).put (some 7) sl7).put (some 8) sl8).put (some 9) sl9).put (some 10) sl10).put (some 11) sl11).put (some 12) sl12).put (some 13) sl13).put (some 14) sl14).put (some 15) sl15).put (some 16) sl16).put (some 17) sl17).put (some 18) sl18).put (some 19) sl19).put (some 20) sl20).put (some 4) sl4) ∧ Below W0.heap.size W0 W ∧ ((L 0 → sl5 = (.pointer (some ⟨b1, 1, none⟩))) ∧ (L 1 → sl6 = (.int .i64 ch)) ∧ (L 2 → sl7 = (.pointer (some ⟨w.heap.size, 1, none⟩))) ∧ (L 3 → sl8 = (.slice A1 n1 c1)) ∧ (L 4 → sl9 = (.int .i64 (n1 : Int))) ∧ (L 5 → sl10 = (.bool false)) ∧ (L 6 → sl11 = (.bool false)) ∧ (L 7 → True) ∧ (L 8 → True) ∧ (L 9 → True) ∧ (L 10 → True) ∧ (L 11 → True) ∧ (L 12 → True) ∧ (L 13 → True) ∧ (L 14 → True) ∧ (L 15 → sl20 = (.bool false)) ∧ (L 16 → sl4 = (.bool false)))) (by kernel_rfl) (by kernel_rfl) ?_ ?_ ?_
    · exact ⟨undef, undef, undef, undef, undef, undef, undef, undef, undef, undef, undef, undef, undef, undef, undef, undef, (.bool false), by kernel_rfl, Below.drew (Below.refl _ _), fun h => absurd h id, fun h => absurd h id, fun h => absurd h id, fun h => absurd h id, fun h => absurd h id, fun h => absurd h id, fun h => absurd h id, fun h => absurd h id, fun h => absurd h id, fun h => absurd h id, fun h => absurd h id, fun h => absurd h id, fun h => absurd h id, fun h => absurd h id, fun h => absurd h id, fun h => absurd h id, fun h => absurd h id⟩
    · intro Q9; refine InvFrom.cons (fun L a W hI hN hD K hK => ?_) ?_
      · obtain ⟨sl5, sl6, sl7, sl8, sl9, sl10, sl11, sl12, sl13, sl14, sl15, sl16, sl17, sl18, sl19, sl20, sl4, ha, hB, f0, f1, f2, f3, f4, f5, f6, f7, f8, f9, f10, f11, f12, f13, f14, f15, f16⟩ := hI
        subst ha
        have hz := hB.size
        refine Kept.mk ?_
        simp only [Act.put, pA, pZ, pS]
        go_simp
        refine hK.out _ _ ?_
        exact ⟨(.pointer (some ⟨b1, 1, none⟩)), sl6, sl7, sl8, sl9, sl10, sl11, sl12, sl13, sl14, sl15, sl16, sl17, sl18, sl19, sl20, sl4, by kernel_rfl, hB, fun _ => rfl, nf f1, nf f2, nf f3, nf f4, nf f5, nf f6, nf f7, nf f8, nf f9, nf f10, nf f11, nf f12, nf f13, nf f14, nf f15, nf f16⟩
      refine InvFrom.cons (fun L a W hI hN hD K hK => ?_) ?_
      · obtain ⟨sl5, sl6, sl7, sl8, sl9, sl10, sl11, sl12, sl13, sl14, sl15, sl16, sl17, sl18, sl19, sl20, sl4, ha, hB, f0, f1, f2, f3, f4, f5, f6, f7, f8, f9, f10, f11, f12, f13, f14, f15, f16⟩ := hI
        subst ha
        have hz := hB.size
        have d0 := f0 (hD 0 (by kernel_rfl))
        subst d0
        have px1 := box_cell (j := 1) (box_keep HX1.out hB (by omega)) rfl
        refine Kept.mk ?_
        simp only [Act.put, pA, pZ, pS]
        go_simp
        refine hK.out _ _ ?_
        exact ⟨(.pointer (some ⟨b1, 1, none⟩)), (.int .i64 ch), sl7, sl8, sl9, sl10, sl11, sl12, sl13, sl14, sl15, sl16, sl17, sl18, sl19, sl20, sl4, by kernel_rfl, hB, nf f0, fun _ => rfl, nf f2, nf f3, nf f4, nf f5, nf f6, nf f7, nf f8, nf f9, nf f10, nf f11, nf f12, nf f13, nf f14, nf f15, nf f16⟩
      refine InvFrom.cons (fun L a W hI hN hD K hK => ?_) ?_
      · obtain ⟨sl5, sl6, sl7, sl8, sl9, sl10, sl11, sl12, sl13, sl14, sl15, sl16, sl17, sl18, sl19, sl20, sl4, ha, hB, f0, f1, f2, f3, f4, f5, f6, f7, f8, f9, f10, f11, f12, f13, f14, f15, f16⟩ := hI
        subst ha
        have hz := hB.size
        refine Kept.mk ?_
        simp only [Act.put, pA, pZ, pS]
        go_simp
        refine hK.out _ _ ?_
        exact ⟨sl5, sl6, (.pointer (some ⟨w.heap.size, 1, none⟩)), sl8, sl9, sl10, sl11, sl12, sl13, sl14, sl15, sl16, sl17, sl18, sl19, sl20, sl4, by kernel_rfl, hB, nf f0, nf f1, fun _ => rfl, nf f3, nf f4, nf f5, nf f6, nf f7, nf f8, nf f9, nf f10, nf f11, nf f12, nf f13, nf f14, nf f15, nf f16⟩
      refine InvFrom.cons (fun L a W hI hN hD K hK => ?_) ?_
      · obtain ⟨sl5, sl6, sl7, sl8, sl9, sl10, sl11, sl12, sl13, sl14, sl15, sl16, sl17, sl18, sl19, sl20, sl4, ha, hB, f0, f1, f2, f3, f4, f5, f6, f7, f8, f9, f10, f11, f12, f13, f14, f15, f16⟩ := hI
        subst ha
        have hz := hB.size
        have d2 := f2 (hD 2 (by kernel_rfl))
        subst d2
        have pe1 := box_cell (j := 1) (box_keep HE0.out hB (by omega)) rfl
        refine Kept.mk ?_
        simp only [Act.put, pA, pZ, pS]
        go_simp
        refine hK.out _ _ ?_
        exact ⟨sl5, sl6, (.pointer (some ⟨w.heap.size, 1, none⟩)), (.slice A1 n1 c1), sl9, sl10, sl11, sl12, sl13, sl14, sl15, sl16, sl17, sl18, sl19, sl20, sl4, by kernel_rfl, hB, nf f0, nf f1, nf f2, fun _ => rfl, nf f4, nf f5, nf f6, nf f7, nf f8, nf f9, nf f10, nf f11, nf f12, nf f13, nf f14, nf f15, nf f16⟩
      refine InvFrom.cons (fun L a W hI hN hD K hK => ?_) ?_
      · obtain ⟨sl5, sl6, sl7, sl8, sl9, sl10, sl11, sl12, sl13, sl14, sl15, sl16, sl17, sl18, sl19, sl20, sl4, ha, hB, f0, f1, f2, f3, f4, f5, f6, f7, f8, f9, f10, f11, f12, f13, f14, f15, f16⟩ := hI
        subst ha
        have hz := hB.size
        have d3 := f3 (hD 3 (by kernel_rfl))
        subst d3
        refine Kept.mk ?_
        simp only [Act.put, pA, pZ, pS]
        go_simp
        refine hK.out _ _ ?_
        exact ⟨sl5, sl6, sl7, (.slice A1 n1 c1), (.int .i64 (n1 : Int)), sl10, sl11, sl12, sl13, sl14, sl15, sl16, sl17, sl18, sl19, sl20, sl4, by kernel_rfl, hB, nf f0, nf f1, nf f2, nf f3, fun _ => rfl, nf f5, nf f6, nf f7, nf f8, nf f9, nf f10, nf f11, nf f12, nf f13, nf f14, nf f15, nf f16⟩
      refine InvFrom.cons (fun L a W hI hN hD K hK => ?_) ?_
      · obtain ⟨sl5, sl6, sl7, sl8, sl9, sl10, sl11, sl12, sl13, sl14, sl15, sl16, sl17, sl18, sl19, sl20, sl4, ha, hB, f0, f1, f2, f3, f4, f5, f6, f7, f8, f9, f10, f11, f12, f13, f14, f15, f16⟩ := hI
        subst ha
        have hz := hB.size
        have d1 := f1 (hD 1 (by kernel_rfl))
        subst d1
        have d4 := f4 (hD 4 (by kernel_rfl))
        subst d4
        refine kept_c2 rfl 65 _ _ _ rfl (fenters_of' Tryz.func65 (by kernel_rfl) (by kernel_rfl)) (.int .i64 ch) (.int .i64 (n1 : Int)) (by kernel_rfl) (by kernel_rfl) (hIP W) ?_
        rintro e W1 ⟨rfl, rfl⟩
        refine ⟨_, rfl, hK.out _ _ ?_⟩
        exact ⟨sl5, (.int .i64 ch), sl7, sl8, (.int .i64 (n1 : Int)), (.bool false), sl11, sl12, sl13, sl14, sl15, sl16, sl17, sl18, sl19, sl20, sl4, by kernel_rfl, hB.trans ((Below.refl _ _).mono hz), nf f0, nf f1, nf f2, nf f3, nf f4, fun _ => rfl, nf f6, nf f7, nf f8, nf f9, nf f10, nf f11, nf f12, nf f13, nf f14, nf f15, nf f16⟩
      refine InvFrom.cons (fun L a W hI hN hD K hK => ?_) ?_
      · obtain ⟨sl5, sl6, sl7, sl8, sl9, sl10, sl11, sl12, sl13, sl14, sl15, sl16, sl17, sl18, sl19, sl20, sl4, ha, hB, f0, f1, f2, f3, f4, f5, f6, f7, f8, f9, f10, f11, f12, f13, f14, f15, f16⟩ := hI
        subst ha
        have hz := hB.size
        have d5 := f5 (hD 5 (by kernel_rfl))
        subst d5
        refine Kept.mk ?_
        simp only [Act.put, pA, pZ, pS]
        go_simp
        refine hK.out _ _ ?_
        exact ⟨sl5, sl6, sl7, sl8, sl9, (.bool false), (.bool false), sl12, sl13, sl14, sl15, sl16, sl17, sl18, sl19, sl20, sl4, by kernel_rfl, hB, nf f0, nf f1, nf f2, nf f3, nf f4, nf f5, fun _ => rfl, nf f7, nf f8, nf f9, nf f10, nf f11, nf f12, nf f13, nf f14, nf f15, nf f16⟩
      refine InvFrom.cons (fun L a W hI hN hD K hK => ?_) ?_
      · obtain ⟨sl5, sl6, sl7, sl8, sl9, sl10, sl11, sl12, sl13, sl14, sl15, sl16, sl17, sl18, sl19, sl20, sl4, ha, hB, f0, f1, f2, f3, f4, f5, f6, f7, f8, f9, f10, f11, f12, f13, f14, f15, f16⟩ := hI
        subst ha
        have hz := hB.size
        have d6 := f6 (hD 6 (by kernel_rfl))
        subst d6
        refine Kept.mk ?_
        simp only [Act.put, pA, pZ, pS]
        go_simp
        refine hK.out _ _ ?_
        exact ⟨sl5, sl6, sl7, sl8, sl9, sl10, (.bool false), undef, sl13, sl14, sl15, sl16, sl17, sl18, sl19, sl20, sl4, by kernel_rfl, hB, nf f0, nf f1, nf f2, nf f3, nf f4, nf f5, nf f6, fun _ => trivial, nf f8, nf f9, nf f10, nf f11, nf f12, nf f13, nf f14, nf f15, nf f16⟩
      refine InvFrom.cons (fun L a W hI hN hD K hK => ?_) ?_
      · obtain ⟨sl5, sl6, sl7, sl8, sl9, sl10, sl11, sl12, sl13, sl14, sl15, sl16, sl17, sl18, sl19, sl20, sl4, ha, hB, f0, f1, f2, f3, f4, f5, f6, f7, f8, f9, f10, f11, f12, f13, f14, f15, f16⟩ := hI
        subst ha
        have hz := hB.size
        have d6 := f6 (hD 6 (by kernel_rfl))
        subst d6
        refine Kept.mk ?_
        simp only [Act.put, pA, pZ, pS]
        go_simp
        refine hK.out _ _ ?_
        exact ⟨sl5, sl6, sl7, sl8, sl9, sl10, (.bool false), sl12, undef, sl14, sl15, sl16, sl17, sl18, sl19, sl20, sl4, by kernel_rfl, hB, nf f0, nf f1, nf f2, nf f3, nf f4, nf f5, nf f6, nf f7, fun _ => trivial, nf f9, nf f10, nf f11, nf f12, nf f13, nf f14, nf f15, nf f16⟩
      refine InvFrom.cons (fun L a W hI hN hD K hK => ?_) ?_
      · obtain ⟨sl5, sl6, sl7, sl8, sl9, sl10, sl11, sl12, sl13, sl14, sl15, sl16, sl17, sl18, sl19, sl20, sl4, ha, hB, f0, f1, f2, f3, f4, f5, f6, f7, f8, f9, f10, f11, f12, f13, f14, f15, f16⟩ := hI
        subst ha
        have hz := hB.size
        have d6 := f6 (hD 6 (by kernel_rfl))
        subst d6
        refine Kept.mk ?_
        simp only [Act.put, pA, pZ, pS]
        go_simp
        refine hK.out _ _ ?_
        exact ⟨sl5, sl6, sl7, sl8, sl9, sl10, (.bool false), sl12, sl13, undef, sl15, sl16, sl17, sl18, sl19, sl20, sl4, by kernel_rfl, hB, nf f0, nf f1, nf f2, nf f3, nf f4, nf f5, nf f6, nf f7, nf f8, fun _ => trivial, nf f10, nf f11, nf f12, nf f13, nf f14, nf f15, nf f16⟩
      refine InvFrom.cons (fun L a W hI hN hD K hK => ?_) ?_
      · obtain ⟨sl5, sl6, sl7, sl8, sl9, sl10, sl11, sl12, sl13, sl14, sl15, sl16, sl17, sl18, sl19, sl20, sl4, ha, hB, f0, f1, f2, f3, f4, f5, f6, f7, f8, f9, f10, f11, f12, f13, f14, f15, f16⟩ := hI
        subst ha
        have hz := hB.size
        have d6 := f6 (hD 6 (by kernel_rfl))
        subst d6
        refine Kept.mk ?_
        simp only [Act.put, pA, pZ, pS]
        go_simp
        refine hK.out _ _ ?_
        exact ⟨sl5, sl6, sl7, sl8, sl9, sl10, (.bool false), sl12, sl13, sl14, undef, sl16, sl17, sl18, sl19, sl20, sl4, by kernel_rfl, hB, nf f0, nf f1, nf f2, nf f3, nf f4, nf f5, nf f6, nf f7, nf f8, nf f9, fun _ => trivial, nf f11, nf f12, nf f13, nf f14, nf f15, nf f16⟩
      refine InvFrom.cons (fun L a W hI hN hD K hK => ?_) ?_
      · obtain ⟨sl5, sl6, sl7, sl8, sl9, sl10, sl11, sl12, sl13, sl14, sl15, sl16, sl17, sl18, sl19, sl20, sl4, ha, hB, f0, f1, f2, f3, f4, f5, f6, f7, f8, f9, f10, f11, f12, f13, f14, f15, f16⟩ := hI
        subst ha
        have hz := hB.size
        have d6 := f6 (hD 6 (by kernel_rfl))
        subst d6
        refine Kept.mk ?_
        simp only [Act.put, pA, pZ, pS]
        go_simp
        refine hK.out _ _ ?_
        exact ⟨sl5, sl6, sl7, sl8, sl9, sl10, (.bool false), sl12, sl13, sl14, sl15, undef, sl17, sl18, sl19, sl20, sl4, by kernel_rfl, hB, nf f0, nf f1, nf f2, nf f3, nf f4, nf f5, nf f6, nf f7, nf f8, nf f9, nf f10, fun _ => trivial, nf f12, nf f13, nf f14, nf f15, nf f16⟩
      refine InvFrom.cons (fun L a W hI hN hD K hK => ?_) ?_
      · obtain ⟨sl5, sl6, sl7, sl8, sl9, sl10, sl11, sl12, sl13, sl14, sl15, sl16, sl17, sl18, sl19, sl20, sl4, ha, hB, f0, f1, f2, f3, f4, f5, f6, f7, f8, f9, f10, f11, f12, f13, f14, f15, f16⟩ := hI
        subst ha
        have hz := hB.size
        have d6 := f6 (hD 6 (by kernel_rfl))
        subst d6
        refine Kept.mk ?_
        simp only [Act.put, pA, pZ, pS]
        go_simp
        refine hK.out _ _ ?_
        exact ⟨sl5, sl6, sl7, sl8, sl9, sl10, (.bool false), sl12, sl13, sl14, sl15, sl16, undef, sl18, sl19, sl20, sl4, by kernel_rfl, hB, nf f0, nf f1, nf f2, nf f3, nf f4, nf f5, nf f6, nf f7, nf f8, nf f9, nf f10, nf f11, fun _ => trivial, nf f13, nf f14, nf f15, nf f16⟩
      refine InvFrom.cons (fun L a W hI hN hD K hK => ?_) ?_
      · obtain ⟨sl5, sl6, sl7, sl8, sl9, sl10, sl11, sl12, sl13, sl14, sl15, sl16, sl17, sl18, sl19, sl20, sl4, ha, hB, f0, f1, f2, f3, f4, f5, f6, f7, f8, f9, f10, f11, f12, f13, f14, f15, f16⟩ := hI
        subst ha
        have hz := hB.size
        have d6 := f6 (hD 6 (by kernel_rfl))
        subst d6
        refine Kept.mk ?_
        simp only [Act.put, pA, pZ, pS]
        go_simp
        refine hK.out _ _ ?_
        exact ⟨sl5, sl6, sl7, sl8, sl9, sl10, (.bool false), sl12, sl13, sl14, sl15, sl16, sl17, undef, sl19, sl20, sl4, by kernel_rfl, hB, nf f0, nf f1, nf f2, nf f3, nf f4, nf f5, nf f6, nf f7, nf f8, nf f9, nf f10, nf f11, nf f12, fun _ => trivial, nf f14, nf f15, nf f16⟩
      refine InvFrom.cons (fun L a W hI hN hD K hK => ?_) ?_
      · obtain ⟨sl5, sl6, sl7, sl8, sl9, sl10, sl11, sl12, sl13, sl14, sl15, sl16, sl17, sl18, sl19, sl20, sl4, ha, hB, f0, f1, f2, f3, f4, f5, f6, f7, f8, f9, f10, f11, f12, f13, f14, f15, f16⟩ := hI
        subst ha
        have hz := hB.size
        have d6 := f6 (hD 6 (by kernel_rfl))
        subst d6
        refine Kept.mk ?_
        simp only [Act.put, pA, pZ, pS]
        go_simp
        refine hK.out _ _ ?_
        exact ⟨sl5, sl6, sl7, sl8, sl9, sl10, (.bool false), sl12, sl13, sl14, sl15, sl16, sl17, sl18, undef, sl20, sl4, by kernel_rfl, hB, nf f0, nf f1, nf f2, nf f3, nf f4, nf f5, nf f6, nf f7, nf f8, nf f9, nf f10, nf f11, nf f12, nf f13, fun _ => trivial, nf f15, nf f16⟩
      refine InvFrom.cons (fun L a W hI hN hD K hK => ?_) ?_
      · obtain ⟨sl5, sl6, sl7, sl8, sl9, sl10, sl11, sl12, sl13, sl14, sl15, sl16, sl17, sl18, sl19, sl20, sl4, ha, hB, f0, f1, f2, f3, f4, f5, f6, f7, f8, f9, f10, f11, f12, f13, f14, f15, f16⟩ := hI
        subst ha
        have hz := hB.size
        have d6 := f6 (hD 6 (by kernel_rfl))
        subst d6
        refine Kept.mk ?_
        simp only [Act.put, pA, pZ, pS]
        go_simp
        refine hK.out _ _ ?_
        exact ⟨sl5, sl6, sl7, sl8, sl9, sl10, (.bool false), sl12, sl13, sl14, sl15, sl16, sl17, sl18, sl19, (.bool false), sl4, by kernel_rfl, hB, nf f0, nf f1, nf f2, nf f3, nf f4, nf f5, nf f6, nf f7, nf f8, nf f9, nf f10, nf f11, nf f12, nf f13, nf f14, fun _ => rfl, nf f16⟩
      refine InvFrom.cons (fun L a W hI hN hD K hK => ?_) ?_
      · obtain ⟨sl5, sl6, sl7, sl8, sl9, sl10, sl11, sl12, sl13, sl14, sl15, sl16, sl17, sl18, sl19, sl20, sl4, ha, hB, f0, f1, f2, f3, f4, f5, f6, f7, f8, f9, f10, f11, f12, f13, f14, f15, f16⟩ := hI
        subst ha
        have hz := hB.size
        have d0 := f0 (hD 0 (by kernel_rfl))
        subst d0
        have d1 := f1 (hD 1 (by kernel_rfl))
        subst d1
        have d2 := f2 (hD 2 (by kernel_rfl))
        subst d2
        have d3 := f3 (hD 3 (by kernel_rfl))
        subst d3
        have d4 := f4 (hD 4 (by kernel_rfl))
        subst d4
        have d5 := f5 (hD 5 (by kernel_rfl))
        subst d5
        have d6 := f6 (hD 6 (by kernel_rfl))
        subst d6
        have d15 := f15 (hD 15 (by kernel_rfl))
        subst d15
        refine Kept.mk ?_
        simp only [Act.put, pA, pZ, pS]
        go_simp
        refine hK.out _ _ ?_
        exact ⟨(.pointer (some ⟨b1, 1, none⟩)), (.int .i64 ch), (.pointer (some ⟨w.heap.size, 1, none⟩)), (.slice A1 n1 c1), (.int .i64 (n1 : Int)), (.bool false), (.bool false), sl12, sl13, sl14, sl15, sl16, sl17, sl18, sl19, (.bool false), (.bool false), by kernel_rfl, hB, nf f0, nf f1, nf f2, nf f3, nf f4, nf f5, nf f6, nf f7, nf f8, nf f9, nf f10, nf f11, nf f12, nf f13, nf f14, nf f15, fun _ => rfl⟩
      exact InvFrom.nil
    intro L a w1 hL hI
    obtain ⟨sl5, sl6, sl7, sl8, sl9, sl10, sl11, sl12, sl13, sl14, sl15, sl16, sl17, sl18, sl19, sl20, sl4, ha, hbw1, hI⟩ := hI
    subst ha
    have hfin := hI.2.2.2.2.2.2.2.2.2.2.2.2.2.2.2.2 (hL 16 (by decide))
    subst hfin
    clear hL hI
    refine Kept.mk ?_
    simp only [Act.put, pA, pZ, pS]
    go_wp2_with fail
    go_ret
    exact ⟨rfl, HB0.out.trans (hbw1.mono (by omega))⟩
theorem enters_ofCase1 : Enters 105 := enters_of Tryz.func105 (by kernel_rfl) (by kernel_rfl)

set_option maxRecDepth 100000 in
set_option maxHeartbeats 4000000 in
theorem ofCase_any (w : World) (snd : Bool) (ch rg ok to : Int) :
    Calls Tryz.prog 67 #[.agg #[.bool snd, .int .i64 ch, .int .i64 rg, .int .i64 ok, .int .i64 to]] w (RdyE (fun _ => True) (fun x => canB x ⟨snd, ch, rg, ok, to⟩) w) := by
  have hC0 := box_new w #[.bool snd, .int .i64 ch, .int .i64 rg, .int .i64 ok, .int .i64 to] 89
  have hB0 : Below w.heap.size w (w.alloc (.cells #[.bool snd, .int .i64 ch, .int .i64 rg, .int .i64 ok, .int .i64 to] 89)) := (Below.refl _ _).alloc (Nat.le_refl _) _
  have hz0 : w.heap.size + 1 ≤ (w.alloc (.cells #[.bool snd, .int .i64 ch, .int .i64 rg, .int .i64 ok, .int .i64 to] 89)).heap.size := by simp only [World.size_alloc]; omega
  have HB0 := Lib.hid hB0
  cases snd
  · have px0 := box_cell (j := 0) hC0 rfl
    go_enter Tryz.func67, Tryz.ntmps67
    go_wp2_with fail
    go_ret
    have hN := box_new (w.alloc (.cells #[.bool false, .int .i64 ch, .int .i64 rg, .int .i64 ok, .int .i64 to] 89)) #[.func (.func 103) #[] #[]] 138
    simp only [World.size_alloc] at hN
    have hC1 := box_keep hC0 ((Below.refl _ _).alloc (Nat.le_refl _) (.cells #[.func (.func 103) #[] #[]] 138)) (by simp only [World.size_alloc]; omega)
    refine ⟨105, #[.pointer (some ⟨w.heap.size, 0, none⟩), .pointer (some ⟨w.heap.size + 1, 0, none⟩)], by simp, ⟨enters_ofCase1, fun W hW hi x vs h hhi _ _ => ?_⟩, HB0.out.alloc (by simp only [World.size_alloc]; omega) _⟩
    exact ofCase1_any (snd := false) h hhi (box_keep hC1 hW (by simp only [World.size_alloc]; omega)) (box_keep hN hW (by simp only [World.size_alloc]; omega))
  · have px0 := box_cell (j := 0) hC0 rfl
    go_enter Tryz.func67, Tryz.ntmps67
    go_wp2_with fail
    go_ret
    have hN := box_new (w.alloc (.cells #[.bool true, .int .i64 ch, .int .i64 rg, .int .i64 ok, .int .i64 to] 89)) #[.func (.func 104) #[] #[]] 138
    simp only [World.size_alloc] at hN
    have hC1 := box_keep hC0 ((Below.refl _ _).alloc (Nat.le_refl _) (.cells #[.func (.func 104) #[] #[]] 138)) (by simp only [World.size_alloc]; omega)
    refine ⟨105, #[.pointer (some ⟨w.heap.size, 0, none⟩), .pointer (some ⟨w.heap.size + 1, 0, none⟩)], by simp, ⟨enters_ofCase1, fun W hW hi x vs h hhi _ _ => ?_⟩, HB0.out.alloc (by simp only [World.size_alloc]; omega) _⟩
    exact ofCase1_any (snd := true) h hhi (box_keep hC1 hW (by simp only [World.size_alloc]; omega)) (box_keep hN hW (by simp only [World.size_alloc]; omega))
end Go.Proofs.YtghkdkagnibkgaaGreatDoor
