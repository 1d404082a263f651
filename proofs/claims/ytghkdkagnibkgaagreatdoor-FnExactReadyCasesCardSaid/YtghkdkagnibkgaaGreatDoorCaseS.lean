
/- The model's CaseReady. Laid by wip/gen11/caseS.py. -/

import Derived.Test.YtghkdkagnibkgaaGreatDoorGCas

import Derived.Test.YtghkdkagnibkgaaGreatDoorGChanOkS

import Derived.Deep.Cut

namespace Go.Proofs.YtghkdkagnibkgaaGreatDoor
set_option linter.unusedSimpArgs false
set_option linter.unusedVariables false
open Go.RowKit


set_option maxRecDepth 100000 in
set_option maxHeartbeats 4000000 in
theorem specCase_any {w : World} {hi : Nat} {x : DEng} {vs : List Value} (h : layEng.see w hi x vs) (hhi : hi ≤ w.heap.size) (snd : Bool) (ch rg ok to : Int) :
    Calls Tryz.prog 51 #[.agg vs.toArray, .agg #[.bool snd, .int .i64 ch, .int .i64 rg, .int .i64 ok, .int .i64 to]] w fun e w' => e = .returned (.bool (canB x ⟨snd, ch, rg, ok, to⟩)) ∧ Below w.heap.size w w' := by
  obtain ⟨A0, n0, c0, A1, n1, c1, A2, n2, c2, rfl, -, ⟨hc1, hm1, s1⟩, -⟩ := seeEng h
  have hL := s1.1
  have hE0 := box_new w #[.slice A0 n0 c0, .slice A1 n1 c1, .slice A2 n2 c2] 44
  have hE0 := box_keep hE0 ((Below.refl _ _).alloc (Nat.le_refl _) (.cells #[.bool snd, .int .i64 ch, .int .i64 rg, .int .i64 ok, .int .i64 to] 89)) (by simp only [World.size_alloc]; omega)
  have hC0 := box_new (w.alloc (.cells #[.slice A0 n0 c0, .slice A1 n1 c1, .slice A2 n2 c2] 44)) #[.bool snd, .int .i64 ch, .int .i64 rg, .int .i64 ok, .int .i64 to] 89
  simp only [World.size_alloc, Nat.add_assoc, Nat.reduceAdd] at hC0
  have hB0 : Below w.heap.size w ((w.alloc (.cells #[.slice A0 n0 c0, .slice A1 n1 c1, .slice A2 n2 c2] 44)).alloc (.cells #[.bool snd, .int .i64 ch, .int .i64 rg, .int .i64 ok, .int .i64 to] 89)) := ((Below.refl _ _).alloc (Nat.le_refl _) _).alloc (by simp only [World.size_alloc]; omega) _
  have hz0 : w.heap.size + 2 ≤ ((w.alloc (.cells #[.slice A0 n0 c0, .slice A1 n1 c1, .slice A2 n2 c2] 44)).alloc (.cells #[.bool snd, .int .i64 ch, .int .i64 rg, .int .i64 ok, .int .i64 to] 89)).heap.size := by simp only [World.size_alloc]; omega
  clear hE0 hC0
  by_cases h0 : 0 ≤ ch
  · by_cases h1 : ch < n1
    · obtain ⟨q, rfl⟩ := Int.eq_ofNat_of_zero_le h0
      have hq : q < n1 := by omega
      obtain ⟨hx, g, o, us, rfl, hg, hsee, hcell⟩ := (s1.below hB0 hhi).at_ hq
      have HR := canB_in (x := ⟨snd, (q : Int), rg, ok, to⟩) rfl (List.getElem?_eq_getElem hx)
      rw [HR]
      clear HR
      generalize x.fChans[q] = c at *
      have HS := Lib.hid (specCanSend_any hsee (by omega))
      have HV := Lib.hid (specCanRecv_any hsee (by omega))
      obtain ⟨E1, k1, e1, E2, k2, e2, E3, k3, e3, rfl, -⟩ := seeChan hsee
      have cc0 := hcell 0 _ rfl
      have cc1 := hcell 1 _ rfl
      have cc2 := hcell 2 _ rfl
      have cc3 := hcell 3 _ rfl
      have cc4 := hcell 4 _ rfl
      simp only [show layChan.size = 5 from rfl, ← Nat.add_assoc, Nat.add_zero, Nat.mul_one] at cc0 cc1 cc2 cc3 cc4
      have HB := Lib.hid hB0
      clear hcell hsee h s1 hB0 hL
      cases snd
      · go_enter Tryz.func51, Tryz.ntmps51
        go_wp2_with fail
        refine HV.out.mono ?_
        rintro e w1 ⟨rfl, hb1⟩
        go_wp2_with fail
        go_ret
        exact ⟨by simp, HB.out.trans (hb1.mono (by omega))⟩
      · go_enter Tryz.func51, Tryz.ntmps51
        go_wp2_with fail
        refine HS.out.mono ?_
        rintro e w1 ⟨rfl, hb1⟩
        go_wp2_with fail
        go_ret
        exact ⟨by simp, HB.out.trans (hb1.mono (by omega))⟩
    · rw [canB_out (fun h9 => by have h8 := h9.2; have h7 := h9.1; simp only at h7 h8; omega)]
      have h9 : decide (ch < n1) = false := decide_eq_false h1
      clear h s1
      have h8 : decide ((n1 : Int) ≤ ch) = true := decide_eq_true (by omega)
      have HB := Lib.hid hB0
      clear hB0
      go_enter Tryz.func51, Tryz.ntmps51
      go_wp2_with fail
      go_ret
      exact ⟨rfl, HB.out⟩
  · rw [canB_out (fun h9 => by have h8 := h9.2; have h7 := h9.1; simp only at h7 h8; omega)]
    have h9 : decide (0 ≤ ch) = false := decide_eq_false h0
    clear h s1
    have h8 : decide (ch < 0) = true := decide_eq_true (by omega)
    have HB := Lib.hid hB0
    clear hB0
    go_enter Tryz.func51, Tryz.ntmps51
    go_wp2_with fail
    go_ret
    exact ⟨rfl, HB.out⟩
end Go.Proofs.YtghkdkagnibkgaaGreatDoor
