
/- The contract of the program's caseText. -/

import Derived.Test.YtgfkadhojlddpaaGreatDoorCaseShapeI

namespace Go.Proofs.YtgfkadhojlddpaaGreatDoor
set_option linter.unusedSimpArgs false
set_option linter.unusedVariables false
open Go.RowKit

def wfI (z : Int) : Prop := (Lit.int .i64 z).wf = true

set_option maxRecDepth 100000 in
set_option maxHeartbeats 2000000 in
theorem implCaseText_any (b : Bool) (ch reg ok to : Int) (w : World) (hT : Tabs w) (hwf : wfI ch ∧ wfI reg ∧ wfI ok ∧ wfI to) :
    Calls Tryz.prog 90 #[.agg #[.bool b, .int .i64 ch, .int .i64 reg, .int .i64 ok, .int .i64 to]] w fun e w' => e = .returned (Tx (caseText ⟨b, ch, reg, ok, to⟩)) ∧ Below w.heap.size w w' := by
  have HT := Lib.hid hT
  have HWF := Lib.hid hwf
  have HB0 := box_new w #[.bool b, .int .i64 ch, .int .i64 reg, .int .i64 ok, .int .i64 to] 141
  have hW0 : Below w.heap.size w (w.alloc (.cells #[.bool b, .int .i64 ch, .int .i64 reg, .int .i64 ok, .int .i64 to] 141)) := (Below.refl _ _).alloc (Nat.le_refl _) _
  have HBX := Lib.hid HB0
  have HT0 := Lib.hid (hT.below hW0 (Nat.le_refl _))
  have HW0 := Lib.hid hW0
  clear hT hwf HB0 hW0
  cases b
  · have HX := Lib.hid (caseText_recv ch reg ok to)
    go_enter Tryz.func90, Tryz.ntmps90
    go_wp2_with fail
    refine (caseShape_recv _ HT0.out.2).mono ?_
    rintro e w1 ⟨A, c, rfl, sn, hb1⟩
    have HB1 := box_keep HBX.out hb1 (lt_of_block HBX.out)
    have hW1 : Below w.heap.size w w1 := HW0.out.trans (hb1.mono HW0.out.size)
    have c0 := box_cell (j := 0) HB1 rfl
    have c1 := box_cell (j := 1) HB1 rfl
    have c2 := box_cell (j := 2) HB1 rfl
    have c3 := box_cell (j := 3) HB1 rfl
    have c4 := box_cell (j := 4) HB1 rfl
    have hl1 := lt_of_block HB1
    have HSN := Lib.hid sn
    have hV := box_new w1 #[.int .i64 ch, .int .i64 reg, .int .i64 ok, .int .i64 to] 3
    have hWa : Below w1.heap.size w1 (w1.alloc (.cells #[.int .i64 ch, .int .i64 reg, .int .i64 ok, .int .i64 to] 3)) := (Below.refl _ _).alloc (Nat.le_refl _) _
    have HV := Lib.hid hV
    have HWA := Lib.hid hWa
    clear hb1 HB1 sn hV hWa
    go_wp2_with fail
    refine (wordsText_any (op := 9) (mark := 58) (hi := (w1.alloc (.cells #[.int .i64 ch, .int .i64 reg, .int .i64 ok, .int .i64 to] 3)).heap.size) (ns := [4, 1, 1, 3]) (vs := [ch, reg, ok, to]) ((HSN.out.below HWA.out (Nat.le_refl _)).more HWA.out.size) (seenR_box HV.out rfl (lt_of_block HV.out) (fun i x h => ?_) (fun x h => ?_)) (Nat.le_refl _) (Nat.le_refl _) (by decide) ((HT.out.below hW1 (Nat.le_refl _)).below HWA.out (Nat.le_refl _))).mono ?_
    · match i, h with
      | 0, h => simp at h; subst h; rfl
      | 1, h => simp at h; subst h; rfl
      | 2, h => simp at h; subst h; rfl
      | 3, h => simp at h; subst h; rfl
      | i + 4, h => simp at h
    · have hw := HWF.out
      simp at h
      rcases h with rfl | rfl | rfl | rfl
      · exact hw.1
      · exact hw.2.1
      · exact hw.2.2.1
      · exact hw.2.2.2
    rintro e w2 ⟨rfl, hb2⟩
    have hW2 : Below w.heap.size w w2 := (hW1.trans (HWA.out.mono hW1.size)).trans (hb2.mono (Nat.le_trans hW1.size HWA.out.size))
    clear hb2 c0 c1 c2 c3 c4
    go_wp2_with fail
    go_ret
    exact ⟨by rw [HX.out]; rfl, hW2⟩
  · have HX := Lib.hid (caseText_send ch reg ok to)
    go_enter Tryz.func90, Tryz.ntmps90
    go_wp2_with fail
    refine (caseShape_send _ HT0.out.2).mono ?_
    rintro e w1 ⟨A, c, rfl, sn, hb1⟩
    have HB1 := box_keep HBX.out hb1 (lt_of_block HBX.out)
    have hW1 : Below w.heap.size w w1 := HW0.out.trans (hb1.mono HW0.out.size)
    have c0 := box_cell (j := 0) HB1 rfl
    have c1 := box_cell (j := 1) HB1 rfl
    have c2 := box_cell (j := 2) HB1 rfl
    have c3 := box_cell (j := 3) HB1 rfl
    have c4 := box_cell (j := 4) HB1 rfl
    have hl1 := lt_of_block HB1
    have HSN := Lib.hid sn
    have hV := box_new w1 #[.int .i64 ch, .int .i64 reg, .int .i64 to] 3
    have hWa : Below w1.heap.size w1 (w1.alloc (.cells #[.int .i64 ch, .int .i64 reg, .int .i64 to] 3)) := (Below.refl _ _).alloc (Nat.le_refl _) _
    have HV := Lib.hid hV
    have HWA := Lib.hid hWa
    clear hb1 HB1 sn hV hWa
    cases hz : (ok != 0)
    · have hz0 : ok = 0 := by simpa using hz
      have HX2 := Lib.hid (show caseText ⟨true, ch, reg, ok, to⟩ = wordsT sendW 58 [fieldT 4 ch, fieldT 1 reg, fieldT 3 to] by rw [HX.out, if_pos hz0])
      clear hz0
      go_wp2_with fail
      refine (wordsText_any (op := 8) (mark := 58) (hi := (w1.alloc (.cells #[.int .i64 ch, .int .i64 reg, .int .i64 to] 3)).heap.size) (ns := [4, 1, 3]) (vs := [ch, reg, to]) ((HSN.out.below HWA.out (Nat.le_refl _)).more HWA.out.size) (seenR_box HV.out rfl (lt_of_block HV.out) (fun i x h => ?_) (fun x h => ?_)) (Nat.le_refl _) (Nat.le_refl _) (by decide) ((HT.out.below hW1 (Nat.le_refl _)).below HWA.out (Nat.le_refl _))).mono ?_
      · match i, h with
        | 0, h => simp at h; subst h; rfl
        | 1, h => simp at h; subst h; rfl
        | 2, h => simp at h; subst h; rfl
        | i + 3, h => simp at h
      · have hw := HWF.out
        simp at h
        rcases h with rfl | rfl | rfl
        · exact hw.1
        · exact hw.2.1
        · exact hw.2.2.2
      rintro e w2 ⟨rfl, hb2⟩
      have hW2 : Below w.heap.size w w2 := (hW1.trans (HWA.out.mono hW1.size)).trans (hb2.mono (Nat.le_trans hW1.size HWA.out.size))
      clear hb2 c0 c1 c2 c3 c4
      go_wp2_with fail
      go_ret
      exact ⟨by rw [HX2.out]; rfl, hW2⟩
    · have hz0 : ok ≠ 0 := by simpa using hz
      have HX2 := Lib.hid (show caseText ⟨true, ch, reg, ok, to⟩ = [] by rw [HX.out, if_neg hz0])
      clear hz0
      go_wp2_with fail
      go_ret
      exact ⟨by rw [HX2.out]; rfl, hW1⟩
end Go.Proofs.YtgfkadhojlddpaaGreatDoor
