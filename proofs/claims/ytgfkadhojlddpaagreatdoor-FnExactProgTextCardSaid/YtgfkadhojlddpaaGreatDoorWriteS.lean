
/- The contract of the model's ProgText. -/

import Derived.Test.YtgfkadhojlddpaaGreatDoorLinesMath

import Derived.Test.YtgfkadhojlddpaaGreatDoorTextS

namespace Go.Proofs.YtgfkadhojlddpaaGreatDoor
set_option linter.unusedSimpArgs false
set_option linter.unusedVariables false
open Go.RowKit

set_option maxRecDepth 100000 in
set_option maxHeartbeats 2000000 in
theorem specProgText_any {w : World} {hi : Nat} {p : DProg} {vs : List Value} (h : layProg.see w hi p vs) (hhi : hi ≤ w.heap.size) (hsz : szProg p ≤ 1048576) :
    Calls Tryz.prog 7 #[.agg vs.toArray] w fun e w' => e = .returned (Tx (progText p)) ∧ Below w.heap.size w w' := by
  have HSEE := Lib.hid h
  obtain ⟨A0, n0, c0, A2, n2, c2, A3, n3, c3, rfl, -⟩ := seeProg h
  have HB := Lib.hid (box_new w #[.slice A0 n0 c0, .int .i64 p.fMus, .slice A2 n2 c2, .slice A3 n3 c3] 32)
  have hW0 : Below w.heap.size w (w.alloc (.cells #[.slice A0 n0 c0, .int .i64 p.fMus, .slice A2 n2 c2, .slice A3 n3 c3] 32)) := (Below.refl _ _).alloc (Nat.le_refl _) _
  have HK := Lib.hid (fun (W : World) (hW : Below w.heap.size w W) => layProg.keep h fun k hk => hW.block k (by omega))
  have HOK := Lib.hid (specProgOk_any (HK.out _ hW0) (by simp; omega) hsz)
  have HW0 := Lib.hid hW0
  clear h hW0
  show Calls Tryz.prog 7 #[.agg #[.slice A0 n0 c0, .int .i64 p.fMus, .slice A2 n2 c2, .slice A3 n3 c3]] w _
  go_enter Tryz.func7, Tryz.ntmps7
  go_wp2_with fail
  refine HOK.out.mono ?_
  rintro e w1 ⟨rfl, hb1⟩
  have HB1 := Lib.hid (box_keep HB.out hb1 (lt_of_block HB.out))
  have hW1 : Below w.heap.size w w1 := HW0.out.trans (hb1.mono HW0.out.size)
  clear hb1
  cases tp : progOkB p
  · have hfin := Lib.hid (show progText p = [] by rw [progText, tp]; rfl)
    go_wp2_with fail
    go_ret
    exact ⟨by rw [hfin.out]; rfl, hW1⟩
  · have hfin := Lib.hid (show progText p = textOf p by rw [progText, tp]; rfl)
    have HX := Lib.hid (l05Text_any (HK.out _ hW1) (Nat.le_trans hhi hW1.size) hsz)
    have c0' := box_cell (j := 0) HB1.out rfl
    have c1' := box_cell (j := 1) HB1.out rfl
    have c2' := box_cell (j := 2) HB1.out rfl
    have c3' := box_cell (j := 3) HB1.out rfl
    have hl1 := lt_of_block HB1.out
    go_wp2_with fail
    refine HX.out.mono ?_
    rintro e w2 ⟨rfl, hb2⟩
    have hW2 : Below w.heap.size w w2 := hW1.trans (hb2.mono hW1.size)
    clear hb2 c0' c1' c2' c3'
    go_wp2_with fail
    go_ret
    exact ⟨by rw [hfin.out]; rfl, hW2⟩
end Go.Proofs.YtgfkadhojlddpaaGreatDoor
