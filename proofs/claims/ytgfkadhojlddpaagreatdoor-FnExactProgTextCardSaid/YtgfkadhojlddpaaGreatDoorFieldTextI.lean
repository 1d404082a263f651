
/- The contracts of the program's fieldText, elseText. -/

import Derived.Test.YtgfkadhojlddpaaGreatDoorWordsMath

namespace Go.Proofs.YtgfkadhojlddpaaGreatDoor
set_option linter.unusedSimpArgs false
set_option linter.unusedVariables false
open Go.RowKit

abbrev PowTab (W : World) : Prop := Lib.TabIs Tryz.prog W "internal/strconv.uint64pow10" .u64 Lib.pow10Tab

set_option maxRecDepth 100000 in
set_option maxHeartbeats 1000000 in
theorem fieldText_any (nm v : Int) (w : World) (hT : PowTab w) :
    Calls Tryz.prog 154 #[.int .i64 nm, .int .i64 v] w fun e w' => e = .returned (Tx (fieldT nm v)) ∧ Below w.heap.size w w' := by
  have HN := Lib.hid (implNumText_any v w hT)
  clear hT
  cases h1 : (nm == 4)
  · have e1 := Lib.hid (fieldT_num (v := v) h1)
    go_enter Tryz.func154, Tryz.ntmps154
    go_wp2_with fail
    refine HN.out.mono ?_
    rintro e w1 ⟨rfl, hb1⟩
    go_wp2_with fail
    go_ret
    exact ⟨by rw [e1.out]; rfl, hb1⟩
  · cases h2 : (v == -1)
    · have e1 := Lib.hid (show fieldT nm v = numText v by rw [fieldT, numW, h1, h2]; rfl)
      go_enter Tryz.func154, Tryz.ntmps154
      go_wp2_with fail
      refine HN.out.mono ?_
      rintro e w1 ⟨rfl, hb1⟩
      go_wp2_with fail
      go_ret
      exact ⟨by rw [e1.out]; rfl, hb1⟩
    · have e1 := Lib.hid (show fieldT nm v = nilW by rw [fieldT, numW, h1, h2]; rfl)
      clear HN
      go_enter Tryz.func154, Tryz.ntmps154
      go_wp2_with fail
      go_ret
      exact ⟨by rw [e1.out]; rfl, Below.refl _ _⟩

set_option maxRecDepth 100000 in
set_option maxHeartbeats 1000000 in
theorem elseText_any (v : Int) (w : World) (hT : PowTab w) :
    Calls Tryz.prog 89 #[.int .i64 v] w fun e w' => e = .returned (Tx (numW true dashW v).1) ∧ Below w.heap.size w w' := by
  have HN := Lib.hid (implNumText_any v w hT)
  clear hT
  cases h2 : (v == -1)
  · have e1 := Lib.hid (show (numW true dashW v).1 = numText v by rw [numW, h2]; rfl)
    go_enter Tryz.func89, Tryz.ntmps89
    go_wp2_with fail
    refine HN.out.mono ?_
    rintro e w1 ⟨rfl, hb1⟩
    go_wp2_with fail
    go_ret
    exact ⟨by rw [e1.out]; rfl, hb1⟩
  · have e1 := Lib.hid (show (numW true dashW v).1 = dashW by rw [numW, h2]; rfl)
    clear HN
    go_enter Tryz.func89, Tryz.ntmps89
    go_wp2_with fail
    go_ret
    exact ⟨by rw [e1.out]; rfl, Below.refl _ _⟩
end Go.Proofs.YtgfkadhojlddpaaGreatDoor
