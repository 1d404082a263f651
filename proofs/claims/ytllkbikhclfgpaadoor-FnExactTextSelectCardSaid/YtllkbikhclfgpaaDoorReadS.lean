
/- The contract of the model's l05Read. -/

import Derived.Test.YtllkbikhclfgpaaDoorAsmS

import Derived.Test.YtllkbikhclfgpaaDoorTextNumS

namespace Go.Proofs.YtllkbikhclfgpaaDoor
set_option linter.unusedSimpArgs false
set_option linter.unusedVariables false
open Go.RowKit

set_option maxRecDepth 100000 in
theorem l05Read_any (s word : ByteArray) (w : World) (hs : s.size ≤ 1048576) :
    Calls Tryd.prog 32 #[.string s, .string word] w fun e w' => e = .returned (.int .i64 (readW word.data.toList s.data.toList)) ∧ Below w.heap.size w w' := by
  cases hb : (s.toList == word.toList)
  · have he := Lib.hid (show readW word.data.toList s.data.toList = (textNum s.data.toList).1 by
      rw [readW, if_neg]
      rw [toList_data, toList_data] at hb
      simpa using hb)
    go_enter Tryd.func32, Tryd.ntmps32
    go_wp2_with fail
    refine (specTextNum_any s _ hs).mono ?_
    rintro e w1 ⟨rfl, hb1⟩
    go_wp2_with fail
    go_ret
    exact ⟨by rw [he.out]; rfl, hb1⟩
  · have he := Lib.hid (show readW word.data.toList s.data.toList = -1 by
      rw [readW, if_pos]
      rw [toList_data, toList_data] at hb
      simpa using hb)
    go_enter Tryd.func32, Tryd.ntmps32
    go_wp2_with fail
    go_ret
    exact ⟨by rw [he.out]; rfl, Below.refl _ _⟩
end Go.Proofs.YtllkbikhclfgpaaDoor
