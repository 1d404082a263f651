
/- lineOf: words with a mark between them, nothing where one of them is empty. -/

import Derived.Test.YtgfkadhojlddpaaGreatDoorJoinI

namespace Go.Proofs.YtgfkadhojlddpaaGreatDoor
set_option linter.unusedSimpArgs false
set_option linter.unusedVariables false
open Go.RowKit

/-- Words with a mark between them; empty if one of them is. -/
def lineT (ws : List (List UInt8)) (mark : List UInt8) : List UInt8 := if [] ∈ ws then [] else Lib.join ws mark
theorem lineOf_any {w : World} {hi n c : Nat} {A : Option Addr} {ss : List (List UInt8)} {mark : List UInt8} (h : Seen w hi 1 A n (ss.map Tx)) (hhi : hi ≤ w.heap.size) (hc : n ≤ c) (hn : n ≤ 140737488355328) (hlen : (Lib.join ss mark).length ≤ 140737488355328) :
    Calls Tryz.prog 91 #[.slice A n c, Tx mark] w fun e w' => e = .returned (Tx (lineT ss mark)) ∧ Below w.heap.size w w' := by
  have HC := Lib.hid (contains_seen (c := c) h (by unfold maxLen; omega))
  have HJ := Lib.hid (join_seen h hhi hc hn hlen)
  clear h hlen hn hc
  go_enter Tryz.func91, Tryz.ntmps91
  go_wp2_with fail
  refine HC.out.mono ?_
  rintro e w1 ⟨rfl, rfl⟩
  by_cases hm : [] ∈ ss
  · have hfin := Lib.hid (show lineT ss mark = [] from if_pos hm)
    rw [show decide ([] ∈ ss) = true from decide_eq_true hm]
    clear hm
    go_wp2_with fail
    go_ret
    exact ⟨by rw [hfin.out]; rfl, Below.refl _ _⟩
  · have hfin := Lib.hid (show lineT ss mark = Lib.join ss mark from if_neg hm)
    rw [show decide ([] ∈ ss) = false from decide_eq_false hm]
    clear hm
    go_wp2_with fail
    refine HJ.out.mono ?_
    rintro e w2 ⟨rfl, hb2⟩
    go_wp2_with fail
    go_ret
    exact ⟨by rw [hfin.out]; rfl, hb2⟩
end Go.Proofs.YtgfkadhojlddpaaGreatDoor
