
/- Contracts of PutZig, the program's and the model's: both come to PutVar of a number without a sign. -/

import Derived.Test.YtikcoplihfoiiaaDoorPutVar

namespace Go.Proofs.YtikcoplihfoiiaaDoor

open Go.RowKit

theorem implPutZig_any {A : Option Addr} {m c hi : Nat} {bs : List UInt8} {w : World} (n : Int) (h : Seen w hi 1 A m (bs.map B)) (hhi : hi ≤ w.heap.size) (hm : m ≤ 16777216) :
    Calls Tryd.prog 39 #[.slice A m c, .int .i64 n] w (MadeB2 w (putZig bs n)) := by
  by_cases hlo : n < -2147483648
  · have hput : Hid (putZig bs n = ([], false)) := by show putZig bs n = _; rw [putZig, if_neg (by omega)]
    go_enter Tryd.func39, Tryd.ntmps39
    go_wp2_with fail
    go_ret2
    exact ⟨none, 0, 0, by rw [hput.out]; rfl, by rw [hput.out]; exact Own.nil_ _ _ _ _ _, Below.refl _ _⟩
  · by_cases hup : n > 2147483647
    · have hput : Hid (putZig bs n = ([], false)) := by show putZig bs n = _; rw [putZig, if_neg (by omega)]
      go_enter Tryd.func39, Tryd.ntmps39
      go_wp2_with fail
      go_ret2
      exact ⟨none, 0, 0, by rw [hput.out]; rfl, by rw [hput.out]; exact Own.nil_ _ _ _ _ _, Below.refl _ _⟩
    · by_cases hneg : n < 0
      · have hput : Hid (putZig bs n = putVar bs (-2 * n - 1)) := by show putZig bs n = _; rw [putZig, if_pos (by omega), if_neg (by omega)]
        go_enter Tryd.func39, Tryd.ntmps39
        go_wp2_with fail
        refine (implPutVar_any _ h hhi hm).mono ?_
        rintro e w1 ⟨A1, n1, c1, rfl, own1, hb1⟩
        go_wp2_with fail
        go_ret2
        exact ⟨A1, n1, c1, by rw [hput.out]; rfl, by rw [hput.out]; exact own1, hb1⟩
      · have hput : Hid (putZig bs n = putVar bs (2 * n)) := by show putZig bs n = _; rw [putZig, if_pos (by omega), if_pos (by omega)]
        go_enter Tryd.func39, Tryd.ntmps39
        go_wp2_with fail
        refine (implPutVar_any _ h hhi hm).mono ?_
        rintro e w1 ⟨A1, n1, c1, rfl, own1, hb1⟩
        go_wp2_with fail
        go_ret2
        exact ⟨A1, n1, c1, by rw [hput.out]; rfl, by rw [hput.out]; exact own1, hb1⟩

theorem specPutZig_any {A : Option Addr} {m c hi : Nat} {bs : List UInt8} {w : World} (n : Int) (h : Seen w hi 1 A m (bs.map B)) (hhi : hi ≤ w.heap.size) (hm : m ≤ 16777216) :
    Calls Tryd.prog 37 #[.slice A m c, .int .i64 n] w (MadeB2 w (putZig bs n)) := by
  by_cases hlo : n < -2147483648
  · have hput : Hid (putZig bs n = ([], false)) := by show putZig bs n = _; rw [putZig, if_neg (by omega)]
    go_enter Tryd.func37, Tryd.ntmps37
    go_wp2_with fail
    go_ret2
    exact ⟨none, 0, 0, by rw [hput.out]; rfl, by rw [hput.out]; exact Own.nil_ _ _ _ _ _, Below.refl _ _⟩
  · by_cases hup : n > 2147483647
    · have hput : Hid (putZig bs n = ([], false)) := by show putZig bs n = _; rw [putZig, if_neg (by omega)]
      go_enter Tryd.func37, Tryd.ntmps37
      go_wp2_with fail
      go_ret2
      exact ⟨none, 0, 0, by rw [hput.out]; rfl, by rw [hput.out]; exact Own.nil_ _ _ _ _ _, Below.refl _ _⟩
    · by_cases hneg : n < 0
      · have hput : Hid (putZig bs n = putVar bs (-2 * n - 1)) := by show putZig bs n = _; rw [putZig, if_pos (by omega), if_neg (by omega)]
        go_enter Tryd.func37, Tryd.ntmps37
        go_wp2_with fail
        refine (specPutVar_any _ h hhi hm).mono ?_
        rintro e w1 ⟨A1, n1, c1, rfl, own1, hb1⟩
        go_wp2_with fail
        go_ret2
        exact ⟨A1, n1, c1, by rw [hput.out]; rfl, by rw [hput.out]; exact own1, hb1⟩
      · have hput : Hid (putZig bs n = putVar bs (2 * n)) := by show putZig bs n = _; rw [putZig, if_pos (by omega), if_pos (by omega)]
        go_enter Tryd.func37, Tryd.ntmps37
        go_wp2_with fail
        refine (specPutVar_any _ h hhi hm).mono ?_
        rintro e w1 ⟨A1, n1, c1, rfl, own1, hb1⟩
        go_wp2_with fail
        go_ret2
        exact ⟨A1, n1, c1, by rw [hput.out]; rfl, by rw [hput.out]; exact own1, hb1⟩
end Go.Proofs.YtikcoplihfoiiaaDoor
