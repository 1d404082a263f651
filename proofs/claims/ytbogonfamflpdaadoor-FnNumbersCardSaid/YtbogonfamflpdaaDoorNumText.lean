
/- Contracts of NumText, the program's (by strconv.Itoa) and the model's (digit behind digits). -/

import Derived.Test.YtbogonfamflpdaaDoorByte

import Derived.Test.YtbogonfamflpdaaDoorNum

import Derived.Test.YtbogonfamflpdaaDoorShelfItoa

import Derived.Test.YtbogonfamflpdaaDoorTextMath

import Derived.Lib.ItoaMem

import Derived.RegionCalls

namespace Go.Proofs.YtbogonfamflpdaaDoor

open Go.RowKit

/-- What NumText answers. -/
def numText (n : Int) : List UInt8 := if 0 ≤ n ∧ n ≤ 4294967295 then Lib.decDigits n.toNat else []

theorem below_grow (w : World) (k : Nat) (os : Array Obj) : Below w.heap.size w (Sort.grow (w.drewN k) os) := by
  refine ⟨rfl, rfl, rfl, ?_, fun j hj => ?_⟩
  · show w.heap.size ≤ (w.heap ++ os).size
    simp
  · show (w.heap ++ os)[j]? = _
    rw [Array.getElem?_append, if_pos hj]

theorem conv_one {W : World} {g : Nat} {x : Int} (h : W.cell? ⟨g, 0, none⟩ = some (.int .u8 x)) :
    (convert 22 9 (.slice (some ⟨g, 0, none⟩) 1 1)).run Tryd.prog W = .ok (.string ⟨#[UInt8.ofNat x.toNat]⟩) W := by
  have := run_convert_bytes_arg (P := Tryd.prog) W 22 5 Tryd.underlying22 Tryd.underlying5 g 0 1 1 [x] rfl (fun i hi => by
    have : i = 0 := by omega
    subst this
    simpa using h) 9 Tryd.underlying9
  simpa [strOfNums] using this

theorem implNumText_any (n : Int) (w : World) (htab : Lib.TabIs Tryd.prog w "internal/strconv.uint64pow10" .u64 Lib.pow10Tab) :
    Calls Tryd.prog 13 #[.int .i64 n] w fun e w' => e = .returned (.string ⟨(numText n).toArray⟩) ∧ Below w.heap.size w w' := by
  by_cases hn : 0 ≤ n ∧ n ≤ 4294967295
  · rw [numText, if_pos hn]
    have HT := Lib.hid htab
    clear htab
    go_enter Tryd.func13, Tryd.ntmps13
    go_wp2_with fail
    refine (isNum_yes _ _ hn.1 hn.2).mono ?_
    rintro e w' ⟨rfl, rfl⟩
    go_wp2_with fail
    refine (Tryd.strconv_Itoa n (by omega) (by omega) w HT.out).mono ?_
    rintro e w1 ⟨rfl, k, os, hw⟩
    have hb : Below w.heap.size w w1 := by rw [hw]; exact below_grow w k os
    clear hw
    go_wp2_with fail
    go_ret
    refine ⟨?_, hb⟩
    obtain ⟨m, rfl⟩ := Int.eq_ofNat_of_zero_le hn.1
    rw [Int.toNat_natCast, ← Lib.itoa_nonneg]
    rfl
  · rw [numText, if_neg hn]
    clear htab
    go_enter Tryd.func13, Tryd.ntmps13
    go_wp2_with fail
    refine (isNum_no _ _ hn).mono ?_
    rintro e w' ⟨rfl, rfl⟩
    go_wp2_with fail
    go_ret
    exact ⟨rfl, Below.refl _ _⟩
end Go.Proofs.YtbogonfamflpdaaDoor
