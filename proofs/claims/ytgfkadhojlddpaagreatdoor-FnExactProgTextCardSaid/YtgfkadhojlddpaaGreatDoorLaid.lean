
/- What the rows' conditions on package-level variables give the walks. -/

import Derived.Test.YtgfkadhojlddpaaGreatDoorNumText

import Derived.Test.YtgfkadhojlddpaaGreatDoorRows

import Derived.Lib.LaidTab

import Derived.ProofKit

import Derived.LaidMore

import Derived.WalkSmall

import Derived.Stop.LaidErr

namespace Go.Proofs.YtgfkadhojlddpaaGreatDoor

open Go.RowKit

/-- The table of the powers of ten, listed third. -/
theorem tab_of_laid {W : World} {x y : String × DataW Unit} {rest : List (String × DataW Unit)} (h : laidMet Tryz.prog (x :: y :: ("internal/strconv.uint64pow10", Rows.laid_internal_strconv_uint64pow10) :: rest) W) :
    Lib.TabIs Tryz.prog W "internal/strconv.uint64pow10" .u64 Lib.pow10Tab := by
  have h2 := h.tail.tail
  exact Lib.tabIs_of_head (g := 3) (t := 258) (e := 249) (n := 20) (by kernel_rfl) (by kernel_rfl) (by kernel_rfl) (by kernel_rfl) (by kernel_rfl) (by kernel_rfl) h2

theorem tab_below {W W' : World} {B : Nat} (h : Lib.TabIs Tryz.prog W "internal/strconv.uint64pow10" .u64 Lib.pow10Tab) (hb : Below B W W') (hB : W.heap.size ≤ B) :
    Lib.TabIs Tryz.prog W' "internal/strconv.uint64pow10" .u64 Lib.pow10Tab := by
  have hg : Tryz.prog.globalNamed "internal/strconv.uint64pow10" = some 3 := by kernel_rfl
  have hc := h.cell hg 0 (by decide)
  exact var?_below hb hg (Nat.lt_of_lt_of_le (World.block_lt_of_cell? W _ hc) hB) h
end Go.Proofs.YtgfkadhojlddpaaGreatDoor
