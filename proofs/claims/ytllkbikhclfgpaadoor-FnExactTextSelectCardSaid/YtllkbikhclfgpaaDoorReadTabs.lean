
/- What a reader of texts needs of package-level variables: the tables, the errors of strconv, the number of bytealg; and how the rows give it. -/

import Derived.Test.YtllkbikhclfgpaaDoorLaidErr

import Derived.Test.YtllkbikhclfgpaaDoorWordsTextI

import Derived.MakeChecks

/-! What a reader of texts needs of package-level variables: the tables, strconv's two errors, bytealg's number. -/

namespace Go.Proofs.YtllkbikhclfgpaaDoor

open Go.RowKit

abbrev faultV : Value := .iface 99 (.agg #[.int .i64 2])
def TabsR (W : World) : Prop := Tabs W ∧ (∃ a, W.var? Tryd.prog "strconv.ErrSyntax" = some #[.iface 148 (.pointer (some a))]) ∧ (∃ a, W.var? Tryd.prog "strconv.ErrRange" = some #[.iface 148 (.pointer (some a))]) ∧ ∃ m, W.cell? ⟨1, 0, none⟩ = some (.int .i64 m)
theorem TabsR.below {W W' : World} {B : Nat} (h : TabsR W) (hb : Below B W W') (hB : W.heap.size ≤ B) : TabsR W' := by
  obtain ⟨h1, ⟨a, h2⟩, ⟨b, h3⟩, m, h4⟩ := h
  have hb' := hb.mono hB
  exact ⟨h1.below hb hB, ⟨a, var_below (g := 3) (by kernel_rfl) h2 hb'⟩, ⟨b, var_below (g := 4) (by kernel_rfl) h3 hb'⟩, m, by rw [hb'.cell (p := ⟨_, 0, none⟩) (World.block_lt_of_cell? W _ h4)]; exact h4⟩
end Go.Proofs.YtllkbikhclfgpaaDoor

/-! What the rows' conditions on package-level variables give the walks that read texts. -/

namespace Go.Proofs.YtllkbikhclfgpaaDoor

open Go.RowKit

/-- The table of the powers of ten, listed third, strconv's two errors and the table of instructions behind it. -/
theorem laid_read {W : World} {x y z : String × DataW Unit} {rest : List (String × DataW Unit)} (h : laidMet Tryd.prog (x :: y :: ("internal/strconv.uint64pow10", Rows.laid_internal_strconv_uint64pow10) :: z :: ("strconv.ErrRange", Rows.laid_strconv_ErrRange) :: ("strconv.ErrSyntax", Rows.laid_strconv_ErrSyntax) :: ("loop.example/g00679/impl.opRows", Rows.laid_loop_example_g00679_impl_opRows) :: rest) W)
    (hm : ∃ m, W.cell? ⟨1, 0, none⟩ = some (.int .i64 m)) : TabsR W :=
  ⟨⟨tab_of_laid h, opCells_of (opTab_of_laid h.tail.tail.tail.tail.tail.tail)⟩, syn_of_laid h.tail, range_of_laid h.tail, hm⟩
end Go.Proofs.YtllkbikhclfgpaaDoor
