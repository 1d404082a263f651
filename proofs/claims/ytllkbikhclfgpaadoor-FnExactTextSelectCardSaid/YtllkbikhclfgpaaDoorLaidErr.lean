
/- What the rows' conditions on strconv's two errors give the walks. -/

import Derived.Test.YtllkbikhclfgpaaDoorLaid

import Derived.LaidLaws

namespace Go.Proofs.YtllkbikhclfgpaaDoor

open Go.RowKit

theorem star_err : "*" ++ "errors.errorString" = "*errors.errorString" := by decide
theorem row_err (u : TypeId) (h : Tryd.prog.typeName? 3 u = some "*errors.errorString") : u = 148 :=
  typeName_ptr_named (nm := "errors.errorString") (by rw [star_err]; kernel_rfl) (by kernel_rfl) (by decide) u (by rw [star_err]; exact h)

theorem range_of_laid {W : World} {x y z : String × DataW Unit} {rest : List (String × DataW Unit)} (h : laidMet Tryd.prog (x :: y :: z :: ("strconv.ErrRange", Rows.laid_strconv_ErrRange) :: rest) W) :
    ∃ a, W.var? Tryd.prog "strconv.ErrRange" = some #[.iface 148 (.pointer (some a))] := by
  obtain ⟨a, s, hv, _⟩ := laid_sentinel (g := 4) (ti := 59) (te := 150) (ts := 9) h.tail.tail.tail (by kernel_rfl) (by kernel_rfl) Tryd.underlying59 row_err Tryd.underlying148 Tryd.underlying150 rfl rfl Tryd.underlying9 (by kernel_rfl) (by kernel_rfl)
  exact ⟨a, hv⟩
theorem syn_of_laid {W : World} {x y z u : String × DataW Unit} {rest : List (String × DataW Unit)} (h : laidMet Tryd.prog (x :: y :: z :: u :: ("strconv.ErrSyntax", Rows.laid_strconv_ErrSyntax) :: rest) W) :
    ∃ a, W.var? Tryd.prog "strconv.ErrSyntax" = some #[.iface 148 (.pointer (some a))] := by
  obtain ⟨a, s, hv, _⟩ := laid_sentinel (g := 3) (ti := 59) (te := 150) (ts := 9) h.tail.tail.tail.tail (by kernel_rfl) (by kernel_rfl) Tryd.underlying59 row_err Tryd.underlying148 Tryd.underlying150 rfl rfl Tryd.underlying9 (by kernel_rfl) (by kernel_rfl)
  exact ⟨a, hv⟩
/-- A variable of one cell holds that still where nothing that was there has turned. -/
theorem var_below {W W' : World} {n : String} {g : Nat} {v : Value} (hg : Tryd.prog.globalNamed n = some g) (h : W.var? Tryd.prog n = some #[v]) (hb : Below W.heap.size W W') : W'.var? Tryd.prog n = some #[v] := by
  have hc := World.var?_cell hg h 0
  exact var?_below hb hg (World.block_lt_of_cell? W ⟨g, 0, none⟩ (by simpa using hc)) h
end Go.Proofs.YtllkbikhclfgpaaDoor
