
/- The table of items' kinds: what its cells hold. -/

import Derived.Test.YtapbjnfopniicaaGreatDoorOpTab

import Derived.Test.YtapbjnfopniicaaGreatDoorGDEng

import Derived.Test.YtapbjnfopniicaaGreatDoorGChanI

namespace Go.Proofs.YtapbjnfopniicaaGreatDoor
set_option linter.unusedSimpArgs false
set_option linter.unusedVariables false
open Go.RowKit

def ItemTab (W : World) : Prop := ∀ (i : Nat) (v : Value), cellD (H := Unit) Tryz.prog 4 152 Rows.laid_loop_example_g00679_impl_itemRows i = some v → W.cell? ⟨0, i, none⟩ = some v
theorem itemTab_of_laid {W : World} {rest : List (String × DataW Unit)} (h : laidMet Tryz.prog (("loop.example/g00679/impl.itemRows", Rows.laid_loop_example_g00679_impl_itemRows) :: rest) W) : ItemTab W := by
  obtain ⟨ps, ⟨g', t', cs, fuel, p, q, hg', ht', hvar, hd, _, _⟩, _⟩ := h
  have hg : Tryz.prog.globalNamed "loop.example/g00679/impl.itemRows" = some 0 := by kernel_rfl
  have hty : (Tryz.prog.globals[0]?).map (·.type) = some 152 := by kernel_rfl
  obtain rfl := Option.some.inj (hg.symm.trans hg')
  obtain rfl := Option.some.inj (hty.symm.trans ht')
  intro i v hv
  have h1 := cellD_sound 4 fuel _ _ _ _ i v hv hd
  have h2 := World.var?_cell hg hvar i
  rw [h2]
  simpa using h1

/-- The words of the kinds; whether Obj is something; from where to where Val goes. -/
def itWords : List (List UInt8) := [[], [115, 101, 110, 116], [103, 111, 116], [99, 108, 111, 115, 101, 100], [112, 105, 99, 107, 101, 100], [108, 111, 99, 107, 101, 100], [117, 110, 108, 111, 99, 107, 101, 100], [115, 112, 97, 119, 110, 101, 100], [112, 114, 105, 110, 116, 101, 100], [100, 111, 110, 101], [100, 101, 97, 100]]
def itObjs : List Bool := [false, true, true, true, true, true, true, true, false, false, false]
def itLo : List Int := [0, 0, 0, 0, -1, 0, 0, 0, 0, 0, 1]
def itHi : List Int := [0, 999, 999, 0, 9223372036854775807, 0, 0, 9223372036854775807, 999, 0, 5]

def ItemCells (W : World) : Prop := ∀ k, 1 ≤ k → k ≤ 10 → W.cell? ⟨0, k * 4, none⟩ = some (Tx (itWords.getD k [])) ∧
  W.cell? ⟨0, k * 4 + 1, none⟩ = some (.bool (itObjs.getD k false)) ∧
  W.cell? ⟨0, k * 4 + 2, none⟩ = some (.int .i64 (itLo.getD k 0)) ∧
  W.cell? ⟨0, k * 4 + 3, none⟩ = some (.int .i64 (itHi.getD k 0))
theorem itemCells_of {W : World} (h : ItemTab W) : ItemCells W := by
  intro k h1 hk
  match k, h1, hk with
  | 1, _, _ | 2, _, _ | 3, _, _ | 4, _, _ | 5, _, _ | 6, _, _ | 7, _, _ | 8, _, _ | 9, _, _ | 10, _, _ =>
    exact ⟨h _ _ (by kernel_rfl), h _ _ (by kernel_rfl), h _ _ (by kernel_rfl), h _ _ (by kernel_rfl)⟩
theorem itemCells_below {W W' : World} {B : Nat} (h : ItemCells W) (hb : Below B W W') (hB : W.heap.size ≤ B) : ItemCells W' := by
  intro k h1 hk
  have hlt : 0 < W.heap.size := World.block_lt_of_cell? W _ (h k h1 hk).1
  refine ⟨?_, ?_, ?_, ?_⟩
  · rw [hb.cell (p := ⟨_, _, none⟩) (Nat.lt_of_lt_of_le hlt hB)]; exact (h k h1 hk).1
  · rw [hb.cell (p := ⟨_, _, none⟩) (Nat.lt_of_lt_of_le hlt hB)]; exact (h k h1 hk).2.1
  · rw [hb.cell (p := ⟨_, _, none⟩) (Nat.lt_of_lt_of_le hlt hB)]; exact (h k h1 hk).2.2.1
  · rw [hb.cell (p := ⟨_, _, none⟩) (Nat.lt_of_lt_of_le hlt hB)]; exact (h k h1 hk).2.2.2

def kindB (k v : Int) (ok : Bool) : Bool :=
  if k = 1 ∨ k = 8 then okV v else if k = 2 then okV v && (ok || decide (v = 0)) else if k = 4 then decide (-1 ≤ v) else if k = 7 then decide (0 ≤ v) else if k = 10 then decide (1 ≤ v ∧ v ≤ 5) else decide (v = 0)
def itemOkB (x : DItem) : Bool := decide (1 ≤ x.fKind ∧ x.fKind ≤ 10 ∧ 0 ≤ x.fObj) && !(decide (8 ≤ x.fKind ∧ x.fObj ≠ 0)) && !(x.fOk && decide (x.fKind ≠ 2)) && kindB x.fKind x.fVal x.fOk
/-- What the program makes of a row of the table. -/
def rowB (k obj val : Int) (ok hb : Bool) (lo hi : Int) : Bool :=
  !decide (obj < 0) && !(decide (obj > 0) && !hb) && !decide (val < lo) && !decide (val > hi) && (if k = 2 then ok || decide (val = 0) else !ok)
theorem row_is {k : Nat} {obj val : Int} {ok : Bool} (h1 : 1 ≤ k) (h2 : k ≤ 10) (hv : (Lit.int .i64 val).wf = true) : rowB k obj val ok (itObjs.getD k false) (itLo.getD k 0) (itHi.getD k 0) = itemOkB ⟨k, obj, val, ok⟩ := by
  have hv2 : val ≤ 9223372036854775807 := by
    exact (bounds_i64 hv).2
  match k, h1, h2 with
  | 1, _, _ | 2, _, _ | 3, _, _ | 4, _, _ | 5, _, _ | 6, _, _ | 7, _, _ | 8, _, _ | 9, _, _ | 10, _, _ =>
    cases ok <;> (rw [Bool.eq_iff_iff]; simp [rowB, itemOkB, kindB, okV, itObjs, itLo, itHi]; try omega)
end Go.Proofs.YtapbjnfopniicaaGreatDoor
