
/- OpTab, ItemTab, merged for claims. -/

import Derived.Test.YtghkdkagnibkgaaGreatDoorGBase

import Derived.Test.YtghkdkagnibkgaaGreatDoorRows

import Derived.LaidLaws

import Derived.ChangeArms

import Derived.ProofKit

import Derived.OpenShut

import Derived.LaidMore

import Derived.Lib.Hide

import Derived.WalkSmall

import Derived.Stop.LaidErr

import Derived.Test.YtghkdkagnibkgaaGreatDoorGDEng

import Derived.Test.YtghkdkagnibkgaaGreatDoorGChanI

namespace Go.Proofs.YtghkdkagnibkgaaGreatDoor

open Go.RowKit

/-- The words of the instructions, in their order. -/
def opWords : List (List UInt8) := [[104, 97, 108, 116], [115, 101, 116], [97, 100, 100], [115, 117, 98], [108, 101, 115, 115], [106, 117, 109, 112], [105, 102], [115, 101, 110, 100], [114, 101, 99, 118], [99, 108, 111, 115, 101], [115, 101, 108, 101, 99, 116], [108, 111, 99, 107], [117, 110, 108, 111, 99, 107], [115, 112, 97, 119, 110], [112, 114, 105, 110, 116]]
def opWord (z : Int) : List UInt8 := if 1 ≤ z ∧ z ≤ 15 then opWords.getD (z.toNat - 1) [] else []
/-- How many names each instruction bears. -/
def opFields : List Int := [0, 2, 3, 3, 3, 1, 2, 2, 3, 1, 1, 1, 1, 2, 1]
def opField (z : Int) : Int := if 1 ≤ z ∧ z ≤ 15 then opFields.getD (z.toNat - 1) 0 else -1

theorem op_cases {z : Int} (h : 1 ≤ z ∧ z ≤ 15) : z = 1 ∨ z = 2 ∨ z = 3 ∨ z = 4 ∨ z = 5 ∨ z = 6 ∨ z = 7 ∨ z = 8 ∨ z = 9 ∨ z = 10 ∨ z = 11 ∨ z = 12 ∨ z = 13 ∨ z = 14 ∨ z = 15 := by omega
/-- What stands in the i-th cell of a value of type t that reads as d. -/
def cellD {H : Type} (P : Program) : Nat → TypeId → DataW H → Nat → Option Value
  | 0, _, _, _ => none
  | m + 1, t, d, i =>
    match P.underlying t, d with
    | some (.int _), .lit (.int k z) => if i = 0 then some (.int k z) else none
    | some .string, .lit (.string bs) => if i = 0 then some (.string ⟨bs.toArray⟩) else none
    | some .bool, .lit (.bool b) => if i = 0 then some (.bool b) else none
    | some (.struct fs), .agg ds => (List.range fs.size).findSome? fun j =>
        match fs[j]?, ds[j]? with
        | some f, some d' => if f.offset ≤ i ∧ i < f.offset + P.cellsOf f.type then cellD P m f.type d' (i - f.offset) else none
        | _, _ => none
    | some (.array n e), .agg ds =>
        match ds[i / P.cellsOf e]? with
        | some d' => if i / P.cellsOf e < n ∧ 0 < P.cellsOf e then cellD P m e d' (i % P.cellsOf e) else none
        | none => none
    | _, _ => none

theorem piece_at {cs : List Value} {o k i : Nat} {v : Value} (h : ((cs.drop o).take k)[i]? = some v) : cs[o + i]? = some v := by
  rw [List.getElem?_take] at h
  split at h
  · rw [List.getElem?_drop] at h; exact h
  · cases h

theorem cellD_sound {H : Type} {enc : TypeId × Value → H} {P : Program} {w : World} {base : Nat} {sp : Nat → Bool} {held : Bool} :
    ∀ (m fuel : Nat) (t : TypeId) (cs : List Value) (d : DataW H) (p : List MemPlace) (i : Nat) (v : Value),
      cellD P m t d i = some v → DataW.trod enc P w base sp held fuel t cs = some (d, p) → cs[i]? = some v
  | 0, _, _, _, _, _, _, _, hc, _ => by simp [cellD] at hc
  | m + 1, fuel, t, cs, d, p, i, v, hc, h => by
    unfold cellD at hc
    split at hc
    · rename_i k0 k z hu
      obtain ⟨n, rfl, hx, _⟩ := DataW.trod_int hu h
      simp only [Prod.mk.injEq, DataW.lit.injEq, Lit.int.injEq] at hx
      split at hc
      · rename_i hi; subst hi; obtain ⟨⟨rfl, rfl⟩, _⟩ := hx; simpa using hc
      · cases hc
    · rename_i bs hu
      obtain ⟨s, rfl, hx, _⟩ := DataW.trod_string hu h
      simp only [Prod.mk.injEq, DataW.lit.injEq, Lit.string.injEq] at hx
      split at hc
      · rename_i hi; subst hi; obtain ⟨rfl, _⟩ := hx; simpa using hc
      · cases hc
    · rename_i b hu
      obtain ⟨s, rfl, hx⟩ := DataW.trod_bool hu h
      simp only [Prod.mk.injEq, DataW.lit.injEq, Lit.bool.injEq] at hx
      split at hc
      · rename_i hi; subst hi; obtain ⟨rfl, _⟩ := hx; simpa using hc
      · cases hc
    · rename_i fs ds hu
      obtain ⟨xs, n, rfl, hx, hl, hlen, hf⟩ := DataW.trod_struct hu h
      simp only [Prod.mk.injEq, DataW.agg.injEq] at hx
      obtain ⟨j, hj, hc⟩ := List.exists_of_findSome?_eq_some hc
      split at hc
      · rename_i f d' hfj hdj
        split at hc
        · rename_i hr
          have h1 := hf j f hfj
          rw [hx.1, List.getElem?_map] at hdj
          obtain ⟨y, hy, rfl⟩ := Option.map_eq_some_iff.1 hdj
          rw [hy] at h1
          have h2 := cellD_sound m n f.type _ y.1 y.2 (i - f.offset) v hc h1
          have h3 := piece_at h2
          rwa [Nat.add_sub_cancel' hr.1] at h3
        · cases hc
      · cases hc
    · rename_i n e ds hu
      obtain ⟨xs, n', rfl, hx, hl, hlen, hf⟩ := DataW.trod_array hu h
      simp only [Prod.mk.injEq, DataW.agg.injEq] at hx
      split at hc
      · rename_i d' hdj
        split at hc
        · rename_i hr
          have h1 := hf (i / P.cellsOf e) hr.1
          rw [hx.1, List.getElem?_map] at hdj
          obtain ⟨y, hy, rfl⟩ := Option.map_eq_some_iff.1 hdj
          rw [hy] at h1
          have h2 := cellD_sound m n' e _ y.1 y.2 (i % P.cellsOf e) v hc h1
          have h3 := piece_at h2
          rwa [Nat.div_add_mod'] at h3
        · cases hc
      · cases hc
    · cases hc

/-- The table of instructions: its cells, in whatever world. -/
def OpTab (W : World) : Prop := ∀ (i : Nat) (v : Value), cellD (H := Unit) Tryz.prog 4 229 Rows.laid_loop_example_g00679_impl_opRows i = some v → W.cell? ⟨0, i, none⟩ = some v

theorem opTab_of_laid {W : World} {rest : List (String × DataW Unit)} (h : laidMet Tryz.prog (("loop.example/g00679/impl.opRows", Rows.laid_loop_example_g00679_impl_opRows) :: rest) W) : OpTab W := by
  obtain ⟨ps, ⟨g', t', cs, fuel, p, q, hg', ht', hvar, hd, _, _⟩, _⟩ := h
  have hg : Tryz.prog.globalNamed "loop.example/g00679/impl.opRows" = some 0 := by kernel_rfl
  have hty : (Tryz.prog.globals[0]?).map (·.type) = some 229 := by kernel_rfl
  obtain rfl := Option.some.inj (hg.symm.trans hg')
  obtain rfl := Option.some.inj (hty.symm.trans ht')
  intro i v hv
  have h1 := cellD_sound 4 fuel _ _ _ _ i v hv hd
  have h2 := World.var?_cell hg hvar i
  rw [h2]
  simpa using h1

theorem OpTab.below {W W' : World} {B : Nat} (h : OpTab W) (hb : Below B W W') (hB : W.heap.size ≤ B) : OpTab W' := by
  intro i v hv
  have hc := h i v hv
  rw [hb.cell (p := ⟨_, i, none⟩) (Nat.lt_of_lt_of_le (World.block_lt_of_cell? W _ hc) hB)]
  exact hc
/-- What the fields of each instruction name, in their order. -/
def opNames : List (Int × Int × Int) := [(0, 0, 0), (1, 2, 0), (1, 1, 1), (1, 1, 1), (1, 1, 1), (3, 0, 0), (1, 3, 0), (4, 1, 0), (4, 1, 1), (4, 0, 0), (5, 0, 0), (6, 0, 0), (6, 0, 0), (7, 1, 0), (1, 0, 0)]

def OpCells (W : World) : Prop := ∀ k, k < 15 → W.cell? ⟨0, 4 * (k + 1), none⟩ = some (Tx (opWords.getD k [])) ∧
  W.cell? ⟨0, 4 * (k + 1) + 1, none⟩ = some (.int .i64 (opNames.getD k (0, 0, 0)).1) ∧
  W.cell? ⟨0, 4 * (k + 1) + 2, none⟩ = some (.int .i64 (opNames.getD k (0, 0, 0)).2.1) ∧
  W.cell? ⟨0, 4 * (k + 1) + 3, none⟩ = some (.int .i64 (opNames.getD k (0, 0, 0)).2.2)

theorem opCells_of {W : World} (h : OpTab W) : OpCells W := by
  intro k hk
  match k, hk with
  | 0, _ | 1, _ | 2, _ | 3, _ | 4, _ | 5, _ | 6, _ | 7, _ | 8, _ | 9, _ | 10, _ | 11, _ | 12, _ | 13, _ | 14, _ =>
    exact ⟨h _ _ (by kernel_rfl), h _ _ (by kernel_rfl), h _ _ (by kernel_rfl), h _ _ (by kernel_rfl)⟩

theorem opCells_below {W W' : World} (h : OpCells W) (hb : Below W.heap.size W W') : OpCells W' := by
  intro k hk
  have hlt : 0 < W.heap.size := World.block_lt_of_cell? W _ (h k hk).1
  refine ⟨?_, ?_, ?_, ?_⟩
  · rw [hb.cell (p := ⟨_, _, none⟩) hlt]; exact (h k hk).1
  · rw [hb.cell (p := ⟨_, _, none⟩) hlt]; exact (h k hk).2.1
  · rw [hb.cell (p := ⟨_, _, none⟩) hlt]; exact (h k hk).2.2.1
  · rw [hb.cell (p := ⟨_, _, none⟩) hlt]; exact (h k hk).2.2.2

end Go.Proofs.YtghkdkagnibkgaaGreatDoor

namespace Go.Proofs.YtghkdkagnibkgaaGreatDoor
set_option linter.unusedSimpArgs false
set_option linter.unusedVariables false
open Go.RowKit

def ItemTab (W : World) : Prop := ∀ (i : Nat) (v : Value), cellD (H := Unit) Tryz.prog 4 232 Rows.laid_loop_example_g00679_impl_itemRows i = some v → W.cell? ⟨1, i, none⟩ = some v
theorem itemTab_of_laid {W : World} {rest : List (String × DataW Unit)} (h : laidMet Tryz.prog (("loop.example/g00679/impl.itemRows", Rows.laid_loop_example_g00679_impl_itemRows) :: rest) W) : ItemTab W := by
  obtain ⟨ps, ⟨g', t', cs, fuel, p, q, hg', ht', hvar, hd, _, _⟩, _⟩ := h
  have hg : Tryz.prog.globalNamed "loop.example/g00679/impl.itemRows" = some 1 := by kernel_rfl
  have hty : (Tryz.prog.globals[1]?).map (·.type) = some 232 := by kernel_rfl
  obtain rfl := Option.some.inj (hg.symm.trans hg')
  obtain rfl := Option.some.inj (hty.symm.trans ht')
  intro i v hv
  have h1 := cellD_sound 4 fuel _ _ _ _ i v hv hd
  have h2 := World.var?_cell hg hvar i
  rw [h2]
  simpa using h1

/-- The words of the kinds; whether Obj is something; from where to where Val goes. -/
def itWords : List (List UInt8) := [[], [115, 101, 110, 116], [103, 111, 116], [99, 108, 111, 115, 101, 100], [112, 105, 99, 107, 101, 100], [108, 111, 99, 107, 101, 100], [117, 110, 108, 111, 99, 107, 101, 100], [115, 112, 97, 119, 110, 101, 100], [112, 114, 105, 110, 116, 101, 100], [100, 111, 110, 101], [100, 101, 97, 100]]
def itObjs : List Bool := [false, true, true, true, true, true, true, true, false, false, false]
def itLo : List Int := [0, 0, 0, 0, -1, 0, 0, 0, 0, 0, 1]
def itHi : List Int := [0, 999, 999, 0, 9223372036854775807, 0, 0, 9223372036854775807, 999, 0, 5]

def ItemCells (W : World) : Prop := ∀ k, 1 ≤ k → k ≤ 10 → W.cell? ⟨1, k * 4, none⟩ = some (Tx (itWords.getD k [])) ∧
  W.cell? ⟨1, k * 4 + 1, none⟩ = some (.bool (itObjs.getD k false)) ∧
  W.cell? ⟨1, k * 4 + 2, none⟩ = some (.int .i64 (itLo.getD k 0)) ∧
  W.cell? ⟨1, k * 4 + 3, none⟩ = some (.int .i64 (itHi.getD k 0))
theorem itemCells_of {W : World} (h : ItemTab W) : ItemCells W := by
  intro k h1 hk
  match k, h1, hk with
  | 1, _, _ | 2, _, _ | 3, _, _ | 4, _, _ | 5, _, _ | 6, _, _ | 7, _, _ | 8, _, _ | 9, _, _ | 10, _, _ =>
    exact ⟨h _ _ (by kernel_rfl), h _ _ (by kernel_rfl), h _ _ (by kernel_rfl), h _ _ (by kernel_rfl)⟩
theorem itemCells_below {W W' : World} {B : Nat} (h : ItemCells W) (hb : Below B W W') (hB : W.heap.size ≤ B) : ItemCells W' := by
  intro k h1 hk
  have hlt : 1 < W.heap.size := World.block_lt_of_cell? W _ (h k h1 hk).1
  refine ⟨?_, ?_, ?_, ?_⟩
  · rw [hb.cell (p := ⟨_, _, none⟩) (Nat.lt_of_lt_of_le hlt hB)]; exact (h k h1 hk).1
  · rw [hb.cell (p := ⟨_, _, none⟩) (Nat.lt_of_lt_of_le hlt hB)]; exact (h k h1 hk).2.1
  · rw [hb.cell (p := ⟨_, _, none⟩) (Nat.lt_of_lt_of_le hlt hB)]; exact (h k h1 hk).2.2.1
  · rw [hb.cell (p := ⟨_, _, none⟩) (Nat.lt_of_lt_of_le hlt hB)]; exact (h k h1 hk).2.2.2

def kindB (k v : Int) (ok : Bool) : Bool :=
  if k = 1 ∨ k = 8 then okV v else if k = 2 then okV v && (ok || decide (v = 0)) else if k = 4 then decide (-1 ≤ v) else if k = 7 then decide (0 ≤ v) else if k = 10 then decide (1 ≤ v ∧ v ≤ 5) else decide (v = 0)
def itemOkB (x : DItem) : Bool := decide (1 ≤ x.fKind ∧ x.fKind ≤ 10 ∧ 0 ≤ x.fObj) && !(decide (8 ≤ x.fKind ∧ x.fObj ≠ 0)) && !(x.fOk && decide (x.fKind ≠ 2)) && kindB x.fKind x.fVal x.fOk
/-- What the program makes of a row of the table. -/
def rowB (k obj val : Int) (ok hb : Bool) (lo hi : Int) : Bool :=
  !decide (obj < 0) && !(decide (obj > 0) && !hb) && !decide (val < lo) && !decide (val > hi) && (if k = 2 then ok || decide (val = 0) else !ok)
theorem row_is {k : Nat} {obj val : Int} {ok : Bool} (h1 : 1 ≤ k) (h2 : k ≤ 10) (hv : (Lit.int .i64 val).wf = true) : rowB k obj val ok (itObjs.getD k false) (itLo.getD k 0) (itHi.getD k 0) = itemOkB ⟨k, obj, val, ok⟩ := by
  have hv2 : val ≤ 9223372036854775807 := by
    exact (bounds_i64 hv).2
  match k, h1, h2 with
  | 1, _, _ | 2, _, _ | 3, _, _ | 4, _, _ | 5, _, _ | 6, _, _ | 7, _, _ | 8, _, _ | 9, _, _ | 10, _, _ =>
    cases ok <;> (rw [Bool.eq_iff_iff]; simp [rowB, itemOkB, kindB, okV, itObjs, itLo, itHi]; try omega)
end Go.Proofs.YtghkdkagnibkgaaGreatDoor
