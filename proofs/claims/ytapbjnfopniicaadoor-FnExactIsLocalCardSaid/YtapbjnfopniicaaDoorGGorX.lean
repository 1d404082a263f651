
/- GorC, GorS, GorX, merged for claims. -/

import Derived.Test.YtapbjnfopniicaaDoorGDEng

import Derived.Test.YtapbjnfopniicaaDoorChanCopy

import Derived.Lib.SliceRun

import Derived.Laws.CopyOwn

import Derived.BigFrame

import Derived.Deep.Cut

namespace Go.Proofs.YtapbjnfopniicaaDoor
set_option linter.unusedSimpArgs false
set_option linter.unusedVariables false
open Go.RowKit

/-- A cell set to what it holds: nothing turns. -/
theorem setCell_same {w : World} {b o : Nat} {cur : Array Value} {t : TypeId} {v : Value} (h : w.heap[b]? = some (.cells cur t (0, 0))) (hv : cur[o]? = some v) : w.setCell ⟨b, o, none⟩ v = w := by
  have h1 := heap_setCell_same w b o cur t v h
  have h2 : cur.setIfInBounds o v = cur := by
    apply Array.ext_getElem?
    intro i
    rw [Array.getElem?_setIfInBounds]
    split
    · rename_i he
      subst he
      split
      · rw [hv]
      · rename_i hlt
        rw [Array.getElem?_eq_none (by omega)]
    · rfl
  have h3 : (w.setCell ⟨b, o, none⟩ v).heap = w.heap := by
    apply Array.ext_getElem?
    intro k
    by_cases hk : k = b
    · subst hk
      rw [h1, h2, h]
    · exact Below.heap_setCell w ⟨b, o, none⟩ v k hk
  show { w with heap := (w.setCell ⟨b, o, none⟩ v).heap } = w
  rw [h3]
theorem setCells_same {b : Nat} {cur : Array Value} {t : TypeId} : ∀ (vs : List Value) (o : Nat) (w : World), w.heap[b]? = some (.cells cur t (0, 0)) → (∀ j v, vs[j]? = some v → cur[o + j]? = some v) → w.setCells b o vs = w
  | [], _, _, _, _ => rfl
  | v :: r, o, w, h, hv => by
    have h1 := setCell_same (v := v) h (by have := hv 0 v rfl; simpa using this)
    rw [World.setCells, h1]
    exact setCells_same r (o + 1) w h fun j u hu => by
      have := hv (j + 1) u (by simpa using hu)
      rwa [show o + (j + 1) = o + 1 + j by omega] at this

abbrev zeros (n : Nat) : List Value := List.replicate n (.int .i64 0)
theorem zeroIntG (w : World) : (zeroValue 3).run Tryd.prog w = .ok (.int .i64 0) w := by kernel_rfl

theorem clear_zeros {w : World} {g n : Nat} (hg : w.heap[g]? = some (.cells (zeros n).toArray 3 (0, 0))) (ty : TypeId) :
    (Builtin.clear_ #[22] ty #[.slice (some ⟨g, 0, none⟩) n n]).run Tryd.prog w = .ok (.tuple #[]) w := by
  rcases Nat.eq_zero_or_pos n with h0 | h0
  · subst h0
    simp [Builtin.clear_, run_underlying Tryd.underlying22]
  · rw [Lib.run_clear_slice w _ _ ty _ Tryd.underlying22 zeroIntG rfl rfl g 0 n n h0 (fun j hj => by
      have := box_cell (j := 0 + j) (v := .int .i64 0) hg (by simp [hj])
      rw [this]; rfl) (fun j hj => box_free hg (0 + j))]
    rw [setCells_same (List.replicate n (.int .i64 0)) 0 w hg (fun j v hv => by rw [Nat.zero_add, List.getElem?_toArray]; exact hv)]

theorem made_zeros (n : Nat) : madeCells #[.int .i64 0] n = (zeros n).toArray := by
  apply Array.ext_getElem?
  intro i
  by_cases h : i < n
  · simp [madeCells, h, Nat.mod_one]
  · simp [madeCells, h]
theorem make_zeros {n : Nat} (hn : n ≤ 1048576) (W : World) (k : Int) (hk : k = n) : (Instr.makeSlice 22 (.int .i64 k) (.int .i64 k)).run Tryd.prog W = .ok (.slice (some ⟨W.heap.size, 0, none⟩) n n) (W.alloc (.cells (zeros n).toArray 3)) := by
  subst hk
  obtain ⟨i0, hi0, hz0, hz1, hz2⟩ := info_parts infoIntC
  have := run_make (P := Tryd.prog) W 22 3 i0 _ Tryd.underlying22 hi0 hz0 .i64 .i64 n n (by omega) (by omega) (by rw [hz2]; omega) (by omega)
  rw [hz1, Int.toNat_natCast, Nat.mul_one, show (Value.int .i64 0).cells = #[.int .i64 0] from rfl, made_zeros] at this
  exact this

/-- A call of a Go function, as one step of a region that draws. -/
theorem step_call2 {P : Program} {ops : Array Oper} {o : Oper} {a : Act} {w : World} {K : Act → World → Prop} {Q : Exit → Act → World → Prop} {E : Prop} {R : Ending → World → Prop}
    (hg : o.guard = none) (f : FuncId) (x y : Operand) (tys : Array TypeId) (hop : o.op = .call { callee := .value (.func f), args := #[x, y], argTypes := tys })
    (hf : ∀ (args : Array Value) (w : World), Sem.run P (callFunc f args) w = .ok (.enter f args) w) (vx vy : Value) (hx : a.eval x = vx) (hy : a.eval y = vy) (hc : Calls P f #[vx, vy] w R) (h : ∀ e w', R e w' → ∃ v, e = .returned v ∧ K (a.put o.dst v) w') :
    if Region.wanted o (yielded ops a.tmps) = true then Oper.wp P o a w K Q else E := by
  have hw : Region.wanted o (yielded ops a.tmps) = true := by simp [Region.wanted, hg]
  rw [if_pos hw]
  subst hx hy
  unfold Oper.wp
  simp only [execOp, hop, resolve, Act.eval, Deferred.ofValue, invoke, Sem.run_bind, Sem.run_pure, Result.andThen_ok, hf, Array.append_empty, Array.empty_append, List.map_toArray, List.map_cons, List.map_nil, Oper.upon_enter]
  refine hc.mono ?_
  intro e w' hR
  obtain ⟨v, rfl, hK⟩ := h e w' hR
  exact hK
theorem step_call1 {P : Program} {ops : Array Oper} {o : Oper} {a : Act} {w : World} {K : Act → World → Prop} {Q : Exit → Act → World → Prop} {E : Prop} {R : Ending → World → Prop}
    (hg : o.guard = none) (f : FuncId) (x : Operand) (tys : Array TypeId) (hop : o.op = .call { callee := .value (.func f), args := #[x], argTypes := tys })
    (hf : ∀ (args : Array Value) (w : World), Sem.run P (callFunc f args) w = .ok (.enter f args) w) (vx : Value) (hx : a.eval x = vx) (hc : Calls P f #[vx] w R) (h : ∀ e w', R e w' → ∃ v, e = .returned v ∧ K (a.put o.dst v) w') :
    if Region.wanted o (yielded ops a.tmps) = true then Oper.wp P o a w K Q else E := by
  have hw : Region.wanted o (yielded ops a.tmps) = true := by simp [Region.wanted, hg]
  rw [if_pos hw]
  subst hx
  unfold Oper.wp
  simp only [execOp, hop, resolve, Act.eval, Deferred.ofValue, invoke, Sem.run_bind, Sem.run_pure, Result.andThen_ok, hf, Array.append_empty, Array.empty_append, List.map_toArray, List.map_cons, List.map_nil, Oper.upon_enter]
  refine hc.mono ?_
  intro e w' hR
  obtain ⟨v, rfl, hK⟩ := h e w' hR
  exact hK
theorem fenters_of {f : Nat} {fn : Func} (h : Tryd.prog.funcs[f]? = some fn) (h1 : (fn.name == "runtime.NumGoroutine") = false) (h2 : fn.body.isNone = false) (args : Array Value) (w : World) : Sem.run Tryd.prog (callFunc f args) w = .ok (.enter f args) w := by
  have h3 : ¬ fn.name = "runtime.NumGoroutine" := by simpa using h1
  have h4 : ¬ fn.body = none := fun h => by rw [h] at h2; simp at h2
  simp [callFunc, go_sem, h, h3, h4]
theorem cells_oneT (xs : List DItem) : ∀ u ∈ (xs.map fun x => [Value.int .i64 x.fKind, .int .i64 x.fObj, .int .i64 x.fVal, .bool x.fOk]).flatten, u.oneCell' = true := by
  intro u hu
  simp only [List.mem_flatten, List.mem_map] at hu
  obtain ⟨l, ⟨x, _, rfl⟩, hu⟩ := hu
  simp at hu
  rcases hu with rfl | rfl | rfl | rfl <;> rfl

/-- A row that fills its block. -/
theorem own_block {w : World} {g n : Nat} {xs : List Int} (hl : xs.length = n) (hn : n ≤ 1048576) (h : w.heap[g]? = some (.cells ((xs.map (Value.int .i64)) ++ zeros (n - n)).toArray 3 (0, 0))) (hw : ∀ x ∈ xs, (Lit.int .i64 x).wf = true) :
    OwnR Lay.int 3 w (fun k => g ≤ k ∧ k < g + 1) (some ⟨g, 0, none⟩) n n xs := by
  have hfl : (xs.map fun z => [Value.int .i64 z]).flatten = xs.map (Value.int .i64) := by
    clear hl hw h
    induction xs with
    | nil => rfl
    | cons a t ih => simp [ih]
  have hfl2 : (xs.map fun z => [Value.int .i64 z]).flatten.length = n * 1 := by rw [hfl, List.length_map, hl, Nat.mul_one]
  rw [Nat.sub_self, show zeros 0 = [] from rfl, List.append_nil, ← hfl] at h
  have ho : Own w g (g + 1) 3 1 (some ⟨g, 0, none⟩) n n ((xs.map fun z => [Value.int .i64 z]).flatten) := by
    refine ⟨⟨hfl2, .inr ⟨g, n, _, rfl, Nat.le_refl _, h, Nat.le_refl _, by simp only [maxLen]; omega, by rw [List.size_toArray]; exact hfl2, ?_⟩⟩, fun a ha => by injection ha with ha; subst ha; simp⟩
    exact List.take_of_length_le (by rw [hfl2]; exact Nat.le_refl _)
  exact ownR_flat ho hl hw
theorem wf_of_seen {w : World} {hi n : Nat} {A : Option Addr} {xs : List Int} (h : SeenR Lay.int w hi A n xs) : ∀ x ∈ xs, (Lit.int .i64 x).wf = true := (seenR_flat h).2

/-- A copy of a goroutine: the same, its slices in blocks of their own. -/
def CopiedG (x : DGor) (w : World) (e : Ending) (w' : World) : Prop :=
  Below w.heap.size w w' ∧ ∃ A2 c2 A4 c4 F2 F4, e = .returned (.agg #[.int .i64 x.fProc, .int .i64 x.fPc, .slice A2 x.fRegs.length c2, .int .i64 x.fState, .slice A4 x.fTrace.length c4]) ∧
    OwnR Lay.int 3 w' F2 A2 x.fRegs.length c2 x.fRegs ∧ OwnR layItem 79 w' F4 A4 x.fTrace.length c4 x.fTrace ∧
    (∀ g, F2 g ∨ F4 g → w.heap.size ≤ g ∧ g < w'.heap.size) ∧ (∀ g, F2 g → ¬ F4 g)

end Go.Proofs.YtapbjnfopniicaaDoor

namespace Go.Proofs.YtapbjnfopniicaaDoor
set_option linter.unusedSimpArgs false
set_option linter.unusedVariables false
open Go.RowKit

end Go.Proofs.YtapbjnfopniicaaDoor

namespace Go.Proofs.YtapbjnfopniicaaDoor
set_option linter.unusedSimpArgs false
set_option linter.unusedVariables false
open Go.RowKit

theorem ownG_nil {α : Type} (L : Lay α) (e : TypeId) (w : World) : OwnR L e w (fun _ => False) none 0 0 [] :=
  ⟨rfl, [], fun _ _ => False, Own.nil_ _ _ _ _ _, fun g hg => by simp [blkA] at hg, fun i x hx => by simp at hx, fun _ _ _ h => h.elim, fun _ _ _ h => h.elim, fun _ _ _ _ _ h => h.elim⟩
def setR (x : DGor) (r v : Int) : DGor := if (decide (0 ≤ r ∧ r < x.fRegs.length) && okV v) = true then { x with fRegs := x.fRegs.set r.toNat v } else x
def tellR (x : DGor) (i : DItem) : DGor := { x with fTrace := x.fTrace ++ [i] }
def regR (x : DGor) (r : Int) : Int := if 0 ≤ r ∧ r < x.fRegs.length then x.fRegs.getD r.toNat 0 else 0
def overR (x : DGor) (y : Int) : DGor := if y = 0 then tellR { x with fState := 3 } ⟨9, 0, 0, false⟩ else tellR { x with fState := 4 } ⟨10, 0, y, false⟩
def newG (p a : Int) : DGor := if p < 0 ∨ okV a = false then ⟨0, 0, [], 0, []⟩ else ⟨p, 0, [a, 0, 0, 0, 0, 0], 1, []⟩

theorem isValG_any (v : Int) (w : World) : Calls Tryd.prog 59 #[.int .i64 v] w fun e w' => e = .returned (.bool (okV v)) ∧ w = w' := by
  by_cases h0 : 0 ≤ v
  · by_cases h1 : v ≤ 999
    · rw [okV_yes (by omega)]
      go_enter Tryd.func59, Tryd.ntmps59
      go_wp2
      go_ret
      exact ⟨rfl, rfl⟩
    · rw [okV_no (by omega)]
      have h2 : decide (v ≤ 999) = false := decide_eq_false h1
      clear h1
      go_enter Tryd.func59, Tryd.ntmps59
      go_wp2
      go_ret
      exact ⟨rfl, rfl⟩
  · rw [okV_no (by omega)]
    have h2 : decide (0 ≤ v) = false := decide_eq_false h0
    clear h0
    go_enter Tryd.func59, Tryd.ntmps59
    go_wp2
    go_ret
    exact ⟨rfl, rfl⟩
theorem l03ValG_any (v : Int) (w : World) : Calls Tryd.prog 49 #[.int .i64 v] w fun e w' => e = .returned (.bool (okV v)) ∧ w = w' := by
  by_cases h0 : 0 ≤ v
  · by_cases h1 : v ≤ 999
    · rw [okV_yes (by omega)]
      go_enter Tryd.func49, Tryd.ntmps49
      go_wp2
      go_ret
      exact ⟨rfl, rfl⟩
    · rw [okV_no (by omega)]
      have h2 : decide (v ≤ 999) = false := decide_eq_false h1
      clear h1
      go_enter Tryd.func49, Tryd.ntmps49
      go_wp2
      go_ret
      exact ⟨rfl, rfl⟩
  · rw [okV_no (by omega)]
    have h2 : decide (0 ≤ v) = false := decide_eq_false h0
    clear h0
    go_enter Tryd.func49, Tryd.ntmps49
    go_wp2
    go_ret
    exact ⟨rfl, rfl⟩
theorem placeG_any (v c : Int) (w : World) : Calls Tryd.prog 56 #[.int .i64 v, .int .i64 c] w fun e w' => e = .returned (.bool (decide (0 ≤ v ∧ v < c))) ∧ w = w' := by
  by_cases h0 : 0 ≤ v
  · by_cases h1 : v < c
    · rw [show decide (0 ≤ v ∧ v < c) = true from decide_eq_true ⟨h0, h1⟩]
      go_enter Tryd.func56, Tryd.ntmps56
      go_wp2
      go_ret
      exact ⟨rfl, rfl⟩
    · rw [show decide (0 ≤ v ∧ v < c) = false from decide_eq_false (fun h => h1 h.2)]
      have h2 : decide (v < c) = false := decide_eq_false h1
      clear h1
      go_enter Tryd.func56, Tryd.ntmps56
      go_wp2
      go_ret
      exact ⟨rfl, rfl⟩
  · rw [show decide (0 ≤ v ∧ v < c) = false from decide_eq_false (fun h => h0 h.1)]
    have h2 : decide (0 ≤ v) = false := decide_eq_false h0
    clear h0
    go_enter Tryd.func56, Tryd.ntmps56
    go_wp2
    go_ret
    exact ⟨rfl, rfl⟩

theorem packGor {w : World} {hi : Nat} {x : DGor} {A2 A4 : Option Addr} {n2 c2 n4 c4 : Nat} (h0 : (Lit.int .i64 x.fProc).wf = true) (h1 : (Lit.int .i64 x.fPc).wf = true) (h2 : n2 ≤ c2 ∧ c2 ≤ maxLen ∧ SeenR Lay.int w hi A2 n2 x.fRegs) (h3 : (Lit.int .i64 x.fState).wf = true) (h4 : n4 ≤ c4 ∧ c4 ≤ maxLen ∧ SeenR layItem w hi A4 n4 x.fTrace) :
    layGor.see w hi x [.int .i64 x.fProc, .int .i64 x.fPc, .slice A2 n2 c2, .int .i64 x.fState, .slice A4 n4 c4] :=
  ⟨_, _, rfl, ⟨rfl, h0⟩, ⟨_, _, rfl, ⟨rfl, h1⟩, ⟨_, _, rfl, ⟨A2, n2, c2, rfl, h2⟩, ⟨_, _, rfl, ⟨rfl, h3⟩, ⟨A4, n4, c4, rfl, h4⟩⟩⟩⟩⟩

/-- One number of a row of one's own is set. -/
theorem OwnR.setI {w : World} {e : TypeId} {F : Nat → Prop} {g n c i : Nat} {xs : List Int} {v : Int} (h : OwnR Lay.int e w F (some ⟨g, 0, none⟩) n c xs) (hi : i < n) (hv : (Lit.int .i64 v).wf = true) :
    OwnR Lay.int e (w.setCell ⟨g, i, none⟩ (.int .i64 v)) F (some ⟨g, 0, none⟩) n c (xs.set i v) := by
  obtain ⟨hx, g', G, vs, hA, hFg, hGg, hGF, hgs, hown, hcell, hfr, hput⟩ := h.focus hi
  injection hA with hA
  injection hA with hA _
  subst hA
  refine hput _ v [.int .i64 v] rfl ⟨rfl, hv⟩ ((TurnedF.refl _ w).setCell (.inr rfl) _) ?_
  simp [putCells, Lay.int, Lay.flat]

theorem seen_four (w : World) (a b c d : Value) (t : TypeId) : Seen (w.alloc (.cells #[a, b, c, d] t)) (w.heap.size + 1) 4 (some ⟨w.heap.size, 0, none⟩) 1 [a, b, c, d] := by
  refine ⟨by simp, .inr ⟨w.heap.size, 0, rfl, by omega, fun j u hu => ?_⟩⟩
  refine box_cell (box_new w #[a, b, c, d] t) ?_
  rw [Nat.zero_add]
  simpa using hu
def JoinedT (w : World) (A : Option Addr) (n : Nat) (xs : List DItem) (v : DItem) (e : Ending) (w' : World) : Prop :=
  ∃ A' c', e = .returned (.slice A' (n + 1) c') ∧ OwnR layItem 79 w' (fun g => blkA A' = some g) A' (n + 1) c' (xs ++ [v]) ∧ (blkA A' = blkA A ∨ ∃ g, blkA A' = some g ∧ w.heap.size ≤ g) ∧
    (∀ k, k < w.heap.size → blkA A ≠ some k → w'.heap[k]? = w.heap[k]?) ∧ Below 0 w w'
theorem own_only {w : World} {F : Nat → Prop} {A : Option Addr} {n c : Nat} {xs : List DItem} (h : OwnR layItem 79 w F A n c xs) (F' : Nat → Prop) (hF : ∀ g, blkA A = some g → F' g) : OwnR layItem 79 w F' A n c xs := by
  obtain ⟨h1, vs, G, ho, hA, hel, hG, h4, h5⟩ := h
  exact ⟨h1, vs, fun _ _ => False, ho, hF, fun i x hx => ⟨(hel i x hx).1, (hel i x hx).2⟩, fun _ _ _ h => h.elim, fun _ _ _ h => h.elim, fun _ _ _ _ _ h => h.elim⟩
theorem own_blk {w : World} {F : Nat → Prop} {A : Option Addr} {n c : Nat} {xs : List DItem} (h : OwnR layItem 79 w F A n c xs) {g : Nat} (hg : blkA A = some g) : F g ∧ g < w.heap.size := by
  obtain ⟨h1, vs, G, ho, hA, _⟩ := h
  exact ⟨hA g hg, (ho.blk hg).2.2⟩
theorem own_wf {w : World} {F : Nat → Prop} {A : Option Addr} {n c : Nat} {xs : List DItem} (h : OwnR layItem 79 w F A n c xs) (v : DItem) (hv : (Lit.int .i64 v.fKind).wf = true ∧ (Lit.int .i64 v.fObj).wf = true ∧ (Lit.int .i64 v.fVal).wf = true) :
    ∀ x ∈ xs ++ [v], (Lit.int .i64 x.fKind).wf = true ∧ (Lit.int .i64 x.fObj).wf = true ∧ (Lit.int .i64 x.fVal).wf = true := by
  intro x hx
  rcases List.mem_append.1 hx with hx | hx
  · obtain ⟨i, hi⟩ := List.mem_iff_getElem?.1 hx
    obtain ⟨_, _, _, _, _, hel, _⟩ := h
    exact (hel i x hi).2
  · simp at hx
    subst hx
    exact hv

theorem joinedT_of {w w' : World} {o : Obj} {A A' : Option Addr} {n c c' : Nat} {xs : List DItem} {v : DItem} {F : Nat → Prop} (h : OwnR layItem 79 w F A n c xs) (hv : (Lit.int .i64 v.fKind).wf = true ∧ (Lit.int .i64 v.fObj).wf = true ∧ (Lit.int .i64 v.fVal).wf = true)
    (own : Own w' 0 w'.heap.size 79 4 A' (n + 1) c' ((xs.map fun x => [Value.int .i64 x.fKind, .int .i64 x.fObj, .int .i64 x.fVal, .bool x.fOk]).flatten ++ [.int .i64 v.fKind, .int .i64 v.fObj, .int .i64 v.fVal, .bool v.fOk])) (hb : Below 0 (w.alloc o) w')
    (hk : ∀ k, k < (w.alloc o).heap.size → blkA A ≠ some k → w'.heap[k]? = (w.alloc o).heap[k]?) (hA : blkA A' = blkA A ∨ blkA A' = some (w.alloc o).heap.size) :
    OwnR layItem 79 w' (fun g => blkA A' = some g) A' (n + 1) c' (xs ++ [v]) ∧ (blkA A' = blkA A ∨ ∃ g, blkA A' = some g ∧ w.heap.size ≤ g) ∧ (∀ k, k < w.heap.size → blkA A ≠ some k → w'.heap[k]? = w.heap[k]?) ∧ Below 0 w w' := by
  have hz := hb.size
  simp only [World.size_alloc] at hz hk hA
  have hfl : (xs.map fun x => [Value.int .i64 x.fKind, .int .i64 x.fObj, .int .i64 x.fVal, .bool x.fOk]).flatten ++ [.int .i64 v.fKind, .int .i64 v.fObj, .int .i64 v.fVal, .bool v.fOk] = ((xs ++ [v]).map fun x => [Value.int .i64 x.fKind, .int .i64 x.fObj, .int .i64 x.fVal, .bool x.fOk]).flatten := by simp
  rw [hfl] at own
  refine ⟨?_, ?_, fun k hk1 hk2 => (hk k (by omega) hk2).trans (Below.heap_alloc w _ k hk1), ⟨hb.os, hb.tape, hb.output, by omega, fun k hk => by omega⟩⟩
  · have h9 : OwnR layItem 79 w' (fun g => 0 ≤ g ∧ g < w'.heap.size) A' (n + 1) c' (xs ++ [v]) := ownR_flat own (by simp [h.1]) (own_wf h v hv)
    exact own_only h9 _ fun g hg => hg
  · rcases hA with h | h
    · exact .inl h
    · exact .inr ⟨_, h, by omega⟩

end Go.Proofs.YtapbjnfopniicaaDoor
