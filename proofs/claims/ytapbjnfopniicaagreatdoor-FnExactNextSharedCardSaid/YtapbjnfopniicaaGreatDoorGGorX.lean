
/- GorC, GorS, GorX, merged for claims. -/

import Derived.Test.YtapbjnfopniicaaGreatDoorGDEng

import Derived.Test.YtapbjnfopniicaaGreatDoorChanCopy

import Derived.Lib.SliceRun

import Derived.Laws.CopyOwn

import Derived.BigFrame

import Derived.Deep.Cut

namespace Go.Proofs.YtapbjnfopniicaaGreatDoor
set_option linter.unusedSimpArgs false
set_option linter.unusedVariables false
open Go.RowKit

/-- A cell set to what it holds: nothing turns. -/
theorem setCell_same {w : World} {b o : Nat} {cur : Array Value} {t : TypeId} {v : Value} (h : w.heap[b]? = some (.cells cur t (0, 0))) (hv : cur[o]? = some v) : w.setCell ⟨b, o, none⟩ v = w := by
  have h1 := heap_setCell_same w b o cur t v h
  have h2 : cur.setIfInBounds o v = cur := by
    apply Array.ext_getElem?
    intro i
    rw [Array.getElem?_setIfInBounds]
    split
    · rename_i he
      subst he
      split
      · rw [hv]
      · rename_i hlt
        rw [Array.getElem?_eq_none (by omega)]
    · rfl
  have h3 : (w.setCell ⟨b, o, none⟩ v).heap = w.heap := by
    apply Array.ext_getElem?
    intro k
    by_cases hk : k = b
    · subst hk
      rw [h1, h2, h]
    · exact Below.heap_setCell w ⟨b, o, none⟩ v k hk
  show { w with heap := (w.setCell ⟨b, o, none⟩ v).heap } = w
  rw [h3]
theorem setCells_same {b : Nat} {cur : Array Value} {t : TypeId} : ∀ (vs : List Value) (o : Nat) (w : World), w.heap[b]? = some (.cells cur t (0, 0)) → (∀ j v, vs[j]? = some v → cur[o + j]? = some v) → w.setCells b o vs = w
  | [], _, _, _, _ => rfl
  | v :: r, o, w, h, hv => by
    have h1 := setCell_same (v := v) h (by have := hv 0 v rfl; simpa using this)
    rw [World.setCells, h1]
    exact setCells_same r (o + 1) w h fun j u hu => by
      have := hv (j + 1) u (by simpa using hu)
      rwa [show o + (j + 1) = o + 1 + j by omega] at this

abbrev zeros (n : Nat) : List Value := List.replicate n (.int .i64 0)
theorem zeroIntG (w : World) : (zeroValue 3).run Tryz.prog w = .ok (.int .i64 0) w := by kernel_rfl

theorem clear_zeros {w : World} {g n : Nat} (hg : w.heap[g]? = some (.cells (zeros n).toArray 3 (0, 0))) (ty : TypeId) :
    (Builtin.clear_ #[22] ty #[.slice (some ⟨g, 0, none⟩) n n]).run Tryz.prog w = .ok (.tuple #[]) w := by
  rcases Nat.eq_zero_or_pos n with h0 | h0
  · subst h0
    simp [Builtin.clear_, run_underlying Tryz.underlying22]
  · rw [Lib.run_clear_slice w _ _ ty _ Tryz.underlying22 zeroIntG rfl rfl g 0 n n h0 (fun j hj => by
      have := box_cell (j := 0 + j) (v := .int .i64 0) hg (by simp [hj])
      rw [this]; rfl) (fun j hj => box_free hg (0 + j))]
    rw [setCells_same (List.replicate n (.int .i64 0)) 0 w hg (fun j v hv => by rw [Nat.zero_add, List.getElem?_toArray]; exact hv)]

set_option maxRecDepth 100000 in
set_option maxHeartbeats 2000000 in
theorem loadRegs_any {w : World} {hi g n m c : Nat} {A : Option Addr} {xs : List Int} (hg : w.heap[g]? = some (.cells (zeros n).toArray 3 (0, 0))) (h : SeenR Lay.int w hi A m xs) (hm : m ≤ n) :
    Calls Tryz.prog 110 #[.slice (some ⟨g, 0, none⟩) n n, .slice A m c] w fun e w' => e = .returned (.slice (some ⟨g, 0, none⟩) n n) ∧
      w'.heap[g]? = some (.cells ((xs.map (Value.int .i64)) ++ zeros (n - m)).toArray 3 (0, 0)) ∧ Below g w w' := by
  have hcl := clear_zeros hg
  have hlen : xs.length = m := h.1
  obtain ⟨cs, hcs⟩ : ∃ cs, cs = xs.map (Value.int .i64) := ⟨_, rfl⟩
  have hcl2 : cs.length = m := by rw [hcs, List.length_map, hlen]
  have hmin : cs.length = Nat.min m n := by rw [hcl2]; exact (Nat.min_eq_left hm).symm
  have hpos : 0 < cs.length → ∃ ad, A = some ad ∧ ∀ j v, cs[j]? = some v → w.cell? (ad.add j) = some v := by
    intro hp
    rcases h.2 with h0 | ⟨b, o, rfl, _, f, hf⟩
    · subst h0
      simp at hcs
      subst hcs
      simp at hp
    · refine ⟨_, rfl, fun j v hv => ?_⟩
      rw [hcs, List.getElem?_map] at hv
      obtain ⟨z, hz, rfl⟩ := Option.map_eq_some_iff.1 hv
      obtain ⟨⟨h1, _⟩, h2⟩ := hf j z hz
      have := h2 0 (.int .i64 z) (by rw [h1]; rfl)
      rw [add_plain]
      simpa [Lay.int, Lay.flat] using this
  have hone : ∀ v ∈ cs, v.oneCell' = true := by
    intro v hv
    rw [hcs] at hv
    obtain ⟨z, _, rfl⟩ := List.mem_map.1 hv
    rfl
  have hfit : 0 + cs.length ≤ (zeros n).length := by simp; omega
  have hspl : splice (zeros n) 0 cs = cs ++ zeros (n - m) := by
    simp [splice, hcl2]
  have HS := Lib.hid hspl
  have HC := Lib.hid hcs
  have HP := Lib.hid hpos
  have H1 := Lib.hid hone
  have HG := Lib.hid hg
  clear hspl hcs hpos hone h hg hlen
  go_enter Tryz.func110, Tryz.ntmps110
  go_wp2_with (first | (simp only [hcl]) | (refine wpList_copy_splice rfl (.tmp 6) (.tmp 7) _ _ rfl 3 Tryz.underlying22 (by kernel_rfl) _ A n n m c rfl rfl g 0 (zeros n) 3 HG.out cs hmin (fun h => ⟨rfl, HP.out h⟩) hfit H1.out g w (Below.refl _ _) (Nat.le_refl _) ?_; intro w2 HG2 hB2))
  go_ret
  refine ⟨rfl, ?_, hB2⟩
  rw [← HC.out, ← HS.out]
  exact HG2.out

theorem made_zeros (n : Nat) : madeCells #[.int .i64 0] n = (zeros n).toArray := by
  apply Array.ext_getElem?
  intro i
  by_cases h : i < n
  · simp [madeCells, h, Nat.mod_one]
  · simp [madeCells, h]
theorem make_zeros {n : Nat} (hn : n ≤ 1048576) (W : World) (k : Int) (hk : k = n) : (Instr.makeSlice 22 (.int .i64 k) (.int .i64 k)).run Tryz.prog W = .ok (.slice (some ⟨W.heap.size, 0, none⟩) n n) (W.alloc (.cells (zeros n).toArray 3)) := by
  subst hk
  obtain ⟨i0, hi0, hz0, hz1, hz2⟩ := info_parts infoIntC
  have := run_make (P := Tryz.prog) W 22 3 i0 _ Tryz.underlying22 hi0 hz0 .i64 .i64 n n (by omega) (by omega) (by rw [hz2]; omega) (by omega)
  rw [hz1, Int.toNat_natCast, Nat.mul_one, show (Value.int .i64 0).cells = #[.int .i64 0] from rfl, made_zeros] at this
  exact this

/-- A call of a Go function, as one step of a region that draws. -/
theorem step_call2 {P : Program} {ops : Array Oper} {o : Oper} {a : Act} {w : World} {K : Act → World → Prop} {Q : Exit → Act → World → Prop} {E : Prop} {R : Ending → World → Prop}
    (hg : o.guard = none) (f : FuncId) (x y : Operand) (tys : Array TypeId) (hop : o.op = .call { callee := .value (.func f), args := #[x, y], argTypes := tys })
    (hf : ∀ (args : Array Value) (w : World), Sem.run P (callFunc f args) w = .ok (.enter f args) w) (vx vy : Value) (hx : a.eval x = vx) (hy : a.eval y = vy) (hc : Calls P f #[vx, vy] w R) (h : ∀ e w', R e w' → ∃ v, e = .returned v ∧ K (a.put o.dst v) w') :
    if Region.wanted o (yielded ops a.tmps) = true then Oper.wp P o a w K Q else E := by
  have hw : Region.wanted o (yielded ops a.tmps) = true := by simp [Region.wanted, hg]
  rw [if_pos hw]
  subst hx hy
  unfold Oper.wp
  simp only [execOp, hop, resolve, Act.eval, Deferred.ofValue, invoke, Sem.run_bind, Sem.run_pure, Result.andThen_ok, hf, Array.append_empty, Array.empty_append, List.map_toArray, List.map_cons, List.map_nil, Oper.upon_enter]
  refine hc.mono ?_
  intro e w' hR
  obtain ⟨v, rfl, hK⟩ := h e w' hR
  exact hK
theorem step_call1 {P : Program} {ops : Array Oper} {o : Oper} {a : Act} {w : World} {K : Act → World → Prop} {Q : Exit → Act → World → Prop} {E : Prop} {R : Ending → World → Prop}
    (hg : o.guard = none) (f : FuncId) (x : Operand) (tys : Array TypeId) (hop : o.op = .call { callee := .value (.func f), args := #[x], argTypes := tys })
    (hf : ∀ (args : Array Value) (w : World), Sem.run P (callFunc f args) w = .ok (.enter f args) w) (vx : Value) (hx : a.eval x = vx) (hc : Calls P f #[vx] w R) (h : ∀ e w', R e w' → ∃ v, e = .returned v ∧ K (a.put o.dst v) w') :
    if Region.wanted o (yielded ops a.tmps) = true then Oper.wp P o a w K Q else E := by
  have hw : Region.wanted o (yielded ops a.tmps) = true := by simp [Region.wanted, hg]
  rw [if_pos hw]
  subst hx
  unfold Oper.wp
  simp only [execOp, hop, resolve, Act.eval, Deferred.ofValue, invoke, Sem.run_bind, Sem.run_pure, Result.andThen_ok, hf, Array.append_empty, Array.empty_append, List.map_toArray, List.map_cons, List.map_nil, Oper.upon_enter]
  refine hc.mono ?_
  intro e w' hR
  obtain ⟨v, rfl, hK⟩ := h e w' hR
  exact hK
theorem fenters_of {f : Nat} {fn : Func} (h : Tryz.prog.funcs[f]? = some fn) (h1 : (fn.name == "runtime.NumGoroutine") = false) (h2 : fn.body.isNone = false) (args : Array Value) (w : World) : Sem.run Tryz.prog (callFunc f args) w = .ok (.enter f args) w := by
  have h3 : ¬ fn.name = "runtime.NumGoroutine" := by simpa using h1
  have h4 : ¬ fn.body = none := fun h => by rw [h] at h2; simp at h2
  simp [callFunc, go_sem, h, h3, h4]
theorem enters_loadRegs : ∀ (args : Array Value) (w : World), Sem.run Tryz.prog (callFunc 110 args) w = .ok (.enter 110 args) w := fenters_of Tryz.func110 (by kernel_rfl) (by kernel_rfl)

theorem cells_oneT (xs : List DItem) : ∀ u ∈ (xs.map fun x => [Value.int .i64 x.fKind, .int .i64 x.fObj, .int .i64 x.fVal, .bool x.fOk]).flatten, u.oneCell' = true := by
  intro u hu
  simp only [List.mem_flatten, List.mem_map] at hu
  obtain ⟨l, ⟨x, _, rfl⟩, hu⟩ := hu
  simp at hu
  rcases hu with rfl | rfl | rfl | rfl <;> rfl

set_option maxRecDepth 100000 in
set_option maxHeartbeats 1000000 in
theorem copiedT_any {w : World} {hi n c : Nat} {A : Option Addr} {xs : List DItem} (h : SeenR layItem w hi A n xs) (hn : n ≤ 1048576) :
    Calls Tryz.prog 111 #[.slice A n c] w (MadeR layItem 96 w n xs) := by
  obtain ⟨i0, hi0, hz0, hz1, hz2⟩ := info_parts infoItem
  obtain ⟨hs, hw⟩ := seenR_flat h
  have hl := h.1
  have HW := Lib.hid hw
  have HL := Lib.hid hl
  clear h hw hl
  go_enter Tryz.func111, Tryz.ntmps111
  go_wp2_with (at_builtin; refine wpList_append_seen rfl (.const (.slice none 0 0)) (.tmp 3) _ rfl w.heap.size w.heap.size 96 i0 _ 4 32 Tryz.underlying140 hi0 hz0 hz1 hz2 rfl (by omega) none 0 0 [] rfl (Own.nil_ _ _ _ _ _) hi A n c _ rfl hs (cells_oneT _) (by simp only [maxLen]; omega) (by omega) (Nat.le_refl _) ?_; intro A' c' w' hown hb)
  go_ret
  rw [Nat.zero_add] at hown
  simp only [List.nil_append] at hown
  exact ⟨A', c', rfl, ownR_flat hown HL.out HW.out, hb⟩

/-- A row that fills its block. -/
theorem own_block {w : World} {g n : Nat} {xs : List Int} (hl : xs.length = n) (hn : n ≤ 1048576) (h : w.heap[g]? = some (.cells ((xs.map (Value.int .i64)) ++ zeros (n - n)).toArray 3 (0, 0))) (hw : ∀ x ∈ xs, (Lit.int .i64 x).wf = true) :
    OwnR Lay.int 3 w (fun k => g ≤ k ∧ k < g + 1) (some ⟨g, 0, none⟩) n n xs := by
  have hfl : (xs.map fun z => [Value.int .i64 z]).flatten = xs.map (Value.int .i64) := by
    clear hl hw h
    induction xs with
    | nil => rfl
    | cons a t ih => simp [ih]
  have hfl2 : (xs.map fun z => [Value.int .i64 z]).flatten.length = n * 1 := by rw [hfl, List.length_map, hl, Nat.mul_one]
  rw [Nat.sub_self, show zeros 0 = [] from rfl, List.append_nil, ← hfl] at h
  have ho : Own w g (g + 1) 3 1 (some ⟨g, 0, none⟩) n n ((xs.map fun z => [Value.int .i64 z]).flatten) := by
    refine ⟨⟨hfl2, .inr ⟨g, n, _, rfl, Nat.le_refl _, h, Nat.le_refl _, by simp only [maxLen]; omega, by rw [List.size_toArray]; exact hfl2, ?_⟩⟩, fun a ha => by injection ha with ha; subst ha; simp⟩
    exact List.take_of_length_le (by rw [hfl2]; exact Nat.le_refl _)
  exact ownR_flat ho hl hw
theorem wf_of_seen {w : World} {hi n : Nat} {A : Option Addr} {xs : List Int} (h : SeenR Lay.int w hi A n xs) : ∀ x ∈ xs, (Lit.int .i64 x).wf = true := (seenR_flat h).2

/-- A copy of a goroutine: the same, its slices in blocks of their own. -/
def CopiedG (x : DGor) (w : World) (e : Ending) (w' : World) : Prop :=
  Below w.heap.size w w' ∧ ∃ A2 c2 A4 c4 F2 F4, e = .returned (.agg #[.int .i64 x.fProc, .int .i64 x.fPc, .slice A2 x.fRegs.length c2, .int .i64 x.fState, .slice A4 x.fTrace.length c4]) ∧
    OwnR Lay.int 3 w' F2 A2 x.fRegs.length c2 x.fRegs ∧ OwnR layItem 96 w' F4 A4 x.fTrace.length c4 x.fTrace ∧
    (∀ g, F2 g ∨ F4 g → w.heap.size ≤ g ∧ g < w'.heap.size) ∧ (∀ g, F2 g → ¬ F4 g)

set_option maxRecDepth 100000 in
set_option maxHeartbeats 4000000 in
theorem copyGor_any {w : World} {hi : Nat} {x : DGor} {vs : List Value} (h : layGor.see w hi x vs) (hhi : hi ≤ w.heap.size) (hn : szGor x ≤ 1048576) :
    Calls Tryz.prog 96 #[.agg vs.toArray] w (CopiedG x w) := by
  obtain ⟨A2, n2, c2, A4, n4, c4, rfl, hw0, hw1, ⟨hc2, hm2, s2⟩, hw3, ⟨hc4, hm4, s4⟩⟩ := seeGor h
  obtain ⟨pr, pc, regs, st, tr⟩ := x
  have l2 := s2.1
  have l4 := s4.1
  simp only at l2 l4 s2 s4 hw0 hw1 hw3
  subst l2 l4
  have hn2 : regs.length ≤ 1048576 := by unfold szGor at hn; simp at hn; omega
  have hn4 : tr.length ≤ 1048576 := by unfold szGor at hn; simp at hn; omega
  unfold CopiedG
  simp only
  have HW := Lib.hid (wf_of_seen s2)
  have hall0 : Below w.heap.size w ((w.alloc (.cells #[.int .i64 pr, .int .i64 pc, .slice A2 regs.length c2, .int .i64 st, .slice A4 tr.length c4] 34)).alloc (.cells #[.int .i64 0, .int .i64 0, .slice none 0 0, .int .i64 0, .slice none 0 0] 34)) := ((Below.refl _ _).alloc (Nat.le_refl _) _).alloc (by simp) _
  have hX0 := box_keep (box_new w #[.int .i64 pr, .int .i64 pc, .slice A2 regs.length c2, .int .i64 st, .slice A4 tr.length c4] 34) ((Below.refl _ _).alloc (Nat.le_refl _) (.cells #[.int .i64 0, .int .i64 0, .slice none 0 0, .int .i64 0, .slice none 0 0] 34)) (by simp)
  have hR0 := box_new (w.alloc (.cells #[.int .i64 pr, .int .i64 pc, .slice A2 regs.length c2, .int .i64 st, .slice A4 tr.length c4] 34)) #[.int .i64 0, .int .i64 0, .slice none 0 0, .int .i64 0, .slice none 0 0] 34
  rw [World.size_alloc] at hR0
  have hz0 : ((w.alloc (.cells #[.int .i64 pr, .int .i64 pc, .slice A2 regs.length c2, .int .i64 st, .slice A4 tr.length c4] 34)).alloc (.cells #[.int .i64 0, .int .i64 0, .slice none 0 0, .int .i64 0, .slice none 0 0] 34)).heap.size = w.heap.size + 2 := by simp
  have hs2 := s2.below hall0 hhi
  have hs4 := s4.below hall0 hhi
  have HW0 := Lib.hid hw0
  go_enter Tryz.func96, Tryz.ntmps96
  go_upto_region 1 with (fail)
  generalize ((w.alloc (.cells #[.int .i64 pr, .int .i64 pc, .slice A2 regs.length c2, .int .i64 st, .slice A4 tr.length c4] 34)).alloc (.cells #[.int .i64 0, .int .i64 0, .slice none 0 0, .int .i64 0, .slice none 0 0] 34)) = W0 at *
  have hlt0 : w.heap.size < W0.heap.size := by omega
  have hmk := make_zeros hn2 W0
  have hmk2 := make_zeros hn2 W0.drew
  have hmb : Below W0.heap.size W0 (W0.alloc (.cells (zeros regs.length).toArray 3)) := (Below.refl _ _).alloc (Nat.le_refl _) _
  have hL := (loadRegs_any (c := c2) (w := (W0.alloc (.cells (zeros regs.length).toArray 3)).drew) (box_new W0 (zeros regs.length).toArray 3) ((hs2.below hmb (by omega)).keep (w' := (W0.alloc (.cells (zeros regs.length).toArray 3)).drew) fun _ _ => rfl) (Nat.le_refl _))
  rw [hz0] at hL
  have HL := Lib.hid hL
  clear hL
  have p2 := box_cell (j := 2) hX0 rfl
  have HX2 := Lib.hid (box_keep hX0 hmb.drew hlt0)
  have HR2 := Lib.hid (box_keep hR0 hmb.drew (by omega))
  clear hX0 hR0 hs2 hs4 h s2 hn
  generalize hN : regs.length = n at *
  have HN := Lib.hid hN
  clear hN
  go_region_law (go_loud (refine step_call2 rfl 110 _ _ _ rfl enters_loadRegs (.slice (some ⟨w.heap.size + 2, 0, none⟩) n n) (.slice A2 n c2) rfl rfl HL.out ?_; rintro e w2 ⟨rfl, hx2, hb2⟩; refine ⟨_, rfl, ?_⟩; have q2 := box_cell (j := 2) (box_keep HX2.out hb2 (by omega)) rfl; have q2f := box_free (box_keep HX2.out hb2 (by omega)) 2))
  all_goals
    have HB2 := Lib.hid ((hall0.trans (hmb.drew.mono (by omega))).trans (hb2.mono (by omega)))
    have hX3 := box_set (j := 2) (u := .slice (some ⟨w.heap.size + 2, 0, none⟩) n n) (box_keep HX2.out hb2 (by omega))
    have hR3 := (Below.heap_setCell w2 ⟨w.heap.size, 2, none⟩ (.slice (some ⟨w.heap.size + 2, 0, none⟩) n n) (w.heap.size + 1) (by simp only; omega)).trans (box_keep HR2.out hb2 (by omega))
    have hG3 := (Below.heap_setCell w2 ⟨w.heap.size, 2, none⟩ (.slice (some ⟨w.heap.size + 2, 0, none⟩) n n) (w.heap.size + 2) (by simp only; omega)).trans hx2
    have hB3 := below_set (p := ⟨w.heap.size, 2, none⟩) HB2.out (Nat.le_refl _) (.slice (some ⟨w.heap.size + 2, 0, none⟩) n n)
    have hz3 : w.heap.size + 3 ≤ (w2.setCell ⟨w.heap.size, 2, none⟩ (.slice (some ⟨w.heap.size + 2, 0, none⟩) n n)).heap.size := by
      have h9 := hb2.size
      have h8 : (W0.alloc (.cells (zeros n).toArray 3)).drew.heap.size = W0.heap.size + 1 := by simp
      rw [World.size_setCell]
      omega
    have hO3 : OwnR Lay.int 3 (w2.setCell ⟨w.heap.size, 2, none⟩ (.slice (some ⟨w.heap.size + 2, 0, none⟩) n n)) (fun k => w.heap.size + 2 ≤ k ∧ k < w.heap.size + 2 + 1) (some ⟨w.heap.size + 2, 0, none⟩) n n regs := own_block HN.out hn2 hG3 HW.out
    have HX3 := Lib.hid hX3
    have HR3 := Lib.hid hR3
    have HB3 := Lib.hid hB3
    have HO3 := Lib.hid hO3
    clear hX3 hR3 hB3 hO3 hG3 hx2 hb2 q2 q2f p2 hmk hmk2 hmb HB2
    generalize (w2.setCell ⟨w.heap.size, 2, none⟩ (.slice (some ⟨w.heap.size + 2, 0, none⟩) n n)) = W3 at *
    have p4 := box_cell (j := 4) HX3.out rfl
    go_wp2_with fail
    refine (copiedT_any (c := c4) (s4.below HB3.out hhi) hn4).mono ?_
    rintro e w4 ⟨A4', c4', rfl, own4, hb4⟩
    have hz4 := hb4.size
    have hX4 := box_keep HX3.out hb4 (by omega)
    have hR4 := box_keep HR3.out hb4 (by omega)
    have p4a := box_cell (j := 4) hX4 rfl
    have p4f := box_free hX4 4
    have HB4 := Lib.hid (HB3.out.trans (hb4.mono (by omega)))
    have HO4 := Lib.hid (HO3.out.stay (w' := w4) (fun g hg hlt => hb4.block g hlt) hb4.size)
    have HX4 := Lib.hid hX4
    have HR4 := Lib.hid hR4
    have HT4 := Lib.hid own4
    clear own4 hb4 hX4 hR4 p4
    go_upto_region 3 with (fail)
    have hX5 := box_set (j := 4) (u := .slice A4' tr.length c4') HX4.out
    have hR5 := (Below.heap_setCell w4 ⟨w.heap.size, 4, none⟩ (.slice A4' tr.length c4') (w.heap.size + 1) (by simp only; omega)).trans HR4.out
    have HB5 := Lib.hid (below_set (p := ⟨w.heap.size, 4, none⟩) HB4.out (Nat.le_refl _) (.slice A4' tr.length c4'))
    have HO5 := Lib.hid (OwnR.setCell (o := 4) HO4.out (g := w.heap.size) (by omega) (.slice A4' tr.length c4'))
    have HT5 := Lib.hid (OwnR.setCell (o := 4) HT4.out (g := w.heap.size) (by omega) (.slice A4' tr.length c4'))
    have hz5 : (w4.setCell ⟨w.heap.size, 4, none⟩ (.slice A4' tr.length c4')).heap.size = w4.heap.size := by simp
    clear p4a p4f
    generalize (w4.setCell ⟨w.heap.size, 4, none⟩ (.slice A4' tr.length c4')) = W5 at *
    have q0 := box_cell (j := 0) hX5 rfl
    have q1 := box_cell (j := 1) hX5 rfl
    have q2 := box_cell (j := 2) hX5 rfl
    have q3 := box_cell (j := 3) hX5 rfl
    have q4 := box_cell (j := 4) hX5 rfl
    have r0 := box_cell (j := 0) hR5 rfl
    have r1 := box_cell (j := 1) hR5 rfl
    have r2 := box_cell (j := 2) hR5 rfl
    have r3 := box_cell (j := 3) hR5 rfl
    have r4 := box_cell (j := 4) hR5 rfl
    have g0 := box_free hR5 0
    have g1 := box_free hR5 1
    have g2 := box_free hR5 2
    have g3 := box_free hR5 3
    have g4 := box_free hR5 4
    have HR5 := Lib.hid hR5
    clear hX5 hR5
    go_wp2_with fail
    have hfin := box_set (j := 4) (u := .slice A4' tr.length c4') (box_set (j := 3) (u := .int .i64 st) (box_set (j := 2) (u := .slice (some ⟨w.heap.size + 2, 0, none⟩) n n) (box_set (j := 1) (u := .int .i64 pc) (box_set (j := 0) (u := .int .i64 pr) HR5.out))))
    have y0 := box_cell (j := 0) hfin rfl
    have y1 := box_cell (j := 1) hfin rfl
    have y2 := box_cell (j := 2) hfin rfl
    have y3 := box_cell (j := 3) hfin rfl
    have y4 := box_cell (j := 4) hfin rfl
    clear q0 q1 q2 q3 q4 r0 r1 r2 r3 r4 g0 g1 g2 g3 g4
    refine bodyPost_ret (v := .agg #[.int .i64 pr, .int .i64 pc, .slice (some ⟨w.heap.size + 2, 0, none⟩) n n, .int .i64 st, .slice A4' tr.length c4']) (by simp [results, Tryz.results96, go_sem, y0, y1, y2, y3, y4]) rfl ?_
    refine ⟨below_set (below_set (below_set (below_set (below_set HB5.out (by simp only; omega) _) (by simp only; omega) _) (by simp only; omega) _) (by simp only; omega) _) (by simp only; omega) _, _, _, _, _, _, _, by rw [HN.out], by rw [HN.out]; exact OwnR.setCell (o := 4) (OwnR.setCell (o := 3) (OwnR.setCell (o := 2) (OwnR.setCell (o := 1) (OwnR.setCell (o := 0) HO5.out (g := w.heap.size + 1) (by omega) _) (by omega) _) (by omega) _) (by omega) _) (by omega) _, OwnR.setCell (o := 4) (OwnR.setCell (o := 3) (OwnR.setCell (o := 2) (OwnR.setCell (o := 1) (OwnR.setCell (o := 0) HT5.out (g := w.heap.size + 1) (by omega) _) (by omega) _) (by omega) _) (by omega) _) (by omega) _, ?_, fun g hg hg' => by omega⟩
    rintro g (hg | hg) <;> (simp only [World.size_setCell]; omega)
end Go.Proofs.YtapbjnfopniicaaGreatDoor

namespace Go.Proofs.YtapbjnfopniicaaGreatDoor
set_option linter.unusedSimpArgs false
set_option linter.unusedVariables false
open Go.RowKit

set_option maxRecDepth 100000 in
set_option maxHeartbeats 4000000 in
theorem l08Copy_any {w : World} {hi : Nat} {x : DGor} {vs : List Value} (h : layGor.see w hi x vs) (hhi : hi ≤ w.heap.size) (hn : szGor x ≤ 1048576) :
    Calls Tryz.prog 53 #[.agg vs.toArray] w (CopiedG x w) := by
  obtain ⟨A2, n2, c2, A4, n4, c4, rfl, hw0, hw1, ⟨hc2, hm2, s2⟩, hw3, ⟨hc4, hm4, s4⟩⟩ := seeGor h
  obtain ⟨pr, pc, regs, st, tr⟩ := x
  have l2 := s2.1
  have l4 := s4.1
  simp only at l2 l4 s2 s4 hw0 hw1 hw3
  subst l2 l4
  have hn2 : regs.length ≤ 1048576 := by unfold szGor at hn; simp at hn; omega
  have hn4 : tr.length ≤ 1048576 := by unfold szGor at hn; simp at hn; omega
  unfold CopiedG
  simp only
  have hall0 : Below w.heap.size w ((w.alloc (.cells #[.int .i64 pr, .int .i64 pc, .slice A2 regs.length c2, .int .i64 st, .slice A4 tr.length c4] 34)).alloc (.cells #[.int .i64 0, .int .i64 0, .slice none 0 0, .int .i64 0, .slice none 0 0] 34)) := ((Below.refl _ _).alloc (Nat.le_refl _) _).alloc (by simp) _
  have hX0 := box_keep (box_new w #[.int .i64 pr, .int .i64 pc, .slice A2 regs.length c2, .int .i64 st, .slice A4 tr.length c4] 34) ((Below.refl _ _).alloc (Nat.le_refl _) (.cells #[.int .i64 0, .int .i64 0, .slice none 0 0, .int .i64 0, .slice none 0 0] 34)) (by simp)
  have hR0 := box_new (w.alloc (.cells #[.int .i64 pr, .int .i64 pc, .slice A2 regs.length c2, .int .i64 st, .slice A4 tr.length c4] 34)) #[.int .i64 0, .int .i64 0, .slice none 0 0, .int .i64 0, .slice none 0 0] 34
  rw [World.size_alloc] at hR0
  have hz0 : w.heap.size + 2 ≤ ((w.alloc (.cells #[.int .i64 pr, .int .i64 pc, .slice A2 regs.length c2, .int .i64 st, .slice A4 tr.length c4] 34)).alloc (.cells #[.int .i64 0, .int .i64 0, .slice none 0 0, .int .i64 0, .slice none 0 0] 34)).heap.size := by simp
  have HX0 := Lib.hid hX0
  have HR0 := Lib.hid hR0
  have HB0 := Lib.hid hall0
  have HS2 := Lib.hid (fun (W : World) (hW : Below w.heap.size w W) => s2.below hW hhi)
  have HS4 := Lib.hid (fun (W : World) (hW : Below w.heap.size w W) => s4.below hW hhi)
  obtain ⟨i0, hi0, hiz0, hiz1, hiz2⟩ := info_parts infoIntC
  obtain ⟨j0, hj0, hjz0, hjz1, hjz2⟩ := info_parts infoItem
  clear hX0 hR0 hall0 s2 s4 h hn
  generalize hN : regs.length = n at *
  have HN := Lib.hid hN
  clear hN
  go_enter Tryz.func53, Tryz.ntmps53
  go_upto_region 1 with (fail)
  generalize ((w.alloc (.cells #[.int .i64 pr, .int .i64 pc, .slice A2 n c2, .int .i64 st, .slice A4 tr.length c4] 34)).alloc (.cells #[.int .i64 0, .int .i64 0, .slice none 0 0, .int .i64 0, .slice none 0 0] 34)) = W0 at *
  have hal1 : Below W0.heap.size W0 (W0.alloc (.cells #[] 3)) := (Below.refl _ _).alloc (Nat.le_refl _) _
  have hxa1 := box_keep HX0.out hal1 (by omega)
  have pa1 := box_cell (j := 2) hxa1 rfl
  have hsn1 := seenR_flat (HS2.out _ (HB0.out.trans (hal1.mono (by omega))))
  have hol1 : Own (W0.alloc (.cells #[] 3)) W0.heap.size (W0.heap.size + 1) 3 1 (some ⟨W0.heap.size, 0, none⟩) 0 0 [] := by simpa using Own.made (size := 1) (e := 3) W0 #[] 0 0 (by decide) rfl (Nat.le_refl _)
  go_upto_region 2 with (at_builtin; refine wpList_append_seen rfl (.tmp 3) (.tmp 5) _ rfl W0.heap.size _ 3 i0 _ 1 8 Tryz.underlying22 hi0 hiz0 hiz1 hiz2 rfl (by omega) (some ⟨W0.heap.size, 0, none⟩) 0 0 [] rfl hol1 hi A2 n c2 _ rfl hsn1.1 (cells_oneI _) (by simp only [maxLen]; omega) (by omega) (by simp) ?_; intro B1 e1 w1 own1 hb1; have hxk1 := box_keep hxa1 hb1 (by omega); have pk1 := box_cell (j := 2) hxk1 rfl; have fk1 := box_free hxk1 2)
  rw [Nat.zero_add] at own1
  simp only [List.nil_append] at own1
  replace own1 : OwnR Lay.int 3 w1 (fun g => W0.heap.size ≤ g ∧ g < w1.heap.size) B1 n e1 regs := ownR_flat own1 HN.out hsn1.2
  replace hb1 := hal1.trans hb1
  have ha1 := hb1.size
  try simp only [Nat.zero_add]
  clear hal1 hxa1 hsn1 hol1 hxk1 pk1 fk1 pa1
  have hx1 := box_keep HX0.out hb1 (by omega)
  have hr1 := box_keep HR0.out hb1 (by omega)
  have HB1a := Lib.hid (HB0.out.trans (hb1.mono (by omega)))
  have HX1 := Lib.hid (show (w1.setCell ⟨w.heap.size, 2, none⟩ (.slice B1 n e1)).heap[w.heap.size]? = some (.cells #[.int .i64 pr, .int .i64 pc, .slice B1 n e1, .int .i64 st, .slice A4 tr.length c4] 34 (0, 0)) from box_set (j := 2) (u := .slice B1 n e1) hx1)
  have HR1 := Lib.hid ((Below.heap_setCell w1 ⟨w.heap.size, 2, none⟩ (.slice B1 n e1) (w.heap.size + 1) (by simp only; omega)).trans hr1)
  have HB1 := Lib.hid (below_set (p := ⟨w.heap.size, 2, none⟩) HB1a.out (Nat.le_refl _) (.slice B1 n e1))
  have HO1 := Lib.hid (OwnR.setCell (o := 2) own1 (g := w.heap.size) (by omega) (.slice B1 n e1))
  have hz1a : (w1.setCell ⟨w.heap.size, 2, none⟩ (.slice B1 n e1)).heap.size ≤ w1.heap.size := by simp [World.setCell]
  have hz1b : w1.heap.size ≤ (w1.setCell ⟨w.heap.size, 2, none⟩ (.slice B1 n e1)).heap.size := by simp [World.setCell]
  clear hx1 hr1 HB1a own1 hb1
  generalize w1.setCell ⟨w.heap.size, 2, none⟩ (.slice B1 n e1) = W1 at *
  have hal2 : Below W1.heap.size W1 (W1.alloc (.cells #[] 96)) := (Below.refl _ _).alloc (Nat.le_refl _) _
  have hxa2 := box_keep HX1.out hal2 (by omega)
  have pa2 := box_cell (j := 4) hxa2 rfl
  have hsn2 := seenR_flat (HS4.out _ (HB1.out.trans (hal2.mono (by omega))))
  have hol2 : Own (W1.alloc (.cells #[] 96)) W1.heap.size (W1.heap.size + 1) 96 4 (some ⟨W1.heap.size, 0, none⟩) 0 0 [] := by simpa using Own.made (size := 4) (e := 96) W1 #[] 0 0 (by decide) rfl (Nat.le_refl _)
  go_upto_region 3 with (at_builtin; refine wpList_append_seen rfl (.tmp 8) (.tmp 10) _ rfl W1.heap.size _ 96 j0 _ 4 32 Tryz.underlying32 hj0 hjz0 hjz1 hjz2 rfl (by omega) (some ⟨W1.heap.size, 0, none⟩) 0 0 [] rfl hol2 hi A4 tr.length c4 _ rfl hsn2.1 (cells_oneT _) (by simp only [maxLen]; omega) (by omega) (by simp) ?_; intro B2 e2 w2 own2 hb2; have hxk2 := box_keep hxa2 hb2 (by omega); have pk2 := box_cell (j := 4) hxk2 rfl; have fk2 := box_free hxk2 4)
  rw [Nat.zero_add] at own2
  simp only [List.nil_append] at own2
  replace own2 : OwnR layItem 96 w2 (fun g => W1.heap.size ≤ g ∧ g < w2.heap.size) B2 tr.length e2 tr := ownR_flat own2 rfl hsn2.2
  replace hb2 := hal2.trans hb2
  have ha2 := hb2.size
  try simp only [Nat.zero_add]
  clear hal2 hxa2 hsn2 hol2 hxk2 pk2 fk2 pa2
  have hx2 := box_keep HX1.out hb2 (by omega)
  have hr2 := box_keep HR1.out hb2 (by omega)
  have HB2a := Lib.hid (HB1.out.trans (hb2.mono (by omega)))
  have hX5 : (w2.setCell ⟨w.heap.size, 4, none⟩ (.slice B2 tr.length e2)).heap[w.heap.size]? = some (.cells #[.int .i64 pr, .int .i64 pc, .slice B1 n e1, .int .i64 st, .slice B2 tr.length e2] 34 (0, 0)) := box_set (j := 4) (u := .slice B2 tr.length e2) hx2
  have hR5 := (Below.heap_setCell w2 ⟨w.heap.size, 4, none⟩ (.slice B2 tr.length e2) (w.heap.size + 1) (by simp only; omega)).trans hr2
  have HB5 := Lib.hid (below_set (p := ⟨w.heap.size, 4, none⟩) HB2a.out (Nat.le_refl _) (.slice B2 tr.length e2))
  have HO5 := Lib.hid (OwnR.setCell (o := 4) (HO1.out.stay (w' := w2) (fun g hg hlt => hb2.block g hlt) hb2.size) (g := w.heap.size) (by omega) (.slice B2 tr.length e2))
  have HT5 := Lib.hid (OwnR.setCell (o := 4) own2 (g := w.heap.size) (by omega) (.slice B2 tr.length e2))
  have hz5a : (w2.setCell ⟨w.heap.size, 4, none⟩ (.slice B2 tr.length e2)).heap.size ≤ w2.heap.size := by simp [World.setCell]
  have hz5b : w2.heap.size ≤ (w2.setCell ⟨w.heap.size, 4, none⟩ (.slice B2 tr.length e2)).heap.size := by simp [World.setCell]
  clear hx2 hr2 HB2a own2 hb2
  generalize w2.setCell ⟨w.heap.size, 4, none⟩ (.slice B2 tr.length e2) = W5 at *
  have q0 := box_cell (j := 0) hX5 rfl
  have q1 := box_cell (j := 1) hX5 rfl
  have q2 := box_cell (j := 2) hX5 rfl
  have q3 := box_cell (j := 3) hX5 rfl
  have q4 := box_cell (j := 4) hX5 rfl
  have r0 := box_cell (j := 0) hR5 rfl
  have r1 := box_cell (j := 1) hR5 rfl
  have r2 := box_cell (j := 2) hR5 rfl
  have r3 := box_cell (j := 3) hR5 rfl
  have r4 := box_cell (j := 4) hR5 rfl
  have g0 := box_free hR5 0
  have g1 := box_free hR5 1
  have g2 := box_free hR5 2
  have g3 := box_free hR5 3
  have g4 := box_free hR5 4
  have HR5 := Lib.hid hR5
  clear hX5 hR5
  go_wp2_with fail
  have hfin := box_set (j := 4) (u := .slice B2 tr.length e2) (box_set (j := 3) (u := .int .i64 st) (box_set (j := 2) (u := .slice B1 n e1) (box_set (j := 1) (u := .int .i64 pc) (box_set (j := 0) (u := .int .i64 pr) HR5.out))))
  have y0 := box_cell (j := 0) hfin rfl
  have y1 := box_cell (j := 1) hfin rfl
  have y2 := box_cell (j := 2) hfin rfl
  have y3 := box_cell (j := 3) hfin rfl
  have y4 := box_cell (j := 4) hfin rfl
  clear q0 q1 q2 q3 q4 r0 r1 r2 r3 r4 g0 g1 g2 g3 g4
  refine bodyPost_ret (v := .agg #[.int .i64 pr, .int .i64 pc, .slice B1 n e1, .int .i64 st, .slice B2 tr.length e2]) (by simp [results, Tryz.results53, go_sem, y0, y1, y2, y3, y4]) rfl ?_
  refine ⟨below_set (below_set (below_set (below_set (below_set HB5.out (by simp only; omega) _) (by simp only; omega) _) (by simp only; omega) _) (by simp only; omega) _) (by simp only; omega) _, _, _, _, _, _, _, rfl, OwnR.setCell (o := 4) (OwnR.setCell (o := 3) (OwnR.setCell (o := 2) (OwnR.setCell (o := 1) (OwnR.setCell (o := 0) HO5.out (g := w.heap.size + 1) (by omega) _) (by omega) _) (by omega) _) (by omega) _) (by omega) _, OwnR.setCell (o := 4) (OwnR.setCell (o := 3) (OwnR.setCell (o := 2) (OwnR.setCell (o := 1) (OwnR.setCell (o := 0) HT5.out (g := w.heap.size + 1) (by omega) _) (by omega) _) (by omega) _) (by omega) _) (by omega) _, ?_, fun g hg hg' => by omega⟩
  rintro g (hg | hg) <;> (simp only [World.size_setCell]; omega)
end Go.Proofs.YtapbjnfopniicaaGreatDoor

namespace Go.Proofs.YtapbjnfopniicaaGreatDoor
set_option linter.unusedSimpArgs false
set_option linter.unusedVariables false
open Go.RowKit

theorem ownG_nil {α : Type} (L : Lay α) (e : TypeId) (w : World) : OwnR L e w (fun _ => False) none 0 0 [] :=
  ⟨rfl, [], fun _ _ => False, Own.nil_ _ _ _ _ _, fun g hg => by simp [blkA] at hg, fun i x hx => by simp at hx, fun _ _ _ h => h.elim, fun _ _ _ h => h.elim, fun _ _ _ _ _ h => h.elim⟩
def setR (x : DGor) (r v : Int) : DGor := if (decide (0 ≤ r ∧ r < x.fRegs.length) && okV v) = true then { x with fRegs := x.fRegs.set r.toNat v } else x
def tellR (x : DGor) (i : DItem) : DGor := { x with fTrace := x.fTrace ++ [i] }
def regR (x : DGor) (r : Int) : Int := if 0 ≤ r ∧ r < x.fRegs.length then x.fRegs.getD r.toNat 0 else 0
def overR (x : DGor) (y : Int) : DGor := if y = 0 then tellR { x with fState := 3 } ⟨9, 0, 0, false⟩ else tellR { x with fState := 4 } ⟨10, 0, y, false⟩
def newG (p a : Int) : DGor := if p < 0 ∨ okV a = false then ⟨0, 0, [], 0, []⟩ else ⟨p, 0, [a, 0, 0, 0, 0, 0], 1, []⟩

theorem isValG_any (v : Int) (w : World) : Calls Tryz.prog 91 #[.int .i64 v] w fun e w' => e = .returned (.bool (okV v)) ∧ w = w' := by
  by_cases h0 : 0 ≤ v
  · by_cases h1 : v ≤ 999
    · rw [okV_yes (by omega)]
      go_enter Tryz.func91, Tryz.ntmps91
      go_wp2
      go_ret
      exact ⟨rfl, rfl⟩
    · rw [okV_no (by omega)]
      have h2 : decide (v ≤ 999) = false := decide_eq_false h1
      clear h1
      go_enter Tryz.func91, Tryz.ntmps91
      go_wp2
      go_ret
      exact ⟨rfl, rfl⟩
  · rw [okV_no (by omega)]
    have h2 : decide (0 ≤ v) = false := decide_eq_false h0
    clear h0
    go_enter Tryz.func91, Tryz.ntmps91
    go_wp2
    go_ret
    exact ⟨rfl, rfl⟩
theorem l03ValG_any (v : Int) (w : World) : Calls Tryz.prog 75 #[.int .i64 v] w fun e w' => e = .returned (.bool (okV v)) ∧ w = w' := by
  by_cases h0 : 0 ≤ v
  · by_cases h1 : v ≤ 999
    · rw [okV_yes (by omega)]
      go_enter Tryz.func75, Tryz.ntmps75
      go_wp2
      go_ret
      exact ⟨rfl, rfl⟩
    · rw [okV_no (by omega)]
      have h2 : decide (v ≤ 999) = false := decide_eq_false h1
      clear h1
      go_enter Tryz.func75, Tryz.ntmps75
      go_wp2
      go_ret
      exact ⟨rfl, rfl⟩
  · rw [okV_no (by omega)]
    have h2 : decide (0 ≤ v) = false := decide_eq_false h0
    clear h0
    go_enter Tryz.func75, Tryz.ntmps75
    go_wp2
    go_ret
    exact ⟨rfl, rfl⟩
theorem placeG_any (v c : Int) (w : World) : Calls Tryz.prog 88 #[.int .i64 v, .int .i64 c] w fun e w' => e = .returned (.bool (decide (0 ≤ v ∧ v < c))) ∧ w = w' := by
  by_cases h0 : 0 ≤ v
  · by_cases h1 : v < c
    · rw [show decide (0 ≤ v ∧ v < c) = true from decide_eq_true ⟨h0, h1⟩]
      go_enter Tryz.func88, Tryz.ntmps88
      go_wp2
      go_ret
      exact ⟨rfl, rfl⟩
    · rw [show decide (0 ≤ v ∧ v < c) = false from decide_eq_false (fun h => h1 h.2)]
      have h2 : decide (v < c) = false := decide_eq_false h1
      clear h1
      go_enter Tryz.func88, Tryz.ntmps88
      go_wp2
      go_ret
      exact ⟨rfl, rfl⟩
  · rw [show decide (0 ≤ v ∧ v < c) = false from decide_eq_false (fun h => h0 h.1)]
    have h2 : decide (0 ≤ v) = false := decide_eq_false h0
    clear h0
    go_enter Tryz.func88, Tryz.ntmps88
    go_wp2
    go_ret
    exact ⟨rfl, rfl⟩

theorem packGor {w : World} {hi : Nat} {x : DGor} {A2 A4 : Option Addr} {n2 c2 n4 c4 : Nat} (h0 : (Lit.int .i64 x.fProc).wf = true) (h1 : (Lit.int .i64 x.fPc).wf = true) (h2 : n2 ≤ c2 ∧ c2 ≤ maxLen ∧ SeenR Lay.int w hi A2 n2 x.fRegs) (h3 : (Lit.int .i64 x.fState).wf = true) (h4 : n4 ≤ c4 ∧ c4 ≤ maxLen ∧ SeenR layItem w hi A4 n4 x.fTrace) :
    layGor.see w hi x [.int .i64 x.fProc, .int .i64 x.fPc, .slice A2 n2 c2, .int .i64 x.fState, .slice A4 n4 c4] :=
  ⟨_, _, rfl, ⟨rfl, h0⟩, ⟨_, _, rfl, ⟨rfl, h1⟩, ⟨_, _, rfl, ⟨A2, n2, c2, rfl, h2⟩, ⟨_, _, rfl, ⟨rfl, h3⟩, ⟨A4, n4, c4, rfl, h4⟩⟩⟩⟩⟩

/-- One number of a row of one's own is set. -/
theorem OwnR.setI {w : World} {e : TypeId} {F : Nat → Prop} {g n c i : Nat} {xs : List Int} {v : Int} (h : OwnR Lay.int e w F (some ⟨g, 0, none⟩) n c xs) (hi : i < n) (hv : (Lit.int .i64 v).wf = true) :
    OwnR Lay.int e (w.setCell ⟨g, i, none⟩ (.int .i64 v)) F (some ⟨g, 0, none⟩) n c (xs.set i v) := by
  obtain ⟨hx, g', G, vs, hA, hFg, hGg, hGF, hgs, hown, hcell, hfr, hput⟩ := h.focus hi
  injection hA with hA
  injection hA with hA _
  subst hA
  refine hput _ v [.int .i64 v] rfl ⟨rfl, hv⟩ ((TurnedF.refl _ w).setCell (.inr rfl) _) ?_
  simp [putCells, Lay.int, Lay.flat]

theorem seen_four (w : World) (a b c d : Value) (t : TypeId) : Seen (w.alloc (.cells #[a, b, c, d] t)) (w.heap.size + 1) 4 (some ⟨w.heap.size, 0, none⟩) 1 [a, b, c, d] := by
  refine ⟨by simp, .inr ⟨w.heap.size, 0, rfl, by omega, fun j u hu => ?_⟩⟩
  refine box_cell (box_new w #[a, b, c, d] t) ?_
  rw [Nat.zero_add]
  simpa using hu
def JoinedT (w : World) (A : Option Addr) (n : Nat) (xs : List DItem) (v : DItem) (e : Ending) (w' : World) : Prop :=
  ∃ A' c', e = .returned (.slice A' (n + 1) c') ∧ OwnR layItem 96 w' (fun g => blkA A' = some g) A' (n + 1) c' (xs ++ [v]) ∧ (blkA A' = blkA A ∨ ∃ g, blkA A' = some g ∧ w.heap.size ≤ g) ∧
    (∀ k, k < w.heap.size → blkA A ≠ some k → w'.heap[k]? = w.heap[k]?) ∧ Below 0 w w'
theorem own_only {w : World} {F : Nat → Prop} {A : Option Addr} {n c : Nat} {xs : List DItem} (h : OwnR layItem 96 w F A n c xs) (F' : Nat → Prop) (hF : ∀ g, blkA A = some g → F' g) : OwnR layItem 96 w F' A n c xs := by
  obtain ⟨h1, vs, G, ho, hA, hel, hG, h4, h5⟩ := h
  exact ⟨h1, vs, fun _ _ => False, ho, hF, fun i x hx => ⟨(hel i x hx).1, (hel i x hx).2⟩, fun _ _ _ h => h.elim, fun _ _ _ h => h.elim, fun _ _ _ _ _ h => h.elim⟩
theorem own_blk {w : World} {F : Nat → Prop} {A : Option Addr} {n c : Nat} {xs : List DItem} (h : OwnR layItem 96 w F A n c xs) {g : Nat} (hg : blkA A = some g) : F g ∧ g < w.heap.size := by
  obtain ⟨h1, vs, G, ho, hA, _⟩ := h
  exact ⟨hA g hg, (ho.blk hg).2.2⟩
theorem own_wf {w : World} {F : Nat → Prop} {A : Option Addr} {n c : Nat} {xs : List DItem} (h : OwnR layItem 96 w F A n c xs) (v : DItem) (hv : (Lit.int .i64 v.fKind).wf = true ∧ (Lit.int .i64 v.fObj).wf = true ∧ (Lit.int .i64 v.fVal).wf = true) :
    ∀ x ∈ xs ++ [v], (Lit.int .i64 x.fKind).wf = true ∧ (Lit.int .i64 x.fObj).wf = true ∧ (Lit.int .i64 x.fVal).wf = true := by
  intro x hx
  rcases List.mem_append.1 hx with hx | hx
  · obtain ⟨i, hi⟩ := List.mem_iff_getElem?.1 hx
    obtain ⟨_, _, _, _, _, hel, _⟩ := h
    exact (hel i x hi).2
  · simp at hx
    subst hx
    exact hv

theorem joinedT_of {w w' : World} {o : Obj} {A A' : Option Addr} {n c c' : Nat} {xs : List DItem} {v : DItem} {F : Nat → Prop} (h : OwnR layItem 96 w F A n c xs) (hv : (Lit.int .i64 v.fKind).wf = true ∧ (Lit.int .i64 v.fObj).wf = true ∧ (Lit.int .i64 v.fVal).wf = true)
    (own : Own w' 0 w'.heap.size 96 4 A' (n + 1) c' ((xs.map fun x => [Value.int .i64 x.fKind, .int .i64 x.fObj, .int .i64 x.fVal, .bool x.fOk]).flatten ++ [.int .i64 v.fKind, .int .i64 v.fObj, .int .i64 v.fVal, .bool v.fOk])) (hb : Below 0 (w.alloc o) w')
    (hk : ∀ k, k < (w.alloc o).heap.size → blkA A ≠ some k → w'.heap[k]? = (w.alloc o).heap[k]?) (hA : blkA A' = blkA A ∨ blkA A' = some (w.alloc o).heap.size) :
    OwnR layItem 96 w' (fun g => blkA A' = some g) A' (n + 1) c' (xs ++ [v]) ∧ (blkA A' = blkA A ∨ ∃ g, blkA A' = some g ∧ w.heap.size ≤ g) ∧ (∀ k, k < w.heap.size → blkA A ≠ some k → w'.heap[k]? = w.heap[k]?) ∧ Below 0 w w' := by
  have hz := hb.size
  simp only [World.size_alloc] at hz hk hA
  have hfl : (xs.map fun x => [Value.int .i64 x.fKind, .int .i64 x.fObj, .int .i64 x.fVal, .bool x.fOk]).flatten ++ [.int .i64 v.fKind, .int .i64 v.fObj, .int .i64 v.fVal, .bool v.fOk] = ((xs ++ [v]).map fun x => [Value.int .i64 x.fKind, .int .i64 x.fObj, .int .i64 x.fVal, .bool x.fOk]).flatten := by simp
  rw [hfl] at own
  refine ⟨?_, ?_, fun k hk1 hk2 => (hk k (by omega) hk2).trans (Below.heap_alloc w _ k hk1), ⟨hb.os, hb.tape, hb.output, by omega, fun k hk => by omega⟩⟩
  · have h9 : OwnR layItem 96 w' (fun g => 0 ≤ g ∧ g < w'.heap.size) A' (n + 1) c' (xs ++ [v]) := ownR_flat own (by simp [h.1]) (own_wf h v hv)
    exact own_only h9 _ fun g hg => hg
  · rcases hA with h | h
    · exact .inl h
    · exact .inr ⟨_, h, by omega⟩

set_option maxRecDepth 100000 in
set_option maxHeartbeats 2000000 in
theorem joinedT_any {w : World} {A : Option Addr} {n c : Nat} {xs : List DItem} {v : DItem} {F : Nat → Prop} (h : OwnR layItem 96 w F A n c xs) (hn : n ≤ 1048576) (hv : (Lit.int .i64 v.fKind).wf = true ∧ (Lit.int .i64 v.fObj).wf = true ∧ (Lit.int .i64 v.fVal).wf = true) :
    Calls Tryz.prog 124 #[.slice A n c, .agg #[.int .i64 v.fKind, .int .i64 v.fObj, .int .i64 v.fVal, .bool v.fOk]] w (JoinedT w A n xs v) := by
  obtain ⟨i0, hi0, hz0, hz1, hz2⟩ := info_parts infoItem
  have hl := h.1
  have hwf := own_wf h v hv
  have hF0 : OwnR layItem 96 w (fun g => 0 ≤ g ∧ g < w.heap.size) A n c xs := own_only h _ fun g hg => ⟨Nat.zero_le _, (own_blk h hg).2⟩
  have hown := ((ownR_flat_own hF0 fun g hg => hg).alloc (.cells #[.int .i64 v.fKind, .int .i64 v.fObj, .int .i64 v.fVal, .bool v.fOk] 96)).alloc (.cells #[.int .i64 v.fKind, .int .i64 v.fObj, .int .i64 v.fVal, .bool v.fOk] 96)
  have HW := Lib.hid hwf
  have HL := Lib.hid hl
  have hsf := seen_four (w.alloc (.cells #[.int .i64 v.fKind, .int .i64 v.fObj, .int .i64 v.fVal, .bool v.fOk] 96)) (.int .i64 v.fKind) (.int .i64 v.fObj) (.int .i64 v.fVal) (.bool v.fOk) 96
  rw [World.size_alloc] at hsf
  have HSF := Lib.hid hsf
  clear h hwf hl hF0 hsf
  go_enter Tryz.func124, Tryz.ntmps124
  go_wp2_with (at_builtin; refine wpList_append_kin rfl (.tmp 5) (.tmp 7) _ rfl 0 _ 96 i0 _ 4 32 Tryz.underlying140 hi0 hz0 hz1 hz2 rfl (by omega) A n c _ rfl hown _ ⟨w.heap.size + 1, 0, none⟩ 1 1 [.int .i64 v.fKind, .int .i64 v.fObj, .int .i64 v.fVal, .bool v.fOk] rfl HSF.out (by simp [Value.oneCell']) (by simp only [maxLen]; omega) (by omega) (Nat.zero_le _) ?_; intro A' c' w' own hb hk hA)
  go_ret
  have hz := hb.size
  simp only [World.size_alloc] at hz hk hA
  have hfl : (xs.map fun x => [Value.int .i64 x.fKind, .int .i64 x.fObj, .int .i64 x.fVal, .bool x.fOk]).flatten ++ [.int .i64 v.fKind, .int .i64 v.fObj, .int .i64 v.fVal, .bool v.fOk] = ((xs ++ [v]).map fun x => [Value.int .i64 x.fKind, .int .i64 x.fObj, .int .i64 x.fVal, .bool x.fOk]).flatten := by simp
  rw [hfl] at own
  refine ⟨A', c', rfl, ?_, ?_, fun k hk1 hk2 => (hk k (by omega) hk2).trans ((Below.heap_alloc _ _ k (by simp; omega)).trans (Below.heap_alloc w _ k hk1)), ⟨hb.os, hb.tape, hb.output, by omega, fun k hk => by omega⟩⟩
  · have h9 : OwnR layItem 96 w' (fun g => 0 ≤ g ∧ g < w'.heap.size) A' (n + 1) c' (xs ++ [v]) := ownR_flat own (by simp [HL.out]) HW.out
    exact own_only h9 _ fun g hg => hg
  · rcases hA with h | h
    · exact .inl h
    · exact .inr ⟨_, h, by omega⟩
end Go.Proofs.YtapbjnfopniicaaGreatDoor
