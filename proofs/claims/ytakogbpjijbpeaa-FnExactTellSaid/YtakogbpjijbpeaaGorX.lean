
/- SetReg, Reg, Tell, Over, GorNew: the program's and the model's. Laid by wip/gen8/gor.py. -/

import Derived.Test.YtakogbpjijbpeaaGorS

namespace Go.Proofs.Ytakogbpjijbpeaa
set_option linter.unusedSimpArgs false
set_option linter.unusedVariables false
open Go.RowKit

theorem ownG_nil {α : Type} (L : Lay α) (e : TypeId) (w : World) : OwnR L e w (fun _ => False) none 0 0 [] :=
  ⟨rfl, [], fun _ _ => False, Own.nil_ _ _ _ _ _, fun g hg => by simp [blkA] at hg, fun i x hx => by simp at hx, fun _ _ _ h => h.elim, fun _ _ _ h => h.elim, fun _ _ _ _ _ h => h.elim⟩
def setR (x : DGor) (r v : Int) : DGor := if (decide (0 ≤ r ∧ r < x.fRegs.length) && okV v) = true then { x with fRegs := x.fRegs.set r.toNat v } else x
def tellR (x : DGor) (i : DItem) : DGor := { x with fTrace := x.fTrace ++ [i] }
def regR (x : DGor) (r : Int) : Int := if 0 ≤ r ∧ r < x.fRegs.length then x.fRegs.getD r.toNat 0 else 0
def overR (x : DGor) (y : Int) : DGor := if y = 0 then tellR { x with fState := 3 } ⟨9, 0, 0, false⟩ else tellR { x with fState := 4 } ⟨10, 0, y, false⟩
def newG (p a : Int) : DGor := if p < 0 ∨ okV a = false then ⟨0, 0, [], 0, []⟩ else ⟨p, 0, [a, 0, 0, 0, 0, 0], 1, []⟩

theorem isValG_any (v : Int) (w : World) : Calls Try.prog 25 #[.int .i64 v] w fun e w' => e = .returned (.bool (okV v)) ∧ w = w' := by
  by_cases h0 : 0 ≤ v
  · by_cases h1 : v ≤ 999
    · rw [okV_yes (by omega)]
      go_enter Try.func25, Try.ntmps25
      go_wp2
      go_ret
      exact ⟨rfl, rfl⟩
    · rw [okV_no (by omega)]
      have h2 : decide (v ≤ 999) = false := decide_eq_false h1
      clear h1
      go_enter Try.func25, Try.ntmps25
      go_wp2
      go_ret
      exact ⟨rfl, rfl⟩
  · rw [okV_no (by omega)]
    have h2 : decide (0 ≤ v) = false := decide_eq_false h0
    clear h0
    go_enter Try.func25, Try.ntmps25
    go_wp2
    go_ret
    exact ⟨rfl, rfl⟩
theorem l03ValG_any (v : Int) (w : World) : Calls Try.prog 24 #[.int .i64 v] w fun e w' => e = .returned (.bool (okV v)) ∧ w = w' := by
  by_cases h0 : 0 ≤ v
  · by_cases h1 : v ≤ 999
    · rw [okV_yes (by omega)]
      go_enter Try.func24, Try.ntmps24
      go_wp2
      go_ret
      exact ⟨rfl, rfl⟩
    · rw [okV_no (by omega)]
      have h2 : decide (v ≤ 999) = false := decide_eq_false h1
      clear h1
      go_enter Try.func24, Try.ntmps24
      go_wp2
      go_ret
      exact ⟨rfl, rfl⟩
  · rw [okV_no (by omega)]
    have h2 : decide (0 ≤ v) = false := decide_eq_false h0
    clear h0
    go_enter Try.func24, Try.ntmps24
    go_wp2
    go_ret
    exact ⟨rfl, rfl⟩
theorem placeG_any (v c : Int) (w : World) : Calls Try.prog 39 #[.int .i64 v, .int .i64 c] w fun e w' => e = .returned (.bool (decide (0 ≤ v ∧ v < c))) ∧ w = w' := by
  by_cases h0 : 0 ≤ v
  · by_cases h1 : v < c
    · rw [show decide (0 ≤ v ∧ v < c) = true from decide_eq_true ⟨h0, h1⟩]
      go_enter Try.func39, Try.ntmps39
      go_wp2
      go_ret
      exact ⟨rfl, rfl⟩
    · rw [show decide (0 ≤ v ∧ v < c) = false from decide_eq_false (fun h => h1 h.2)]
      have h2 : decide (v < c) = false := decide_eq_false h1
      clear h1
      go_enter Try.func39, Try.ntmps39
      go_wp2
      go_ret
      exact ⟨rfl, rfl⟩
  · rw [show decide (0 ≤ v ∧ v < c) = false from decide_eq_false (fun h => h0 h.1)]
    have h2 : decide (0 ≤ v) = false := decide_eq_false h0
    clear h0
    go_enter Try.func39, Try.ntmps39
    go_wp2
    go_ret
    exact ⟨rfl, rfl⟩

theorem packGor {w : World} {hi : Nat} {x : DGor} {A2 A4 : Option Addr} {n2 c2 n4 c4 : Nat} (h0 : (Lit.int .i64 x.fProc).wf = true) (h1 : (Lit.int .i64 x.fPc).wf = true) (h2 : n2 ≤ c2 ∧ c2 ≤ maxLen ∧ SeenR Lay.int w hi A2 n2 x.fRegs) (h3 : (Lit.int .i64 x.fState).wf = true) (h4 : n4 ≤ c4 ∧ c4 ≤ maxLen ∧ SeenR layItem w hi A4 n4 x.fTrace) :
    layGor.see w hi x [.int .i64 x.fProc, .int .i64 x.fPc, .slice A2 n2 c2, .int .i64 x.fState, .slice A4 n4 c4] :=
  ⟨_, _, rfl, ⟨rfl, h0⟩, ⟨_, _, rfl, ⟨rfl, h1⟩, ⟨_, _, rfl, ⟨A2, n2, c2, rfl, h2⟩, ⟨_, _, rfl, ⟨rfl, h3⟩, ⟨A4, n4, c4, rfl, h4⟩⟩⟩⟩⟩

/-- One number of a row of one's own is set. -/
theorem OwnR.setI {w : World} {e : TypeId} {F : Nat → Prop} {g n c i : Nat} {xs : List Int} {v : Int} (h : OwnR Lay.int e w F (some ⟨g, 0, none⟩) n c xs) (hi : i < n) (hv : (Lit.int .i64 v).wf = true) :
    OwnR Lay.int e (w.setCell ⟨g, i, none⟩ (.int .i64 v)) F (some ⟨g, 0, none⟩) n c (xs.set i v) := by
  obtain ⟨hx, g', G, vs, hA, hFg, hGg, hGF, hgs, hown, hcell, hfr, hput⟩ := h.focus hi
  injection hA with hA
  injection hA with hA _
  subst hA
  refine hput _ v [.int .i64 v] rfl ⟨rfl, hv⟩ ((TurnedF.refl _ w).setCell (.inr rfl) _) ?_
  simp [putCells, Lay.int, Lay.flat]

theorem seen_four (w : World) (a b c d : Value) (t : TypeId) : Seen (w.alloc (.cells #[a, b, c, d] t)) (w.heap.size + 1) 4 (some ⟨w.heap.size, 0, none⟩) 1 [a, b, c, d] := by
  refine ⟨by simp, .inr ⟨w.heap.size, 0, rfl, by omega, fun j u hu => ?_⟩⟩
  refine box_cell (box_new w #[a, b, c, d] t) ?_
  rw [Nat.zero_add]
  simpa using hu
def JoinedT (w : World) (A : Option Addr) (n : Nat) (xs : List DItem) (v : DItem) (e : Ending) (w' : World) : Prop :=
  ∃ A' c', e = .returned (.slice A' (n + 1) c') ∧ OwnR layItem 41 w' (fun g => blkA A' = some g) A' (n + 1) c' (xs ++ [v]) ∧ (blkA A' = blkA A ∨ ∃ g, blkA A' = some g ∧ w.heap.size ≤ g) ∧
    (∀ k, k < w.heap.size → blkA A ≠ some k → w'.heap[k]? = w.heap[k]?) ∧ Below 0 w w'
theorem own_only {w : World} {F : Nat → Prop} {A : Option Addr} {n c : Nat} {xs : List DItem} (h : OwnR layItem 41 w F A n c xs) (F' : Nat → Prop) (hF : ∀ g, blkA A = some g → F' g) : OwnR layItem 41 w F' A n c xs := by
  obtain ⟨h1, vs, G, ho, hA, hel, hG, h4, h5⟩ := h
  exact ⟨h1, vs, fun _ _ => False, ho, hF, fun i x hx => ⟨(hel i x hx).1, (hel i x hx).2⟩, fun _ _ _ h => h.elim, fun _ _ _ h => h.elim, fun _ _ _ _ _ h => h.elim⟩
theorem own_blk {w : World} {F : Nat → Prop} {A : Option Addr} {n c : Nat} {xs : List DItem} (h : OwnR layItem 41 w F A n c xs) {g : Nat} (hg : blkA A = some g) : F g ∧ g < w.heap.size := by
  obtain ⟨h1, vs, G, ho, hA, _⟩ := h
  exact ⟨hA g hg, (ho.blk hg).2.2⟩
theorem own_wf {w : World} {F : Nat → Prop} {A : Option Addr} {n c : Nat} {xs : List DItem} (h : OwnR layItem 41 w F A n c xs) (v : DItem) (hv : (Lit.int .i64 v.fKind).wf = true ∧ (Lit.int .i64 v.fObj).wf = true ∧ (Lit.int .i64 v.fVal).wf = true) :
    ∀ x ∈ xs ++ [v], (Lit.int .i64 x.fKind).wf = true ∧ (Lit.int .i64 x.fObj).wf = true ∧ (Lit.int .i64 x.fVal).wf = true := by
  intro x hx
  rcases List.mem_append.1 hx with hx | hx
  · obtain ⟨i, hi⟩ := List.mem_iff_getElem?.1 hx
    obtain ⟨_, _, _, _, _, hel, _⟩ := h
    exact (hel i x hi).2
  · simp at hx
    subst hx
    exact hv

theorem joinedT_of {w w' : World} {o : Obj} {A A' : Option Addr} {n c c' : Nat} {xs : List DItem} {v : DItem} {F : Nat → Prop} (h : OwnR layItem 41 w F A n c xs) (hv : (Lit.int .i64 v.fKind).wf = true ∧ (Lit.int .i64 v.fObj).wf = true ∧ (Lit.int .i64 v.fVal).wf = true)
    (own : Own w' 0 w'.heap.size 41 4 A' (n + 1) c' ((xs.map fun x => [Value.int .i64 x.fKind, .int .i64 x.fObj, .int .i64 x.fVal, .bool x.fOk]).flatten ++ [.int .i64 v.fKind, .int .i64 v.fObj, .int .i64 v.fVal, .bool v.fOk])) (hb : Below 0 (w.alloc o) w')
    (hk : ∀ k, k < (w.alloc o).heap.size → blkA A ≠ some k → w'.heap[k]? = (w.alloc o).heap[k]?) (hA : blkA A' = blkA A ∨ blkA A' = some (w.alloc o).heap.size) :
    OwnR layItem 41 w' (fun g => blkA A' = some g) A' (n + 1) c' (xs ++ [v]) ∧ (blkA A' = blkA A ∨ ∃ g, blkA A' = some g ∧ w.heap.size ≤ g) ∧ (∀ k, k < w.heap.size → blkA A ≠ some k → w'.heap[k]? = w.heap[k]?) ∧ Below 0 w w' := by
  have hz := hb.size
  simp only [World.size_alloc] at hz hk hA
  have hfl : (xs.map fun x => [Value.int .i64 x.fKind, .int .i64 x.fObj, .int .i64 x.fVal, .bool x.fOk]).flatten ++ [.int .i64 v.fKind, .int .i64 v.fObj, .int .i64 v.fVal, .bool v.fOk] = ((xs ++ [v]).map fun x => [Value.int .i64 x.fKind, .int .i64 x.fObj, .int .i64 x.fVal, .bool x.fOk]).flatten := by simp
  rw [hfl] at own
  refine ⟨?_, ?_, fun k hk1 hk2 => (hk k (by omega) hk2).trans (Below.heap_alloc w _ k hk1), ⟨hb.os, hb.tape, hb.output, by omega, fun k hk => by omega⟩⟩
  · have h9 : OwnR layItem 41 w' (fun g => 0 ≤ g ∧ g < w'.heap.size) A' (n + 1) c' (xs ++ [v]) := ownR_flat own (by simp [h.1]) (own_wf h v hv)
    exact own_only h9 _ fun g hg => hg
  · rcases hA with h | h
    · exact .inl h
    · exact .inr ⟨_, h, by omega⟩

set_option maxRecDepth 100000 in
set_option maxHeartbeats 2000000 in
theorem joinedT_any {w : World} {A : Option Addr} {n c : Nat} {xs : List DItem} {v : DItem} {F : Nat → Prop} (h : OwnR layItem 41 w F A n c xs) (hn : n ≤ 1048576) (hv : (Lit.int .i64 v.fKind).wf = true ∧ (Lit.int .i64 v.fObj).wf = true ∧ (Lit.int .i64 v.fVal).wf = true) :
    Calls Try.prog 40 #[.slice A n c, .agg #[.int .i64 v.fKind, .int .i64 v.fObj, .int .i64 v.fVal, .bool v.fOk]] w (JoinedT w A n xs v) := by
  obtain ⟨i0, hi0, hz0, hz1, hz2⟩ := info_parts infoItem
  have hl := h.1
  have hwf := own_wf h v hv
  have hF0 : OwnR layItem 41 w (fun g => 0 ≤ g ∧ g < w.heap.size) A n c xs := own_only h _ fun g hg => ⟨Nat.zero_le _, (own_blk h hg).2⟩
  have hown := ((ownR_flat_own hF0 fun g hg => hg).alloc (.cells #[.int .i64 v.fKind, .int .i64 v.fObj, .int .i64 v.fVal, .bool v.fOk] 41)).alloc (.cells #[.int .i64 v.fKind, .int .i64 v.fObj, .int .i64 v.fVal, .bool v.fOk] 41)
  have HW := Lib.hid hwf
  have HL := Lib.hid hl
  have hsf := seen_four (w.alloc (.cells #[.int .i64 v.fKind, .int .i64 v.fObj, .int .i64 v.fVal, .bool v.fOk] 41)) (.int .i64 v.fKind) (.int .i64 v.fObj) (.int .i64 v.fVal) (.bool v.fOk) 41
  rw [World.size_alloc] at hsf
  have HSF := Lib.hid hsf
  clear h hwf hl hF0 hsf
  go_enter Try.func40, Try.ntmps40
  go_wp2_with (at_builtin; refine wpList_append_kin rfl (.tmp 5) (.tmp 7) _ rfl 0 _ 41 i0 _ 4 32 Try.underlying55 hi0 hz0 hz1 hz2 rfl (by omega) A n c _ rfl hown _ ⟨w.heap.size + 1, 0, none⟩ 1 1 [.int .i64 v.fKind, .int .i64 v.fObj, .int .i64 v.fVal, .bool v.fOk] rfl HSF.out (by simp [Value.oneCell']) (by simp only [maxLen]; omega) (by omega) (Nat.zero_le _) ?_; intro A' c' w' own hb hk hA)
  go_ret
  have hz := hb.size
  simp only [World.size_alloc] at hz hk hA
  have hfl : (xs.map fun x => [Value.int .i64 x.fKind, .int .i64 x.fObj, .int .i64 x.fVal, .bool x.fOk]).flatten ++ [.int .i64 v.fKind, .int .i64 v.fObj, .int .i64 v.fVal, .bool v.fOk] = ((xs ++ [v]).map fun x => [Value.int .i64 x.fKind, .int .i64 x.fObj, .int .i64 x.fVal, .bool x.fOk]).flatten := by simp
  rw [hfl] at own
  refine ⟨A', c', rfl, ?_, ?_, fun k hk1 hk2 => (hk k (by omega) hk2).trans ((Below.heap_alloc _ _ k (by simp; omega)).trans (Below.heap_alloc w _ k hk1)), ⟨hb.os, hb.tape, hb.output, by omega, fun k hk => by omega⟩⟩
  · have h9 : OwnR layItem 41 w' (fun g => 0 ≤ g ∧ g < w'.heap.size) A' (n + 1) c' (xs ++ [v]) := ownR_flat own (by simp [HL.out]) HW.out
    exact own_only h9 _ fun g hg => hg
  · rcases hA with h | h
    · exact .inl h
    · exact .inr ⟨_, h, by omega⟩
end Go.Proofs.Ytakogbpjijbpeaa
