
/- A goroutine held in memory of its own, letter by letter; five cells of a box written at once. -/

import Derived.Test.YtapbjnfopniicaaGreatDoorGGorX

import Derived.Test.YtapbjnfopniicaaGreatDoorLocM

namespace Go.Proofs.YtapbjnfopniicaaGreatDoor
set_option linter.unusedSimpArgs false
set_option linter.unusedVariables false
open Go.RowKit

/-- x's slices lie in blocks of F. -/
def HoldG (F : Nat → Prop) (x : DGor) (W : World) (A2 : Option Addr) (n2 c2 : Nat) (A4 : Option Addr) (n4 c4 : Nat) : Prop :=
  (Lit.int .i64 x.fProc).wf = true ∧ (Lit.int .i64 x.fPc).wf = true ∧ (Lit.int .i64 x.fState).wf = true ∧ n2 = x.fRegs.length ∧ n4 = x.fTrace.length ∧
  ∃ F2 F4, OwnR Lay.int 3 W F2 A2 n2 c2 x.fRegs ∧ OwnR layItem 96 W F4 A4 n4 c4 x.fTrace ∧ (∀ g, F2 g ∨ F4 g → F g ∧ g < W.heap.size) ∧ (∀ g, F2 g → ¬ F4 g)
theorem HoldG.see {F : Nat → Prop} {x : DGor} {W : World} {A2 A4 : Option Addr} {n2 c2 n4 c4 : Nat} (h : HoldG F x W A2 n2 c2 A4 n4 c4) :
    layGor.see W W.heap.size x [.int .i64 x.fProc, .int .i64 x.fPc, .slice A2 n2 c2, .int .i64 x.fState, .slice A4 n4 c4] := by
  obtain ⟨h0, h1, h3, h2, h4, F2, F4, o2, o4, hF, hd⟩ := h
  exact packGor h0 h1 ⟨o2.cap, o2.capMax, o2.seen fun g hg => (hF g (.inl hg)).2⟩ h3 ⟨o4.cap, o4.capMax, o4.seen fun g hg => (hF g (.inr hg)).2⟩
theorem HoldG.stay {F : Nat → Prop} {x : DGor} {W W' : World} {A2 A4 : Option Addr} {n2 c2 n4 c4 : Nat} (h : HoldG F x W A2 n2 c2 A4 n4 c4) (hk : ∀ k, F k → k < W.heap.size → W'.heap[k]? = W.heap[k]?) (hz : W.heap.size ≤ W'.heap.size) :
    HoldG F x W' A2 n2 c2 A4 n4 c4 := by
  obtain ⟨h0, h1, h3, h2, h4, F2, F4, o2, o4, hF, hd⟩ := h
  exact ⟨h0, h1, h3, h2, h4, F2, F4, o2.stay (fun g hg hlt => hk g (hF g (.inl hg)).1 hlt) hz, o4.stay (fun g hg hlt => hk g (hF g (.inr hg)).1 hlt) hz, fun g hg => ⟨(hF g hg).1, Nat.lt_of_lt_of_le (hF g hg).2 hz⟩, hd⟩
theorem HoldG.wide {F F' : Nat → Prop} {x : DGor} {W : World} {A2 A4 : Option Addr} {n2 c2 n4 c4 : Nat} (h : HoldG F x W A2 n2 c2 A4 n4 c4) (hF : ∀ k, F k → k < W.heap.size → F' k) : HoldG F' x W A2 n2 c2 A4 n4 c4 := by
  obtain ⟨h0, h1, h3, h2, h4, F2, F4, o2, o4, h5, hd⟩ := h
  exact ⟨h0, h1, h3, h2, h4, F2, F4, o2, o4, fun g hg => ⟨hF g (h5 g hg).1 (h5 g hg).2, (h5 g hg).2⟩, hd⟩
theorem HoldG.below {lo B : Nat} {x : DGor} {W W' : World} {A2 A4 : Option Addr} {n2 c2 n4 c4 : Nat} {hi : Nat} (h : HoldG (fun g => lo ≤ g ∧ g < hi) x W A2 n2 c2 A4 n4 c4) (hb : Below B W W') (hB : hi ≤ B) : HoldG (fun g => lo ≤ g ∧ g < hi) x W' A2 n2 c2 A4 n4 c4 :=
  h.stay (fun k hk hlt => hb.block k (by omega)) hb.size
theorem HoldG.pc {F : Nat → Prop} {pr pc st : Int} {regs : List Int} {tr : List DItem} {W : World} {A2 A4 : Option Addr} {n2 c2 n4 c4 : Nat} (h : HoldG F ⟨pr, pc, regs, st, tr⟩ W A2 n2 c2 A4 n4 c4) {v : Int} (hv : (Lit.int .i64 v).wf = true) :
    HoldG F ⟨pr, v, regs, st, tr⟩ W A2 n2 c2 A4 n4 c4 := by
  obtain ⟨h0, h1, h⟩ := h
  exact ⟨h0, hv, h⟩
theorem hold_of {x : DGor} {w w' : World} {e : Ending} (h : CopiedG x w e w') (h0 : (Lit.int .i64 x.fProc).wf = true) (h1 : (Lit.int .i64 x.fPc).wf = true) (h3 : (Lit.int .i64 x.fState).wf = true) :
    ∃ A2 n2 c2 A4 n4 c4, e = .returned (.agg #[.int .i64 x.fProc, .int .i64 x.fPc, .slice A2 n2 c2, .int .i64 x.fState, .slice A4 n4 c4]) ∧ HoldG (fun g => w.heap.size ≤ g ∧ g < w'.heap.size) x w' A2 n2 c2 A4 n4 c4 ∧ Below w.heap.size w w' := by
  obtain ⟨hb, A2, c2, A4, c4, F2, F4, rfl, o2, o4, hF, hd⟩ := h
  exact ⟨A2, _, c2, A4, _, c4, rfl, ⟨h0, h1, h3, rfl, rfl, F2, F4, o2, o4, fun g hg => ⟨hF g hg, (hF g hg).2⟩, hd⟩, hb⟩
theorem HoldG.copied {F : Nat → Prop} {x : DGor} {w W : World} {A2 A4 : Option Addr} {n2 c2 n4 c4 : Nat} (h : HoldG F x W A2 n2 c2 A4 n4 c4) (hF : ∀ k, F k → w.heap.size ≤ k) (hb : Below w.heap.size w W) :
    CopiedG x w (.returned (.agg #[.int .i64 x.fProc, .int .i64 x.fPc, .slice A2 n2 c2, .int .i64 x.fState, .slice A4 n4 c4])) W := by
  obtain ⟨h0, h1, h3, rfl, rfl, F2, F4, o2, o4, h5, hd⟩ := h
  exact ⟨hb, A2, c2, A4, c4, F2, F4, rfl, o2, o4, fun g hg => ⟨hF g (h5 g hg).1, (h5 g hg).2⟩, hd⟩
/-- Five cells of a box. -/
theorem put5 {W : World} {b : Nat} {t : TypeId} {z0 z1 z2 z3 z4 u0 u1 u2 u3 u4 : Value} (h : W.heap[b]? = some (.cells #[z0, z1, z2, z3, z4] t (0, 0))) :
    (((((W.setCell ⟨b, 0, none⟩ u0).setCell ⟨b, 1, none⟩ u1).setCell ⟨b, 2, none⟩ u2).setCell ⟨b, 3, none⟩ u3).setCell ⟨b, 4, none⟩ u4).heap[b]? = some (.cells #[u0, u1, u2, u3, u4] t (0, 0)) ∧
    (∀ k, k ≠ b → (((((W.setCell ⟨b, 0, none⟩ u0).setCell ⟨b, 1, none⟩ u1).setCell ⟨b, 2, none⟩ u2).setCell ⟨b, 3, none⟩ u3).setCell ⟨b, 4, none⟩ u4).heap[k]? = W.heap[k]?) ∧
    (((((W.setCell ⟨b, 0, none⟩ u0).setCell ⟨b, 1, none⟩ u1).setCell ⟨b, 2, none⟩ u2).setCell ⟨b, 3, none⟩ u3).setCell ⟨b, 4, none⟩ u4).heap.size = W.heap.size := by
  refine ⟨box_set (j := 4) (box_set (j := 3) (box_set (j := 2) (box_set (j := 1) (box_set (j := 0) h)))), fun k hk => ?_, by simp only [World.size_setCell]⟩
  rw [Below.heap_setCell _ _ _ k (by simp only; omega), Below.heap_setCell _ _ _ k (by simp only; omega), Below.heap_setCell _ _ _ k (by simp only; omega), Below.heap_setCell _ _ _ k (by simp only; omega), Below.heap_setCell _ _ _ k (by simp only; omega)]
theorem put1 {W : World} {b j : Nat} {cur : Array Value} {t : TypeId} {u : Value} (h : W.heap[b]? = some (.cells cur t (0, 0))) :
    (W.setCell ⟨b, j, none⟩ u).heap[b]? = some (.cells (cur.setIfInBounds j u) t (0, 0)) ∧ (∀ k, k ≠ b → (W.setCell ⟨b, j, none⟩ u).heap[k]? = W.heap[k]?) ∧ (W.setCell ⟨b, j, none⟩ u).heap.size = W.heap.size :=
  ⟨box_set h, fun k hk => Below.heap_setCell _ _ _ k (by simp only; omega), by simp only [World.size_setCell]⟩
theorem below_put5 {B b : Nat} {w w' : World} {u0 u1 u2 u3 u4 : Value} (h : Below B w w') (hb : B ≤ b) : Below B w (((((w'.setCell ⟨b, 0, none⟩ u0).setCell ⟨b, 1, none⟩ u1).setCell ⟨b, 2, none⟩ u2).setCell ⟨b, 3, none⟩ u3).setCell ⟨b, 4, none⟩ u4) :=
  below_set (p := ⟨b, 4, none⟩) (below_set (p := ⟨b, 3, none⟩) (below_set (p := ⟨b, 2, none⟩) (below_set (p := ⟨b, 1, none⟩) (below_set (p := ⟨b, 0, none⟩) h hb _) hb _) hb _) hb _) hb _
end Go.Proofs.YtapbjnfopniicaaGreatDoor
