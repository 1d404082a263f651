
/- A block whose cells are known: what is read of it, what a store makes of it. -/

import Derived.Test.YtllkbikhclfgpaaDoorWords

namespace Go.Proofs.YtllkbikhclfgpaaDoor

open Go.RowKit

theorem box_cell {w : World} {g j : Nat} {cur : Array Value} {t : TypeId} {v : Value} (h : w.heap[g]? = some (.cells cur t (0, 0))) (hj : cur[j]? = some v) : w.cell? ⟨g, j, none⟩ = some v := by simp [World.cell?, h, hj]
theorem box_free {w : World} {g : Nat} {cur : Array Value} {t : TypeId} (h : w.heap[g]? = some (.cells cur t (0, 0))) (j : Nat) : w.frozen? ⟨g, j, none⟩ = false := by simp [World.frozen?, h]
theorem box_set {w : World} {g j : Nat} {cur : Array Value} {u : Value} {t : TypeId} (h : w.heap[g]? = some (.cells cur t (0, 0))) : (w.setCell ⟨g, j, none⟩ u).heap[g]? = some (.cells (cur.setIfInBounds j u) t (0, 0)) := by
  have hlt := lt_of_block h
  have h' : w.heap[g] = .cells cur t (0, 0) := by simpa [Array.getElem?_eq_getElem hlt] using h
  show (w.heap.modify g _)[g]? = _
  rw [Array.getElem?_eq_getElem (by simpa using hlt), Array.getElem_modify_self, h']
  rfl
theorem box_new (w : World) (cur : Array Value) (t : TypeId) : (w.alloc (.cells cur t)).heap[w.heap.size]? = some (.cells cur t (0, 0)) := by
  show (w.heap.push _)[w.heap.size]? = _
  rw [Array.getElem?_push_size]
theorem box_keep {w w' : World} {B g : Nat} {x : Obj} (h : w.heap[g]? = some x) (hb : Below B w w') (hB : g < B) : w'.heap[g]? = some x := by rw [hb.block g hB]; exact h
theorem below_set {B : Nat} {w w' : World} {p : Addr} (h : Below B w w') (hp : B ≤ p.block) (u : Value) : Below B w (w'.setCell p u) :=
  ⟨h.os, h.tape, h.output, by simpa [World.setCell] using h.size, fun k hk => (Below.heap_setCell w' _ u k (fun e => by subst e; omega)).trans (h.block k hk)⟩
theorem grown_on {B : Nat} {w w1 w2 : World} (hb : Below w1.heap.size w1 w2) (h : Below B w w1) (hB : B ≤ w.heap.size) : Below B w w2 := h.trans (hb.mono (Nat.le_trans hB h.size))
theorem lt_of_cell {w : World} {g j : Nat} {v : Value} (h : w.cell? ⟨g, j, none⟩ = some v) : g < w.heap.size := by
  refine Nat.lt_of_not_le fun hn => ?_
  have : w.heap[g]? = none := Array.getElem?_eq_none hn
  simp [World.cell?, this] at h
section

variable {w w' : World} {g j g1 j1 g2 j2 : Nat} {v v1 v2 : Value}

theorem cell_kept (hb : Below w.heap.size w w') (h : w.cell? ⟨g, j, none⟩ = some v) : w'.cell? ⟨g, j, none⟩ = some v := by
  have hk := hb.block g (lt_of_cell h)
  simpa [World.cell?, hk] using h
theorem cell_kept2 (hb : Below w.heap.size w w') (h : w.cell? ⟨g, j, none⟩ = some v ∧ w.cell? ⟨g1, j1, none⟩ = some v1) : w'.cell? ⟨g, j, none⟩ = some v ∧ w'.cell? ⟨g1, j1, none⟩ = some v1 := ⟨cell_kept hb h.1, cell_kept hb h.2⟩
theorem cell_kept3 (hb : Below w.heap.size w w') (h : w.cell? ⟨g, j, none⟩ = some v ∧ w.cell? ⟨g1, j1, none⟩ = some v1 ∧ w.cell? ⟨g2, j2, none⟩ = some v2) : w'.cell? ⟨g, j, none⟩ = some v ∧ w'.cell? ⟨g1, j1, none⟩ = some v1 ∧ w'.cell? ⟨g2, j2, none⟩ = some v2 := ⟨cell_kept hb h.1, cell_kept2 hb h.2⟩
end

end Go.Proofs.YtllkbikhclfgpaaDoor
