
/- A row that stands in memory of its own with one element open: the row's block may be written at that element's cells, and the element's own blocks may turn; then it is shut again. No program is named here. -/

import Derived.Test.YtikcoplihfoiiaaDoorLayMark

namespace Go.Proofs.YtikcoplihfoiiaaDoor
set_option linter.unusedSimpArgs false
set_option linter.unusedVariables false
open Go.RowKit Go.ChangeShapes Go.WideShapes Go.Deep

/-- The cells of the i-th element. -/
def cutAt (vs : List Value) (i s : Nat) : List Value := (vs.drop (i * s)).take s

theorem cutAt_set_same {vs : List Value} {i s o : Nat} {u : Value} (ho : o < s) : cutAt (vs.set (i * s + o) u) i s = (cutAt vs i s).set o u := by
  unfold cutAt
  apply List.ext_getElem?
  intro j
  simp only [List.getElem?_take, List.getElem?_drop, List.getElem?_set, List.length_take, List.length_drop]
  by_cases hj : j < s
  · by_cases hjo : o = j
    · subst hjo
      simp only [hj, if_true]
      by_cases h : i * s + o < vs.length
      · simp [h, show o < min s (vs.length - i * s) by omega]
      · simp [h, show ¬ o < min s (vs.length - i * s) by omega]
    · simp [hj, hjo, show ¬ i * s + o = i * s + j by omega]
  · simp [hj, show ¬ o = j by omega]
theorem cutAt_set_other {vs : List Value} {i j s o : Nat} {u : Value} (ho : o < s) (hne : j ≠ i) : cutAt (vs.set (i * s + o) u) j s = cutAt vs j s := by
  unfold cutAt
  apply List.ext_getElem?
  intro k
  simp only [List.getElem?_take, List.getElem?_drop, List.getElem?_set]
  by_cases hk : k < s
  · have : ¬ i * s + o = j * s + k := by
      intro h
      rcases Nat.lt_or_ge j i with hlt | hge
      · have : (j + 1) * s ≤ i * s := Nat.mul_le_mul_right _ hlt
        rw [Nat.add_mul, Nat.one_mul] at this
        omega
      · have : (i + 1) * s ≤ j * s := Nat.mul_le_mul_right _ (by omega)
        rw [Nat.add_mul, Nat.one_mul] at this
        omega
    simp [hk, this]
  · simp [hk]

section

variable {α : Type} {L : Lay α} {e : TypeId} {w w' : World} {F Gi H : Nat → Prop} {A : Option Addr} {n c i g : Nat} {xs : List α} {us : List Value}

/-- The row with its i-th element open: its block is g, the element's cells are us, the element's own blocks are Gi's. -/
structure OpenRow (L : Lay α) (e : TypeId) (w : World) (F : Nat → Prop) (n c : Nat) (xs : List α) (i g : Nat) (Gi : Nat → Prop) (us : List Value) : Prop where
  len : xs.length = n
  lt : i < n
  here : F g
  inF : ∀ b, Gi b → F b
  not : ¬ Gi g
  rest : ∃ (vs : List Value) (G : Nat → Nat → Prop), Own w 0 w.heap.size e L.size (some ⟨g, 0, none⟩) n c vs ∧ cutAt vs i L.size = us ∧ G i = Gi ∧
    (∀ j x, j ≠ i → xs[j]? = some x → L.own w (G j) x (cutAt vs j L.size)) ∧ (∀ j b, j < n → G j b → F b) ∧ (∀ j b, j < n → G j b → b ≠ g) ∧ ∀ j k b, j < k → k < n → G j b → ¬ G k b

theorem OwnR.open_ (h : OwnR L e w F A n c xs) (hi : i < n) : ∃ (hx : i < xs.length) (g : Nat) (Gi : Nat → Prop) (us : List Value), A = some ⟨g, 0, none⟩ ∧ g < w.heap.size ∧ OpenRow L e w F n c xs i g Gi us ∧ L.own w Gi xs[i] us := by
  obtain ⟨hl, vs, G, ho, hA, hel, hG, h1, h2⟩ := h
  have hx : i < xs.length := by rw [hl]; exact hi
  obtain ⟨g, rfl, _, _, hgs⟩ := ho.form (by omega)
  exact ⟨hx, g, G i, _, rfl, hgs, ⟨hl, hi, hA g rfl, fun b hb => hG i b hi hb, fun hg => h1 i g hi hg rfl, vs, G, ho, rfl, rfl, fun j x _ hj => hel j x hj, hG, fun j b hj hb e1 => h1 j b hj hb (by rw [e1]; rfl), h2⟩,
    hel i _ (List.getElem?_eq_getElem hx)⟩

theorem OpenRow.cell (h : OpenRow L e w F n c xs i g Gi us) {j : Nat} {u : Value} (hu : us[j]? = some u) (hj : j < L.size) : w.cell? ⟨g, i * L.size + j, none⟩ = some u := by
  obtain ⟨vs, G, ho, hc, _⟩ := h.rest
  refine ho.cell (j := i * L.size + j) ?_
  rw [← hc] at hu
  unfold cutAt at hu
  rw [List.getElem?_take, if_pos hj, List.getElem?_drop] at hu
  exact hu
theorem OpenRow.free (h : OpenRow L e w F n c xs i g Gi us) (j : Nat) : w.frozen? ⟨g, j, none⟩ = false := by
  obtain ⟨vs, G, ho, _⟩ := h.rest
  exact ho.free j
theorem OpenRow.gl (h : OpenRow L e w F n c xs i g Gi us) : g < w.heap.size := by
  obtain ⟨vs, G, ho, _⟩ := h.rest
  exact (ho.lt _ rfl).2.2

/-- A cell of the open element is written. -/
theorem OpenRow.set_ (h : OpenRow L e w F n c xs i g Gi us) {o : Nat} (ho : o < L.size) (u : Value) : OpenRow L e (w.setCell ⟨g, i * L.size + o, none⟩ u) F n c xs i g Gi (us.set o u) := by
  obtain ⟨vs, G, hown, hc, hG, hel, hF, h1, h2⟩ := h.rest
  refine ⟨h.len, h.lt, h.here, h.inF, h.not, vs.set (i * L.size + o) u, G, ?_, ?_, hG, ?_, hF, h1, h2⟩
  · have := hown.set_ (i * L.size + o) u
    simpa [World.setCell] using this
  · rw [cutAt_set_same ho, hc]
  · intro j x hj hx
    rw [cutAt_set_other ho hj]
    have hjn : j < n := by rw [← h.len]; exact (List.getElem?_eq_some_iff.1 hx).1
    refine L.stay (hel j x hj hx) (fun b hb hlt => ?_) (by simp [World.setCell])
    exact Below.heap_setCell w _ u b (fun e1 => h1 j b hjn hb e1)

/-- The open element's own blocks turn. -/
theorem OpenRow.turned (h : OpenRow L e w F n c xs i g Gi us) (ht : TurnedF H w w') (hH : ∀ b, H b → Gi b) : OpenRow L e w' F n c xs i g Gi us := by
  obtain ⟨vs, G, hown, hc, hG, hel, hF, h1, h2⟩ := h.rest
  subst hG
  have hg := h.gl
  refine ⟨h.len, h.lt, h.here, h.inF, h.not, vs, G, ?_, hc, rfl, ?_, hF, h1, h2⟩
  · refine (hown.keepBlk (w' := w') fun b hb hlt => ht.block b hlt fun hb2 => ?_).rebound fun b hb => ⟨Nat.zero_le _, ?_⟩
    · obtain rfl : g = b := by simpa [blkA] using hb
      exact h.not (hH _ hb2)
    · obtain rfl : g = b := by simpa [blkA] using hb
      exact Nat.lt_of_lt_of_le hg ht.size
  · intro j x hj hx
    have hjn : j < n := by rw [← h.len]; exact (List.getElem?_eq_some_iff.1 hx).1
    refine L.stay (hel j x hj hx) (fun b hb hlt => ht.block b hlt fun hb2 => ?_) ht.size
    rcases Nat.lt_or_ge j i with h3 | h3
    · exact h2 j i b h3 h.lt hb (hH _ hb2)
    · exact h2 i j b (by omega) hjn (hH _ hb2) hb
theorem OpenRow.drew (h : OpenRow L e w F n c xs i g Gi us) : OpenRow L e w.drew F n c xs i g Gi us := by
  obtain ⟨vs, G, hown, hc, hG, hel, hF, h1, h2⟩ := h.rest
  exact ⟨h.len, h.lt, h.here, h.inF, h.not, vs, G, hown, hc, hG, fun j x hj hx => L.stay (hel j x hj hx) (fun _ _ _ => rfl) (Nat.le_refl _), hF, h1, h2⟩

/-- Shut again, with another element there. -/
theorem OpenRow.shut (h : OpenRow L e w F n c xs i g Gi us) {x' : α} (hx : L.own w Gi x' us) : OwnR L e w F (some ⟨g, 0, none⟩) n c (xs.set i x') := by
  obtain ⟨vs, G, hown, hc, hG, hel, hF, h1, h2⟩ := h.rest
  refine ⟨by rw [List.length_set, h.len], vs, G, hown, fun b hb => ?_, fun j y hy => ?_, hF, fun j b hj hb e1 => ?_, h2⟩
  · obtain rfl : g = b := by simpa [blkA] using hb
    exact h.here
  · by_cases hji : j = i
    · subst hji
      rw [List.getElem?_set_self (by rw [h.len]; exact h.lt)] at hy
      obtain rfl := Option.some.inj hy
      show L.own w (G j) x' (cutAt vs j L.size)
      rw [hG, hc]
      exact hx
    · rw [List.getElem?_set_ne (fun e1 => hji e1.symm)] at hy
      exact hel j y hji hy
  · obtain rfl : g = b := by simpa [blkA] using e1
    exact h1 j g hj hb rfl

/-- A row in other blocks stays while the open row's own block is written. -/
theorem OwnR.setCell {β : Type} {M : Lay β} {e' : TypeId} {F' : Nat → Prop} {A' : Option Addr} {n' c' : Nat} {ys : List β} (h : OwnR M e' w F' A' n' c' ys) {o : Nat} (hg : ¬ F' g) (u : Value) : OwnR M e' (w.setCell ⟨g, o, none⟩ u) F' A' n' c' ys :=
  h.stay (fun b hb _ => Below.heap_setCell w _ u b (fun e1 => hg (by subst e1; exact hb))) (by simp [World.setCell])
end

theorem sum_pos {α : Type} {f : α → Int} (hf : ∀ x, 0 ≤ f x) : ∀ l : List α, 0 ≤ (l.map f).sum
  | [] => by simp
  | x :: l => by
    have h1 := hf x
    have h2 := sum_pos hf l
    simp only [List.map_cons, List.sum_cons]
    omega
theorem sum_next {α : Type} (f : α → Int) {l : List α} {j : Nat} {x : α} (hx : l[j]? = some x) : ((l.take (j + 1)).map f).sum = ((l.take j).map f).sum + f x := by
  rw [List.take_add_one, hx]
  simp
theorem sum_upto {α : Type} {f : α → Int} (hf : ∀ x, 0 ≤ f x) {l : List α} {j : Nat} {x : α} (hx : l[j]? = some x) : ((l.take j).map f).sum + f x ≤ (l.map f).sum := by
  have h1 := sum_next f hx
  have h2 : (l.map f).sum = ((l.take (j + 1)).map f).sum + ((l.drop (j + 1)).map f).sum := by
    rw [← List.sum_append, ← List.map_append, List.take_append_drop]
  have h3 := sum_pos hf (l.drop (j + 1))
  omega
end Go.Proofs.YtikcoplihfoiiaaDoor
