
/- Rows that are filled element by element: cells that are written (putCells), a row whose first elements stand (Part). No program is named here. -/

import Derived.Test.YtllkbikhclfgpaaDoorLay

namespace Go.Proofs.YtllkbikhclfgpaaDoor

open Go.RowKit Go.ChangeShapes Go.WideShapes Go.Deep

/-- Cells written one behind the other. -/
def putCells (w : World) (g : Nat) : Nat → List Value → World
  | _, [] => w
  | o, v :: vs => putCells (w.setCell ⟨g, o, none⟩ v) g (o + 1) vs
def setFrom (xs : List Value) : Nat → List Value → List Value
  | _, [] => xs
  | o, v :: vs => setFrom (xs.set o v) (o + 1) vs

theorem setFrom_length (us : List Value) : ∀ (xs : List Value) (o : Nat), (setFrom xs o us).length = xs.length := by
  induction us with
  | nil => intro xs o; rfl
  | cons u us ih => intro xs o; simp [setFrom, ih]
theorem setFrom_get (us : List Value) : ∀ (xs : List Value) (o j : Nat), o + us.length ≤ xs.length → (setFrom xs o us)[j]? = if o ≤ j ∧ j < o + us.length then us[j - o]? else xs[j]? := by
  induction us with
  | nil => intro xs o j h; rw [if_neg (by simp only [List.length_nil]; omega)]; rfl
  | cons u us ih =>
    intro xs o j h
    simp only [List.length_cons] at h
    rw [setFrom, ih _ _ _ (by simp; omega)]
    by_cases h1 : o + 1 ≤ j ∧ j < o + 1 + us.length
    · rw [if_pos h1, if_pos (by simp only [List.length_cons]; omega), show j - o = (j - (o + 1)) + 1 by omega, List.getElem?_cons_succ]
    · rw [if_neg h1]
      by_cases h2 : j = o
      · subst h2
        rw [if_pos (by simp only [List.length_cons]; omega), List.getElem?_set_self (by omega), Nat.sub_self, List.getElem?_cons_zero]
      · rw [if_neg (by simp only [List.length_cons]; omega), List.getElem?_set_ne (by omega)]

theorem putCells_block (us : List Value) : ∀ (w : World) (g o k : Nat), k ≠ g → (putCells w g o us).heap[k]? = w.heap[k]? := by
  induction us with
  | nil => intro w g o k h; rfl
  | cons u us ih => intro w g o k h; rw [putCells, ih _ _ _ _ h]; exact Below.heap_setCell w _ _ k h
theorem putCells_size (us : List Value) : ∀ (w : World) (g o : Nat), (putCells w g o us).heap.size = w.heap.size := by
  induction us with
  | nil => intro w g o; rfl
  | cons u us ih => intro w g o; rw [putCells, ih]; simp [World.setCell]
theorem putCells_below {B : Nat} {w0 : World} (us : List Value) : ∀ (w : World) (g o : Nat), Below B w0 w → B ≤ g → Below B w0 (putCells w g o us) := by
  induction us with
  | nil => intro w g o h _; exact h
  | cons u us ih => intro w g o h hg; exact ih _ _ _ (h.setCell hg u) hg

section

variable {w w' : World} {lo hi size n c g : Nat} {e : TypeId} {vs : List Value}

theorem Own.put (us : List Value) : ∀ {w : World} {vs : List Value} (o : Nat), Own w lo hi e size (some ⟨g, 0, none⟩) n c vs → Own (putCells w g o us) lo hi e size (some ⟨g, 0, none⟩) n c (setFrom vs o us) := by
  induction us with
  | nil => intro w vs o h; exact h
  | cons u us ih => intro w vs o h; exact ih (o + 1) (h.set_ o u)
end

section

variable {α : Type} {L : Lay α} {e : TypeId} {w w' : World} {lo n k z : Nat} {xs : List α}

/-- A row in block lo whose first k elements stand, each in blocks of its own behind lo and below z. -/
def Part (L : Lay α) (e : TypeId) (w : World) (lo n : Nat) (xs : List α) (k z : Nat) : Prop :=
  xs.length = n ∧ lo < z ∧ z ≤ w.heap.size ∧ ∃ (vs : List Value) (G : Nat → Nat → Prop), Own w lo (lo + 1) e L.size (some ⟨lo, 0, none⟩) n n vs ∧
    (∀ i x, i < k → xs[i]? = some x → L.own w (G i) x ((vs.drop (i * L.size)).take L.size)) ∧ (∀ i g, i < k → G i g → lo < g ∧ g < z) ∧
    ∀ i j g, i < j → j < k → G i g → ¬ G j g

theorem Part.start {vs : List Value} (hl : xs.length = n) (h : Own w lo (lo + 1) e L.size (some ⟨lo, 0, none⟩) n n vs) (hz : w.heap.size = lo + 1) : Part L e w lo n xs 0 w.heap.size :=
  ⟨hl, by omega, Nat.le_refl _, vs, fun _ _ => False, h, fun i x hi => by omega, fun i g hi => by omega, fun i j g _ hj => by omega⟩
theorem Part.below (h : Part L e w lo n xs k z) (hb : Below w.heap.size w w') : Part L e w' lo n xs k z := by
  obtain ⟨hl, hlo, hz, vs, G, ho, hel, hG, hd⟩ := h
  have hs := hb.size
  exact ⟨hl, hlo, by omega, vs, G, ho.below hb (by omega), fun i x hi hx => L.stay (hel i x hi hx) (fun g hg hlt => hb.block g hlt) hs, hG, hd⟩
/-- What can be written next: the cells are there, and free. -/
theorem Part.room (h : Part L e w lo n xs k z) (hk : k < n) : ∀ j, j < L.size → (∃ v, w.cell? ⟨lo, k * L.size + j, none⟩ = some v) ∧ w.frozen? ⟨lo, k * L.size + j, none⟩ = false := by
  obtain ⟨hl, hlo, hz, vs, G, ho, hel, hG, hd⟩ := h
  intro j hj
  have hlen := ho.1.1
  have : k * L.size + j < vs.length := by
    rw [hlen]
    have : (k + 1) * L.size ≤ n * L.size := Nat.mul_le_mul_right _ hk
    rw [Nat.add_mul, Nat.one_mul] at this
    omega
  exact ⟨⟨_, ho.cell (List.getElem?_eq_getElem this)⟩, ho.free _⟩
theorem Part.step (h : Part L e w lo n xs k z) {x : α} (hx : xs[k]? = some x) {F : Nat → Prop} {us : List Value} (hus : us.length = L.size) (ho' : L.own w F x us) (hF : ∀ g, F g → z ≤ g ∧ g < w.heap.size) :
    Part L e (putCells w lo (k * L.size) us) lo n xs (k + 1) w.heap.size := by
  obtain ⟨hl, hlo, hz, vs, G, ho, hel, hG, hd⟩ := h
  have hk : k < n := by rw [← hl]; exact (List.getElem?_eq_some_iff.1 hx).1
  have hlen := ho.1.1
  have hk1 : (k + 1) * L.size ≤ n * L.size := Nat.mul_le_mul_right _ hk
  rw [Nat.add_mul, Nat.one_mul] at hk1
  have hps := putCells_size us w lo (k * L.size)
  have hcut : ∀ i, i < n → ((setFrom vs (k * L.size) us).drop (i * L.size)).take L.size = if i = k then us else (vs.drop (i * L.size)).take L.size := by
    intro i hi
    have hi1 : (i + 1) * L.size ≤ n * L.size := Nat.mul_le_mul_right _ hi
    rw [Nat.add_mul, Nat.one_mul] at hi1
    apply List.ext_getElem?
    intro j
    rw [List.getElem?_take]
    by_cases hj : j < L.size
    · rw [if_pos hj, List.getElem?_drop, setFrom_get _ _ _ _ (by omega)]
      by_cases hik : i = k
      · subst hik
        rw [if_pos (by omega), if_pos rfl, show i * L.size + j - i * L.size = j by omega]
      · rw [if_neg hik, List.getElem?_take, if_pos hj, List.getElem?_drop, if_neg]
        rintro ⟨a, b⟩
        rcases Nat.lt_or_ge i k with h | h
        · have : (i + 1) * L.size ≤ k * L.size := Nat.mul_le_mul_right _ h
          rw [Nat.add_mul, Nat.one_mul] at this
          omega
        · have : (k + 1) * L.size ≤ i * L.size := Nat.mul_le_mul_right _ (by omega)
          rw [Nat.add_mul, Nat.one_mul] at this
          omega
    · rw [if_neg hj]
      split
      · rw [List.getElem?_eq_none (by omega)]
      · rw [List.getElem?_take, if_neg hj]
  have hst : ∀ {y : α} {E : Nat → Prop} {ys : List Value}, L.own w E y ys → (∀ g, E g → lo < g) → L.own (putCells w lo (k * L.size) us) E y ys := fun hy hE =>
    L.stay hy (fun g hg _ => putCells_block _ _ _ _ _ (by have := hE g hg; omega)) (by omega)
  refine ⟨hl, by omega, by omega, setFrom vs (k * L.size) us, fun i => if i = k then F else G i, ho.put us _, ?_, ?_, ?_⟩
  · intro i y hi hy
    rw [hcut i (by omega)]
    by_cases hik : i = k
    · subst hik
      obtain rfl : x = y := Option.some.inj (hx.symm.trans hy)
      simp only [if_true]
      exact hst ho' fun g hg => by have := hF g hg; omega
    · simp only [if_neg hik]
      exact hst (hel i y (by omega) hy) fun g hg => (hG i g (by omega) hg).1
  · intro i g hi hg
    by_cases hik : i = k
    · simp only [if_pos hik] at hg
      have := hF g hg
      omega
    · simp only [if_neg hik] at hg
      have := hG i g (by omega) hg
      omega
  · intro i j g hij hj hg hg'
    have hik : ¬ i = k := by omega
    simp only [if_neg hik] at hg
    by_cases hjk : j = k
    · simp only [if_pos hjk] at hg'
      have := hF g hg'
      have := hG i g (by omega) hg
      omega
    · simp only [if_neg hjk] at hg'
      exact hd i j g hij (by omega) hg hg'
theorem Part.done (h : Part L e w lo n xs n z) : OwnR L e w (fun g => lo ≤ g ∧ g < w.heap.size) (some ⟨lo, 0, none⟩) n n xs := by
  obtain ⟨hl, hlo, hz, vs, G, ho, hel, hG, hd⟩ := h
  refine ⟨hl, vs, G, ho.rebound fun g hg => ⟨Nat.zero_le _, ?_⟩, fun g hg => ?_, fun i x hx => hel i x (by rw [← hl]; exact (List.getElem?_eq_some_iff.1 hx).1) hx, fun i g hi hg => ?_, fun i g hi hg hh => ?_, fun i j g hij hj => hd i j g hij hj⟩
  · exact (ho.blk hg).2.2
  · have := ho.blk hg; exact ⟨this.1, this.2.2⟩
  · have := hG i g hi hg; omega
  · have := hG i g hi hg
    have := ho.blk hh
    omega
end

theorem sum_take_succ {α : Type} {f : α → Nat} {ds : List α} {i : Nat} {d : α} (h : ds[i]? = some d) : ((ds.take (i + 1)).map f).sum = ((ds.take i).map f).sum + f d := by
  obtain ⟨hi, e⟩ := List.getElem?_eq_some_iff.1 h
  rw [List.take_succ_eq_append_getElem hi, e]
  simp
theorem sum_take_le {α : Type} (f : α → Nat) (ds : List α) (k : Nat) : ((ds.take k).map f).sum ≤ (ds.map f).sum := by
  have : (ds.map f).sum = ((ds.take k).map f).sum + ((ds.drop k).map f).sum := by rw [← List.sum_append, ← List.map_append, List.take_append_drop]
  omega
theorem sum_mem_le {α : Type} (f : α → Nat) {ds : List α} {d : α} (h : d ∈ ds) : f d ≤ (ds.map f).sum := by
  induction ds with
  | nil => cases h
  | cons e ds ih =>
    rw [List.map_cons, List.sum_cons]
    rcases List.mem_cons.1 h with h | h
    · subst h; omega
    · have := ih h; omega

theorem bcell {W w1 : World} {B : Nat} (hb : Below B W w1) : (∀ b o, b < B → w1.cell? ⟨b, o, none⟩ = W.cell? ⟨b, o, none⟩) ∧ (∀ b o, b < B → w1.frozen? ⟨b, o, none⟩ = W.frozen? ⟨b, o, none⟩) :=
  ⟨fun b o h => hb.cell (p := ⟨b, o, none⟩) h, fun b o h => hb.frozen (p := ⟨b, o, none⟩) h⟩

/-- What a size's call answers: what is left, or -1 where it does not reach. -/
def SzPost (w : World) (l s : Nat) (e : Ending) (w' : World) : Prop :=
  Below w.heap.size w w' ∧ ((s ≤ l ∧ e = .returned (.int .i64 ((l - s : Nat) : Int))) ∨ (l < s ∧ e = .returned (.int .i64 (-1))))
/-- The call answers data of a Lean type in memory of their own, and turns nothing that was there. -/
def MadeL {α : Type} (L : Lay α) (w : World) (x : α) (en : Ending) (w' : World) : Prop :=
  ∃ vs, en = .returned (.agg vs.toArray) ∧ L.own w' (fun g => w.heap.size ≤ g ∧ g < w'.heap.size) x vs ∧ Below w.heap.size w w'
/-- The call answers a row of data in memory of its own, and turns nothing that was there. -/
def MadeR {α : Type} (L : Lay α) (e : TypeId) (w : World) (n : Nat) (xs : List α) (en : Ending) (w' : World) : Prop :=
  ∃ A c, en = .returned (.slice A n c) ∧ OwnR L e w' (fun g => w.heap.size ≤ g ∧ g < w'.heap.size) A n c xs ∧ Below w.heap.size w w'
/-- The call says true, and turns nothing that was there. -/
def SaysTrue (w : World) (en : Ending) (w' : World) : Prop := en = .returned (.bool true) ∧ Below w.heap.size w w'

theorem OwnR.turned {α : Type} {L : Lay α} {e : TypeId} {w w' : World} {F : Nat → Prop} {A : Option Addr} {n c l r : Nat} {xs : List α} (h : OwnR L e w F A n c xs) (ht : Turned l r w w') (hF : ∀ g, F g → r ≤ g ∨ g < l) : OwnR L e w' F A n c xs :=
  h.stay (fun g hg hlt => ht.block g hlt (by have := hF g hg; omega)) ht.size
end Go.Proofs.YtllkbikhclfgpaaDoor
