
/- What is written into rows that stand in memory of their own: worlds in which only blocks that F holds have turned (TurnedF); one element of a row by itself (OwnR.focus). No program is named here. -/

import Derived.Test.YtikcoplihfoiiaaDoorLayRow

namespace Go.Proofs.YtikcoplihfoiiaaDoor

open Go.RowKit Go.ChangeShapes Go.WideShapes Go.Deep

/-- Blocks that F holds may have turned, blocks may have come; nothing else is other than it was. -/
structure TurnedF (F : Nat → Prop) (w w' : World) : Prop where
  os : w'.os = w.os
  tape : w'.tape = w.tape
  output : w'.output = w.output
  size : w.heap.size ≤ w'.heap.size
  block : ∀ k, k < w.heap.size → ¬ F k → w'.heap[k]? = w.heap[k]?

section

variable {F G : Nat → Prop} {w w' w'' : World}

theorem TurnedF.refl (F : Nat → Prop) (w : World) : TurnedF F w w := ⟨rfl, rfl, rfl, Nat.le_refl _, fun _ _ _ => rfl⟩
theorem TurnedF.trans (h : TurnedF F w w') (k : TurnedF F w' w'') : TurnedF F w w'' :=
  ⟨k.os.trans h.os, k.tape.trans h.tape, k.output.trans h.output, Nat.le_trans h.size k.size, fun i hi ho => (k.block i (Nat.lt_of_lt_of_le hi h.size) ho).trans (h.block i hi ho)⟩
theorem TurnedF.wide (h : TurnedF F w w') (hF : ∀ g, F g → G g) : TurnedF G w w' := ⟨h.os, h.tape, h.output, h.size, fun k hk hn => h.block k hk fun hf => hn (hF k hf)⟩
theorem TurnedF.setCell (h : TurnedF F w w') {p : Addr} (hp : F p.block) (u : Value) : TurnedF F w (w'.setCell p u) :=
  ⟨h.os, h.tape, h.output, by simpa [World.setCell] using h.size, fun k hk hn => (Below.heap_setCell w' p u k (by rintro rfl; exact hn hp)).trans (h.block k hk hn)⟩
theorem TurnedF.of_below (h : Below w.heap.size w w') (F : Nat → Prop) : TurnedF F w w' := ⟨h.os, h.tape, h.output, h.size, fun k hk _ => h.block k hk⟩
theorem TurnedF.below (h : TurnedF F w w') {B : Nat} (hF : ∀ g, F g → B ≤ g) (hB : B ≤ w.heap.size) : Below B w w' := ⟨h.os, h.tape, h.output, h.size, fun k hk => h.block k (by omega) fun hf => by have := hF k hf; omega⟩
theorem TurnedF.put (us : List Value) : ∀ {w' : World} (g o : Nat), TurnedF F w w' → F g → TurnedF F w (putCells w' g o us) := by
  induction us with
  | nil => intro w' g o h _; exact h
  | cons u us ih => intro w' g o h hg; exact ih g (o + 1) (h.setCell (p := ⟨g, o, none⟩) hg u) hg
end

section

variable {α : Type} {L : Lay α} {e : TypeId} {F G : Nat → Prop} {w w' : World} {A : Option Addr} {n c : Nat} {xs : List α}

theorem OwnR.turnedF (h : OwnR L e w F A n c xs) (ht : TurnedF G w w') (hF : ∀ g, F g → ¬ G g) : OwnR L e w' F A n c xs :=
  h.stay (fun g hg hlt => ht.block g hlt (hF g hg)) ht.size
theorem OwnR.cap (h : OwnR L e w F A n c xs) : n ≤ c := by obtain ⟨_, _, _, ho, _⟩ := h; exact ho.cap

theorem setFrom_cut {vs us : List Value} {k n s : Nat} (hlen : vs.length = n * s) (hus : us.length = s) (hk : k < n) {i : Nat} (hi : i < n) :
    ((setFrom vs (k * s) us).drop (i * s)).take s = if i = k then us else (vs.drop (i * s)).take s := by
  have hk1 : (k + 1) * s ≤ n * s := Nat.mul_le_mul_right _ hk
  have hi1 : (i + 1) * s ≤ n * s := Nat.mul_le_mul_right _ hi
  rw [Nat.add_mul, Nat.one_mul] at hk1 hi1
  apply List.ext_getElem?
  intro j
  rw [List.getElem?_take]
  by_cases hj : j < s
  · rw [if_pos hj, List.getElem?_drop, setFrom_get _ _ _ _ (by omega)]
    by_cases hik : i = k
    · subst hik
      rw [if_pos (by omega), if_pos rfl, show i * s + j - i * s = j by omega]
    · rw [if_neg hik, List.getElem?_take, if_pos hj, List.getElem?_drop, if_neg]
      rintro ⟨a, b⟩
      rcases Nat.lt_or_ge i k with h | h
      · have : (i + 1) * s ≤ k * s := Nat.mul_le_mul_right _ h
        rw [Nat.add_mul, Nat.one_mul] at this
        omega
      · have : (k + 1) * s ≤ i * s := Nat.mul_le_mul_right _ (by omega)
        rw [Nat.add_mul, Nat.one_mul] at this
        omega
  · rw [if_neg hj]
    split
    · rw [List.getElem?_eq_none (by omega)]
    · rw [List.getElem?_take, if_neg hj]

/-- One element of a row: where it lies; and the row behind it when it, and only it, is another one. -/
theorem OwnR.focus (h : OwnR L e w F A n c xs) {i : Nat} (hi : i < n) : ∃ (hx : i < xs.length) (g : Nat) (G : Nat → Prop) (vs : List Value), A = some ⟨g, 0, none⟩ ∧ F g ∧ ¬ G g ∧ (∀ b, G b → F b) ∧ g < w.heap.size ∧
    L.own w G xs[i] vs ∧ (∀ j u, j < L.size → vs[j]? = some u → w.cell? ⟨g, i * L.size + j, none⟩ = some u) ∧ (∀ j, w.frozen? ⟨g, j, none⟩ = false) ∧
    ∀ (w' : World) (x' : α) (us : List Value), us.length = L.size → L.own w' G x' us → TurnedF (fun b => G b ∨ b = g) w w' → w'.heap[g]? = (putCells w g (i * L.size) us).heap[g]? → OwnR L e w' F A n c (xs.set i x') := by
  obtain ⟨hl, vs, G, ho, hA, hel, hG, h1, h2⟩ := h
  have hx : i < xs.length := by rw [hl]; exact hi
  obtain ⟨g, rfl, _, _, hgs⟩ := ho.form (by omega)
  refine ⟨hx, g, G i, (vs.drop (i * L.size)).take L.size, rfl, hA g rfl, fun hg => h1 i g hi hg rfl, fun b hb => hG i b hi hb, hgs, hel i _ (List.getElem?_eq_getElem hx), ?_, fun j => ho.free j, ?_⟩
  · intro j u hj hu
    rw [List.getElem?_take, if_pos hj, List.getElem?_drop] at hu
    exact ho.cell hu
  · intro w' x' us hus how ht hrow
    have hvl := ho.1.1
    refine ⟨by rw [List.length_set, hl], setFrom vs (i * L.size) us, G, ?_, hA, ?_, hG, h1, h2⟩
    · have hp := ho.put us (i * L.size)
      refine (hp.keepBlk (w' := w') fun b hb _ => ?_).rebound fun b hb => ⟨Nat.zero_le _, ?_⟩
      · obtain rfl : g = b := by simpa [blkA] using hb
        exact hrow
      · obtain rfl : g = b := by simpa [blkA] using hb
        exact Nat.lt_of_lt_of_le hgs ht.size
    · intro j y hy
      have hjn : j < n := by
        rw [← hl]
        have := (List.getElem?_eq_some_iff.1 hy).1
        rwa [List.length_set] at this
      rw [setFrom_cut hvl hus hi hjn]
      by_cases hji : j = i
      · subst hji
        rw [List.getElem?_set_self hx] at hy
        obtain rfl := Option.some.inj hy
        rw [if_pos rfl]
        exact how
      · rw [List.getElem?_set_ne (fun e => hji e.symm)] at hy
        rw [if_neg hji]
        refine L.stay (hel j y hy) (fun b hb hlt => ht.block b hlt ?_) ht.size
        rintro (hc | rfl)
        · rcases Nat.lt_or_ge j i with h | h
          · exact h2 j i b h hi hb hc
          · exact h2 i j b (by omega) hjn hc hb
        · exact h1 j b hjn hb rfl
end

theorem wf_mark {z : Int} (h0 : 0 ≤ z) (h1 : z ≤ 4294967296) : (Lit.int .i64 z).wf = true := by
  simp [Lit.wf, IntKind.min, IntKind.max, IntKind.signed, IntKind.bits]
  omega
end Go.Proofs.YtikcoplihfoiiaaDoor
