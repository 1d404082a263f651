
/- What a call has answered, in a variable's box: a struct with slices in blocks of its own between two bounds. No program is named here. -/

import Derived.Test.YtakogbpjijbpeaaTail

namespace Go.Proofs.Ytakogbpjijbpeaa
set_option linter.unusedSimpArgs false
set_option linter.unusedVariables false
open Go.RowKit

section

variable {α : Type} {L : Lay α} {t : TypeId} {lo hi : Nat} {W W' : World} {g : Nat} {x : α}

/-- Block g holds the cells of x; all that x owns, and g, lie between lo and hi. -/
def Ans (L : Lay α) (t : TypeId) (lo hi : Nat) (W : World) (g : Nat) (x : α) : Prop :=
  lo ≤ g ∧ g < hi ∧ hi ≤ W.heap.size ∧ ∃ (vs : List Value) (F : Nat → Prop), W.heap[g]? = some (.cells vs.toArray t (0, 0)) ∧ L.own W F x vs ∧ ∀ k, F k → lo ≤ k ∧ k < hi ∧ k ≠ g
theorem Ans.stay (h : Ans L t lo hi W g x) (hk : ∀ k, lo ≤ k → k < hi → W'.heap[k]? = W.heap[k]?) (hz : W.heap.size ≤ W'.heap.size) : Ans L t lo hi W' g x := by
  obtain ⟨h1, h2, h3, vs, F, hb, ho, hF⟩ := h
  exact ⟨h1, h2, by omega, vs, F, (hk g h1 h2).trans hb, L.stay ho (fun k hk1 _ => hk k (hF k hk1).1 (hF k hk1).2.1) hz, hF⟩
theorem Ans.below {B : Nat} (h : Ans L t lo hi W g x) (hb : Below B W W') (hB : hi ≤ B) : Ans L t lo hi W' g x := h.stay (fun k _ hk => hb.block k (by omega)) hb.size
theorem Ans.turned {G : Nat → Prop} (h : Ans L t lo hi W g x) (ht : TurnedF G W W') (hG : ∀ k, G k → k < lo ∨ hi ≤ k) : Ans L t lo hi W' g x :=
  h.stay (fun k h1 h2 => ht.block k (by have := h.2.2.1; omega) (fun hk => by have := hG k hk; omega)) ht.size
/-- An answer, put into a new box. -/
theorem Ans.mk {w v : World} {F : Nat → Prop} {vs : List Value} (ho : L.own v F x vs) (hF : ∀ k, F k → w.heap.size ≤ k ∧ k < v.heap.size) (hz : w.heap.size ≤ v.heap.size) :
    Ans L t w.heap.size (v.alloc (.cells vs.toArray t)).heap.size (v.alloc (.cells vs.toArray t)) v.heap.size x :=
  ⟨hz, by simp, Nat.le_refl _, vs, F, box_new v vs.toArray t, L.stay ho (fun k _ hk => Below.heap_alloc v _ k hk) (by simp), fun k hk => ⟨(hF k hk).1, by have := (hF k hk).2; simp; omega, by have := (hF k hk).2; omega⟩⟩
theorem Ans.mark {x' : α} {vs : List Value} {F : Nat → Prop} (h1 : lo ≤ g) (h2 : g < hi) (h3 : hi ≤ W.heap.size) (hb : W.heap[g]? = some (.cells vs.toArray t (0, 0))) (hF : ∀ k, F k → lo ≤ k ∧ k < hi ∧ k ≠ g) (ho : L.own W' F x' vs) (ht : TurnedF F W W') : Ans L t lo hi W' g x' :=
  ⟨h1, h2, Nat.le_trans h3 ht.size, vs, F, (ht.block g (by omega) (fun hg => (hF g hg).2.2 rfl)).trans hb, ho, hF⟩
theorem Ans.lt (h : Ans L t lo hi W g x) : lo ≤ g ∧ g < hi ∧ hi ≤ W.heap.size := ⟨h.1, h.2.1, h.2.2.1⟩
theorem Ans.weak {lo' : Nat} (h : Ans L t lo hi W g x) (hl : lo' ≤ lo) : Ans L t lo' hi W g x := by
  obtain ⟨h1, h2, h3, vs, F, hb, ho, hF⟩ := h
  exact ⟨by omega, h2, h3, vs, F, hb, ho, fun k hk => by have := hF k hk; omega⟩
/-- What a contract says of an answer with memory of its own. -/
def MadeO (L : Lay α) (w : World) (r : α) (e : Ending) (w' : World) : Prop :=
  ∃ (vs : List Value) (F : Nat → Prop), e = .returned (.agg vs.toArray) ∧ L.own w' F r vs ∧ (∀ g, F g → w.heap.size ≤ g ∧ g < w'.heap.size) ∧ Below w.heap.size w w'
end

end Go.Proofs.Ytakogbpjijbpeaa
