
/- What a call has answered: a row in blocks of its own between two bounds. No program is named here. -/

import Derived.Test.YtgfkadhojlddpaaInv

import Derived.Deep.Cut

namespace Go.Proofs.Ytgfkadhojlddpaa
set_option linter.unusedSimpArgs false
set_option linter.unusedVariables false
open Go.RowKit

section

variable {α : Type} {L : Lay α} {t : TypeId} {lo hi : Nat} {W W' : World} {A : Option Addr} {m c : Nat} {r : List α}

structure AnsR (L : Lay α) (t : TypeId) (lo hi : Nat) (W : World) (A : Option Addr) (m c : Nat) (r : List α) : Prop where
  own : OwnR L t W (fun k => lo ≤ k ∧ k < hi) A m c r
  le : lo ≤ hi
  top : hi ≤ W.heap.size
theorem AnsR.below {B : Nat} (h : AnsR L t lo hi W A m c r) (hb : Below B W W') (hB : hi ≤ B) : AnsR L t lo hi W' A m c r :=
  ⟨h.own.stay (fun g hg _ => hb.block g (by omega)) hb.size, h.le, Nat.le_trans h.top hb.size⟩
theorem AnsR.turned {G : Nat → Prop} (h : AnsR L t lo hi W A m c r) (ht : TurnedF G W W') (hG : ∀ k, G k → k < lo ∨ hi ≤ k) : AnsR L t lo hi W' A m c r :=
  ⟨h.own.stay (fun g hg hlt => ht.block g hlt (fun hk => by have := hG g hk; omega)) ht.size, h.le, Nat.le_trans h.top ht.size⟩
theorem AnsR.see (h : AnsR L t lo hi W A m c r) : SeenR L W W.heap.size A m r := h.own.seen fun g hg => by have := h.top; omega
theorem AnsR.lt (h : AnsR L t lo hi W A m c r) : lo ≤ hi ∧ hi ≤ W.heap.size := ⟨h.le, h.top⟩
theorem AnsR.weak {lo' : Nat} (h : AnsR L t lo hi W A m c r) (hl : lo' ≤ lo) : AnsR L t lo' hi W A m c r :=
  ⟨h.own.wide fun g hg => ⟨by omega, hg.2⟩, by have := h.le; omega, h.top⟩
theorem AnsR.marked {r' : List α} (h : AnsR L t lo hi W A m c r) (ho : OwnR L t W' (fun k => lo ≤ k ∧ k < hi) A m c r') (ht : TurnedF (fun k => lo ≤ k ∧ k < hi) W W') : AnsR L t lo hi W' A m c r' :=
  ⟨ho, h.le, Nat.le_trans h.top ht.size⟩
/-- The row, in a slot. -/
def RowAt (L : Lay α) (t : TypeId) (lo : Nat) (W : World) (r : List α) (v : Value) : Prop :=
  ∃ (A : Option Addr) (c : Nat), v = .slice A r.length c ∧ OwnR L t W (fun k => lo ≤ k ∧ k < W.heap.size) A r.length c r
theorem RowAt.up {v : Value} (h : RowAt L t lo W r v) (hb : Below W.heap.size W W') : RowAt L t lo W' r v := by
  obtain ⟨A, c, h1, h2⟩ := h
  exact ⟨A, c, h1, (h2.stay (fun g hg hlt => hb.block g hlt) hb.size).wide fun g hg => ⟨hg.1, Nat.lt_of_lt_of_le hg.2 hb.size⟩⟩
theorem RowAt.ans {v : Value} (h : RowAt L t lo W r v) (hz : lo ≤ W.heap.size) : ∃ (A : Option Addr) (c : Nat), v = .slice A r.length c ∧ AnsR L t lo W.heap.size W A r.length c r := by
  obtain ⟨A, c, h1, h2⟩ := h
  exact ⟨A, c, h1, h2, hz, Nat.le_refl _⟩
/-- What a contract says of it. -/
def MadeRow (L : Lay α) (t : TypeId) (w : World) (r : List α) (e : Ending) (w' : World) : Prop :=
  ∃ (A : Option Addr) (c : Nat), e = .returned (.slice A r.length c) ∧ OwnR L t w' (fun g => w.heap.size ≤ g ∧ g < w'.heap.size) A r.length c r ∧ Below w.heap.size w w'
theorem RowAt.of_own {w0 : World} {B : Nat} (hB : B ≤ w0.heap.size) (ho : OwnR L t W (fun g => w0.heap.size ≤ g ∧ g < W.heap.size) A r.length c r) : RowAt L t B W r (.slice A r.length c) :=
  ⟨A, c, rfl, ho.wide fun g hg => ⟨Nat.le_trans hB hg.1, hg.2⟩⟩
theorem AnsR.of_own {w0 : World} (hb : w0.heap.size ≤ W.heap.size) (ho : OwnR L t W (fun g => w0.heap.size ≤ g ∧ g < W.heap.size) A r.length c r) : AnsR L t w0.heap.size W.heap.size W A r.length c r :=
  ⟨ho, hb, Nat.le_refl _⟩
end

end Go.Proofs.Ytgfkadhojlddpaa
