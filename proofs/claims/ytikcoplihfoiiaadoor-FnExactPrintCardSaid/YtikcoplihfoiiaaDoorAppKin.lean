
/- append that tells where the row lies then. No program is named here. -/

import Derived.Test.YtikcoplihfoiiaaDoorLay

namespace Go.Proofs.YtikcoplihfoiiaaDoor

open Go.RowKit

/-- append of cells that lie somewhere, onto a row of one's own: what else is there stays, and the row lies where it lay or in a new block. -/
theorem wpList_append_kin {P : Program} {w : World} {ops : Array Oper} {rest : List Oper} {o : Oper} {a : Act} {Q : Exit → Act → World → Prop} (hgd : o.guard = none) (s x : Operand) (t : TypeId)
    (ho : o.op = .call { callee := .builtin .append, args := #[s, x], argTypes := #[t, t] })
    (base hi : Nat) (e : TypeId) (i : TypeInfo) (z : Value) (size bytes : Nat) (ht : P.underlying t = some (.slice e)) (hi0 : P.info? e = some i) (hz : i.zero = some z)
    (hsize : i.size = size) (hby : i.bytes = bytes) (hzs : z.cells.size = size) (hsz : 0 < size)
    (A : Option Addr) (n c : Nat) (xs : List Value) (hs : a.eval s = .slice A n c) (hown : Own w base hi e size A n c xs)
    (hi' : Nat) (ad : Addr) (m c2 : Nat) (news : List Value) (hx : a.eval x = .slice (some ad) m c2) (hr : Seen w hi' size (some ad) m news) (h1 : ∀ u ∈ news, u.oneCell' = true)
    (h63 : n + m ≤ maxLen) (hbytes : (n + m) * bytes ≤ 140737488355328) (hbase : base ≤ w.heap.size)
    (h : ∀ A' c' w', Own w' base w'.heap.size e size A' (n + m) c' (xs ++ news) → Below base w w' → (∀ k, k < w.heap.size → blkA A ≠ some k → w'.heap[k]? = w.heap[k]?) →
      (blkA A' = blkA A ∨ blkA A' = some w.heap.size) → wpList P ops Q rest (a.put o.dst (.slice A' (n + m) c')) w') : wpList P ops Q (o :: rest) a w := by
  refine wpList_append_own_at (w := w) hgd s x t ho base e i z size bytes ht hi0 hz hsize hby hzs hsz _ n xs hs hown.1 ad m c2 news hx hr.1 (hr.news rfl) h1 h63 hbytes hbase ?_
  intro v' w' h2 h3 _ h5
  obtain ⟨A', c', hv, ho'⟩ := Own.of_row (hi := w'.heap.size) h2 (Nat.le_refl _)
  subst hv
  have e1 : ∀ (X : Option Addr) (p q : Nat), (Value.slice X p q).ownBlock = blkA X := fun X p q => by cases X <;> rfl
  rw [e1] at h3
  rw [e1, e1] at h5
  refine h A' c' w' ho' ((Below.refl _ _).grown h3 hbase fun k hk => ?_) (fun k hk hne => h3.block k hk (fun e => hne e.symm)) h5
  exact (hown.blk hk).1

end Go.Proofs.YtikcoplihfoiiaaDoor
