
/- Words for memory that the proofs of this seat share: a slice that is read (Seen), a slice in new memory of known bounds (Own), a world in which only blocks between two bounds have turned (Turned). No program is named here. -/

import Derived.WalkKit

import Derived.Maps.AppendAt

import Derived.Deep.AppendLies

import Derived.Deep.Draws

namespace Go.Proofs.YtllkbikhclfgpaaDoor

open Go.RowKit

theorem add_plain (g o j : Nat) : (⟨g, o, none⟩ : Addr).add j = ⟨g, o + j, none⟩ := by
  unfold Addr.add; split <;> simp_all

/-- The cells xs (size cells for each of n elements) can be read behind the address A, in a block below hi. -/
def Seen (w : World) (hi size : Nat) (A : Option Addr) (n : Nat) (xs : List Value) : Prop :=
  xs.length = n * size ∧ (xs = [] ∨ ∃ g o, A = some ⟨g, o, none⟩ ∧ g < hi ∧ ∀ j u, xs[j]? = some u → w.cell? ⟨g, o + j, none⟩ = some u)

/-- Blocks from lo on and below hi may have turned, blocks may have come; nothing else is other than it was. -/
structure Turned (lo hi : Nat) (w w' : World) : Prop where
  os : w'.os = w.os
  tape : w'.tape = w.tape
  output : w'.output = w.output
  size : w.heap.size ≤ w'.heap.size
  block : ∀ k, k < w.heap.size → (k < lo ∨ hi ≤ k) → w'.heap[k]? = w.heap[k]?

/-- The slice A, n, c lies in a block of its own from lo on and below hi (or is nil), and holds xs. -/
def Own (w : World) (lo hi : Nat) (e : TypeId) (size : Nat) (A : Option Addr) (n c : Nat) (xs : List Value) : Prop :=
  w.ownsRow lo e size (.slice A n c) n xs ∧ ∀ a, A = some a → a.block < hi

theorem below_drawn {B : Nat} {a w : World} (h : Below B a w) (n : Nat) : Below B a (w.drewN n) := ⟨h.os, h.tape, h.output, h.size, h.block⟩

section

variable {w w' w'' : World} {lo hi lo' hi' size n c : Nat} {e : TypeId} {A : Option Addr} {xs : List Value}

theorem Turned.refl (lo hi : Nat) (w : World) : Turned lo hi w w := ⟨rfl, rfl, rfl, Nat.le_refl _, fun _ _ _ => rfl⟩
theorem Turned.trans (h : Turned lo hi w w') (k : Turned lo hi w' w'') : Turned lo hi w w'' :=
  ⟨k.os.trans h.os, k.tape.trans h.tape, k.output.trans h.output, Nat.le_trans h.size k.size, fun i hi ho => (k.block i (Nat.lt_of_lt_of_le hi h.size) ho).trans (h.block i hi ho)⟩
theorem Turned.of_below (h : Below w.heap.size w w') (lo hi : Nat) : Turned lo hi w w' := ⟨h.os, h.tape, h.output, h.size, fun k hk _ => h.block k hk⟩
theorem Turned.drew (h : Turned lo hi w w') : Turned lo hi w w'.drew := ⟨h.os, h.tape, h.output, h.size, h.block⟩
theorem Turned.setCell (h : Turned lo hi w w') {p : Addr} (h1 : lo ≤ p.block) (h2 : p.block < hi) (u : Value) : Turned lo hi w (w'.setCell p u) :=
  ⟨h.os, h.tape, h.output, by simpa [World.setCell] using h.size, fun k hk ho => (Below.heap_setCell w' p u k (by omega)).trans (h.block k hk ho)⟩
theorem Turned.below (h : Turned lo hi w w') {B : Nat} (hB : B ≤ lo) (hs : B ≤ w.heap.size) : Below B w w' := ⟨h.os, h.tape, h.output, h.size, fun k hk => h.block k (by omega) (.inl (by omega))⟩
theorem Turned.wider (h : Turned lo hi w w') (h1 : lo' ≤ lo) (h2 : hi ≤ hi') : Turned lo' hi' w w' := ⟨h.os, h.tape, h.output, h.size, fun k hk ho => h.block k hk (by omega)⟩

theorem Seen.len (h : Seen w hi 1 A n xs) : xs.length = n := by simpa using h.1
theorem Seen.nil_ : Seen w hi size A 0 [] := ⟨by simp, .inl rfl⟩
theorem Seen.keep (h : Seen w hi size A n xs) (hk : ∀ k, k < hi → w'.heap[k]? = w.heap[k]?) : Seen w' hi size A n xs :=
  ⟨h.1, h.2.imp id fun ⟨g, o, e, hg, hc⟩ => ⟨g, o, e, hg, fun j u hu => (World.cell?_of_block (w := w) (w' := w') (a := ⟨g, o + j, none⟩) (hk g hg)).trans (hc j u hu)⟩⟩
theorem Seen.more (h : Seen w hi size A n xs) (hh : hi ≤ hi') : Seen w hi' size A n xs :=
  ⟨h.1, h.2.imp id fun ⟨g, o, e, hg, hc⟩ => ⟨g, o, e, by omega, hc⟩⟩
theorem Seen.below (h : Seen w hi size A n xs) {B : Nat} (hb : Below B w w') (hB : hi ≤ B) : Seen w' hi size A n xs := h.keep fun k hk => hb.block k (by omega)
theorem Seen.turned (h : Seen w hi size A n xs) {l r : Nat} (hb : Turned l r w w') (hB : hi ≤ l) (hs : hi ≤ w.heap.size) : Seen w' hi size A n xs := h.keep fun k hk => hb.block k (by omega) (.inl (by omega))
theorem Seen.at_ (h : Seen w hi size A n xs) {j : Nat} (hj : j < n * size) : ∃ g o u, A = some ⟨g, o, none⟩ ∧ g < hi ∧ xs[j]? = some u ∧ w.cell? ⟨g, o + j, none⟩ = some u := by
  have hl : j < xs.length := by have := h.1; omega
  rcases h.2 with h0 | ⟨g, o, e, hg, hc⟩
  · rw [h0] at hl; simp at hl
  · exact ⟨g, o, xs[j], e, hg, List.getElem?_eq_getElem hl, hc j _ (List.getElem?_eq_getElem hl)⟩
theorem Seen.news (h : Seen w hi size A n xs) {ad : Addr} (hA : A = some ad) : ∀ j u, xs[j]? = some u → w.cell? (ad.add j) = some u := by
  intro j u hu
  rcases h.2 with h0 | ⟨g, o, e, hg, hc⟩
  · rw [h0] at hu; simp at hu
  · rw [hA] at e; injection e with e; subst e; rw [add_plain]; exact hc j u hu

theorem Own.len (h : Own w lo hi e 1 A n c xs) : xs.length = n := by simpa using h.1.1
theorem Own.lt (h : Own w lo hi e size A n c xs) : ∀ a, A = some a → lo ≤ a.block ∧ a.block < hi ∧ a.block < w.heap.size := by
  intro a ha
  have := h.1.lt a.block (by rw [ha]; rfl)
  exact ⟨this.1, h.2 a ha, this.2⟩
theorem Own.keep (h : Own w lo hi e size A n c xs) (hk : ∀ k, lo ≤ k → k < hi → k < w.heap.size → w'.heap[k]? = w.heap[k]?) : Own w' lo hi e size A n c xs := by
  refine ⟨⟨h.1.1, ?_⟩, h.2⟩
  rcases h.1.2 with hn | ⟨g, cap, cur, hv, hb, hg, rest⟩
  · exact .inl hn
  · refine .inr ⟨g, cap, cur, hv, hb, ?_, rest⟩
    injection hv with hA _ _
    have := h.lt _ hA
    rw [hk g this.1 this.2.1 this.2.2]; exact hg
theorem Own.wider (h : Own w lo hi e size A n c xs) (h1 : lo' ≤ lo) (h2 : hi ≤ hi') : Own w lo' hi' e size A n c xs := by
  refine ⟨⟨h.1.1, ?_⟩, fun a ha => by have := h.2 a ha; omega⟩
  rcases h.1.2 with hn | ⟨g, cap, cur, hv, hb, hg, rest⟩
  · exact .inl hn
  · exact .inr ⟨g, cap, cur, hv, by omega, hg, rest⟩
theorem Own.below (h : Own w lo hi e size A n c xs) {B : Nat} (hb : Below B w w') (hB : hi ≤ B) : Own w' lo hi e size A n c xs := h.keep fun k _ hk _ => hb.block k (by omega)
theorem Own.turned (h : Own w lo hi e size A n c xs) {l r : Nat} (hb : Turned l r w w') (hB : hi ≤ l ∨ r ≤ lo) : Own w' lo hi e size A n c xs := h.keep fun k h1 h2 h3 => hb.block k h3 (by omega)
theorem Own.seen (h : Own w lo hi e size A n c xs) : Seen w hi size A n xs := by
  refine ⟨h.1.1, ?_⟩
  rcases h.1.2 with ⟨_, hn⟩ | ⟨g, cap, cur, hv, hb, hg, hnc, hm, hs, ht⟩
  · left; have := h.1.1; rw [hn] at this; simpa using this
  · injection hv with hA _ _
    refine .inr ⟨g, 0, hA, (h.lt _ hA).2.1, fun j u hu => ?_⟩
    have := h.1.cells (g := g) (by rw [hA]; rfl) j u hu
    rwa [add_plain] at this
theorem Own.of_row {v : Value} (h : w.ownsRow lo e size v n xs) (hs : w.heap.size ≤ hi) : ∃ A c, v = .slice A n c ∧ Own w lo hi e size A n c xs := by
  rcases h.2 with ⟨hv, hn⟩ | ⟨g, cap, cur, hv, rest⟩
  · subst hn; exact ⟨none, 0, hv, by rw [← hv]; exact h, fun a ha => by cases ha⟩
  · refine ⟨_, cap, hv, by rw [← hv]; exact h, fun a ha => ?_⟩
    have := h.lt a.block (by rw [hv, ha]; rfl)
    omega
/-- One cell of an owned row is written. -/
theorem Own.set_ {g : Nat} (h : Own w lo hi e size (some ⟨g, 0, none⟩) n c xs) (j : Nat) (u : Value) :
    Own (w.setCell ⟨g, j, none⟩ u) lo hi e size (some ⟨g, 0, none⟩) n c (xs.set j u) := ⟨(h.1.stored j u).1, h.2⟩
theorem Own.form (h : Own w lo hi e size A n c xs) (hn : 0 < n) : ∃ g, A = some ⟨g, 0, none⟩ ∧ lo ≤ g ∧ g < hi ∧ g < w.heap.size := by
  rcases h.1.2 with ⟨_, h0⟩ | ⟨g, cap, cur, hv, rest⟩
  · omega
  · injection hv with hA _ _
    have := h.lt _ hA
    exact ⟨g, hA, this.1, this.2.1, this.2.2⟩
theorem Own.cell {g : Nat} (h : Own w lo hi e size (some ⟨g, 0, none⟩) n c xs) {j : Nat} {u : Value} (hu : xs[j]? = some u) : w.cell? ⟨g, j, none⟩ = some u := by
  have := h.1.cells (g := g) rfl j u hu
  rwa [add_plain, Nat.zero_add] at this
theorem Own.free {g : Nat} (h : Own w lo hi e size (some ⟨g, 0, none⟩) n c xs) (j : Nat) : w.frozen? ⟨g, j, none⟩ = false := by
  rcases h.1.2 with ⟨hv, _⟩ | ⟨g', cap, cur, hv, hb, hg, rest⟩
  · cases hv
  · injection hv with hA _ _
    injection hA with hA
    injection hA with hA _
    subst hA
    simp [World.frozen?, hg]
/-- A row that 'make' has just laid. -/
theorem Own.made (w : World) (cur : Array Value) (n c : Nat) (hm : c ≤ maxLen) (hs : cur.size = c * size) (hn : n ≤ c) :
    Own (w.alloc (.cells cur e)) w.heap.size (w.heap.size + 1) e size (some ⟨w.heap.size, 0, none⟩) n c (cur.toList.take (n * size)) := by
  refine ⟨⟨?_, .inr ⟨w.heap.size, c, cur, rfl, Nat.le_refl _, heap_alloc_new w _, hn, hm, hs, rfl⟩⟩, fun a ha => by injection ha with ha; subst ha; simp⟩
  rw [List.length_take, Array.length_toList, hs]
  have : n * size ≤ c * size := Nat.mul_le_mul_right _ hn
  omega
theorem Own.cap (h : Own w lo hi e size A n c xs) : n ≤ c := by
  rcases h.1.2 with ⟨_, h0⟩ | ⟨g, cap, cur, hv, _, _, hnc, _⟩
  · omega
  · injection hv with _ _ hc
    omega
theorem Own.alloc (h : Own w lo hi e size A n c xs) (o : Obj) : Own (w.alloc o) lo hi e size A n c xs := h.keep fun _ _ _ hk => Below.heap_alloc w o _ hk
theorem Own.drewN (h : Own w lo hi e size A n c xs) (m : Nat) : Own (w.drewN m) lo hi e size A n c xs := h
theorem Own.drew (h : Own w lo hi e size A n c xs) : Own w.drew lo hi e size A n c xs := h
theorem Own.nil_ (w : World) (lo hi : Nat) (e : TypeId) (size : Nat) : Own w lo hi e size none 0 0 [] := ⟨World.ownsRow_nil w lo e size, fun a ha => by cases ha⟩
theorem Seen.one (w : World) (x : Value) (t : TypeId) : Seen (w.alloc (.cells #[x] t)) (w.heap.size + 1) 1 (some ⟨w.heap.size, 0, none⟩) 1 [x] :=
  ⟨rfl, .inr ⟨w.heap.size, 0, rfl, by omega, fun j u hu => by have := cell_one_new w x t j u hu; rwa [add_plain] at this⟩⟩
end

section

variable {P : Program} {w : World}

theorem run_append_nothing (base : Nat) (t ty e : TypeId) (i : TypeInfo) (size : Nat) (ht : P.underlying t = some (.slice e)) (hi : P.info? e = some i)
    (v : Value) (n : Nat) (xs : List Value) (hown : w.ownsRow base e size v n xs) (c : Nat) : (Builtin.append_ #[t, t] ty #[v, .slice none 0 c]).run P w = .ok v w := by
  rcases hown.2 with ⟨rfl, rfl⟩ | ⟨g, cap, cur, rfl, _, _, hnc, _⟩
  · simp [Builtin.append_, run_underlying ht, sizeOf, typeInfo, hi, Builtin.lenOf, Builtin.firstCells]
  · simp [Builtin.append_, run_underlying ht, sizeOf, typeInfo, hi, Builtin.lenOf, Builtin.firstCells, hnc, storeCells]

/-- append of what can be read (nil, empty or not) onto a row of one's own. -/
theorem wpList_append_seen {ops : Array Oper} {rest : List Oper} {o : Oper} {a : Act} {Q : Exit → Act → World → Prop} (hgd : o.guard = none) (s x : Operand) (t : TypeId)
    (ho : o.op = .call { callee := .builtin .append, args := #[s, x], argTypes := #[t, t] })
    (base hi : Nat) (e : TypeId) (i : TypeInfo) (z : Value) (size bytes : Nat) (ht : P.underlying t = some (.slice e)) (hi0 : P.info? e = some i) (hz : i.zero = some z)
    (hsize : i.size = size) (hby : i.bytes = bytes) (hzs : z.cells.size = size) (hsz : 0 < size)
    (A : Option Addr) (n c : Nat) (xs : List Value) (hs : a.eval s = .slice A n c) (hown : Own w base hi e size A n c xs)
    (hi' : Nat) (A2 : Option Addr) (m c2 : Nat) (news : List Value) (hx : a.eval x = .slice A2 m c2) (hr : Seen w hi' size A2 m news) (h1 : ∀ u ∈ news, u.oneCell' = true)
    (h63 : n + m ≤ maxLen) (hbytes : (n + m) * bytes ≤ 140737488355328) (hbase : base ≤ w.heap.size)
    (h : ∀ A' c' w', Own w' base w'.heap.size e size A' (n + m) c' (xs ++ news) → Below base w w' → wpList P ops Q rest (a.put o.dst (.slice A' (n + m) c')) w') : wpList P ops Q (o :: rest) a w := by
  rcases A2 with _ | ad
  · have hnews : news = [] := by
      rcases hr.2 with h0 | ⟨g, o, e, _⟩
      · exact h0
      · cases e
    have hm : m = 0 := by
      have := hr.1
      rw [hnews] at this
      exact (Nat.mul_eq_zero.1 this.symm).resolve_right (by omega)
    subst hnews hm
    refine wpList_plain hgd fun K hK => ?_
    have hrun := run_append_nothing (P := P) base t o.type e i size ht hi0 _ n xs hown.1 c2
    unfold Oper.wp
    simp only [execOp, ho, resolve, invoke, builtin, Sem.run_bind, Sem.run_pure, Result.andThen_ok, List.map_toArray, List.map_cons, List.map_nil, hs, hx, hrun]
    refine hK _ _ (h A c w ?_ (Below.refl _ _))
    obtain ⟨A', c', hv, ho'⟩ := Own.of_row (hi := w.heap.size) hown.1 (Nat.le_refl _)
    injection hv with e1 _ e3
    subst e1 e3
    simpa using ho'
  · refine wpList_append_own_at (w := w) hgd s x t ho base e i z size bytes ht hi0 hz hsize hby hzs hsz _ n xs hs hown.1 ad m c2 news hx hr.1 (hr.news rfl) h1 h63 hbytes hbase ?_
    intro v' w' h2 h3 _ _
    obtain ⟨A', c', hv, ho'⟩ := Own.of_row (hi := w'.heap.size) h2 (Nat.le_refl _)
    subst hv
    refine h A' c' w' ho' ((Below.refl _ _).grown h3 hbase fun k hk => ?_)
    exact (hown.1.lt k hk).1
end

end Go.Proofs.YtllkbikhclfgpaaDoor
