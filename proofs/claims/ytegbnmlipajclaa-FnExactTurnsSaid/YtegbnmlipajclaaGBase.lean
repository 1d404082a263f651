
/- Base, Tail, BaseP, Skips, Grow, DInt, merged for claims. -/

import Derived.WalkKit

import Derived.Maps.AppendAt

import Derived.Deep.AppendLies

import Derived.Deep.Draws

import Derived.Lib.SplitLaws

import Derived.Lib.CountLaws

import Derived.Lib.CutLaws

import Derived.Lib.IndexLaws

import Derived.Lib.IndexBytes

import Derived.Lib.Strings

import Derived.Lib.ItoaMem

import Derived.Lib.ParseIntB

import Derived.Deep.Slices

import Derived.Deep.Fields

import Derived.ChangeSame

import Derived.OpenShut

import Derived.Lib.Hide

import Derived.HandedShaped

import Derived.Handed

import Derived.Test.YtegbnmlipajclaaProg

import Derived.Deep.QuietTactic

import Derived.BigQuiet

import Derived.Deep.RegionWith

import Derived.Handy

/-! Words for memory that the proofs of this seat share: a slice that is read (Seen), a slice in new memory of known bounds (Own), a world in which only blocks between two bounds have turned (Turned). No program is named here. -/

namespace Go.Proofs.Ytegbnmlipajclaa

open Go.RowKit

theorem add_plain (g o j : Nat) : (⟨g, o, none⟩ : Addr).add j = ⟨g, o + j, none⟩ := by
  unfold Addr.add; split <;> simp_all

/-- The cells xs (size cells for each of n elements) can be read behind the address A, in a block below hi. -/
def Seen (w : World) (hi size : Nat) (A : Option Addr) (n : Nat) (xs : List Value) : Prop :=
  xs.length = n * size ∧ (xs = [] ∨ ∃ g o, A = some ⟨g, o, none⟩ ∧ g < hi ∧ ∀ j u, xs[j]? = some u → w.cell? ⟨g, o + j, none⟩ = some u)

/-- Blocks from lo on and below hi may have turned, blocks may have come; nothing else is other than it was. -/
structure Turned (lo hi : Nat) (w w' : World) : Prop where
  os : w'.os = w.os
  tape : w'.tape = w.tape
  output : w'.output = w.output
  size : w.heap.size ≤ w'.heap.size
  block : ∀ k, k < w.heap.size → (k < lo ∨ hi ≤ k) → w'.heap[k]? = w.heap[k]?

/-- The slice A, n, c lies in a block of its own from lo on and below hi (or is nil), and holds xs. -/
def Own (w : World) (lo hi : Nat) (e : TypeId) (size : Nat) (A : Option Addr) (n c : Nat) (xs : List Value) : Prop :=
  w.ownsRow lo e size (.slice A n c) n xs ∧ ∀ a, A = some a → a.block < hi

theorem below_drawn {B : Nat} {a w : World} (h : Below B a w) (n : Nat) : Below B a (w.drewN n) := ⟨h.os, h.tape, h.output, h.size, h.block⟩

section

variable {w w' w'' : World} {lo hi lo' hi' size n c : Nat} {e : TypeId} {A : Option Addr} {xs : List Value}

theorem Turned.refl (lo hi : Nat) (w : World) : Turned lo hi w w := ⟨rfl, rfl, rfl, Nat.le_refl _, fun _ _ _ => rfl⟩
theorem Turned.trans (h : Turned lo hi w w') (k : Turned lo hi w' w'') : Turned lo hi w w'' :=
  ⟨k.os.trans h.os, k.tape.trans h.tape, k.output.trans h.output, Nat.le_trans h.size k.size, fun i hi ho => (k.block i (Nat.lt_of_lt_of_le hi h.size) ho).trans (h.block i hi ho)⟩
theorem Turned.of_below (h : Below w.heap.size w w') (lo hi : Nat) : Turned lo hi w w' := ⟨h.os, h.tape, h.output, h.size, fun k hk _ => h.block k hk⟩
theorem Turned.drew (h : Turned lo hi w w') : Turned lo hi w w'.drew := ⟨h.os, h.tape, h.output, h.size, h.block⟩
theorem Turned.setCell (h : Turned lo hi w w') {p : Addr} (h1 : lo ≤ p.block) (h2 : p.block < hi) (u : Value) : Turned lo hi w (w'.setCell p u) :=
  ⟨h.os, h.tape, h.output, by simpa [World.setCell] using h.size, fun k hk ho => (Below.heap_setCell w' p u k (by omega)).trans (h.block k hk ho)⟩
theorem Turned.below (h : Turned lo hi w w') {B : Nat} (hB : B ≤ lo) (hs : B ≤ w.heap.size) : Below B w w' := ⟨h.os, h.tape, h.output, h.size, fun k hk => h.block k (by omega) (.inl (by omega))⟩
theorem Turned.wider (h : Turned lo hi w w') (h1 : lo' ≤ lo) (h2 : hi ≤ hi') : Turned lo' hi' w w' := ⟨h.os, h.tape, h.output, h.size, fun k hk ho => h.block k hk (by omega)⟩

theorem Seen.len (h : Seen w hi 1 A n xs) : xs.length = n := by simpa using h.1
theorem Seen.nil_ : Seen w hi size A 0 [] := ⟨by simp, .inl rfl⟩
theorem Seen.keep (h : Seen w hi size A n xs) (hk : ∀ k, k < hi → w'.heap[k]? = w.heap[k]?) : Seen w' hi size A n xs :=
  ⟨h.1, h.2.imp id fun ⟨g, o, e, hg, hc⟩ => ⟨g, o, e, hg, fun j u hu => (World.cell?_of_block (w := w) (w' := w') (a := ⟨g, o + j, none⟩) (hk g hg)).trans (hc j u hu)⟩⟩
theorem Seen.more (h : Seen w hi size A n xs) (hh : hi ≤ hi') : Seen w hi' size A n xs :=
  ⟨h.1, h.2.imp id fun ⟨g, o, e, hg, hc⟩ => ⟨g, o, e, by omega, hc⟩⟩
theorem Seen.below (h : Seen w hi size A n xs) {B : Nat} (hb : Below B w w') (hB : hi ≤ B) : Seen w' hi size A n xs := h.keep fun k hk => hb.block k (by omega)
theorem Seen.turned (h : Seen w hi size A n xs) {l r : Nat} (hb : Turned l r w w') (hB : hi ≤ l) (hs : hi ≤ w.heap.size) : Seen w' hi size A n xs := h.keep fun k hk => hb.block k (by omega) (.inl (by omega))
theorem Seen.at_ (h : Seen w hi size A n xs) {j : Nat} (hj : j < n * size) : ∃ g o u, A = some ⟨g, o, none⟩ ∧ g < hi ∧ xs[j]? = some u ∧ w.cell? ⟨g, o + j, none⟩ = some u := by
  have hl : j < xs.length := by have := h.1; omega
  rcases h.2 with h0 | ⟨g, o, e, hg, hc⟩
  · rw [h0] at hl; simp at hl
  · exact ⟨g, o, xs[j], e, hg, List.getElem?_eq_getElem hl, hc j _ (List.getElem?_eq_getElem hl)⟩
theorem Seen.news (h : Seen w hi size A n xs) {ad : Addr} (hA : A = some ad) : ∀ j u, xs[j]? = some u → w.cell? (ad.add j) = some u := by
  intro j u hu
  rcases h.2 with h0 | ⟨g, o, e, hg, hc⟩
  · rw [h0] at hu; simp at hu
  · rw [hA] at e; injection e with e; subst e; rw [add_plain]; exact hc j u hu

theorem Own.len (h : Own w lo hi e 1 A n c xs) : xs.length = n := by simpa using h.1.1
theorem Own.lt (h : Own w lo hi e size A n c xs) : ∀ a, A = some a → lo ≤ a.block ∧ a.block < hi ∧ a.block < w.heap.size := by
  intro a ha
  have := h.1.lt a.block (by rw [ha]; rfl)
  exact ⟨this.1, h.2 a ha, this.2⟩
theorem Own.keep (h : Own w lo hi e size A n c xs) (hk : ∀ k, lo ≤ k → k < hi → k < w.heap.size → w'.heap[k]? = w.heap[k]?) : Own w' lo hi e size A n c xs := by
  refine ⟨⟨h.1.1, ?_⟩, h.2⟩
  rcases h.1.2 with hn | ⟨g, cap, cur, hv, hb, hg, rest⟩
  · exact .inl hn
  · refine .inr ⟨g, cap, cur, hv, hb, ?_, rest⟩
    injection hv with hA _ _
    have := h.lt _ hA
    rw [hk g this.1 this.2.1 this.2.2]; exact hg
theorem Own.wider (h : Own w lo hi e size A n c xs) (h1 : lo' ≤ lo) (h2 : hi ≤ hi') : Own w lo' hi' e size A n c xs := by
  refine ⟨⟨h.1.1, ?_⟩, fun a ha => by have := h.2 a ha; omega⟩
  rcases h.1.2 with hn | ⟨g, cap, cur, hv, hb, hg, rest⟩
  · exact .inl hn
  · exact .inr ⟨g, cap, cur, hv, by omega, hg, rest⟩
theorem Own.below (h : Own w lo hi e size A n c xs) {B : Nat} (hb : Below B w w') (hB : hi ≤ B) : Own w' lo hi e size A n c xs := h.keep fun k _ hk _ => hb.block k (by omega)
theorem Own.turned (h : Own w lo hi e size A n c xs) {l r : Nat} (hb : Turned l r w w') (hB : hi ≤ l ∨ r ≤ lo) : Own w' lo hi e size A n c xs := h.keep fun k h1 h2 h3 => hb.block k h3 (by omega)
theorem Own.seen (h : Own w lo hi e size A n c xs) : Seen w hi size A n xs := by
  refine ⟨h.1.1, ?_⟩
  rcases h.1.2 with ⟨_, hn⟩ | ⟨g, cap, cur, hv, hb, hg, hnc, hm, hs, ht⟩
  · left; have := h.1.1; rw [hn] at this; simpa using this
  · injection hv with hA _ _
    refine .inr ⟨g, 0, hA, (h.lt _ hA).2.1, fun j u hu => ?_⟩
    have := h.1.cells (g := g) (by rw [hA]; rfl) j u hu
    rwa [add_plain] at this
theorem Own.of_row {v : Value} (h : w.ownsRow lo e size v n xs) (hs : w.heap.size ≤ hi) : ∃ A c, v = .slice A n c ∧ Own w lo hi e size A n c xs := by
  rcases h.2 with ⟨hv, hn⟩ | ⟨g, cap, cur, hv, rest⟩
  · subst hn; exact ⟨none, 0, hv, by rw [← hv]; exact h, fun a ha => by cases ha⟩
  · refine ⟨_, cap, hv, by rw [← hv]; exact h, fun a ha => ?_⟩
    have := h.lt a.block (by rw [hv, ha]; rfl)
    omega
/-- One cell of an owned row is written. -/
theorem Own.set_ {g : Nat} (h : Own w lo hi e size (some ⟨g, 0, none⟩) n c xs) (j : Nat) (u : Value) :
    Own (w.setCell ⟨g, j, none⟩ u) lo hi e size (some ⟨g, 0, none⟩) n c (xs.set j u) := ⟨(h.1.stored j u).1, h.2⟩
theorem Own.form (h : Own w lo hi e size A n c xs) (hn : 0 < n) : ∃ g, A = some ⟨g, 0, none⟩ ∧ lo ≤ g ∧ g < hi ∧ g < w.heap.size := by
  rcases h.1.2 with ⟨_, h0⟩ | ⟨g, cap, cur, hv, rest⟩
  · omega
  · injection hv with hA _ _
    have := h.lt _ hA
    exact ⟨g, hA, this.1, this.2.1, this.2.2⟩
theorem Own.cell {g : Nat} (h : Own w lo hi e size (some ⟨g, 0, none⟩) n c xs) {j : Nat} {u : Value} (hu : xs[j]? = some u) : w.cell? ⟨g, j, none⟩ = some u := by
  have := h.1.cells (g := g) rfl j u hu
  rwa [add_plain, Nat.zero_add] at this
theorem Own.free {g : Nat} (h : Own w lo hi e size (some ⟨g, 0, none⟩) n c xs) (j : Nat) : w.frozen? ⟨g, j, none⟩ = false := by
  rcases h.1.2 with ⟨hv, _⟩ | ⟨g', cap, cur, hv, hb, hg, rest⟩
  · cases hv
  · injection hv with hA _ _
    injection hA with hA
    injection hA with hA _
    subst hA
    simp [World.frozen?, hg]
/-- A row that 'make' has just laid. -/
theorem Own.made (w : World) (cur : Array Value) (n c : Nat) (hm : c ≤ maxLen) (hs : cur.size = c * size) (hn : n ≤ c) :
    Own (w.alloc (.cells cur e)) w.heap.size (w.heap.size + 1) e size (some ⟨w.heap.size, 0, none⟩) n c (cur.toList.take (n * size)) := by
  refine ⟨⟨?_, .inr ⟨w.heap.size, c, cur, rfl, Nat.le_refl _, heap_alloc_new w _, hn, hm, hs, rfl⟩⟩, fun a ha => by injection ha with ha; subst ha; simp⟩
  rw [List.length_take, Array.length_toList, hs]
  have : n * size ≤ c * size := Nat.mul_le_mul_right _ hn
  omega
theorem Own.cap (h : Own w lo hi e size A n c xs) : n ≤ c := by
  rcases h.1.2 with ⟨_, h0⟩ | ⟨g, cap, cur, hv, _, _, hnc, _⟩
  · omega
  · injection hv with _ _ hc
    omega
theorem Own.alloc (h : Own w lo hi e size A n c xs) (o : Obj) : Own (w.alloc o) lo hi e size A n c xs := h.keep fun _ _ _ hk => Below.heap_alloc w o _ hk
theorem Own.drewN (h : Own w lo hi e size A n c xs) (m : Nat) : Own (w.drewN m) lo hi e size A n c xs := h
theorem Own.drew (h : Own w lo hi e size A n c xs) : Own w.drew lo hi e size A n c xs := h
theorem Own.nil_ (w : World) (lo hi : Nat) (e : TypeId) (size : Nat) : Own w lo hi e size none 0 0 [] := ⟨World.ownsRow_nil w lo e size, fun a ha => by cases ha⟩
theorem Seen.one (w : World) (x : Value) (t : TypeId) : Seen (w.alloc (.cells #[x] t)) (w.heap.size + 1) 1 (some ⟨w.heap.size, 0, none⟩) 1 [x] :=
  ⟨rfl, .inr ⟨w.heap.size, 0, rfl, by omega, fun j u hu => by have := cell_one_new w x t j u hu; rwa [add_plain] at this⟩⟩
end

section

variable {P : Program} {w : World}

theorem run_append_nothing (base : Nat) (t ty e : TypeId) (i : TypeInfo) (size : Nat) (ht : P.underlying t = some (.slice e)) (hi : P.info? e = some i)
    (v : Value) (n : Nat) (xs : List Value) (hown : w.ownsRow base e size v n xs) (c : Nat) : (Builtin.append_ #[t, t] ty #[v, .slice none 0 c]).run P w = .ok v w := by
  rcases hown.2 with ⟨rfl, rfl⟩ | ⟨g, cap, cur, rfl, _, _, hnc, _⟩
  · simp [Builtin.append_, run_underlying ht, sizeOf, typeInfo, hi, Builtin.lenOf, Builtin.firstCells]
  · simp [Builtin.append_, run_underlying ht, sizeOf, typeInfo, hi, Builtin.lenOf, Builtin.firstCells, hnc, storeCells]

/-- append of what can be read (nil, empty or not) onto a row of one's own. -/
theorem wpList_append_seen {ops : Array Oper} {rest : List Oper} {o : Oper} {a : Act} {Q : Exit → Act → World → Prop} (hgd : o.guard = none) (s x : Operand) (t : TypeId)
    (ho : o.op = .call { callee := .builtin .append, args := #[s, x], argTypes := #[t, t] })
    (base hi : Nat) (e : TypeId) (i : TypeInfo) (z : Value) (size bytes : Nat) (ht : P.underlying t = some (.slice e)) (hi0 : P.info? e = some i) (hz : i.zero = some z)
    (hsize : i.size = size) (hby : i.bytes = bytes) (hzs : z.cells.size = size) (hsz : 0 < size)
    (A : Option Addr) (n c : Nat) (xs : List Value) (hs : a.eval s = .slice A n c) (hown : Own w base hi e size A n c xs)
    (hi' : Nat) (A2 : Option Addr) (m c2 : Nat) (news : List Value) (hx : a.eval x = .slice A2 m c2) (hr : Seen w hi' size A2 m news) (h1 : ∀ u ∈ news, u.oneCell' = true)
    (h63 : n + m ≤ maxLen) (hbytes : (n + m) * bytes ≤ 140737488355328) (hbase : base ≤ w.heap.size)
    (h : ∀ A' c' w', Own w' base w'.heap.size e size A' (n + m) c' (xs ++ news) → Below base w w' → wpList P ops Q rest (a.put o.dst (.slice A' (n + m) c')) w') : wpList P ops Q (o :: rest) a w := by
  rcases A2 with _ | ad
  · have hnews : news = [] := by
      rcases hr.2 with h0 | ⟨g, o, e, _⟩
      · exact h0
      · cases e
    have hm : m = 0 := by
      have := hr.1
      rw [hnews] at this
      exact (Nat.mul_eq_zero.1 this.symm).resolve_right (by omega)
    subst hnews hm
    refine wpList_plain hgd fun K hK => ?_
    have hrun := run_append_nothing (P := P) base t o.type e i size ht hi0 _ n xs hown.1 c2
    unfold Oper.wp
    simp only [execOp, ho, resolve, invoke, builtin, Sem.run_bind, Sem.run_pure, Result.andThen_ok, List.map_toArray, List.map_cons, List.map_nil, hs, hx, hrun]
    refine hK _ _ (h A c w ?_ (Below.refl _ _))
    obtain ⟨A', c', hv, ho'⟩ := Own.of_row (hi := w.heap.size) hown.1 (Nat.le_refl _)
    injection hv with e1 _ e3
    subst e1 e3
    simpa using ho'
  · refine wpList_append_own_at (w := w) hgd s x t ho base e i z size bytes ht hi0 hz hsize hby hzs hsz _ n xs hs hown.1 ad m c2 news hx hr.1 (hr.news rfl) h1 h63 hbytes hbase ?_
    intro v' w' h2 h3 _ _
    obtain ⟨A', c', hv, ho'⟩ := Own.of_row (hi := w'.heap.size) h2 (Nat.le_refl _)
    subst hv
    refine h A' c' w' ho' ((Below.refl _ _).grown h3 hbase fun k hk => ?_)
    exact (hown.1.lt k hk).1
end

end Go.Proofs.Ytegbnmlipajclaa

/-! A text, as a value. No program is named here. -/

namespace Go.Proofs.Ytegbnmlipajclaa

open Go.RowKit

abbrev Tx (l : List UInt8) : Value := .string ⟨l.toArray⟩
end Go.Proofs.Ytegbnmlipajclaa

/-! The mathematics of cutting a text at a byte: pieces one by one (cutR), and that strings.Split's pieces are these. No program is named here. -/

namespace Go.Proofs.Ytegbnmlipajclaa

/-- The pieces of a list at c, cur being what stands ahead of it. -/
def cutR (c : UInt8) : List UInt8 → List UInt8 → List (List UInt8)
  | cur, [] => [cur]
  | cur, x :: r => if x = c then cur :: cutR c [] r else cutR c (cur ++ [x]) r

theorem cutR_miss (c : UInt8) : ∀ (a cur : List UInt8), c ∉ a → cutR c cur a = [cur ++ a] := by
  intro a
  induction a with
  | nil => intro cur _; simp [cutR]
  | cons x a ih =>
    intro cur h
    rw [cutR, if_neg (fun e => h (by simp [e])), ih _ (fun e => h (by simp [e]))]
    simp
theorem cutR_hit (c : UInt8) (r : List UInt8) : ∀ (a cur : List UInt8), c ∉ a → cutR c cur (a ++ c :: r) = (cur ++ a) :: cutR c [] r := by
  intro a
  induction a with
  | nil => intro cur _; simp [cutR]
  | cons x a ih =>
    intro cur h
    rw [List.cons_append, cutR, if_neg (fun e => h (by simp [e])), ih _ (fun e => h (by simp [e]))]
    simp
theorem cutR_ne (c : UInt8) (l : List UInt8) : ∀ cur, cutR c cur l ≠ [] := by
  induction l with
  | nil => intro cur; simp [cutR]
  | cons x l ih => intro cur; rw [cutR]; split
                   · simp
                   · exact ih _
theorem cutR_length (c : UInt8) (l : List UInt8) : ∀ cur, (cutR c cur l).length ≤ l.length + 1 := by
  induction l with
  | nil => intro cur; simp [cutR]
  | cons x l ih =>
    intro cur
    rw [cutR]
    split
    · have := ih []; simp; omega
    · have := ih (cur ++ [x]); simp; omega

theorem cutR_mem (c : UInt8) (l : List UInt8) : ∀ cur, ∀ p ∈ cutR c cur l, p.length ≤ cur.length + l.length := by
  induction l with
  | nil => intro cur p hp; simp only [cutR, List.mem_singleton] at hp; subst hp; simp
  | cons x l ih =>
    intro cur p hp
    rw [cutR] at hp
    simp only [List.length_cons]
    split at hp
    · rcases List.mem_cons.1 hp with h | h
      · subst h; omega
      · have := ih [] p h; simp only [List.length_nil] at this; omega
    · have := ih _ p hp; simp only [List.length_append, List.length_cons, List.length_nil] at this; omega

theorem index_one_byte (s : ByteArray) (c : UInt8) : Lib.indexB s ⟨#[c]⟩ = Lib.indexByte s.data.toList c := by
  rw [Lib.one s ⟨#[c]⟩ rfl]
  congr 1
  show (((c.toNat : Nat) : Int)).toNat.toUInt8 = c
  simp

theorem split_cut (c : UInt8) : ∀ (k : Nat) (s : ByteArray), Lib.countB s ⟨#[c]⟩ = k → (Lib.splitB ⟨#[c]⟩ 0 k s).map (·.data.toList) = cutR c [] s.data.toList := by
  intro k
  induction k with
  | zero =>
    intro s h
    rcases Lib.indexB_cases s ⟨#[c]⟩ with h1 | ⟨i, h1, h2⟩
    · rw [Lib.splitB_zero, cutR_miss]
      · rfl
      · rw [index_one_byte] at h1
        intro hm
        obtain ⟨j, hj⟩ := List.getElem?_of_mem hm
        exact Lib.indexByte_none h1 j hj
    · rw [Lib.countB_hit s ⟨#[c]⟩ i (Nat.le_refl 1) h1] at h
      omega
  | succ k ih =>
    intro s h
    rcases Lib.indexB_cases s ⟨#[c]⟩ with h1 | ⟨i, h1, h2⟩
    · rw [Lib.countB_miss s _ h1] at h
      omega
    · have hc := h
      rw [Lib.countB_hit s ⟨#[c]⟩ i (Nat.le_refl 1) h1] at hc
      rw [Lib.splitB_hit _ _ _ _ i h1, List.map_cons, ih _ (by omega)]
      rw [index_one_byte] at h1
      obtain ⟨ha, hb⟩ := Lib.indexByte_some h1
      have hil := (List.getElem?_eq_some_iff.1 ha).1
      have hsz : s.data.toList.length = s.size := rfl
      have hspl : s.data.toList = s.data.toList.take i ++ c :: s.data.toList.drop (i + 1) := by
        rw [(List.getElem?_eq_some_iff.1 ha).2.symm, List.getElem_cons_drop, List.take_append_drop]
      have hnot : c ∉ s.data.toList.take i := by
        intro hm
        obtain ⟨j, hj⟩ := List.getElem?_of_mem hm
        rw [List.getElem?_take] at hj
        split at hj
        · exact hb j ‹_› hj
        · cases hj
      conv => rhs; rw [hspl]
      rw [cutR_hit c _ _ _ hnot, List.nil_append]
      congr 1
      · rw [Lib.extract_data]; simp
      · rw [Lib.extract_data]
        congr 1
        show (s.data.toList.drop (i + 1)).take (s.size - (i + 1)) = _
        rw [List.take_of_length_le (by rw [List.length_drop]; omega)]
end Go.Proofs.Ytegbnmlipajclaa

/-! The plain mathematics of numbers in decimal digits; no program is named here. -/

namespace Go.Proofs.Ytegbnmlipajclaa

/-- What decimal digits tell. -/
def decFold (acc : Nat) (l : List UInt8) : Nat := l.foldl (fun a c => a * 10 + (c.toNat - 48)) acc
def IsDig (c : UInt8) : Prop := 48 ≤ c.toNat ∧ c.toNat ≤ 57
/-- What TextNum answers. -/
def textNum (l : List UInt8) : Int × Bool :=
  if decFold 0 l ≤ 4294967295 ∧ Lib.decDigits (decFold 0 l) = l then ((decFold 0 l : Int), true) else (0, false)

theorem decFold_snoc (acc : Nat) (l : List UInt8) (c : UInt8) : decFold acc (l ++ [c]) = decFold acc l * 10 + (c.toNat - 48) := by simp [decFold]
theorem decFold_ge : ∀ (l : List UInt8) (acc : Nat), acc ≤ decFold acc l
  | [], _ => Nat.le_refl _
  | c :: l, acc => by
    have := decFold_ge l (acc * 10 + (c.toNat - 48))
    show acc ≤ decFold (acc * 10 + (c.toNat - 48)) l
    omega

theorem dec_digits (n : Nat) : decFold 0 (Lib.decDigits n) = n ∧ (∀ c ∈ Lib.decDigits n, IsDig c) ∧ Lib.decDigits n ≠ [] := by
  induction n using Nat.strongRecOn with
  | ind n ih =>
    rw [Lib.decDigits]
    split
    · rename_i h
      have e : (UInt8.ofNat (48 + n)).toNat = 48 + n := by rw [UInt8.toNat_ofNat']; omega
      refine ⟨?_, ?_, by simp⟩
      · show 0 * 10 + ((UInt8.ofNat (48 + n)).toNat - 48) = n
        rw [e]; omega
      · intro c hc
        rw [List.mem_singleton] at hc
        subst hc
        unfold IsDig
        rw [e]; omega
    · rename_i h
      obtain ⟨h1, h2, h3⟩ := ih (n / 10) (by omega)
      have e : (UInt8.ofNat (48 + n % 10)).toNat = 48 + n % 10 := by rw [UInt8.toNat_ofNat']; omega
      refine ⟨?_, ?_, by simp⟩
      · rw [decFold_snoc, h1, e]; omega
      · intro c hc
        rw [List.mem_append, List.mem_singleton] at hc
        rcases hc with hc | hc
        · exact h2 c hc
        · subst hc
          unfold IsDig
          rw [e]; omega

theorem decDigits_len : ∀ (k u : Nat), u < 10 ^ (k + 1) → (Lib.decDigits u).length ≤ k + 1 := by
  intro k
  induction k with
  | zero => intro u h; rw [Lib.decDigits, dif_pos (by omega)]; simp
  | succ k ih =>
    intro u h
    rw [Lib.decDigits]
    split
    · simp
    · have := ih (u / 10) (Nat.div_lt_of_lt_mul (by rw [Nat.pow_succ] at h; omega))
      simp; omega
theorem decDigits_short (u : Nat) (h : u ≤ 4294967295) : (Lib.decDigits u).length ≤ 10 := decDigits_len 9 u (by omega)

theorem textNum_yes {n : Nat} {l : List UInt8} (hn : n ≤ 4294967295) (h : Lib.decDigits n = l) : textNum l = ((n : Int), true) := by
  subst h
  rw [textNum, (dec_digits n).1, if_pos ⟨hn, rfl⟩]
theorem textNum_no {l : List UInt8} (h : ∀ n, n ≤ 4294967295 → Lib.decDigits n ≠ l) : textNum l = (0, false) := by
  rw [textNum, if_neg (fun hh => h _ hh.1 hh.2)]
theorem textNum_at {n : Nat} {l : List UInt8} (hf : decFold 0 l = n) (h : ¬ (n ≤ 4294967295 ∧ Lib.decDigits n = l)) : textNum l = (0, false) := by
  rw [textNum, hf, if_neg h]
theorem textNum_short {l : List UInt8} (h : l.length < 1 ∨ 10 < l.length) : textNum l = (0, false) := textNum_no fun n hn e => by
  subst e
  have h1 := decDigits_short n hn
  have h2 := (dec_digits n).2.2
  rcases h with h | h
  · exact h2 (List.eq_nil_of_length_eq_zero (by omega))
  · omega
theorem textNum_bad {l : List UInt8} {c : UInt8} (hc : c ∈ l) (h : ¬ IsDig c) : textNum l = (0, false) := textNum_no fun n _ e => by
  subst e
  exact h ((dec_digits n).2.1 c hc)

theorem decFold_bound (l : List UInt8) : ∀ acc, (∀ c ∈ l, IsDig c) → decFold acc l + 1 ≤ (acc + 1) * 10 ^ l.length := by
  induction l with
  | nil => intro acc _; simp [decFold]
  | cons c l ih =>
    intro acc h
    have hc := h c (by simp)
    unfold IsDig at hc
    have := ih (acc * 10 + (c.toNat - 48)) (fun d hd => h d (by simp [hd]))
    show decFold (acc * 10 + (c.toNat - 48)) l + 1 ≤ _
    refine Nat.le_trans this ?_
    rw [List.length_cons, Nat.pow_succ, Nat.mul_comm (10 ^ l.length) 10, ← Nat.mul_assoc]
    exact Nat.mul_le_mul_right _ (by omega)

theorem parse_ok : ∀ (l : List UInt8) (acc : Nat), (∀ c ∈ l, IsDig c) → decFold acc l ≤ 4294967295 → Lib.parseUintM 4294967295 acc l = .ok (decFold acc l)
  | [], acc, _, _ => by simp [Lib.parseUintM, decFold]
  | c :: l, acc, h, hb => by
    have hc := h c (by simp)
    unfold IsDig at hc
    have hge := decFold_ge l (acc * 10 + (c.toNat - 48))
    have hb' : decFold (acc * 10 + (c.toNat - 48)) l ≤ 4294967295 := hb
    have ih := parse_ok l (acc * 10 + (c.toNat - 48)) (fun d hd => h d (by simp [hd])) hb'
    rw [Lib.parseUintM, if_pos hc, if_neg (by omega), if_neg (by omega), ih]
    rfl
theorem parse_only : ∀ (l : List UInt8) (acc u : Nat), Lib.parseUintM 4294967295 acc l = .ok u → acc ≤ 4294967295 → u = decFold acc l ∧ u ≤ 4294967295
  | [], acc, u, h, ha => by
    simp [Lib.parseUintM] at h
    subst h
    exact ⟨rfl, ha⟩
  | c :: l, acc, u, h, ha => by
    rw [Lib.parseUintM] at h
    split at h
    · split at h
      · cases h
      · split at h
        · cases h
        · exact parse_only l (acc * 10 + (c.toNat - 48)) u h (by omega)
    · cases h

/-- What strconv.ParseUint makes of a text, and what TextNum makes of that. -/
theorem textNum_parsed {l : List UInt8} {u : Nat} (h : Lib.parseUintB 32 l = .ok u) : decFold 0 l = u ∧ u ≤ 4294967295 := by
  rw [Lib.parseUintB] at h
  split at h
  · cases h
  · have := parse_only l 0 u h (by omega)
    exact ⟨this.1.symm, this.2⟩
theorem textNum_unparsed {l : List UInt8} (h : ∀ u, Lib.parseUintB 32 l ≠ .ok u) : textNum l = (0, false) := textNum_no fun n hn e => by
  subst e
  obtain ⟨h1, h2, h3⟩ := dec_digits n
  refine h n ?_
  rw [Lib.parseUintB, if_neg h3]
  have := parse_ok (Lib.decDigits n) 0 h2 (by rw [h1]; exact hn)
  rw [h1] at this
  exact this

/-- What NumText answers. -/
def numText (n : Int) : List UInt8 := if 0 ≤ n ∧ n ≤ 4294967295 then Lib.decDigits n.toNat else []
end Go.Proofs.Ytegbnmlipajclaa

/-! How data of a Lean type lie in cells and in memory: readable (see), in memory of their own (own); rows of them; how they come out of what the form reads of an argument (Opens). No program is named here. -/

namespace Go.Proofs.Ytegbnmlipajclaa

open Go.RowKit Go.ChangeShapes Go.WideShapes Go.Deep

def blkA (A : Option Addr) : Option Nat := A.map (·.block)

section

variable {w w' : World} {lo hi lo' hi' size n c : Nat} {e : TypeId} {A : Option Addr} {xs : List Value}

theorem Own.keepBlk (h : Own w lo hi e size A n c xs) (hk : ∀ g, blkA A = some g → g < w.heap.size → w'.heap[g]? = w.heap[g]?) : Own w' lo hi e size A n c xs := by
  refine ⟨⟨h.1.1, ?_⟩, h.2⟩
  rcases h.1.2 with hn | ⟨g, cap, cur, hv, hb, hg, rest⟩
  · exact .inl hn
  · refine .inr ⟨g, cap, cur, hv, hb, ?_, rest⟩
    injection hv with hA _ _
    rw [hk g (by rw [hA]; rfl) (h.lt _ hA).2.2]; exact hg
theorem Own.blk (h : Own w lo hi e size A n c xs) {g : Nat} (hg : blkA A = some g) : lo ≤ g ∧ g < hi ∧ g < w.heap.size := by
  obtain ⟨a, ha, rfl⟩ := Option.map_eq_some_iff.1 hg
  exact h.lt a ha
theorem Own.capMax (h : Own w lo hi e size A n c xs) : c ≤ maxLen := by
  rcases h.1.2 with ⟨hv, _⟩ | ⟨g, cap, cur, hv, _, _, _, hm, _⟩
  · injection hv with _ _ hc; omega
  · injection hv with _ _ hc; omega
/-- The bounds may be any round the row's own block. -/
theorem Own.rebound (h : Own w lo hi e size A n c xs) (hb : ∀ g, blkA A = some g → lo' ≤ g ∧ g < hi') : Own w lo' hi' e size A n c xs := by
  refine ⟨⟨h.1.1, ?_⟩, fun a ha => (hb a.block (by rw [ha]; rfl)).2⟩
  rcases h.1.2 with hn | ⟨g, cap, cur, hv, _, rest⟩
  · exact .inl hn
  · refine .inr ⟨g, cap, cur, hv, ?_, rest⟩
    injection hv with hA _ _
    exact (hb g (by rw [hA]; rfl)).1
end

/-- How data of type α lie: in so many cells; readable below a bound; in blocks of their own, which F holds. -/
structure Lay (α : Type) where
  size : Nat
  see : World → Nat → α → List Value → Prop
  own : World → (Nat → Prop) → α → List Value → Prop
  len : ∀ {w hi x vs}, see w hi x vs → vs.length = size
  keep : ∀ {w w' hi x vs}, see w hi x vs → (∀ k, k < hi → w'.heap[k]? = w.heap[k]?) → see w' hi x vs
  more : ∀ {w hi hi' x vs}, see w hi x vs → hi ≤ hi' → see w hi' x vs
  seen : ∀ {w F x vs hi}, own w F x vs → (∀ g, F g → g < hi) → see w hi x vs
  stay : ∀ {w w' F x vs}, own w F x vs → (∀ g, F g → g < w.heap.size → w'.heap[g]? = w.heap[g]?) → w.heap.size ≤ w'.heap.size → own w' F x vs
  wide : ∀ {w F F' x vs}, own w F x vs → (∀ g, F g → F' g) → own w F' x vs

section

variable {α β γ : Type}

/-- Data that lie in their cells alone. -/
def Lay.flat (size : Nat) (cells : α → List Value) (wf : α → Prop) (hl : ∀ x, (cells x).length = size) : Lay α where
  size := size
  see _ _ x vs := vs = cells x ∧ wf x
  own _ _ x vs := vs = cells x ∧ wf x
  len h := by rw [h.1, hl]
  keep h _ := h
  more h _ := h
  seen h _ := h
  stay h _ _ := h
  wide h _ := h

/-- A row of n elements that can be read behind A. -/
def SeenR (L : Lay α) (w : World) (hi : Nat) (A : Option Addr) (n : Nat) (xs : List α) : Prop :=
  xs.length = n ∧ (xs = [] ∨ ∃ g o, A = some ⟨g, o, none⟩ ∧ g < hi ∧ ∃ f : Nat → List Value, ∀ i x, xs[i]? = some x → L.see w hi x (f i) ∧ ∀ j u, (f i)[j]? = some u → w.cell? ⟨g, o + (i * L.size + j), none⟩ = some u)

/-- A row in a block of its own, its elements in blocks of theirs. -/
def OwnR (L : Lay α) (e : TypeId) (w : World) (F : Nat → Prop) (A : Option Addr) (n c : Nat) (xs : List α) : Prop :=
  xs.length = n ∧ ∃ (vs : List Value) (G : Nat → Nat → Prop), Own w 0 w.heap.size e L.size A n c vs ∧ (∀ g, blkA A = some g → F g) ∧
    (∀ i x, xs[i]? = some x → L.own w (G i) x ((vs.drop (i * L.size)).take L.size)) ∧ (∀ i g, i < n → G i g → F g) ∧
    (∀ i g, i < n → G i g → blkA A ≠ some g) ∧ ∀ i j g, i < j → j < n → G i g → ¬ G j g

variable {L : Lay α} {w w' : World} {hi hi' n c : Nat} {A : Option Addr} {xs : List α} {e : TypeId} {F F' : Nat → Prop}

theorem SeenR.keep (h : SeenR L w hi A n xs) (hk : ∀ k, k < hi → w'.heap[k]? = w.heap[k]?) : SeenR L w' hi A n xs := by
  refine ⟨h.1, h.2.imp id fun ⟨g, o, e, hg, f, hf⟩ => ⟨g, o, e, hg, f, fun i x hx => ⟨L.keep (hf i x hx).1 hk, fun j u hu => ?_⟩⟩⟩
  exact (World.cell?_of_block (w := w) (w' := w') (a := ⟨g, o + (i * L.size + j), none⟩) (hk g hg)).trans ((hf i x hx).2 j u hu)
theorem SeenR.more (h : SeenR L w hi A n xs) (hh : hi ≤ hi') : SeenR L w hi' A n xs :=
  ⟨h.1, h.2.imp id fun ⟨g, o, e, hg, f, hf⟩ => ⟨g, o, e, by omega, f, fun i x hx => ⟨L.more (hf i x hx).1 hh, (hf i x hx).2⟩⟩⟩
theorem SeenR.below (h : SeenR L w hi A n xs) {B : Nat} (hb : Below B w w') (hB : hi ≤ B) : SeenR L w' hi A n xs := h.keep fun k hk => hb.block k (by omega)
theorem SeenR.nil_ : SeenR L w hi A 0 ([] : List α) := ⟨rfl, .inl rfl⟩
theorem SeenR.at_ (h : SeenR L w hi A n xs) {i : Nat} (hi' : i < n) : ∃ (hx : i < xs.length) (g o : Nat) (vs : List Value), A = some ⟨g, o, none⟩ ∧ g < hi ∧ L.see w hi xs[i] vs ∧ ∀ j u, vs[j]? = some u → w.cell? ⟨g, o + (i * L.size + j), none⟩ = some u := by
  have hl : i < xs.length := by rw [h.1]; exact hi'
  refine ⟨hl, ?_⟩
  rcases h.2 with h0 | ⟨g, o, e, hg, f, hf⟩
  · rw [h0] at hl; simp at hl
  · exact ⟨g, o, f i, e, hg, hf i _ (List.getElem?_eq_getElem hl)⟩

theorem OwnR.seen (h : OwnR L e w F A n c xs) (hF : ∀ g, F g → g < hi) : SeenR L w hi A n xs := by
  obtain ⟨hl, vs, G, ho, hA, hel, hG, _, _⟩ := h
  refine ⟨hl, ?_⟩
  rcases ho.1.2 with ⟨_, hn⟩ | ⟨g, cap, cur, hv, hb, hg, hnc, hm, hs, ht⟩
  · left; exact List.length_eq_zero_iff.1 (hl.trans hn)
  · injection hv with hA' _ _
    have hgF := hA g (by rw [hA']; rfl)
    refine .inr ⟨g, 0, hA', hF g hgF, fun i => (vs.drop (i * L.size)).take L.size, fun i x hx => ?_⟩
    have hin : i < n := by rw [← hl]; exact (List.getElem?_eq_some_iff.1 hx).1
    refine ⟨L.seen (hel i x hx) fun g' hg' => hF g' (hG i g' hin hg'), fun j u hu => ?_⟩
    rw [List.getElem?_take] at hu
    split at hu
    · rw [List.getElem?_drop] at hu
      have := ho.1.cells (g := g) (by rw [hA']; rfl) (i * L.size + j) u hu
      rwa [add_plain] at this
    · cases hu
theorem OwnR.stay (h : OwnR L e w F A n c xs) (hk : ∀ g, F g → g < w.heap.size → w'.heap[g]? = w.heap[g]?) (hz : w.heap.size ≤ w'.heap.size) : OwnR L e w' F A n c xs := by
  obtain ⟨hl, vs, G, ho, hA, hel, hG, h1, h2⟩ := h
  refine ⟨hl, vs, G, ?_, hA, fun i x hx => L.stay (hel i x hx) (fun g hg => hk g ?_) hz, hG, h1, h2⟩
  · exact (ho.keepBlk fun g hg hlt => hk g (hA g hg) hlt).rebound fun g hg => ⟨Nat.zero_le _, Nat.lt_of_lt_of_le (ho.blk hg).2.2 hz⟩
  · exact hG i g (by rw [← hl]; exact (List.getElem?_eq_some_iff.1 hx).1) hg
theorem OwnR.wide (h : OwnR L e w F A n c xs) (hF : ∀ g, F g → F' g) : OwnR L e w F' A n c xs := by
  obtain ⟨hl, vs, G, ho, hA, hel, hG, h1, h2⟩ := h
  exact ⟨hl, vs, G, ho, fun g hg => hF g (hA g hg), hel, fun i g hi hg => hF g (hG i g hi hg), h1, h2⟩

/-- A slice whose elements lie so. -/
def Lay.slice (L : Lay α) (e : TypeId) : Lay (List α) where
  size := 1
  see w hi xs vs := ∃ A n c, vs = [.slice A n c] ∧ n ≤ c ∧ c ≤ maxLen ∧ SeenR L w hi A n xs
  own w F xs vs := ∃ A n c, vs = [.slice A n c] ∧ OwnR L e w F A n c xs
  len h := by obtain ⟨A, n, c, rfl, _⟩ := h; rfl
  keep h hk := by obtain ⟨A, n, c, e, hc, hm, h⟩ := h; exact ⟨A, n, c, e, hc, hm, h.keep hk⟩
  more h hh := by obtain ⟨A, n, c, e, hc, hm, h⟩ := h; exact ⟨A, n, c, e, hc, hm, h.more hh⟩
  seen h hF := by
    obtain ⟨A, n, c, e, h⟩ := h
    obtain ⟨hl, vs, G, ho, r⟩ := h
    exact ⟨A, n, c, e, ho.cap, ho.capMax, OwnR.seen ⟨hl, vs, G, ho, r⟩ hF⟩
  stay h hk hz := by obtain ⟨A, n, c, e, h⟩ := h; exact ⟨A, n, c, e, h.stay hk hz⟩
  wide h hF := by obtain ⟨A, n, c, e, h⟩ := h; exact ⟨A, n, c, e, h.wide hF⟩

/-- Two data side by side. -/
def Lay.pair (L : Lay α) (M : Lay β) : Lay (α × β) where
  size := L.size + M.size
  see w hi x vs := ∃ v1 v2, vs = v1 ++ v2 ∧ L.see w hi x.1 v1 ∧ M.see w hi x.2 v2
  own w F x vs := ∃ v1 v2 F1 F2, vs = v1 ++ v2 ∧ L.own w F1 x.1 v1 ∧ M.own w F2 x.2 v2 ∧ (∀ g, F1 g → F g) ∧ (∀ g, F2 g → F g) ∧ ∀ g, F1 g → ¬ F2 g
  len h := by obtain ⟨v1, v2, rfl, a, b⟩ := h; rw [List.length_append, L.len a, M.len b]
  keep h hk := by obtain ⟨v1, v2, e, a, b⟩ := h; exact ⟨v1, v2, e, L.keep a hk, M.keep b hk⟩
  more h hh := by obtain ⟨v1, v2, e, a, b⟩ := h; exact ⟨v1, v2, e, L.more a hh, M.more b hh⟩
  seen h hF := by obtain ⟨v1, v2, F1, F2, e, a, b, h1, h2, _⟩ := h; exact ⟨v1, v2, e, L.seen a fun g hg => hF g (h1 g hg), M.seen b fun g hg => hF g (h2 g hg)⟩
  stay h hk hz := by obtain ⟨v1, v2, F1, F2, e, a, b, h1, h2, h3⟩ := h; exact ⟨v1, v2, F1, F2, e, L.stay a (fun g hg => hk g (h1 g hg)) hz, M.stay b (fun g hg => hk g (h2 g hg)) hz, h1, h2, h3⟩
  wide h hF := by obtain ⟨v1, v2, F1, F2, e, a, b, h1, h2, h3⟩ := h; exact ⟨v1, v2, F1, F2, e, a, b, fun g hg => hF g (h1 g hg), fun g hg => hF g (h2 g hg), h3⟩

/-- Data that lie as their image does. -/
def Lay.via (L : Lay α) (f : γ → α) : Lay γ where
  size := L.size
  see w hi x vs := L.see w hi (f x) vs
  own w F x vs := L.own w F (f x) vs
  len h := L.len h
  keep h hk := L.keep h hk
  more h hh := L.more h hh
  seen h hF := L.seen h hF
  stay h hk hz := L.stay h hk hz
  wide h hF := L.wide h hF

/-- What the form reads at type t lies as L says. -/
def Opens (P : Program) (t : TypeId) (L : Lay α) : Prop :=
  L.size = P.cellsOf t ∧ ∀ {H : Type} {enc : TypeId × Value → H} {w : World} {base : Nat} {spare : Nat → Bool} {held : Bool} {fuel : Nat} {cs : List Value} {x : DataW H × List MemPlace},
    DataW.trod enc P w base spare held fuel t cs = some x → ∃ a, L.see w w.heap.size a cs

theorem opens_via {P : Program} {t : TypeId} {L : Lay α} (f : γ → α) (hf : ∀ a, ∃ x, f x = a) (h : Opens P t L) : Opens P t (L.via f) :=
  ⟨h.1, fun ht => by obtain ⟨a, ha⟩ := h.2 ht; obtain ⟨x, rfl⟩ := hf a; exact ⟨x, ha⟩⟩

theorem opens_int {P : Program} {t : TypeId} {k : IntKind} (ht : P.underlying t = some (.int k)) (hc : P.cellsOf t = 1) :
    Opens P t (Lay.flat 1 (fun z => [.int k z]) (fun z => (Lit.int k z).wf = true) (fun _ => rfl)) :=
  ⟨hc.symm, fun h => by obtain ⟨n, rfl, _, hw⟩ := DataW.trod_int ht h; exact ⟨n, rfl, hw⟩⟩
theorem opens_bool {P : Program} {t : TypeId} (ht : P.underlying t = some .bool) (hc : P.cellsOf t = 1) :
    Opens P t (Lay.flat 1 (fun b => [.bool b]) (fun _ => True) (fun _ => rfl)) :=
  ⟨hc.symm, fun h => by obtain ⟨n, rfl, _⟩ := DataW.trod_bool ht h; exact ⟨n, rfl, trivial⟩⟩

theorem opens_slice {P : Program} {t e e' : TypeId} {L : Lay α} (ht : P.underlying t = some (.slice e)) (hc : P.cellsOf t = 1) (hs : 0 < L.size) (hL : Opens P e L) : Opens P t (L.slice e') := by
  refine ⟨hc.symm, fun {H enc w base spare held fuel cs x} h => ?_⟩
  rcases open_slice ht h with ⟨rfl, _⟩ | ⟨a, len, cap, m, n, D, Pl, rfl, hb, hl, hm, hmm, _, hi⟩
  · exact ⟨[], none, 0, 0, rfl, Nat.le_refl _, Nat.zero_le _, SeenR.nil_⟩
  · have hlm : len ≤ m := by rw [hmm]; split <;> omega
    have hel : ∀ i, i < len → ∃ (y : α) (cs' : List Value), L.see w w.heap.size y cs' ∧ cs'.length = L.size ∧ ∀ j, j < L.size → w.cell? ((a.add (i * L.size)).add j) = cs'[j]? := by
      intro i hil
      obtain ⟨cs', hcs, htr⟩ := hi i (by omega)
      obtain ⟨y, hy⟩ := hL.2 htr
      obtain ⟨_, hcl, hat⟩ := World.cells?_some hcs
      rw [← hL.1] at hat hcl
      exact ⟨y, cs', hy, hcl, hat⟩
    by_cases h0 : len = 0
    · subst h0
      exact ⟨[], some a, 0, cap, rfl, hl, hm, SeenR.nil_⟩
    · obtain ⟨Y, C, hYC⟩ : ∃ (Y : Nat → α) (C : Nat → List Value), ∀ i, i < len → L.see w w.heap.size (Y i) (C i) ∧ (C i).length = L.size ∧ ∀ j, j < L.size → w.cell? ((a.add (i * L.size)).add j) = (C i)[j]? :=
        ⟨fun i => if h : i < len then (hel i h).choose else (hel 0 (by omega)).choose, fun i => if h : i < len then (hel i h).choose_spec.choose else [], fun i hi => by
          simp only [dif_pos hi]; exact (hel i hi).choose_spec.choose_spec⟩
      refine ⟨(List.range len).map Y, some a, len, cap, rfl, hl, hm, by simp, .inr ?_⟩
      obtain ⟨g, o, sp⟩ := a
      obtain ⟨_, hl0, h00⟩ := hYC 0 (by omega)
      have hc0 := h00 0 hs
      rw [List.getElem?_eq_getElem (by omega)] at hc0
      have hsp : sp = none := by simpa [Addr.add] using World.cell?_spot hc0
      subst hsp
      refine ⟨g, o, rfl, ?_, C, fun i x hx => ?_⟩
      · have := World.block_lt_of_cell? w _ hc0
        simpa [add_plain] using this
      · have hil : i < len := by
          have := (List.getElem?_eq_some_iff.1 hx).1
          simpa using this
        obtain rfl : Y i = x := by simpa [hil] using hx
        refine ⟨(hYC i hil).1, fun j u hu => ?_⟩
        have hj : j < L.size := by rw [← (hYC i hil).2.1]; exact (List.getElem?_eq_some_iff.1 hu).1
        have := (hYC i hil).2.2 j hj
        rw [add_plain, add_plain, hu, Nat.add_assoc] at this
        exact this

/-- Fields that lie one behind the other from o on. -/
inductive LaysF (P : Program) : List Field → Nat → {α : Type} → Lay α → Prop
  | one {α : Type} {f : Field} {o : Nat} {L : Lay α} : f.offset = o → Opens P f.type L → LaysF P [f] o L
  | cons {α β : Type} {f : Field} {fs : List Field} {o : Nat} {L : Lay α} {M : Lay β} : f.offset = o → Opens P f.type L → LaysF P fs (o + L.size) M → LaysF P (f :: fs) o (L.pair M)

theorem laysF_see {P : Program} {w : World} {cs : List Value} {H : Type} {enc : TypeId × Value → H} {base : Nat} {spare : Nat → Bool} {held : Bool} {n : Nat} {fs : List Field} {o : Nat} {α : Type} {L : Lay α} (h : LaysF P fs o L)
    (hf : ∀ (j : Nat) (f : Field), fs[j]? = some f → ∃ y, DataW.trod enc P w base spare held n f.type ((cs.drop f.offset).take (P.cellsOf f.type)) = some y) : ∃ a, L.see w w.heap.size a ((cs.drop o).take L.size) := by
  induction h with
  | one ho hL =>
    obtain ⟨y, hy⟩ := hf 0 _ rfl
    rw [ho, ← hL.1] at hy
    exact hL.2 hy
  | cons ho hL hr ih =>
    rename_i L1 M1
    obtain ⟨y, hy⟩ := hf 0 _ rfl
    rw [ho, ← hL.1] at hy
    obtain ⟨a, ha⟩ := hL.2 hy
    obtain ⟨b, hb⟩ := ih fun j f hj => hf (j + 1) f (by simpa using hj)
    refine ⟨(a, b), _, _, ?_, ha, hb⟩
    show (cs.drop _).take (L1.size + M1.size) = _
    rw [List.take_add, List.drop_drop]

theorem opens_struct {P : Program} {t : TypeId} {fs : Array Field} {L : Lay α} (ht : P.underlying t = some (.struct fs)) (hc : P.cellsOf t = L.size) (h : LaysF P fs.toList 0 L) : Opens P t L := by
  refine ⟨hc.symm, fun {H enc w base spare held fuel cs x} hx => ?_⟩
  obtain ⟨xs, n, rfl, _, hl, hlen, hf⟩ := DataW.trod_struct ht hx
  obtain ⟨a, ha⟩ := laysF_see h (cs := cs) (w := w) (enc := enc) (base := base) (spare := spare) (held := held) (n := n) fun j f hj => by
    have h1 := hf j f (by simpa using hj)
    have hjl : j < xs.length := by
      rw [hlen]
      have := (List.getElem?_eq_some_iff.1 hj).1
      simpa using this
    exact ⟨_, h1.trans (List.getElem?_eq_getElem hjl)⟩
  refine ⟨a, ?_⟩
  have hh : cs.length = L.size := by rw [← hc]; exact hl
  rwa [List.drop_zero, ← hh, List.take_length] at ha

/-- An argument of an opened type. -/
theorem Opens.arg {P : Program} {t : TypeId} {L : Lay α} (h : Opens P t L) {H : Type} {enc : TypeId × Value → H} {w : World} {base : Nat} {spare : Nat → Bool} {held : Bool} {v : Value} {d : DataW H} {p : List MemPlace}
    (hv : DataW.Trod enc P w base spare held t v d p) : ∃ a, L.see w w.heap.size a v.cells.toList := by
  obtain ⟨fuel, hf⟩ := hv
  exact h.2 hf

/-- A byte. -/
def Lay.byte : Lay UInt8 := Lay.flat 1 (fun b => [.int .u8 (b.toNat : Int)]) (fun _ => True) (fun _ => rfl)
theorem opens_byte {P : Program} {t : TypeId} (ht : P.underlying t = some (.int .u8)) (hc : P.cellsOf t = 1) : Opens P t Lay.byte := by
  refine ⟨hc.symm, fun h => ?_⟩
  obtain ⟨n, rfl, _, hw⟩ := DataW.trod_int ht h
  have hb : 0 ≤ n ∧ n < 256 := by have := bounds_u8 hw; omega
  refine ⟨UInt8.ofNat n.toNat, ?_, trivial⟩
  simp only [UInt8.toNat_ofNat']
  congr 2
  omega

/-- An int; a bool. -/
def Lay.int : Lay Int := Lay.flat 1 (fun z => [.int .i64 z]) (fun z => (Lit.int .i64 z).wf = true) (fun _ => rfl)
def Lay.bool : Lay Bool := Lay.flat 1 (fun b => [.bool b]) (fun _ => True) (fun _ => rfl)
/-- What lies so lies otherwise, too. -/
theorem Opens.to {P : Program} {t : TypeId} {L : Lay α} {M : Lay β} (h : Opens P t L) (hs : M.size = L.size) (hto : ∀ (w : World) (hi : Nat) (a : α) (vs : List Value), L.see w hi a vs → ∃ b, M.see w hi b vs) : Opens P t M :=
  ⟨hs.trans h.1, fun ht => by obtain ⟨a, ha⟩ := h.2 ht; exact hto _ _ _ _ ha⟩
end

end Go.Proofs.Ytegbnmlipajclaa

/-! Rows that are filled element by element: cells that are written (putCells), a row whose first elements stand (Part). No program is named here. -/

namespace Go.Proofs.Ytegbnmlipajclaa

open Go.RowKit Go.ChangeShapes Go.WideShapes Go.Deep

/-- Cells written one behind the other. -/
def putCells (w : World) (g : Nat) : Nat → List Value → World
  | _, [] => w
  | o, v :: vs => putCells (w.setCell ⟨g, o, none⟩ v) g (o + 1) vs
def setFrom (xs : List Value) : Nat → List Value → List Value
  | _, [] => xs
  | o, v :: vs => setFrom (xs.set o v) (o + 1) vs

theorem setFrom_length (us : List Value) : ∀ (xs : List Value) (o : Nat), (setFrom xs o us).length = xs.length := by
  induction us with
  | nil => intro xs o; rfl
  | cons u us ih => intro xs o; simp [setFrom, ih]
theorem setFrom_get (us : List Value) : ∀ (xs : List Value) (o j : Nat), o + us.length ≤ xs.length → (setFrom xs o us)[j]? = if o ≤ j ∧ j < o + us.length then us[j - o]? else xs[j]? := by
  induction us with
  | nil => intro xs o j h; rw [if_neg (by simp only [List.length_nil]; omega)]; rfl
  | cons u us ih =>
    intro xs o j h
    simp only [List.length_cons] at h
    rw [setFrom, ih _ _ _ (by simp; omega)]
    by_cases h1 : o + 1 ≤ j ∧ j < o + 1 + us.length
    · rw [if_pos h1, if_pos (by simp only [List.length_cons]; omega), show j - o = (j - (o + 1)) + 1 by omega, List.getElem?_cons_succ]
    · rw [if_neg h1]
      by_cases h2 : j = o
      · subst h2
        rw [if_pos (by simp only [List.length_cons]; omega), List.getElem?_set_self (by omega), Nat.sub_self, List.getElem?_cons_zero]
      · rw [if_neg (by simp only [List.length_cons]; omega), List.getElem?_set_ne (by omega)]

theorem putCells_block (us : List Value) : ∀ (w : World) (g o k : Nat), k ≠ g → (putCells w g o us).heap[k]? = w.heap[k]? := by
  induction us with
  | nil => intro w g o k h; rfl
  | cons u us ih => intro w g o k h; rw [putCells, ih _ _ _ _ h]; exact Below.heap_setCell w _ _ k h
theorem putCells_size (us : List Value) : ∀ (w : World) (g o : Nat), (putCells w g o us).heap.size = w.heap.size := by
  induction us with
  | nil => intro w g o; rfl
  | cons u us ih => intro w g o; rw [putCells, ih]; simp [World.setCell]
theorem putCells_below {B : Nat} {w0 : World} (us : List Value) : ∀ (w : World) (g o : Nat), Below B w0 w → B ≤ g → Below B w0 (putCells w g o us) := by
  induction us with
  | nil => intro w g o h _; exact h
  | cons u us ih => intro w g o h hg; exact ih _ _ _ (h.setCell hg u) hg

section

variable {w w' : World} {lo hi size n c g : Nat} {e : TypeId} {vs : List Value}

theorem Own.put (us : List Value) : ∀ {w : World} {vs : List Value} (o : Nat), Own w lo hi e size (some ⟨g, 0, none⟩) n c vs → Own (putCells w g o us) lo hi e size (some ⟨g, 0, none⟩) n c (setFrom vs o us) := by
  induction us with
  | nil => intro w vs o h; exact h
  | cons u us ih => intro w vs o h; exact ih (o + 1) (h.set_ o u)
end

section

variable {α : Type} {L : Lay α} {e : TypeId} {w w' : World} {lo n k z : Nat} {xs : List α}

/-- A row in block lo whose first k elements stand, each in blocks of its own behind lo and below z. -/
def Part (L : Lay α) (e : TypeId) (w : World) (lo n : Nat) (xs : List α) (k z : Nat) : Prop :=
  xs.length = n ∧ lo < z ∧ z ≤ w.heap.size ∧ ∃ (vs : List Value) (G : Nat → Nat → Prop), Own w lo (lo + 1) e L.size (some ⟨lo, 0, none⟩) n n vs ∧
    (∀ i x, i < k → xs[i]? = some x → L.own w (G i) x ((vs.drop (i * L.size)).take L.size)) ∧ (∀ i g, i < k → G i g → lo < g ∧ g < z) ∧
    ∀ i j g, i < j → j < k → G i g → ¬ G j g

theorem Part.start {vs : List Value} (hl : xs.length = n) (h : Own w lo (lo + 1) e L.size (some ⟨lo, 0, none⟩) n n vs) (hz : w.heap.size = lo + 1) : Part L e w lo n xs 0 w.heap.size :=
  ⟨hl, by omega, Nat.le_refl _, vs, fun _ _ => False, h, fun i x hi => by omega, fun i g hi => by omega, fun i j g _ hj => by omega⟩
theorem Part.below (h : Part L e w lo n xs k z) (hb : Below w.heap.size w w') : Part L e w' lo n xs k z := by
  obtain ⟨hl, hlo, hz, vs, G, ho, hel, hG, hd⟩ := h
  have hs := hb.size
  exact ⟨hl, hlo, by omega, vs, G, ho.below hb (by omega), fun i x hi hx => L.stay (hel i x hi hx) (fun g hg hlt => hb.block g hlt) hs, hG, hd⟩
/-- What can be written next: the cells are there, and free. -/
theorem Part.room (h : Part L e w lo n xs k z) (hk : k < n) : ∀ j, j < L.size → (∃ v, w.cell? ⟨lo, k * L.size + j, none⟩ = some v) ∧ w.frozen? ⟨lo, k * L.size + j, none⟩ = false := by
  obtain ⟨hl, hlo, hz, vs, G, ho, hel, hG, hd⟩ := h
  intro j hj
  have hlen := ho.1.1
  have : k * L.size + j < vs.length := by
    rw [hlen]
    have : (k + 1) * L.size ≤ n * L.size := Nat.mul_le_mul_right _ hk
    rw [Nat.add_mul, Nat.one_mul] at this
    omega
  exact ⟨⟨_, ho.cell (List.getElem?_eq_getElem this)⟩, ho.free _⟩
theorem Part.step (h : Part L e w lo n xs k z) {x : α} (hx : xs[k]? = some x) {F : Nat → Prop} {us : List Value} (hus : us.length = L.size) (ho' : L.own w F x us) (hF : ∀ g, F g → z ≤ g ∧ g < w.heap.size) :
    Part L e (putCells w lo (k * L.size) us) lo n xs (k + 1) w.heap.size := by
  obtain ⟨hl, hlo, hz, vs, G, ho, hel, hG, hd⟩ := h
  have hk : k < n := by rw [← hl]; exact (List.getElem?_eq_some_iff.1 hx).1
  have hlen := ho.1.1
  have hk1 : (k + 1) * L.size ≤ n * L.size := Nat.mul_le_mul_right _ hk
  rw [Nat.add_mul, Nat.one_mul] at hk1
  have hps := putCells_size us w lo (k * L.size)
  have hcut : ∀ i, i < n → ((setFrom vs (k * L.size) us).drop (i * L.size)).take L.size = if i = k then us else (vs.drop (i * L.size)).take L.size := by
    intro i hi
    have hi1 : (i + 1) * L.size ≤ n * L.size := Nat.mul_le_mul_right _ hi
    rw [Nat.add_mul, Nat.one_mul] at hi1
    apply List.ext_getElem?
    intro j
    rw [List.getElem?_take]
    by_cases hj : j < L.size
    · rw [if_pos hj, List.getElem?_drop, setFrom_get _ _ _ _ (by omega)]
      by_cases hik : i = k
      · subst hik
        rw [if_pos (by omega), if_pos rfl, show i * L.size + j - i * L.size = j by omega]
      · rw [if_neg hik, List.getElem?_take, if_pos hj, List.getElem?_drop, if_neg]
        rintro ⟨a, b⟩
        rcases Nat.lt_or_ge i k with h | h
        · have : (i + 1) * L.size ≤ k * L.size := Nat.mul_le_mul_right _ h
          rw [Nat.add_mul, Nat.one_mul] at this
          omega
        · have : (k + 1) * L.size ≤ i * L.size := Nat.mul_le_mul_right _ (by omega)
          rw [Nat.add_mul, Nat.one_mul] at this
          omega
    · rw [if_neg hj]
      split
      · rw [List.getElem?_eq_none (by omega)]
      · rw [List.getElem?_take, if_neg hj]
  have hst : ∀ {y : α} {E : Nat → Prop} {ys : List Value}, L.own w E y ys → (∀ g, E g → lo < g) → L.own (putCells w lo (k * L.size) us) E y ys := fun hy hE =>
    L.stay hy (fun g hg _ => putCells_block _ _ _ _ _ (by have := hE g hg; omega)) (by omega)
  refine ⟨hl, by omega, by omega, setFrom vs (k * L.size) us, fun i => if i = k then F else G i, ho.put us _, ?_, ?_, ?_⟩
  · intro i y hi hy
    rw [hcut i (by omega)]
    by_cases hik : i = k
    · subst hik
      obtain rfl : x = y := Option.some.inj (hx.symm.trans hy)
      simp only [if_true]
      exact hst ho' fun g hg => by have := hF g hg; omega
    · simp only [if_neg hik]
      exact hst (hel i y (by omega) hy) fun g hg => (hG i g (by omega) hg).1
  · intro i g hi hg
    by_cases hik : i = k
    · simp only [if_pos hik] at hg
      have := hF g hg
      omega
    · simp only [if_neg hik] at hg
      have := hG i g (by omega) hg
      omega
  · intro i j g hij hj hg hg'
    have hik : ¬ i = k := by omega
    simp only [if_neg hik] at hg
    by_cases hjk : j = k
    · simp only [if_pos hjk] at hg'
      have := hF g hg'
      have := hG i g (by omega) hg
      omega
    · simp only [if_neg hjk] at hg'
      exact hd i j g hij (by omega) hg hg'
theorem Part.done (h : Part L e w lo n xs n z) : OwnR L e w (fun g => lo ≤ g ∧ g < w.heap.size) (some ⟨lo, 0, none⟩) n n xs := by
  obtain ⟨hl, hlo, hz, vs, G, ho, hel, hG, hd⟩ := h
  refine ⟨hl, vs, G, ho.rebound fun g hg => ⟨Nat.zero_le _, ?_⟩, fun g hg => ?_, fun i x hx => hel i x (by rw [← hl]; exact (List.getElem?_eq_some_iff.1 hx).1) hx, fun i g hi hg => ?_, fun i g hi hg hh => ?_, fun i j g hij hj => hd i j g hij hj⟩
  · exact (ho.blk hg).2.2
  · have := ho.blk hg; exact ⟨this.1, this.2.2⟩
  · have := hG i g hi hg; omega
  · have := hG i g hi hg
    have := ho.blk hh
    omega
end

theorem sum_take_succ {α : Type} {f : α → Nat} {ds : List α} {i : Nat} {d : α} (h : ds[i]? = some d) : ((ds.take (i + 1)).map f).sum = ((ds.take i).map f).sum + f d := by
  obtain ⟨hi, e⟩ := List.getElem?_eq_some_iff.1 h
  rw [List.take_succ_eq_append_getElem hi, e]
  simp
theorem sum_take_le {α : Type} (f : α → Nat) (ds : List α) (k : Nat) : ((ds.take k).map f).sum ≤ (ds.map f).sum := by
  have : (ds.map f).sum = ((ds.take k).map f).sum + ((ds.drop k).map f).sum := by rw [← List.sum_append, ← List.map_append, List.take_append_drop]
  omega
theorem sum_mem_le {α : Type} (f : α → Nat) {ds : List α} {d : α} (h : d ∈ ds) : f d ≤ (ds.map f).sum := by
  induction ds with
  | nil => cases h
  | cons e ds ih =>
    rw [List.map_cons, List.sum_cons]
    rcases List.mem_cons.1 h with h | h
    · subst h; omega
    · have := ih h; omega

theorem bcell {W w1 : World} {B : Nat} (hb : Below B W w1) : (∀ b o, b < B → w1.cell? ⟨b, o, none⟩ = W.cell? ⟨b, o, none⟩) ∧ (∀ b o, b < B → w1.frozen? ⟨b, o, none⟩ = W.frozen? ⟨b, o, none⟩) :=
  ⟨fun b o h => hb.cell (p := ⟨b, o, none⟩) h, fun b o h => hb.frozen (p := ⟨b, o, none⟩) h⟩

/-- What a size's call answers: what is left, or -1 where it does not reach. -/
def SzPost (w : World) (l s : Nat) (e : Ending) (w' : World) : Prop :=
  Below w.heap.size w w' ∧ ((s ≤ l ∧ e = .returned (.int .i64 ((l - s : Nat) : Int))) ∨ (l < s ∧ e = .returned (.int .i64 (-1))))
/-- The call answers data of a Lean type in memory of their own, and turns nothing that was there. -/
def MadeL {α : Type} (L : Lay α) (w : World) (x : α) (en : Ending) (w' : World) : Prop :=
  ∃ vs, en = .returned (.agg vs.toArray) ∧ L.own w' (fun g => w.heap.size ≤ g ∧ g < w'.heap.size) x vs ∧ Below w.heap.size w w'
/-- The call answers a row of data in memory of its own, and turns nothing that was there. -/
def MadeR {α : Type} (L : Lay α) (e : TypeId) (w : World) (n : Nat) (xs : List α) (en : Ending) (w' : World) : Prop :=
  ∃ A c, en = .returned (.slice A n c) ∧ OwnR L e w' (fun g => w.heap.size ≤ g ∧ g < w'.heap.size) A n c xs ∧ Below w.heap.size w w'
/-- The call says true, and turns nothing that was there. -/
def SaysTrue (w : World) (en : Ending) (w' : World) : Prop := en = .returned (.bool true) ∧ Below w.heap.size w w'

theorem OwnR.turned {α : Type} {L : Lay α} {e : TypeId} {w w' : World} {F : Nat → Prop} {A : Option Addr} {n c l r : Nat} {xs : List α} (h : OwnR L e w F A n c xs) (ht : Turned l r w w') (hF : ∀ g, F g → r ≤ g ∨ g < l) : OwnR L e w' F A n c xs :=
  h.stay (fun g hg hlt => ht.block g hlt (by have := hF g hg; omega)) ht.size
end Go.Proofs.Ytegbnmlipajclaa

/-! append that tells where the row lies then. No program is named here. -/

namespace Go.Proofs.Ytegbnmlipajclaa

open Go.RowKit

/-- append of cells that lie somewhere, onto a row of one's own: what else is there stays, and the row lies where it lay or in a new block. -/
theorem wpList_append_kin {P : Program} {w : World} {ops : Array Oper} {rest : List Oper} {o : Oper} {a : Act} {Q : Exit → Act → World → Prop} (hgd : o.guard = none) (s x : Operand) (t : TypeId)
    (ho : o.op = .call { callee := .builtin .append, args := #[s, x], argTypes := #[t, t] })
    (base hi : Nat) (e : TypeId) (i : TypeInfo) (z : Value) (size bytes : Nat) (ht : P.underlying t = some (.slice e)) (hi0 : P.info? e = some i) (hz : i.zero = some z)
    (hsize : i.size = size) (hby : i.bytes = bytes) (hzs : z.cells.size = size) (hsz : 0 < size)
    (A : Option Addr) (n c : Nat) (xs : List Value) (hs : a.eval s = .slice A n c) (hown : Own w base hi e size A n c xs)
    (hi' : Nat) (ad : Addr) (m c2 : Nat) (news : List Value) (hx : a.eval x = .slice (some ad) m c2) (hr : Seen w hi' size (some ad) m news) (h1 : ∀ u ∈ news, u.oneCell' = true)
    (h63 : n + m ≤ maxLen) (hbytes : (n + m) * bytes ≤ 140737488355328) (hbase : base ≤ w.heap.size)
    (h : ∀ A' c' w', Own w' base w'.heap.size e size A' (n + m) c' (xs ++ news) → Below base w w' → (∀ k, k < w.heap.size → blkA A ≠ some k → w'.heap[k]? = w.heap[k]?) →
      (blkA A' = blkA A ∨ blkA A' = some w.heap.size) → wpList P ops Q rest (a.put o.dst (.slice A' (n + m) c')) w') : wpList P ops Q (o :: rest) a w := by
  refine wpList_append_own_at (w := w) hgd s x t ho base e i z size bytes ht hi0 hz hsize hby hzs hsz _ n xs hs hown.1 ad m c2 news hx hr.1 (hr.news rfl) h1 h63 hbytes hbase ?_
  intro v' w' h2 h3 _ h5
  obtain ⟨A', c', hv, ho'⟩ := Own.of_row (hi := w'.heap.size) h2 (Nat.le_refl _)
  subst hv
  have e1 : ∀ (X : Option Addr) (p q : Nat), (Value.slice X p q).ownBlock = blkA X := fun X p q => by cases X <;> rfl
  rw [e1] at h3
  rw [e1, e1] at h5
  refine h A' c' w' ho' ((Below.refl _ _).grown h3 hbase fun k hk => ?_) (fun k hk hne => h3.block k hk (fun e => hne e.symm)) h5
  exact (hown.blk hk).1

end Go.Proofs.Ytegbnmlipajclaa

/-! A row of data that lie in their cells alone: its cells one behind the other are a row of it (ownR_flat). A row of data with blocks of their own grows by one (OwnR.snoc). No program is named here. -/

namespace Go.Proofs.Ytegbnmlipajclaa
set_option linter.unusedSimpArgs false
set_option linter.unusedVariables false
open Go.RowKit

theorem flat_len_ {α : Type} {cells : α → List Value} {size : Nat} (hl : ∀ x, (cells x).length = size) : ∀ xs : List α, ((xs.map cells).flatten).length = xs.length * size
  | [] => by simp
  | x :: xs => by rw [List.map_cons, List.flatten_cons, List.length_append, hl, flat_len_ hl xs, List.length_cons, Nat.add_mul, Nat.one_mul, Nat.add_comm]
theorem flat_cut {α : Type} {cells : α → List Value} {size : Nat} (hl : ∀ x, (cells x).length = size) : ∀ {xs : List α} {i : Nat} {x : α}, xs[i]? = some x → (((xs.map cells).flatten).drop (i * size)).take size = cells x
  | [], _, _, h => by simp at h
  | y :: xs, 0, x, h => by
    simp at h
    subst h
    rw [Nat.zero_mul, List.drop_zero, List.map_cons, List.flatten_cons, List.take_append_of_le_length (by rw [hl]; exact Nat.le_refl _), List.take_of_length_le (by rw [hl]; exact Nat.le_refl _)]
  | y :: xs, i + 1, x, h => by
    rw [List.map_cons, List.flatten_cons, show (i + 1) * size = (cells y).length + i * size by rw [hl, Nat.add_mul, Nat.one_mul, Nat.add_comm], List.drop_append, List.drop_of_length_le (by omega), List.nil_append, Nat.add_sub_cancel_left]
    exact flat_cut hl (by simpa using h)
theorem flat_snoc_ {α : Type} (cells : α → List Value) (xs : List α) (x : α) : ((xs ++ [x]).map cells).flatten = (xs.map cells).flatten ++ cells x := by simp

section

variable {α : Type} {w w' : World} {lo hi n c : Nat} {e : TypeId} {A : Option Addr}

theorem ownR_flat {size : Nat} {cells : α → List Value} {wf : α → Prop} {hl : ∀ x, (cells x).length = size} {xs : List α} (h : Own w lo hi e size A n c ((xs.map cells).flatten)) (hn : xs.length = n) (hw : ∀ x ∈ xs, wf x) : OwnR (Lay.flat size cells wf hl) e w (fun g => lo ≤ g ∧ g < hi) A n c xs := by
  refine ⟨hn, (xs.map cells).flatten, fun _ _ => False, h.rebound fun g hg => ⟨Nat.zero_le _, (h.blk hg).2.2⟩, fun g hg => ⟨(h.blk hg).1, (h.blk hg).2.1⟩, fun i x hx => ?_, fun _ _ _ h => h.elim, fun _ _ _ h => h.elim, fun _ _ _ _ _ h => h.elim⟩
  exact ⟨flat_cut hl hx, hw x (List.mem_of_getElem? hx)⟩
theorem ownR_flat_own {size : Nat} {cells : α → List Value} {wf : α → Prop} {hl : ∀ x, (cells x).length = size} {xs : List α} {F : Nat → Prop} (h : OwnR (Lay.flat size cells wf hl) e w F A n c xs) (hF : ∀ g, F g → lo ≤ g ∧ g < hi) : Own w lo hi e size A n c ((xs.map cells).flatten) := by
  obtain ⟨hlx, vs, G, ho, hA, hel, _, _, _⟩ := h
  have hv : vs = (xs.map cells).flatten := by
    have hvl := ho.1.1
    have hvl : vs.length = n * size := hvl
    apply List.ext_getElem?
    intro j
    rcases Nat.lt_or_ge j (n * size) with hj | hj
    · have hs : 0 < size := by
        rcases Nat.eq_zero_or_pos size with h0 | h0
        · rw [h0] at hj; omega
        · exact h0
      have hq : j / size < n := Nat.div_lt_of_lt_mul (by rw [Nat.mul_comm]; exact hj)
      have hx : xs[j / size]? = some (xs[j / size]'(by omega)) := List.getElem?_eq_getElem _
      have h1 := (hel _ _ hx).1
      have h2 := flat_cut hl hx
      have h3 : ((vs.drop (j / size * size)).take size)[j % size]? = (((xs.map cells).flatten.drop (j / size * size)).take size)[j % size]? := by
        rw [h2]
        exact congrArg (fun l : List Value => l[j % size]?) h1
      rw [List.getElem?_take, List.getElem?_take, if_pos (Nat.mod_lt _ hs), if_pos (Nat.mod_lt _ hs), List.getElem?_drop, List.getElem?_drop, show j / size * size + j % size = j by rw [Nat.mul_comm]; exact Nat.div_add_mod j size] at h3
      exact h3
    · rw [List.getElem?_eq_none (by omega), List.getElem?_eq_none (by rw [flat_len_ hl]; rw [hlx]; omega)]
  rw [← hv]
  exact ho.rebound fun g hg => hF g (hA g hg)

/-- A row grows by one element, which has blocks of its own. -/
theorem OwnR.snoc {L : Lay α} {F E : Nat → Prop} {A' : Option Addr} {c' : Nat} {xs : List α} {x : α} {us : List Value} (h : OwnR L e w F A n c xs) (hx : L.own w E x us) (hus : us.length = L.size) (hE : ∀ g, E g → ¬ F g ∧ g < w.heap.size)
    (how : ∀ vs, Own w 0 w.heap.size e L.size A n c vs → Own w' 0 w'.heap.size e L.size A' (n + 1) c' (vs ++ us)) (hk : ∀ k, k < w.heap.size → blkA A ≠ some k → w'.heap[k]? = w.heap[k]?) (hA' : blkA A' = blkA A ∨ blkA A' = some w.heap.size) (hFw : ∀ g, F g → g < w.heap.size) (hz : w.heap.size ≤ w'.heap.size) :
    OwnR L e w' (fun g => F g ∨ E g ∨ g = w.heap.size) A' (n + 1) c' (xs ++ [x]) := by
  obtain ⟨hl, vs, G, ho, hA, hel, hG, h1, h2⟩ := h
  have hvl := ho.1.1
  have hnA : ∀ g, E g → blkA A ≠ some g := fun g hg hh => (hE g hg).1 (hA g hh)
  refine ⟨by simp [hl], vs ++ us, fun i => if i = n then E else G i, how vs ho, fun g hg => ?_, fun i y hy => ?_, fun i g hi hg => ?_, fun i g hi hg hh => ?_, fun i j g hij hj hg hg' => ?_⟩
  · rcases hA' with h' | h'
    · rw [h'] at hg; exact .inl (hA g hg)
    · rw [h'] at hg; injection hg with hg; exact .inr (.inr hg.symm)
  · by_cases hin : i = n
    · subst hin
      simp only [if_true]
      rw [List.getElem?_append_right (by omega), hl, Nat.sub_self] at hy
      simp only [List.getElem?_cons_zero, Option.some.injEq] at hy
      subst hy
      rw [List.drop_append, List.drop_of_length_le (by omega), List.nil_append, hvl, Nat.sub_self, List.drop_zero, List.take_of_length_le (by omega)]
      exact L.stay hx (fun g hg _ => hk g (hE g hg).2 (hnA g hg)) hz
    · simp only [if_neg hin]
      have hin' : i < n := by
        have := (List.getElem?_eq_some_iff.1 hy).1
        simp [hl] at this
        omega
      rw [List.getElem?_append_left (by omega)] at hy
      have hle : (i + 1) * L.size ≤ n * L.size := Nat.mul_le_mul_right _ hin'
      rw [Nat.add_mul, Nat.one_mul] at hle
      rw [List.drop_append, show i * L.size - vs.length = 0 by omega, List.drop_zero, List.take_append_of_le_length (by rw [List.length_drop]; omega)]
      exact L.stay (hel i y hy) (fun g hg hlt => hk g hlt (h1 i g hin' hg)) hz
  · by_cases hin : i = n
    · simp only [if_pos hin] at hg; exact .inr (.inl hg)
    · simp only [if_neg hin] at hg; exact .inl (hG i g (by omega) hg)
  · by_cases hin : i = n
    · simp only [if_pos hin] at hg
      rcases hA' with h' | h'
      · rw [h'] at hh; exact hnA g hg hh
      · rw [h'] at hh; injection hh with hh; have := (hE g hg).2; omega
    · simp only [if_neg hin] at hg
      rcases hA' with h' | h'
      · rw [h'] at hh; exact h1 i g (by omega) hg hh
      · rw [h'] at hh; injection hh with hh; have := hFw g (hG i g (by omega) hg); omega
  · have hin : ¬ i = n := by omega
    simp only [if_neg hin] at hg
    by_cases hjn : j = n
    · simp only [if_pos hjn] at hg'
      exact (hE g hg').1 (hG i g (by omega) hg)
    · simp only [if_neg hjn] at hg'
      exact h2 i j g hij (by omega) hg hg'
end

end Go.Proofs.Ytegbnmlipajclaa

/-! What is written into rows that stand in memory of their own: worlds in which only blocks that F holds have turned (TurnedF); one element of a row by itself (OwnR.focus). No program is named here. -/

namespace Go.Proofs.Ytegbnmlipajclaa

open Go.RowKit Go.ChangeShapes Go.WideShapes Go.Deep

/-- Blocks that F holds may have turned, blocks may have come; nothing else is other than it was. -/
structure TurnedF (F : Nat → Prop) (w w' : World) : Prop where
  os : w'.os = w.os
  tape : w'.tape = w.tape
  output : w'.output = w.output
  size : w.heap.size ≤ w'.heap.size
  block : ∀ k, k < w.heap.size → ¬ F k → w'.heap[k]? = w.heap[k]?

section

variable {F G : Nat → Prop} {w w' w'' : World}

theorem TurnedF.refl (F : Nat → Prop) (w : World) : TurnedF F w w := ⟨rfl, rfl, rfl, Nat.le_refl _, fun _ _ _ => rfl⟩
theorem TurnedF.trans (h : TurnedF F w w') (k : TurnedF F w' w'') : TurnedF F w w'' :=
  ⟨k.os.trans h.os, k.tape.trans h.tape, k.output.trans h.output, Nat.le_trans h.size k.size, fun i hi ho => (k.block i (Nat.lt_of_lt_of_le hi h.size) ho).trans (h.block i hi ho)⟩
theorem TurnedF.wide (h : TurnedF F w w') (hF : ∀ g, F g → G g) : TurnedF G w w' := ⟨h.os, h.tape, h.output, h.size, fun k hk hn => h.block k hk fun hf => hn (hF k hf)⟩
theorem TurnedF.setCell (h : TurnedF F w w') {p : Addr} (hp : F p.block) (u : Value) : TurnedF F w (w'.setCell p u) :=
  ⟨h.os, h.tape, h.output, by simpa [World.setCell] using h.size, fun k hk hn => (Below.heap_setCell w' p u k (by rintro rfl; exact hn hp)).trans (h.block k hk hn)⟩
theorem TurnedF.of_below (h : Below w.heap.size w w') (F : Nat → Prop) : TurnedF F w w' := ⟨h.os, h.tape, h.output, h.size, fun k hk _ => h.block k hk⟩
theorem TurnedF.below (h : TurnedF F w w') {B : Nat} (hF : ∀ g, F g → B ≤ g) (hB : B ≤ w.heap.size) : Below B w w' := ⟨h.os, h.tape, h.output, h.size, fun k hk => h.block k (by omega) fun hf => by have := hF k hf; omega⟩
theorem TurnedF.put (us : List Value) : ∀ {w' : World} (g o : Nat), TurnedF F w w' → F g → TurnedF F w (putCells w' g o us) := by
  induction us with
  | nil => intro w' g o h _; exact h
  | cons u us ih => intro w' g o h hg; exact ih g (o + 1) (h.setCell (p := ⟨g, o, none⟩) hg u) hg
end

section

variable {α : Type} {L : Lay α} {e : TypeId} {F G : Nat → Prop} {w w' : World} {A : Option Addr} {n c : Nat} {xs : List α}

theorem OwnR.turnedF (h : OwnR L e w F A n c xs) (ht : TurnedF G w w') (hF : ∀ g, F g → ¬ G g) : OwnR L e w' F A n c xs :=
  h.stay (fun g hg hlt => ht.block g hlt (hF g hg)) ht.size
theorem OwnR.cap (h : OwnR L e w F A n c xs) : n ≤ c := by obtain ⟨_, _, _, ho, _⟩ := h; exact ho.cap

theorem setFrom_cut {vs us : List Value} {k n s : Nat} (hlen : vs.length = n * s) (hus : us.length = s) (hk : k < n) {i : Nat} (hi : i < n) :
    ((setFrom vs (k * s) us).drop (i * s)).take s = if i = k then us else (vs.drop (i * s)).take s := by
  have hk1 : (k + 1) * s ≤ n * s := Nat.mul_le_mul_right _ hk
  have hi1 : (i + 1) * s ≤ n * s := Nat.mul_le_mul_right _ hi
  rw [Nat.add_mul, Nat.one_mul] at hk1 hi1
  apply List.ext_getElem?
  intro j
  rw [List.getElem?_take]
  by_cases hj : j < s
  · rw [if_pos hj, List.getElem?_drop, setFrom_get _ _ _ _ (by omega)]
    by_cases hik : i = k
    · subst hik
      rw [if_pos (by omega), if_pos rfl, show i * s + j - i * s = j by omega]
    · rw [if_neg hik, List.getElem?_take, if_pos hj, List.getElem?_drop, if_neg]
      rintro ⟨a, b⟩
      rcases Nat.lt_or_ge i k with h | h
      · have : (i + 1) * s ≤ k * s := Nat.mul_le_mul_right _ h
        rw [Nat.add_mul, Nat.one_mul] at this
        omega
      · have : (k + 1) * s ≤ i * s := Nat.mul_le_mul_right _ (by omega)
        rw [Nat.add_mul, Nat.one_mul] at this
        omega
  · rw [if_neg hj]
    split
    · rw [List.getElem?_eq_none (by omega)]
    · rw [List.getElem?_take, if_neg hj]

/-- One element of a row: where it lies; and the row behind it when it, and only it, is another one. -/
theorem OwnR.focus (h : OwnR L e w F A n c xs) {i : Nat} (hi : i < n) : ∃ (hx : i < xs.length) (g : Nat) (G : Nat → Prop) (vs : List Value), A = some ⟨g, 0, none⟩ ∧ F g ∧ ¬ G g ∧ (∀ b, G b → F b) ∧ g < w.heap.size ∧
    L.own w G xs[i] vs ∧ (∀ j u, j < L.size → vs[j]? = some u → w.cell? ⟨g, i * L.size + j, none⟩ = some u) ∧ (∀ j, w.frozen? ⟨g, j, none⟩ = false) ∧
    ∀ (w' : World) (x' : α) (us : List Value), us.length = L.size → L.own w' G x' us → TurnedF (fun b => G b ∨ b = g) w w' → w'.heap[g]? = (putCells w g (i * L.size) us).heap[g]? → OwnR L e w' F A n c (xs.set i x') := by
  obtain ⟨hl, vs, G, ho, hA, hel, hG, h1, h2⟩ := h
  have hx : i < xs.length := by rw [hl]; exact hi
  obtain ⟨g, rfl, _, _, hgs⟩ := ho.form (by omega)
  refine ⟨hx, g, G i, (vs.drop (i * L.size)).take L.size, rfl, hA g rfl, fun hg => h1 i g hi hg rfl, fun b hb => hG i b hi hb, hgs, hel i _ (List.getElem?_eq_getElem hx), ?_, fun j => ho.free j, ?_⟩
  · intro j u hj hu
    rw [List.getElem?_take, if_pos hj, List.getElem?_drop] at hu
    exact ho.cell hu
  · intro w' x' us hus how ht hrow
    have hvl := ho.1.1
    refine ⟨by rw [List.length_set, hl], setFrom vs (i * L.size) us, G, ?_, hA, ?_, hG, h1, h2⟩
    · have hp := ho.put us (i * L.size)
      refine (hp.keepBlk (w' := w') fun b hb _ => ?_).rebound fun b hb => ⟨Nat.zero_le _, ?_⟩
      · obtain rfl : g = b := by simpa [blkA] using hb
        exact hrow
      · obtain rfl : g = b := by simpa [blkA] using hb
        exact Nat.lt_of_lt_of_le hgs ht.size
    · intro j y hy
      have hjn : j < n := by
        rw [← hl]
        have := (List.getElem?_eq_some_iff.1 hy).1
        rwa [List.length_set] at this
      rw [setFrom_cut hvl hus hi hjn]
      by_cases hji : j = i
      · subst hji
        rw [List.getElem?_set_self hx] at hy
        obtain rfl := Option.some.inj hy
        rw [if_pos rfl]
        exact how
      · rw [List.getElem?_set_ne (fun e => hji e.symm)] at hy
        rw [if_neg hji]
        refine L.stay (hel j y hy) (fun b hb hlt => ht.block b hlt ?_) ht.size
        rintro (hc | rfl)
        · rcases Nat.lt_or_ge j i with h | h
          · exact h2 j i b h hi hb hc
          · exact h2 i j b (by omega) hjn hc hb
        · exact h1 j b hjn hb rfl
end

theorem wf_mark {z : Int} (h0 : 0 ≤ z) (h1 : z ≤ 4294967296) : (Lit.int .i64 z).wf = true := by
  simp [Lit.wf, IntKind.min, IntKind.max, IntKind.signed, IntKind.bits]
  omega
end Go.Proofs.Ytegbnmlipajclaa

/-! A row that stands in memory of its own with one element open: the row's block may be written at that element's cells, and the element's own blocks may turn; then it is shut again. No program is named here. -/

namespace Go.Proofs.Ytegbnmlipajclaa
set_option linter.unusedSimpArgs false
set_option linter.unusedVariables false
open Go.RowKit Go.ChangeShapes Go.WideShapes Go.Deep

/-- The cells of the i-th element. -/
def cutAt (vs : List Value) (i s : Nat) : List Value := (vs.drop (i * s)).take s

theorem cutAt_set_same {vs : List Value} {i s o : Nat} {u : Value} (ho : o < s) : cutAt (vs.set (i * s + o) u) i s = (cutAt vs i s).set o u := by
  unfold cutAt
  apply List.ext_getElem?
  intro j
  simp only [List.getElem?_take, List.getElem?_drop, List.getElem?_set, List.length_take, List.length_drop]
  by_cases hj : j < s
  · by_cases hjo : o = j
    · subst hjo
      simp only [hj, if_true]
      by_cases h : i * s + o < vs.length
      · simp [h, show o < min s (vs.length - i * s) by omega]
      · simp [h, show ¬ o < min s (vs.length - i * s) by omega]
    · simp [hj, hjo, show ¬ i * s + o = i * s + j by omega]
  · simp [hj, show ¬ o = j by omega]
theorem cutAt_set_other {vs : List Value} {i j s o : Nat} {u : Value} (ho : o < s) (hne : j ≠ i) : cutAt (vs.set (i * s + o) u) j s = cutAt vs j s := by
  unfold cutAt
  apply List.ext_getElem?
  intro k
  simp only [List.getElem?_take, List.getElem?_drop, List.getElem?_set]
  by_cases hk : k < s
  · have : ¬ i * s + o = j * s + k := by
      intro h
      rcases Nat.lt_or_ge j i with hlt | hge
      · have : (j + 1) * s ≤ i * s := Nat.mul_le_mul_right _ hlt
        rw [Nat.add_mul, Nat.one_mul] at this
        omega
      · have : (i + 1) * s ≤ j * s := Nat.mul_le_mul_right _ (by omega)
        rw [Nat.add_mul, Nat.one_mul] at this
        omega
    simp [hk, this]
  · simp [hk]

section

variable {α : Type} {L : Lay α} {e : TypeId} {w w' : World} {F Gi H : Nat → Prop} {A : Option Addr} {n c i g : Nat} {xs : List α} {us : List Value}

/-- The row with its i-th element open: its block is g, the element's cells are us, the element's own blocks are Gi's. -/
structure OpenRow (L : Lay α) (e : TypeId) (w : World) (F : Nat → Prop) (n c : Nat) (xs : List α) (i g : Nat) (Gi : Nat → Prop) (us : List Value) : Prop where
  len : xs.length = n
  lt : i < n
  here : F g
  inF : ∀ b, Gi b → F b
  not : ¬ Gi g
  rest : ∃ (vs : List Value) (G : Nat → Nat → Prop), Own w 0 w.heap.size e L.size (some ⟨g, 0, none⟩) n c vs ∧ cutAt vs i L.size = us ∧ G i = Gi ∧
    (∀ j x, j ≠ i → xs[j]? = some x → L.own w (G j) x (cutAt vs j L.size)) ∧ (∀ j b, j < n → G j b → F b) ∧ (∀ j b, j < n → G j b → b ≠ g) ∧ ∀ j k b, j < k → k < n → G j b → ¬ G k b

theorem OwnR.open_ (h : OwnR L e w F A n c xs) (hi : i < n) : ∃ (hx : i < xs.length) (g : Nat) (Gi : Nat → Prop) (us : List Value), A = some ⟨g, 0, none⟩ ∧ g < w.heap.size ∧ OpenRow L e w F n c xs i g Gi us ∧ L.own w Gi xs[i] us := by
  obtain ⟨hl, vs, G, ho, hA, hel, hG, h1, h2⟩ := h
  have hx : i < xs.length := by rw [hl]; exact hi
  obtain ⟨g, rfl, _, _, hgs⟩ := ho.form (by omega)
  exact ⟨hx, g, G i, _, rfl, hgs, ⟨hl, hi, hA g rfl, fun b hb => hG i b hi hb, fun hg => h1 i g hi hg rfl, vs, G, ho, rfl, rfl, fun j x _ hj => hel j x hj, hG, fun j b hj hb e1 => h1 j b hj hb (by rw [e1]; rfl), h2⟩,
    hel i _ (List.getElem?_eq_getElem hx)⟩

theorem OpenRow.cell (h : OpenRow L e w F n c xs i g Gi us) {j : Nat} {u : Value} (hu : us[j]? = some u) (hj : j < L.size) : w.cell? ⟨g, i * L.size + j, none⟩ = some u := by
  obtain ⟨vs, G, ho, hc, _⟩ := h.rest
  refine ho.cell (j := i * L.size + j) ?_
  rw [← hc] at hu
  unfold cutAt at hu
  rw [List.getElem?_take, if_pos hj, List.getElem?_drop] at hu
  exact hu
theorem OpenRow.free (h : OpenRow L e w F n c xs i g Gi us) (j : Nat) : w.frozen? ⟨g, j, none⟩ = false := by
  obtain ⟨vs, G, ho, _⟩ := h.rest
  exact ho.free j
theorem OpenRow.gl (h : OpenRow L e w F n c xs i g Gi us) : g < w.heap.size := by
  obtain ⟨vs, G, ho, _⟩ := h.rest
  exact (ho.lt _ rfl).2.2

/-- A cell of the open element is written. -/
theorem OpenRow.set_ (h : OpenRow L e w F n c xs i g Gi us) {o : Nat} (ho : o < L.size) (u : Value) : OpenRow L e (w.setCell ⟨g, i * L.size + o, none⟩ u) F n c xs i g Gi (us.set o u) := by
  obtain ⟨vs, G, hown, hc, hG, hel, hF, h1, h2⟩ := h.rest
  refine ⟨h.len, h.lt, h.here, h.inF, h.not, vs.set (i * L.size + o) u, G, ?_, ?_, hG, ?_, hF, h1, h2⟩
  · have := hown.set_ (i * L.size + o) u
    simpa [World.setCell] using this
  · rw [cutAt_set_same ho, hc]
  · intro j x hj hx
    rw [cutAt_set_other ho hj]
    have hjn : j < n := by rw [← h.len]; exact (List.getElem?_eq_some_iff.1 hx).1
    refine L.stay (hel j x hj hx) (fun b hb hlt => ?_) (by simp [World.setCell])
    exact Below.heap_setCell w _ u b (fun e1 => h1 j b hjn hb e1)

/-- The open element's own blocks turn. -/
theorem OpenRow.turned (h : OpenRow L e w F n c xs i g Gi us) (ht : TurnedF H w w') (hH : ∀ b, H b → Gi b) : OpenRow L e w' F n c xs i g Gi us := by
  obtain ⟨vs, G, hown, hc, hG, hel, hF, h1, h2⟩ := h.rest
  subst hG
  have hg := h.gl
  refine ⟨h.len, h.lt, h.here, h.inF, h.not, vs, G, ?_, hc, rfl, ?_, hF, h1, h2⟩
  · refine (hown.keepBlk (w' := w') fun b hb hlt => ht.block b hlt fun hb2 => ?_).rebound fun b hb => ⟨Nat.zero_le _, ?_⟩
    · obtain rfl : g = b := by simpa [blkA] using hb
      exact h.not (hH _ hb2)
    · obtain rfl : g = b := by simpa [blkA] using hb
      exact Nat.lt_of_lt_of_le hg ht.size
  · intro j x hj hx
    have hjn : j < n := by rw [← h.len]; exact (List.getElem?_eq_some_iff.1 hx).1
    refine L.stay (hel j x hj hx) (fun b hb hlt => ht.block b hlt fun hb2 => ?_) ht.size
    rcases Nat.lt_or_ge j i with h3 | h3
    · exact h2 j i b h3 h.lt hb (hH _ hb2)
    · exact h2 i j b (by omega) hjn (hH _ hb2) hb
theorem OpenRow.drew (h : OpenRow L e w F n c xs i g Gi us) : OpenRow L e w.drew F n c xs i g Gi us := by
  obtain ⟨vs, G, hown, hc, hG, hel, hF, h1, h2⟩ := h.rest
  exact ⟨h.len, h.lt, h.here, h.inF, h.not, vs, G, hown, hc, hG, fun j x hj hx => L.stay (hel j x hj hx) (fun _ _ _ => rfl) (Nat.le_refl _), hF, h1, h2⟩

/-- Shut again, with another element there. -/
theorem OpenRow.shut (h : OpenRow L e w F n c xs i g Gi us) {x' : α} (hx : L.own w Gi x' us) : OwnR L e w F (some ⟨g, 0, none⟩) n c (xs.set i x') := by
  obtain ⟨vs, G, hown, hc, hG, hel, hF, h1, h2⟩ := h.rest
  refine ⟨by rw [List.length_set, h.len], vs, G, hown, fun b hb => ?_, fun j y hy => ?_, hF, fun j b hj hb e1 => ?_, h2⟩
  · obtain rfl : g = b := by simpa [blkA] using hb
    exact h.here
  · by_cases hji : j = i
    · subst hji
      rw [List.getElem?_set_self (by rw [h.len]; exact h.lt)] at hy
      obtain rfl := Option.some.inj hy
      show L.own w (G j) x' (cutAt vs j L.size)
      rw [hG, hc]
      exact hx
    · rw [List.getElem?_set_ne (fun e1 => hji e1.symm)] at hy
      exact hel j y hji hy
  · obtain rfl : g = b := by simpa [blkA] using e1
    exact h1 j g hj hb rfl

/-- A row in other blocks stays while the open row's own block is written. -/
theorem OwnR.setCell {β : Type} {M : Lay β} {e' : TypeId} {F' : Nat → Prop} {A' : Option Addr} {n' c' : Nat} {ys : List β} (h : OwnR M e' w F' A' n' c' ys) {o : Nat} (hg : ¬ F' g) (u : Value) : OwnR M e' (w.setCell ⟨g, o, none⟩ u) F' A' n' c' ys :=
  h.stay (fun b hb _ => Below.heap_setCell w _ u b (fun e1 => hg (by subst e1; exact hb))) (by simp [World.setCell])
end

theorem sum_pos {α : Type} {f : α → Int} (hf : ∀ x, 0 ≤ f x) : ∀ l : List α, 0 ≤ (l.map f).sum
  | [] => by simp
  | x :: l => by
    have h1 := hf x
    have h2 := sum_pos hf l
    simp only [List.map_cons, List.sum_cons]
    omega
theorem sum_next {α : Type} (f : α → Int) {l : List α} {j : Nat} {x : α} (hx : l[j]? = some x) : ((l.take (j + 1)).map f).sum = ((l.take j).map f).sum + f x := by
  rw [List.take_add_one, hx]
  simp
theorem sum_upto {α : Type} {f : α → Int} (hf : ∀ x, 0 ≤ f x) {l : List α} {j : Nat} {x : α} (hx : l[j]? = some x) : ((l.take j).map f).sum + f x ≤ (l.map f).sum := by
  have h1 := sum_next f hx
  have h2 : (l.map f).sum = ((l.take (j + 1)).map f).sum + ((l.drop (j + 1)).map f).sum := by
    rw [← List.sum_append, ← List.map_append, List.take_append_drop]
  have h3 := sum_pos hf (l.drop (j + 1))
  omega
end Go.Proofs.Ytegbnmlipajclaa

/-! A block whose cells are known: what is read of it, what a store makes of it. -/

namespace Go.Proofs.Ytegbnmlipajclaa

open Go.RowKit

theorem box_cell {w : World} {g j : Nat} {cur : Array Value} {t : TypeId} {v : Value} (h : w.heap[g]? = some (.cells cur t (0, 0))) (hj : cur[j]? = some v) : w.cell? ⟨g, j, none⟩ = some v := by simp [World.cell?, h, hj]
theorem box_free {w : World} {g : Nat} {cur : Array Value} {t : TypeId} (h : w.heap[g]? = some (.cells cur t (0, 0))) (j : Nat) : w.frozen? ⟨g, j, none⟩ = false := by simp [World.frozen?, h]
theorem box_set {w : World} {g j : Nat} {cur : Array Value} {u : Value} {t : TypeId} (h : w.heap[g]? = some (.cells cur t (0, 0))) : (w.setCell ⟨g, j, none⟩ u).heap[g]? = some (.cells (cur.setIfInBounds j u) t (0, 0)) := by
  have hlt := lt_of_block h
  have h' : w.heap[g] = .cells cur t (0, 0) := by simpa [Array.getElem?_eq_getElem hlt] using h
  show (w.heap.modify g _)[g]? = _
  rw [Array.getElem?_eq_getElem (by simpa using hlt), Array.getElem_modify_self, h']
  rfl
theorem box_new (w : World) (cur : Array Value) (t : TypeId) : (w.alloc (.cells cur t)).heap[w.heap.size]? = some (.cells cur t (0, 0)) := by
  show (w.heap.push _)[w.heap.size]? = _
  rw [Array.getElem?_push_size]
theorem box_keep {w w' : World} {B g : Nat} {x : Obj} (h : w.heap[g]? = some x) (hb : Below B w w') (hB : g < B) : w'.heap[g]? = some x := by rw [hb.block g hB]; exact h
theorem below_set {B : Nat} {w w' : World} {p : Addr} (h : Below B w w') (hp : B ≤ p.block) (u : Value) : Below B w (w'.setCell p u) :=
  ⟨h.os, h.tape, h.output, by simpa [World.setCell] using h.size, fun k hk => (Below.heap_setCell w' _ u k (fun e => by subst e; omega)).trans (h.block k hk)⟩
theorem grown_on {B : Nat} {w w1 w2 : World} (hb : Below w1.heap.size w1 w2) (h : Below B w w1) (hB : B ≤ w.heap.size) : Below B w w2 := h.trans (hb.mono (Nat.le_trans hB h.size))
theorem lt_of_cell {w : World} {g j : Nat} {v : Value} (h : w.cell? ⟨g, j, none⟩ = some v) : g < w.heap.size := by
  refine Nat.lt_of_not_le fun hn => ?_
  have : w.heap[g]? = none := Array.getElem?_eq_none hn
  simp [World.cell?, this] at h
section

variable {w w' : World} {g j g1 j1 g2 j2 : Nat} {v v1 v2 : Value}

theorem cell_kept (hb : Below w.heap.size w w') (h : w.cell? ⟨g, j, none⟩ = some v) : w'.cell? ⟨g, j, none⟩ = some v := by
  have hk := hb.block g (lt_of_cell h)
  simpa [World.cell?, hk] using h
theorem cell_kept2 (hb : Below w.heap.size w w') (h : w.cell? ⟨g, j, none⟩ = some v ∧ w.cell? ⟨g1, j1, none⟩ = some v1) : w'.cell? ⟨g, j, none⟩ = some v ∧ w'.cell? ⟨g1, j1, none⟩ = some v1 := ⟨cell_kept hb h.1, cell_kept hb h.2⟩
theorem cell_kept3 (hb : Below w.heap.size w w') (h : w.cell? ⟨g, j, none⟩ = some v ∧ w.cell? ⟨g1, j1, none⟩ = some v1 ∧ w.cell? ⟨g2, j2, none⟩ = some v2) : w'.cell? ⟨g, j, none⟩ = some v ∧ w'.cell? ⟨g1, j1, none⟩ = some v1 ∧ w'.cell? ⟨g2, j2, none⟩ = some v2 := ⟨cell_kept hb h.1, cell_kept2 hb h.2⟩
end

end Go.Proofs.Ytegbnmlipajclaa

/-! A row that lists variables, its contract told both what they hold and the shape of the world in which the call is made. No program is named here. -/

namespace Go.Proofs.Ytegbnmlipajclaa

open Go

variable {H : Type} {enc : TypeId × Value → H}

theorem returnsInHanded_of_change_both {a : Assume} {C : Checked} {os : Os} {f : FuncId} {fn : Func} {s : ChangeSpec} {conds : List PathCond} {apart fresh handsOn again : Bool} {X : World → Array Value → Prop}
    (hX : ∀ (w w' : World) (args : Array Value), w.heap = w'.heap → X w args → X w' args)
    (own : ownKnob C.prog.godebug = none) (started : os.Started) (noInit : C.prog.inits.idxOf? f = none) (hfn : C.prog.funcs[f]? = some fn)
    (witness : ∃ (w : World) (tape : Tape) (i : Input), w.os = os ∧ (w.forCall tape i).Shaped C.prog ∧ i.vars = [] ∧ Input.okWide C.prog (w.forCall tape i) .any w.heap.size f i ∧
      ((s.pre enc C.prog fn conds apart (w.forCall tape i).memory i.args ∧ X (w.forCall tape i).memory i.args) ∧ sizedMet enc C.prog fn (OpenSpec.ofChange s) apart (w.forCall tape i).memory i.args) ∧ a.holds C.prog (lone (Frame.enter C.prog f i.args .normal) [] (w.forCall tape i)))
    (contract : ∀ (W : World) (base : Nat) (args : Array Value) (ds gs : List (DataW H)) (before : List MemPlace),
      (∀ (j : Nat) t v, fn.params[j]? = some t → args[j]? = some v → Value.okWide C.prog W .any base t v) →
      DataW.Whole enc C.prog fn.params.toList s.vars apart W args.toList ds gs before →
      W.ShapedOpen C.prog → X W args →
      Calls C.prog f args W fun e W' => ∃ v, e = .returned v ∧ s.post enc C.prog fn apart fresh handsOn again W args v W') :
    ReturnsInHanded a C os f .any (fun w args => (s.pre enc C.prog fn conds apart w args ∧ X w args) ∧ sizedMet enc C.prog fn (OpenSpec.ofChange s) apart w args) (s.post enc C.prog fn apart fresh handsOn again) := by
  refine returnsInHanded_of_calls own started noInit witness fun w tape i _ hshape _ hok hpre _ => ?_
  obtain ⟨_, _, _, g, hg, _, _, _, _, hargs⟩ := hok
  obtain rfl : g = fn := Option.some.inj (hg.symm.trans hfn)
  obtain ⟨⟨⟨ds, gs, before, hwhole, _⟩, hx⟩, _⟩ := hpre
  have hw' := DataW.Whole.of_heap (w' := w.forCall tape i) (by rfl) hwhole
  have c := contract (w.forCall tape i) w.heap.size i.args ds gs before hargs hw' hshape (hX _ _ _ (by rfl) hx)
  refine c.mono fun e W' h => ?_
  obtain ⟨v, rfl, hp⟩ := h
  exact ChangeSpec.post_blind hp
end Go.Proofs.Ytegbnmlipajclaa

namespace Go.Proofs.Ytegbnmlipajclaa
set_option linter.unusedSimpArgs false
set_option linter.unusedVariables false
open Go.RowKit

section

variable {α β : Type} {L : Lay α} {w w' : World} {hi n c : Nat} {A : Option Addr} {xs : List α} {e : TypeId} {F F' G : Nat → Prop}

/-- A row in a block of its own, behind elements that are left out. -/
def TailR (L : Lay α) (e : TypeId) (w : World) (F : Nat → Prop) (A : Option Addr) (n c : Nat) (xs : List α) : Prop :=
  xs.length = n ∧ n ≤ c ∧ c ≤ maxLen ∧ (n = 0 ∨ ∃ g k pre, A = some ⟨g, k * L.size, none⟩ ∧ pre.length = k ∧ OwnR L e w F (some ⟨g, 0, none⟩) (k + n) (k + c) (pre ++ xs))

theorem OwnR.capMax (h : OwnR L e w F A n c xs) : c ≤ maxLen := by obtain ⟨_, _, _, ho, _⟩ := h; exact ho.capMax
theorem OwnR.form (h : OwnR L e w F A n c xs) (hn : 0 < n) : ∃ g, A = some ⟨g, 0, none⟩ ∧ g < w.heap.size := by
  obtain ⟨_, _, _, ho, _⟩ := h
  obtain ⟨g, hg, _, _, h2⟩ := ho.form hn
  exact ⟨g, hg, h2⟩
theorem TailR.of (h : OwnR L e w F A n c xs) : TailR L e w F A n c xs := by
  refine ⟨h.1, h.cap, h.capMax, ?_⟩
  by_cases hn : n = 0
  · exact .inl hn
  · obtain ⟨g, rfl, _⟩ := h.form (by omega)
    exact .inr ⟨g, 0, [], by simp, rfl, by simpa using h⟩
theorem TailR.seen (h : TailR L e w F A n c xs) (hF : ∀ g, F g → g < hi) : SeenR L w hi A n xs := by
  obtain ⟨hl, _, _, h0 | ⟨g, k, pre, rfl, hk, ho⟩⟩ := h
  · subst h0
    exact ⟨hl, .inl (List.length_eq_zero_iff.1 hl)⟩
  · obtain ⟨hlen, h0 | ⟨g', o, hA, hg, f, hf⟩⟩ := ho.seen hF
    · refine ⟨hl, .inl ?_⟩
      simp at h0
      exact h0.2
    · injection hA with hA
      injection hA with h1 h2
      subst h1 h2
      refine ⟨hl, .inr ⟨g, k * L.size, rfl, hg, fun i => f (k + i), fun i x hx => ?_⟩⟩
      have hx' : (pre ++ xs)[k + i]? = some x := by rw [List.getElem?_append_right (by omega), hk, Nat.add_sub_cancel_left]; exact hx
      refine ⟨(hf _ _ hx').1, fun j u hu => ?_⟩
      have := (hf _ _ hx').2 j u hu
      rw [Nat.add_mul, Nat.add_assoc, Nat.zero_add] at this
      exact this
theorem TailR.stay (h : TailR L e w F A n c xs) (hk : ∀ g, F g → g < w.heap.size → w'.heap[g]? = w.heap[g]?) (hz : w.heap.size ≤ w'.heap.size) : TailR L e w' F A n c xs :=
  ⟨h.1, h.2.1, h.2.2.1, h.2.2.2.imp id fun ⟨g, k, pre, h1, h2, h3⟩ => ⟨g, k, pre, h1, h2, h3.stay hk hz⟩⟩
theorem TailR.wide (h : TailR L e w F A n c xs) (hF : ∀ g, F g → F' g) : TailR L e w F' A n c xs :=
  ⟨h.1, h.2.1, h.2.2.1, h.2.2.2.imp id fun ⟨g, k, pre, h1, h2, h3⟩ => ⟨g, k, pre, h1, h2, h3.wide hF⟩⟩
theorem TailR.cap (h : TailR L e w F A n c xs) : n ≤ c := h.2.1
theorem TailR.turned {l r : Nat} (h : TailR L e w F A n c xs) (ht : Turned l r w w') (hF : ∀ g, F g → r ≤ g ∨ g < l) : TailR L e w' F A n c xs :=
  h.stay (fun g hg hlt => ht.block g hlt (by have := hF g hg; omega)) ht.size
theorem TailR.turnedF (h : TailR L e w F A n c xs) (ht : TurnedF G w w') (hF : ∀ g, F g → ¬ G g) : TailR L e w' F A n c xs :=
  h.stay (fun g hg hlt => ht.block g hlt (hF g hg)) ht.size
theorem TailR.setCell (h : TailR L e w F A n c xs) {g o : Nat} (hg : ¬ F g) (u : Value) : TailR L e (w.setCell ⟨g, o, none⟩ u) F A n c xs :=
  ⟨h.1, h.2.1, h.2.2.1, h.2.2.2.imp id fun ⟨g1, k, pre, h1, h2, h3⟩ => ⟨g1, k, pre, h1, h2, h3.setCell hg u⟩⟩

/-- One element of such a row. -/
theorem TailR.focus (h : TailR L e w F A n c xs) {i : Nat} (hi : i < n) : ∃ (hx : i < xs.length) (g o : Nat) (G : Nat → Prop) (vs : List Value), A = some ⟨g, o, none⟩ ∧ F g ∧ ¬ G g ∧ (∀ b, G b → F b) ∧ g < w.heap.size ∧
    L.own w G xs[i] vs ∧ (∀ j u, j < L.size → vs[j]? = some u → w.cell? ⟨g, o + (i * L.size + j), none⟩ = some u) ∧ (∀ j, w.frozen? ⟨g, j, none⟩ = false) ∧
    ∀ (w' : World) (x' : α) (us : List Value), us.length = L.size → L.own w' G x' us → TurnedF (fun b => G b ∨ b = g) w w' → w'.heap[g]? = (putCells w g (o + i * L.size) us).heap[g]? → TailR L e w' F A n c (xs.set i x') := by
  obtain ⟨hl, hc, hm, h0 | ⟨g, k, pre, rfl, hk, ho⟩⟩ := h
  · omega
  · have hx : i < xs.length := by rw [hl]; exact hi
    obtain ⟨hx2, g', G, vs, hA, hFg, hGg, hGF, hgs, hown, hcell, hfr, hput⟩ := ho.focus (i := k + i) (by omega)
    injection hA with hA
    injection hA with h1 _
    subst h1
    have he : (pre ++ xs)[k + i] = xs[i] := by
      rw [List.getElem_append_right (by omega)]
      simp [hk]
    rw [he] at hown
    refine ⟨hx, g, k * L.size, G, vs, rfl, hFg, hGg, hGF, hgs, hown, fun j u hj hu => ?_, hfr, fun w' x' us hus how ht hrow => ?_⟩
    · have := hcell j u hj hu
      rw [Nat.add_mul, Nat.add_assoc] at this
      exact this
    · have h9 := hput w' x' us hus how ht (by rw [Nat.add_mul]; exact hrow)
      refine ⟨by rw [List.length_set, hl], hc, hm, .inr ⟨g, k, pre, rfl, hk, ?_⟩⟩
      rw [List.set_append_right _ _ (by omega), hk, Nat.add_sub_cancel_left] at h9
      exact h9

/-- What is left behind the first element. -/
theorem TailR.rest {x : α} {A' : Option Addr} (h : TailR L e w F A (n + 1) c (x :: xs)) (hA : n ≠ 0 → A' = A.map (·.add L.size)) : TailR L e w F A' n (c - 1) xs := by
  obtain ⟨hl, hc, hm, h0 | ⟨g, k, pre, rfl, hk, ho⟩⟩ := h
  · omega
  · simp at hl
    refine ⟨hl, by omega, by omega, ?_⟩
    by_cases hn : n = 0
    · exact .inl hn
    · refine .inr ⟨g, k + 1, pre ++ [x], ?_, by simp [hk], ?_⟩
      · rw [hA hn]
        simp [add_plain, Nat.add_mul]
      · have e1 : k + 1 + n = k + (n + 1) := by omega
        have e2 : k + 1 + (c - 1) = k + c := by omega
        rw [e1, e2, List.append_assoc]
        exact ho

/-- A slice of flat elements that may begin behind some that were left out. -/
def Lay.tail (L : Lay α) (e : TypeId) : Lay (List α) where
  size := 1
  see w hi xs vs := ∃ A n c, vs = [.slice A n c] ∧ n ≤ c ∧ c ≤ maxLen ∧ SeenR L w hi A n xs
  own w F xs vs := ∃ A n c, vs = [.slice A n c] ∧ TailR L e w F A n c xs
  len h := by obtain ⟨A, n, c, rfl, _⟩ := h; rfl
  keep h hk := by obtain ⟨A, n, c, e, hc, hm, h⟩ := h; exact ⟨A, n, c, e, hc, hm, h.keep hk⟩
  more h hh := by obtain ⟨A, n, c, e, hc, hm, h⟩ := h; exact ⟨A, n, c, e, hc, hm, h.more hh⟩
  seen h hF := by
    obtain ⟨A, n, c, e, h⟩ := h
    exact ⟨A, n, c, e, h.2.1, h.2.2.1, h.seen hF⟩
  stay h hk hz := by obtain ⟨A, n, c, e, h⟩ := h; exact ⟨A, n, c, e, h.stay hk hz⟩
  wide h hF := by obtain ⟨A, n, c, e, h⟩ := h; exact ⟨A, n, c, e, h.wide hF⟩

theorem opens_tail {P : Program} {t e e' : TypeId} (ht : P.underlying t = some (.slice e)) (hc : P.cellsOf t = 1) (hs : 0 < L.size) (hL : Opens P e L) : Opens P t (L.tail e') := opens_slice (e' := e') ht hc hs hL
end

end Go.Proofs.Ytegbnmlipajclaa

/-! Bytes in memory: how a list of bytes lies in a slice, and how a slice of bytes becomes a text. -/

namespace Go.Proofs.Ytegbnmlipajclaa

open Go.RowKit

abbrev B (b : UInt8) : Value := .int .u8 (b.toNat : Int)

theorem u8_info : (Try.prog.info? 5).map (fun i => (i.zero, i.size, i.bytes)) = some (some (.int .u8 0), 1, 1) := by kernel_rfl

/-- A slice of bytes that came in can be read as a list of bytes. -/
theorem seen_of_ints {w : World} {a : Option Addr} {len cap : Nat} {zs : List Int}
    (h : (a = none ∧ len = 0 ∧ cap = 0 ∧ zs = []) ∨
      ∃ x, a = some x ∧ len ≤ cap ∧ cap ≤ maxLen ∧ zs.length = cap ∧ (∀ i, i < zs.length → w.cell? (x.add i) = some (.int .u8 (zs.getD i 0))) ∧ ∀ n ∈ zs, (Lit.int .u8 n).wf = true) :
    ∃ bs : List UInt8, Seen w w.heap.size 1 a len (bs.map B) := by
  rcases h with ⟨rfl, rfl, rfl, rfl⟩ | ⟨x, rfl, hl, hm, hz, hc, hw⟩
  · exact ⟨[], Seen.nil_⟩
  · refine ⟨(zs.take len).map fun z => UInt8.ofNat z.toNat, by simp; omega, ?_⟩
    by_cases h0 : len = 0
    · left; simp [h0]
    · right
      obtain ⟨g, o, sp⟩ := x
      have hc0 := hc 0 (by omega)
      have hsp : sp = none := by simpa [Addr.add] using World.cell?_spot hc0
      subst hsp
      refine ⟨g, o, rfl, ?_, fun j u hu => ?_⟩
      · have := World.block_lt_of_cell? w _ hc0
        simpa [add_plain] using this
      · by_cases hj : j < len
        · have hjz : j < zs.length := by omega
          have hcj := hc j hjz
          rw [add_plain] at hcj
          rw [hcj, ← hu]
          have hwj := hw zs[j] (List.getElem_mem hjz)
          have hb : 0 ≤ zs[j] ∧ zs[j] < 256 := by
            have := bounds_u8 hwj
            omega
          simp only [List.getElem?_map, List.getElem?_take, if_pos hj, List.getElem?_eq_getElem hjz, List.getD_eq_getElem?_getD, Option.getD_some, Option.map_some, B, UInt8.toNat_ofNat']
          congr 2
          omega
        · exfalso
          rw [List.getElem?_eq_none (by simp; omega)] at hu
          cases hu

theorem oneCell_B (bs : List UInt8) : ∀ u ∈ bs.map B, u.oneCell' = true := by
  intro u hu
  obtain ⟨b, _, rfl⟩ := List.mem_map.1 hu
  rfl

/-- The call answers a slice of bytes in memory of its own and a bool, and turns nothing that was there. -/
def MadeB2 (w : World) (r : List UInt8 × Bool) (en : Ending) (w' : World) : Prop :=
  ∃ A n c, en = .returned (.tuple #[.slice A n c, .bool r.2]) ∧ Own w' w.heap.size w'.heap.size 5 1 A n c (r.1.map B) ∧ Below w.heap.size w w'

end Go.Proofs.Ytegbnmlipajclaa

/-! One byte as a text. -/

namespace Go.Proofs.Ytegbnmlipajclaa

open Go.RowKit

end Go.Proofs.Ytegbnmlipajclaa

/-! Contracts of isNum and l01Num: whether an int is a number. -/

namespace Go.Proofs.Ytegbnmlipajclaa

open Go.RowKit

end Go.Proofs.Ytegbnmlipajclaa

/-! Slices of slices: where a part of a row of bytes lies, and how it is read. -/

namespace Go.Proofs.Ytegbnmlipajclaa

open Go.RowKit

/-- The address of s[l:..] of a slice at A with capacity c. -/
def cutA (A : Option Addr) (l c : Nat) : Option Addr := if c = l then A else A.map (·.add l)

theorem Seen.cut {w : World} {hi n : Nat} {A : Option Addr} {xs : List Value} (h : Seen w hi 1 A n xs) {l m c : Nat} (hl : l + m ≤ n) (hc : n ≤ c) : Seen w hi 1 (cutA A l c) m ((xs.drop l).take m) := by
  have hlen : xs.length = n := by simpa using h.1
  refine ⟨by simp [hlen]; omega, ?_⟩
  by_cases hm : m = 0
  · left; simp [hm]
  · right
    rcases h.2 with h0 | ⟨g, o, rfl, hg, hcell⟩
    · rw [h0] at hlen; simp at hlen; omega
    · refine ⟨g, o + l, ?_, hg, fun j u hu => ?_⟩
      · rw [cutA, if_neg (by omega)]
        simp [add_plain]
      · rw [List.getElem?_take] at hu
        split at hu
        · rw [List.getElem?_drop] at hu
          have := hcell (l + j) u hu
          rw [show o + l + j = o + (l + j) by omega]
          exact this
        · cases hu

section

variable {P : Program} {t e : TypeId} (ht : P.underlying t = some (.slice e)) (hz : ∀ w, (Go.sizeOf e).run P w = .ok 1 w) (W : World) (A : Option Addr) (n c : Nat)
include ht hz
theorem run_cut_lh (l h : Int) (h0 : 0 ≤ l) (h1 : l ≤ h) (h2 : h ≤ c) :
    (Instr.slice t (.slice A n c) (some (.int .i64 l)) (some (.int .i64 h)) none).run P W = .ok (.slice (cutA A l.toNat c) (h.toNat - l.toNat) (c - l.toNat)) W := by
  have ht' : P.underlying t = some (.slice (P.elem t)) := by simp [Program.elem, ht]
  have he : P.elem t = e := by simp [Program.elem, ht]
  rw [run_slice_lh W t _ _ _ ht' .i64 .i64 _ _ h0 h1 h2, he, hz]
  simp [Result.andThen, sliced, cutA]
theorem run_cut_h (h : Int) (h1 : 0 ≤ h) (h2 : h ≤ c) :
    (Instr.slice t (.slice A n c) none (some (.int .i64 h)) none).run P W = .ok (.slice (cutA A 0 c) h.toNat c) W := by
  have ht' : P.underlying t = some (.slice (P.elem t)) := by simp [Program.elem, ht]
  have he : P.elem t = e := by simp [Program.elem, ht]
  rw [run_slice_h W t _ _ _ ht' .i64 _ h1 h2, he, hz]
  simp [Result.andThen, sliced, cutA]
theorem run_cut_l (l : Int) (h0 : 0 ≤ l) (h1 : l ≤ n) :
    (Instr.slice t (.slice A n c) (some (.int .i64 l)) none none).run P W = .ok (.slice (cutA A l.toNat c) (n - l.toNat) (c - l.toNat)) W := by
  have ht' : P.underlying t = some (.slice (P.elem t)) := by simp [Program.elem, ht]
  have he : P.elem t = e := by simp [Program.elem, ht]
  rw [run_slice_l W t _ _ _ ht' .i64 _ h0 h1, he, hz]
  simp [Result.andThen, sliced, cutA]
end

theorem u8_size : ∀ w, (Go.sizeOf 5).run Try.prog w = .ok 1 w := fun _ => by kernel_rfl
end Go.Proofs.Ytegbnmlipajclaa

namespace Go.Proofs.Ytegbnmlipajclaa

open Go

section

variable {P : Program} {md : Region.Mode} {ops : Array Oper} {Q : Exit → Act → World → Prop}

/-- These operations may be taken one behind the other, and all hang on operation j's yes. -/
def skipsB (md : Region.Mode) (ops : Array Oper) (j : Nat) : Array Bool → List (Nat × Nat) → Bool
  | _, [] => true
  | listed, (i, d) :: is => (match ops[i]?, ops[j]? with | some o, some oj => o.guard == some (j, true) && (o.dst == some d && (match oj.dst with | some dj => d != dj | none => true)) | _, _ => false) &&
      (Region.free md ops listed i && ((Region.ready md ops listed).contains i && skipsB md ops j (listed.setIfInBounds i true) is))

/-- What is listed behind them, and the frame. -/
def skipL : Array Bool → List (Nat × Nat) → Array Bool
  | listed, [] => listed
  | listed, (i, _) :: is => skipL (listed.setIfInBounds i true) is
def skipA : Act → List (Nat × Nat) → Act
  | a, [] => a
  | a, (_, d) :: is => skipA (a.put (some d) undef) is

theorem yielded_put {j d : Nat} {a : Act} {oj : Oper} (hj : ops[j]? = some oj) (hd : (match oj.dst with | some dj => d != dj | none => true) = true) : yielded ops (a.put (some d) undef).tmps j = yielded ops a.tmps j := by
  unfold yielded
  rw [hj]
  cases hdj : oj.dst with
  | none => simp [hdj]
  | some dj =>
    rw [hdj] at hd
    have hne : d ≠ dj := by simpa using hd
    simp [hdj, Act.put, Array.getElem?_setIfInBounds_ne hne]

theorem wpAny_skips {j : Nat} (hs : Region.noSelect ops = true) (hQ : ∀ (d : Nat) (v : Value) c a w, Q (.panic c) (a.put (some d) v) w → Q (.panic c) a w) : ∀ (is : List (Nat × Nat)) {fuel : Nat} {listed : Array Bool} {a : Act} {w : World},
    skipsB md ops j listed is = true → yielded ops a.tmps j = some false → wpAny P md ops Q fuel (skipL listed is) (skipA a is) w → wpAny P md ops Q (fuel + is.length) listed a w
  | [], _, _, _, _, _, _, h => h
  | (i, d) :: is, fuel, listed, a, w, hb, hy, h => by
    unfold skipsB at hb
    simp only [Bool.and_eq_true] at hb
    obtain ⟨h1, h2, h3, h4⟩ := hb
    cases ho : ops[i]? with
    | none => rw [ho] at h1; simp at h1
    | some o =>
      cases hj : ops[j]? with
      | none => rw [ho, hj] at h1; simp at h1
      | some oj =>
        rw [ho, hj] at h1
        simp only [Bool.and_eq_true, beq_iff_eq] at h1
        obtain ⟨hg, hdst, hd⟩ := h1
        have hw : Region.wanted o (yielded ops a.tmps) = false := by
          unfold Region.wanted
          rw [hg]
          simp [hy]
        have hrec := wpAny_skips hs hQ is h4 (by rw [yielded_put hj hd, hy]) h
        have ht := wpAny_take (i := i) (oi := o) (v := undef) ho hs h2 h3 (fun c a w => by rw [hdst]; exact hQ d undef c a w) (Or.inr ⟨hw, rfl⟩) (by rw [hdst]; exact hrec)
        exact ht
end

end Go.Proofs.Ytegbnmlipajclaa

namespace Go.Proofs.Ytegbnmlipajclaa
set_option linter.unusedSimpArgs false
set_option linter.unusedVariables false
open Go.RowKit

theorem OwnR.grow {α : Type} {L : Lay α} {e : TypeId} {w : World} {F : Nat → Prop} {A : Option Addr} {n c : Nat} {xs : List α} (h : OwnR L e w F A n c xs) (hFw : ∀ g, F g → g < w.heap.size) :
    ∃ vs, Own w 0 w.heap.size e L.size A n c vs ∧ (∀ g, blkA A = some g → F g) ∧
      ∀ (E : Nat → Prop) (x : α) (us : List Value) (w' : World) (A' : Option Addr) (c' : Nat), L.own w E x us → us.length = L.size → (∀ g, E g → ¬ F g ∧ g < w.heap.size) → Own w' 0 w'.heap.size e L.size A' (n + 1) c' (vs ++ us) →
        (∀ k, k < w.heap.size → blkA A ≠ some k → w'.heap[k]? = w.heap[k]?) → (blkA A' = blkA A ∨ blkA A' = some w.heap.size) → w.heap.size ≤ w'.heap.size → OwnR L e w' (fun g => F g ∨ E g ∨ blkA A' = some g) A' (n + 1) c' (xs ++ [x]) := by
  obtain ⟨hl, vs, G, ho, hA, hel, hG, h1, h2⟩ := h
  refine ⟨vs, ho, hA, fun E x us w' A' c' hx hus hE how hk hA' hz => ?_⟩
  have hvl := ho.1.1
  have hnA : ∀ g, E g → blkA A ≠ some g := fun g hg hh => (hE g hg).1 (hA g hh)
  refine ⟨by simp [hl], vs ++ us, fun i => if i = n then E else G i, how, fun g hg => ?_, fun i y hy => ?_, fun i g hi hg => ?_, fun i g hi hg hh => ?_, fun i j g hij hj hg hg' => ?_⟩
  · exact .inr (.inr hg)
  · by_cases hin : i = n
    · subst hin
      simp only [if_true]
      rw [List.getElem?_append_right (by omega), hl, Nat.sub_self] at hy
      simp only [List.getElem?_cons_zero, Option.some.injEq] at hy
      subst hy
      rw [List.drop_append, List.drop_of_length_le (by omega), List.nil_append, hvl, Nat.sub_self, List.drop_zero, List.take_of_length_le (by omega)]
      exact L.stay hx (fun g hg _ => hk g (hE g hg).2 (hnA g hg)) hz
    · simp only [if_neg hin]
      have hin' : i < n := by
        have := (List.getElem?_eq_some_iff.1 hy).1
        simp [hl] at this
        omega
      rw [List.getElem?_append_left (by omega)] at hy
      have hle : (i + 1) * L.size ≤ n * L.size := Nat.mul_le_mul_right _ hin'
      rw [Nat.add_mul, Nat.one_mul] at hle
      rw [List.drop_append, show i * L.size - vs.length = 0 by omega, List.drop_zero, List.take_append_of_le_length (by rw [List.length_drop]; omega)]
      exact L.stay (hel i y hy) (fun g hg hlt => hk g hlt (h1 i g hin' hg)) hz
  · by_cases hin : i = n
    · simp only [if_pos hin] at hg; exact .inr (.inl hg)
    · simp only [if_neg hin] at hg; exact .inl (hG i g (by omega) hg)
  · by_cases hin : i = n
    · simp only [if_pos hin] at hg
      rcases hA' with h' | h'
      · rw [h'] at hh; exact hnA g hg hh
      · rw [h'] at hh; injection hh with hh; have := (hE g hg).2; omega
    · simp only [if_neg hin] at hg
      rcases hA' with h' | h'
      · rw [h'] at hh; exact h1 i g (by omega) hg hh
      · rw [h'] at hh; injection hh with hh; have := hFw g (hG i g (by omega) hg); omega
  · have hin : ¬ i = n := by omega
    simp only [if_neg hin] at hg
    by_cases hjn : j = n
    · simp only [if_pos hjn] at hg'
      exact (hE g hg').1 (hG i g (by omega) hg)
    · simp only [if_neg hjn] at hg'
      exact h2 i j g hij (by omega) hg hg'

theorem step_append_kin {P : Program} {w : World} {ops : Array Oper} {o : Oper} {a : Act} {K : Act → World → Prop} {Q : Exit → Act → World → Prop} {E : Prop} (hgd : o.guard = none) (s x : Operand) (t : TypeId)
    (ho : o.op = .call { callee := .builtin .append, args := #[s, x], argTypes := #[t, t] })
    (base hi : Nat) (e : TypeId) (i : TypeInfo) (z : Value) (size bytes : Nat) (ht : P.underlying t = some (.slice e)) (hi0 : P.info? e = some i) (hz : i.zero = some z)
    (hsize : i.size = size) (hby : i.bytes = bytes) (hzs : z.cells.size = size) (hsz : 0 < size)
    (A : Option Addr) (n c : Nat) (xs : List Value) (hs : a.eval s = .slice A n c) (hown : Own w base hi e size A n c xs)
    (hi' : Nat) (ad : Addr) (m c2 : Nat) (news : List Value) (hx : a.eval x = .slice (some ad) m c2) (hr : Seen w hi' size (some ad) m news) (h1 : ∀ u ∈ news, u.oneCell' = true)
    (hm : 0 < m) (h63 : n + m ≤ maxLen) (hbytes : (n + m) * bytes ≤ 140737488355328) (hbase : base ≤ w.heap.size)
    (h : ∀ A' c' w', Own w' base w'.heap.size e size A' (n + m) c' (xs ++ news) → Below base w w' → (∀ k, k < w.heap.size → blkA A ≠ some k → w'.heap[k]? = w.heap[k]?) →
      (blkA A' = blkA A ∨ blkA A' = some w.heap.size) → K (a.put o.dst (.slice A' (n + m) c')) w') :
    if Region.wanted o (yielded ops a.tmps) = true then Oper.wp P o a w K Q else E := by
  refine step_append_lies w hgd s x t ho base e i z size bytes ht hi0 hz hsize hby hzs hsz _ n xs hs hown.1 ad m c2 news hx hr.1 (hr.news rfl) h1 hm h63 hbytes hbase w.heap.size rfl ?_
  intro g cap w' h2 h3 h5 _
  obtain ⟨A', c', hv, ho'⟩ := Own.of_row (hi := w'.heap.size) h2 (Nat.le_refl _)
  injection hv with e2 _ e3
  subst e2 e3
  have e1 : ∀ (X : Option Addr) (p q : Nat), (Value.slice X p q).ownBlock = blkA X := fun X p q => by cases X <;> rfl
  rw [e1] at h3 h5
  refine h (some ⟨g, 0, none⟩) cap w' ho' ((Below.refl _ _).grown h3 hbase fun k hk => ?_) (fun k hk hne => h3.block k hk (fun e => hne e.symm)) ?_
  · exact (hown.blk hk).1
  · rcases h5 with h5 | h5
    · exact .inl h5.symm
    · exact .inr (by rw [h5]; rfl)

/-- Shut again with another element there, which may have blocks that the row did not have. -/
theorem OpenRow.shutWide {α : Type} {L : Lay α} {e : TypeId} {w : World} {F Gi Gi' : Nat → Prop} {n c i g : Nat} {xs : List α} {us : List Value} (h : OpenRow L e w F n c xs i g Gi us) {x' : α} (hx : L.own w Gi' x' us) (hG' : ∀ b, Gi' b → Gi b ∨ ¬ F b) :
    OwnR L e w (fun b => F b ∨ Gi' b) (some ⟨g, 0, none⟩) n c (xs.set i x') := by
  obtain ⟨vs, G, hown, hc, hG, hel, hF, h1, h2⟩ := h.rest
  subst hG
  refine ⟨by rw [List.length_set, h.len], vs, fun j => if j = i then Gi' else G j, hown, fun b hb => ?_, fun j y hy => ?_, fun j b hj hb => ?_, fun j b hj hb e1 => ?_, fun j k b hjk hk hb hb' => ?_⟩
  · obtain rfl : g = b := by simpa [blkA] using hb
    exact .inl h.here
  · by_cases hji : j = i
    · subst hji
      rw [List.getElem?_set_self (by rw [h.len]; exact h.lt)] at hy
      obtain rfl := Option.some.inj hy
      simp only [if_true]
      show L.own w Gi' x' (cutAt vs j L.size)
      rw [hc]
      exact hx
    · rw [List.getElem?_set_ne (fun e1 => hji e1.symm)] at hy
      simp only [if_neg hji]
      exact hel j y hji hy
  · by_cases hji : j = i
    · simp only [if_pos hji] at hb; exact .inr hb
    · simp only [if_neg hji] at hb; exact .inl (hF j b hj hb)
  · obtain rfl : g = b := by simpa [blkA] using e1
    by_cases hji : j = i
    · simp only [if_pos hji] at hb
      rcases hG' g hb with h3 | h3
      · exact h.not h3
      · exact h3 h.here
    · simp only [if_neg hji] at hb
      exact h1 j g hj hb rfl
  · by_cases hji : j = i
    · simp only [if_pos hji] at hb
      have hki : ¬ k = i := by omega
      simp only [if_neg hki] at hb'
      rcases hG' b hb with h3 | h3
      · exact h2 j k b hjk hk (by rw [hji]; exact h3) hb'
      · exact h3 (hF k b hk hb')
    · simp only [if_neg hji] at hb
      by_cases hki : k = i
      · simp only [if_pos hki] at hb'
        rcases hG' b hb' with h3 | h3
        · exact h2 j k b hjk hk hb (by rw [hki]; exact h3)
        · exact h3 (hF j b (by omega) hb)
      · simp only [if_neg hki] at hb'
        exact h2 j k b hjk hk hb hb'
end Go.Proofs.Ytegbnmlipajclaa

namespace Go.Proofs.Ytegbnmlipajclaa

open Go.RowKit

theorem int_info : (Try.prog.info? 3).map (fun i => (i.zero, i.size, i.bytes)) = some (some (.int .i64 0), 1, 8) := by kernel_rfl

end Go.Proofs.Ytegbnmlipajclaa
