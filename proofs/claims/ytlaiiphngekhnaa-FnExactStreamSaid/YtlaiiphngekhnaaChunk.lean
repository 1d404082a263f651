
/- Rows of chunks in memory: a row of slices, each with bytes in a block of its own. -/

import Derived.Test.YtlaiiphngekhnaaByteS

import Derived.Test.YtlaiiphngekhnaaLay

namespace Go.Proofs.Ytlaiiphngekhnaa

open Go.RowKit

def blkV : Value → Option Nat
  | .slice A _ _ => blkA A
  | _ => none

section

variable {w w' : World} {lo hi lo' hi' size n c : Nat} {e : TypeId} {A : Option Addr} {xs : List Value}

theorem Own.keepAt (h : Own w lo hi e size A n c xs) (hk : ∀ g, blkA A = some g → w'.heap[g]? = w.heap[g]?) : Own w' lo hi e size A n c xs := by
  refine ⟨⟨h.1.1, ?_⟩, h.2⟩
  rcases h.1.2 with hn | ⟨g, cap, cur, hv, hb, hg, rest⟩
  · exact .inl hn
  · refine .inr ⟨g, cap, cur, hv, hb, ?_, rest⟩
    injection hv with hA _ _
    rw [hk g (by rw [hA]; rfl)]; exact hg
/-- The same row, between the bounds of its own block alone. -/
theorem Own.narrow (h : Own w lo hi e size A n c xs) : ∃ l r, Own w l r e size A n c xs ∧ (blkA A = none ∧ l = r ∨ ∃ g, blkA A = some g ∧ l = g ∧ r = g + 1) := by
  rcases h.1.2 with ⟨hv, hn⟩ | ⟨g, cap, cur, hv, hb, hg, rest⟩
  · have hv' := hv
    injection hv' with hA _ _
    refine ⟨lo, lo, ⟨⟨h.1.1, .inl ⟨hv, hn⟩⟩, fun a ha => by rw [hA] at ha; cases ha⟩, .inl ⟨by rw [hA]; rfl, rfl⟩⟩
  · have hv' := hv
    injection hv' with hA _ _
    refine ⟨g, g + 1, ⟨⟨h.1.1, .inr ⟨g, cap, cur, hv, Nat.le_refl _, hg, rest⟩⟩, fun a ha => ?_⟩, .inr ⟨g, by rw [hA]; rfl, rfl, rfl⟩⟩
    rw [hA] at ha
    injection ha with ha
    subst ha
    simp
end

/-- append of cells that lie somewhere, onto a row of one's own: what else is there stays, and the row lies where it lay or in a new block. -/
theorem wpList_append_kin {P : Program} {w : World} {ops : Array Oper} {rest : List Oper} {o : Oper} {a : Act} {Q : Exit → Act → World → Prop} (hgd : o.guard = none) (s x : Operand) (t : TypeId)
    (ho : o.op = .call { callee := .builtin .append, args := #[s, x], argTypes := #[t, t] })
    (base hi : Nat) (e : TypeId) (i : TypeInfo) (z : Value) (size bytes : Nat) (ht : P.underlying t = some (.slice e)) (hi0 : P.info? e = some i) (hz : i.zero = some z)
    (hsize : i.size = size) (hby : i.bytes = bytes) (hzs : z.cells.size = size) (hsz : 0 < size)
    (A : Option Addr) (n c : Nat) (xs : List Value) (hs : a.eval s = .slice A n c) (hown : Own w base hi e size A n c xs)
    (hi' : Nat) (ad : Addr) (m c2 : Nat) (news : List Value) (hx : a.eval x = .slice (some ad) m c2) (hr : Seen w hi' size (some ad) m news) (h1 : ∀ u ∈ news, u.oneCell' = true)
    (h63 : n + m ≤ maxLen) (hbytes : (n + m) * bytes ≤ 140737488355328) (hbase : base ≤ w.heap.size)
    (h : ∀ A' c' w', Own w' base w'.heap.size e size A' (n + m) c' (xs ++ news) → Below base w w' → (∀ k, k < w.heap.size → blkA A ≠ some k → w'.heap[k]? = w.heap[k]?) →
      (blkA A' = blkA A ∨ blkA A' = some w.heap.size) → wpList P ops Q rest (a.put o.dst (.slice A' (n + m) c')) w') : wpList P ops Q (o :: rest) a w := by
  refine wpList_append_own_at (w := w) hgd s x t ho base e i z size bytes ht hi0 hz hsize hby hzs hsz _ n xs hs hown.1 ad m c2 news hx hr.1 (hr.news rfl) h1 h63 hbytes hbase ?_
  intro v' w' h2 h3 _ h5
  obtain ⟨A', c', hv, ho'⟩ := Own.of_row (hi := w'.heap.size) h2 (Nat.le_refl _)
  subst hv
  have e1 : ∀ (X : Option Addr) (p q : Nat), (Value.slice X p q).ownBlock = blkA X := fun X p q => by cases X <;> rfl
  rw [e1] at h3
  rw [e1, e1] at h5
  refine h A' c' w' ho' ((Below.refl _ _).grown h3 hbase fun k hk => ?_) (fun k hk hne => h3.block k hk (fun e => hne e.symm)) h5
  exact (hown.blk hk).1

/-- A row of chunks, every row of bytes in a block of its own, all between lo and hi. -/
def Chunks (w : World) (lo hi : Nat) (A : Option Addr) (n c : Nat) (ds : List (List UInt8)) : Prop :=
  ds.length = n ∧ ∃ vs : List Value, Own w lo hi 40 1 A n c vs ∧
    (∀ (i : Nat) (d : List UInt8), ds[i]? = some d → ∃ Ai ni ci, vs[i]? = some (Value.slice Ai ni ci) ∧ Own w lo hi 5 1 Ai ni ci (d.map B)) ∧
    (∀ (i g : Nat), vs[i]?.bind blkV = some g → blkA A ≠ some g) ∧
    (∀ (i j g : Nat), i < j → vs[i]?.bind blkV = some g → vs[j]?.bind blkV ≠ some g)

/-- A row of chunks that can be read. -/
def SeenC (w : World) (hi : Nat) (A : Option Addr) (n : Nat) (ds : List (List UInt8)) : Prop :=
  ds.length = n ∧ ∃ vs : List Value, Seen w hi 1 A n vs ∧ ∀ (i : Nat) (d : List UInt8), ds[i]? = some d → ∃ Ai ni ci, vs[i]? = some (Value.slice Ai ni ci) ∧ ni ≤ ci ∧ Seen w hi 1 Ai ni (d.map B)

section

variable {w w' : World} {lo hi lo' hi' n c : Nat} {A : Option Addr} {ds : List (List UInt8)}

theorem Chunks.below (h : Chunks w lo hi A n c ds) {b : Nat} (hb : Below b w w') (hB : hi ≤ b) : Chunks w' lo hi A n c ds := by
  obtain ⟨hl, vs, h1, h2, h3, h4⟩ := h
  exact ⟨hl, vs, h1.below hb hB, fun i d hd => let ⟨Ai, ni, ci, e, o⟩ := h2 i d hd; ⟨Ai, ni, ci, e, o.below hb hB⟩, h3, h4⟩
theorem Chunks.turned (h : Chunks w lo hi A n c ds) {l r : Nat} (hb : Turned l r w w') (hB : hi ≤ l ∨ r ≤ lo) : Chunks w' lo hi A n c ds := by
  obtain ⟨hl, vs, h1, h2, h3, h4⟩ := h
  exact ⟨hl, vs, h1.turned hb hB, fun i d hd => let ⟨Ai, ni, ci, e, o⟩ := h2 i d hd; ⟨Ai, ni, ci, e, o.turned hb hB⟩, h3, h4⟩
theorem Chunks.wider (h : Chunks w lo hi A n c ds) (h1 : lo' ≤ lo) (h2 : hi ≤ hi') : Chunks w lo' hi' A n c ds := by
  obtain ⟨hl, vs, a1, a2, a3, a4⟩ := h
  exact ⟨hl, vs, a1.wider h1 h2, fun i d hd => let ⟨Ai, ni, ci, e, o⟩ := a2 i d hd; ⟨Ai, ni, ci, e, o.wider h1 h2⟩, a3, a4⟩
theorem Chunks.nil_ (w : World) (lo hi : Nat) : Chunks w lo hi none 0 0 [] := ⟨rfl, [], Own.nil_ _ _ _ _ _, fun i d hd => by simp at hd, fun i g hg => by simp at hg, fun i j g _ hg => by simp at hg⟩
theorem Chunks.seen (h : Chunks w lo hi A n c ds) : SeenC w hi A n ds := by
  obtain ⟨hl, vs, a1, a2, a3, a4⟩ := h
  exact ⟨hl, vs, a1.seen, fun i d hd => let ⟨Ai, ni, ci, e, o⟩ := a2 i d hd; ⟨Ai, ni, ci, e, o.cap, o.seen⟩⟩
theorem Chunks.len (h : Chunks w lo hi A n c ds) : ds.length = n := h.1
theorem SeenC.below (h : SeenC w hi A n ds) {b : Nat} (hb : Below b w w') (hB : hi ≤ b) : SeenC w' hi A n ds := by
  obtain ⟨hl, vs, h1, h2⟩ := h
  exact ⟨hl, vs, h1.below hb hB, fun i d hd => let ⟨Ai, ni, ci, e, hc, o⟩ := h2 i d hd; ⟨Ai, ni, ci, e, hc, o.below hb hB⟩⟩

theorem chunks_pushed {w2 w3 : World} {hi0 : Nat} {vs : List Value} {Ad A' : Option Addr} {nd cd c' : Nat} {d : List UInt8} (hl : ds.length = n)
    (hel : ∀ (i : Nat) (d : List UInt8), ds[i]? = some d → ∃ Ai ni ci, vs[i]? = some (Value.slice Ai ni ci) ∧ Own w2 lo hi0 5 1 Ai ni ci (d.map B))
    (hrow : Own w2 lo hi0 40 1 A n c vs)
    (ha : ∀ (i g : Nat), vs[i]?.bind blkV = some g → blkA A ≠ some g) (hp : ∀ (i j g : Nat), i < j → vs[i]?.bind blkV = some g → vs[j]?.bind blkV ≠ some g)
    (hd : Own w2 hi0 w2.heap.size 5 1 Ad nd cd (d.map B)) (h2 : hi0 ≤ w2.heap.size) (hlo : lo ≤ hi0)
    (own3 : Own w3 lo w3.heap.size 40 1 A' (n + 1) c' (vs ++ [.slice Ad nd cd]))
    (keep : ∀ k, k < w2.heap.size → blkA A ≠ some k → w3.heap[k]? = w2.heap[k]?) (hA' : blkA A' = blkA A ∨ blkA A' = some w2.heap.size) (hz : w2.heap.size ≤ w3.heap.size) :
    Chunks w3 lo w3.heap.size A' (n + 1) c' (ds ++ [d]) := by
  have hvl : vs.length = n := by have := hrow.1.1; simpa using this
  have hold : ∀ (i g : Nat), vs[i]?.bind blkV = some g → g < hi0 := by
    intro i g hg
    by_cases hi : i < ds.length
    · obtain ⟨Ai, ni, ci, e, o⟩ := hel i _ (List.getElem?_eq_getElem hi)
      rw [e] at hg
      exact (o.blk hg).2.1
    · rw [List.getElem?_eq_none (by omega)] at hg; cases hg
  have hrb : ∀ g, blkA A = some g → g < hi0 := fun g hg => (hrow.blk hg).2.1
  have hget : ∀ (i : Nat), (vs ++ [Value.slice Ad nd cd])[i]?.bind blkV = (if i < n then vs[i]?.bind blkV else if i = n then blkA Ad else none) := by
    intro i
    rw [List.getElem?_append]
    by_cases h : i < n
    · rw [if_pos (by omega), if_pos h]
    · rw [if_neg (by omega), if_neg h]
      by_cases h' : i = n
      · rw [if_pos h', show i - vs.length = 0 by omega]; rfl
      · rw [if_neg h', List.getElem?_eq_none (by simp; omega)]; rfl
  refine ⟨by simp [hl], vs ++ [.slice Ad nd cd], own3, ?_, ?_, ?_⟩
  · intro i x hx
    rw [List.getElem?_append] at hx
    split at hx
    · rename_i hi
      obtain ⟨Ai, ni, ci, e, o⟩ := hel i x hx
      refine ⟨Ai, ni, ci, by rw [List.getElem?_append, if_pos (by omega)]; exact e, ?_⟩
      refine (o.keepAt fun g hg => keep g (o.blk hg).2.2 (ha i g (by rw [e]; exact hg))).wider (Nat.le_refl _) (by omega)
    · rename_i hi
      by_cases hin : i - ds.length = 0
      · rw [hin] at hx
        have hx' : d = x := by simpa using hx
        subst hx'
        refine ⟨Ad, nd, cd, by rw [List.getElem?_append, if_neg (by omega), show i - vs.length = 0 by omega]; rfl, ?_⟩
        refine (hd.keepAt fun g hg => keep g (hd.blk hg).2.2 fun hh => ?_).wider hlo hz
        have := hrb g hh
        have := (hd.blk hg).1
        omega
      · rw [List.getElem?_eq_none (by simp; omega)] at hx; cases hx
  · intro i g hg hh
    rw [hget] at hg
    have hlt : g < w2.heap.size := by
      split at hg
      · have := hold i g hg; omega
      · split at hg
        · exact (hd.blk hg).2.2
        · cases hg
    rcases hA' with hA' | hA'
    · rw [hA'] at hh
      split at hg
      · exact ha i g hg hh
      · split at hg
        · have := hrb g hh
          have := (hd.blk hg).1
          omega
        · cases hg
    · rw [hA'] at hh
      injection hh with hh
      omega
  · intro i j g hij hg hh
    rw [hget] at hg hh
    split at hh
    · rw [if_pos (by omega)] at hg
      exact hp i j g hij hg hh
    · split at hh
      · rw [if_pos (by omega)] at hg
        have := hold i g hg
        have := (hd.blk hh).1
        omega
      · cases hh
end

theorem chunk_info : (Try.prog.info? 40).map (fun i => (i.zero, i.size, i.bytes)) = some (some (.agg #[.slice none 0 0]), 1, 24) := by kernel_rfl
end Go.Proofs.Ytlaiiphngekhnaa
