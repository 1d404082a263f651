
/- How data of a Lean type lie in cells and in memory: readable (see), in memory of their own (own); rows of them; how they come out of what the form reads of an argument (Opens). No program is named here. -/

import Derived.Test.YtllkbikhclfgpaaDoorWords

import Derived.Deep.Slices

import Derived.Deep.Fields

import Derived.ChangeSame

import Derived.OpenShut

import Derived.Lib.Hide

namespace Go.Proofs.YtllkbikhclfgpaaDoor

open Go.RowKit Go.ChangeShapes Go.WideShapes Go.Deep

def blkA (A : Option Addr) : Option Nat := A.map (·.block)

section

variable {w w' : World} {lo hi lo' hi' size n c : Nat} {e : TypeId} {A : Option Addr} {xs : List Value}

theorem Own.keepBlk (h : Own w lo hi e size A n c xs) (hk : ∀ g, blkA A = some g → g < w.heap.size → w'.heap[g]? = w.heap[g]?) : Own w' lo hi e size A n c xs := by
  refine ⟨⟨h.1.1, ?_⟩, h.2⟩
  rcases h.1.2 with hn | ⟨g, cap, cur, hv, hb, hg, rest⟩
  · exact .inl hn
  · refine .inr ⟨g, cap, cur, hv, hb, ?_, rest⟩
    injection hv with hA _ _
    rw [hk g (by rw [hA]; rfl) (h.lt _ hA).2.2]; exact hg
theorem Own.blk (h : Own w lo hi e size A n c xs) {g : Nat} (hg : blkA A = some g) : lo ≤ g ∧ g < hi ∧ g < w.heap.size := by
  obtain ⟨a, ha, rfl⟩ := Option.map_eq_some_iff.1 hg
  exact h.lt a ha
theorem Own.capMax (h : Own w lo hi e size A n c xs) : c ≤ maxLen := by
  rcases h.1.2 with ⟨hv, _⟩ | ⟨g, cap, cur, hv, _, _, _, hm, _⟩
  · injection hv with _ _ hc; omega
  · injection hv with _ _ hc; omega
/-- The bounds may be any round the row's own block. -/
theorem Own.rebound (h : Own w lo hi e size A n c xs) (hb : ∀ g, blkA A = some g → lo' ≤ g ∧ g < hi') : Own w lo' hi' e size A n c xs := by
  refine ⟨⟨h.1.1, ?_⟩, fun a ha => (hb a.block (by rw [ha]; rfl)).2⟩
  rcases h.1.2 with hn | ⟨g, cap, cur, hv, _, rest⟩
  · exact .inl hn
  · refine .inr ⟨g, cap, cur, hv, ?_, rest⟩
    injection hv with hA _ _
    exact (hb g (by rw [hA]; rfl)).1
end

/-- How data of type α lie: in so many cells; readable below a bound; in blocks of their own, which F holds. -/
structure Lay (α : Type) where
  size : Nat
  see : World → Nat → α → List Value → Prop
  own : World → (Nat → Prop) → α → List Value → Prop
  len : ∀ {w hi x vs}, see w hi x vs → vs.length = size
  keep : ∀ {w w' hi x vs}, see w hi x vs → (∀ k, k < hi → w'.heap[k]? = w.heap[k]?) → see w' hi x vs
  more : ∀ {w hi hi' x vs}, see w hi x vs → hi ≤ hi' → see w hi' x vs
  seen : ∀ {w F x vs hi}, own w F x vs → (∀ g, F g → g < hi) → see w hi x vs
  stay : ∀ {w w' F x vs}, own w F x vs → (∀ g, F g → g < w.heap.size → w'.heap[g]? = w.heap[g]?) → w.heap.size ≤ w'.heap.size → own w' F x vs
  wide : ∀ {w F F' x vs}, own w F x vs → (∀ g, F g → F' g) → own w F' x vs

section

variable {α β γ : Type}

/-- Data that lie in their cells alone. -/
def Lay.flat (size : Nat) (cells : α → List Value) (wf : α → Prop) (hl : ∀ x, (cells x).length = size) : Lay α where
  size := size
  see _ _ x vs := vs = cells x ∧ wf x
  own _ _ x vs := vs = cells x ∧ wf x
  len h := by rw [h.1, hl]
  keep h _ := h
  more h _ := h
  seen h _ := h
  stay h _ _ := h
  wide h _ := h

/-- A row of n elements that can be read behind A. -/
def SeenR (L : Lay α) (w : World) (hi : Nat) (A : Option Addr) (n : Nat) (xs : List α) : Prop :=
  xs.length = n ∧ (xs = [] ∨ ∃ g o, A = some ⟨g, o, none⟩ ∧ g < hi ∧ ∃ f : Nat → List Value, ∀ i x, xs[i]? = some x → L.see w hi x (f i) ∧ ∀ j u, (f i)[j]? = some u → w.cell? ⟨g, o + (i * L.size + j), none⟩ = some u)

/-- A row in a block of its own, its elements in blocks of theirs. -/
def OwnR (L : Lay α) (e : TypeId) (w : World) (F : Nat → Prop) (A : Option Addr) (n c : Nat) (xs : List α) : Prop :=
  xs.length = n ∧ ∃ (vs : List Value) (G : Nat → Nat → Prop), Own w 0 w.heap.size e L.size A n c vs ∧ (∀ g, blkA A = some g → F g) ∧
    (∀ i x, xs[i]? = some x → L.own w (G i) x ((vs.drop (i * L.size)).take L.size)) ∧ (∀ i g, i < n → G i g → F g) ∧
    (∀ i g, i < n → G i g → blkA A ≠ some g) ∧ ∀ i j g, i < j → j < n → G i g → ¬ G j g

variable {L : Lay α} {w w' : World} {hi hi' n c : Nat} {A : Option Addr} {xs : List α} {e : TypeId} {F F' : Nat → Prop}

theorem SeenR.keep (h : SeenR L w hi A n xs) (hk : ∀ k, k < hi → w'.heap[k]? = w.heap[k]?) : SeenR L w' hi A n xs := by
  refine ⟨h.1, h.2.imp id fun ⟨g, o, e, hg, f, hf⟩ => ⟨g, o, e, hg, f, fun i x hx => ⟨L.keep (hf i x hx).1 hk, fun j u hu => ?_⟩⟩⟩
  exact (World.cell?_of_block (w := w) (w' := w') (a := ⟨g, o + (i * L.size + j), none⟩) (hk g hg)).trans ((hf i x hx).2 j u hu)
theorem SeenR.more (h : SeenR L w hi A n xs) (hh : hi ≤ hi') : SeenR L w hi' A n xs :=
  ⟨h.1, h.2.imp id fun ⟨g, o, e, hg, f, hf⟩ => ⟨g, o, e, by omega, f, fun i x hx => ⟨L.more (hf i x hx).1 hh, (hf i x hx).2⟩⟩⟩
theorem SeenR.below (h : SeenR L w hi A n xs) {B : Nat} (hb : Below B w w') (hB : hi ≤ B) : SeenR L w' hi A n xs := h.keep fun k hk => hb.block k (by omega)
theorem SeenR.nil_ : SeenR L w hi A 0 ([] : List α) := ⟨rfl, .inl rfl⟩
theorem SeenR.at_ (h : SeenR L w hi A n xs) {i : Nat} (hi' : i < n) : ∃ (hx : i < xs.length) (g o : Nat) (vs : List Value), A = some ⟨g, o, none⟩ ∧ g < hi ∧ L.see w hi xs[i] vs ∧ ∀ j u, vs[j]? = some u → w.cell? ⟨g, o + (i * L.size + j), none⟩ = some u := by
  have hl : i < xs.length := by rw [h.1]; exact hi'
  refine ⟨hl, ?_⟩
  rcases h.2 with h0 | ⟨g, o, e, hg, f, hf⟩
  · rw [h0] at hl; simp at hl
  · exact ⟨g, o, f i, e, hg, hf i _ (List.getElem?_eq_getElem hl)⟩

theorem OwnR.seen (h : OwnR L e w F A n c xs) (hF : ∀ g, F g → g < hi) : SeenR L w hi A n xs := by
  obtain ⟨hl, vs, G, ho, hA, hel, hG, _, _⟩ := h
  refine ⟨hl, ?_⟩
  rcases ho.1.2 with ⟨_, hn⟩ | ⟨g, cap, cur, hv, hb, hg, hnc, hm, hs, ht⟩
  · left; exact List.length_eq_zero_iff.1 (hl.trans hn)
  · injection hv with hA' _ _
    have hgF := hA g (by rw [hA']; rfl)
    refine .inr ⟨g, 0, hA', hF g hgF, fun i => (vs.drop (i * L.size)).take L.size, fun i x hx => ?_⟩
    have hin : i < n := by rw [← hl]; exact (List.getElem?_eq_some_iff.1 hx).1
    refine ⟨L.seen (hel i x hx) fun g' hg' => hF g' (hG i g' hin hg'), fun j u hu => ?_⟩
    rw [List.getElem?_take] at hu
    split at hu
    · rw [List.getElem?_drop] at hu
      have := ho.1.cells (g := g) (by rw [hA']; rfl) (i * L.size + j) u hu
      rwa [add_plain] at this
    · cases hu
theorem OwnR.stay (h : OwnR L e w F A n c xs) (hk : ∀ g, F g → g < w.heap.size → w'.heap[g]? = w.heap[g]?) (hz : w.heap.size ≤ w'.heap.size) : OwnR L e w' F A n c xs := by
  obtain ⟨hl, vs, G, ho, hA, hel, hG, h1, h2⟩ := h
  refine ⟨hl, vs, G, ?_, hA, fun i x hx => L.stay (hel i x hx) (fun g hg => hk g ?_) hz, hG, h1, h2⟩
  · exact (ho.keepBlk fun g hg hlt => hk g (hA g hg) hlt).rebound fun g hg => ⟨Nat.zero_le _, Nat.lt_of_lt_of_le (ho.blk hg).2.2 hz⟩
  · exact hG i g (by rw [← hl]; exact (List.getElem?_eq_some_iff.1 hx).1) hg
theorem OwnR.wide (h : OwnR L e w F A n c xs) (hF : ∀ g, F g → F' g) : OwnR L e w F' A n c xs := by
  obtain ⟨hl, vs, G, ho, hA, hel, hG, h1, h2⟩ := h
  exact ⟨hl, vs, G, ho, fun g hg => hF g (hA g hg), hel, fun i g hi hg => hF g (hG i g hi hg), h1, h2⟩

/-- A slice whose elements lie so. -/
def Lay.slice (L : Lay α) (e : TypeId) : Lay (List α) where
  size := 1
  see w hi xs vs := ∃ A n c, vs = [.slice A n c] ∧ n ≤ c ∧ c ≤ maxLen ∧ SeenR L w hi A n xs
  own w F xs vs := ∃ A n c, vs = [.slice A n c] ∧ OwnR L e w F A n c xs
  len h := by obtain ⟨A, n, c, rfl, _⟩ := h; rfl
  keep h hk := by obtain ⟨A, n, c, e, hc, hm, h⟩ := h; exact ⟨A, n, c, e, hc, hm, h.keep hk⟩
  more h hh := by obtain ⟨A, n, c, e, hc, hm, h⟩ := h; exact ⟨A, n, c, e, hc, hm, h.more hh⟩
  seen h hF := by
    obtain ⟨A, n, c, e, h⟩ := h
    obtain ⟨hl, vs, G, ho, r⟩ := h
    exact ⟨A, n, c, e, ho.cap, ho.capMax, OwnR.seen ⟨hl, vs, G, ho, r⟩ hF⟩
  stay h hk hz := by obtain ⟨A, n, c, e, h⟩ := h; exact ⟨A, n, c, e, h.stay hk hz⟩
  wide h hF := by obtain ⟨A, n, c, e, h⟩ := h; exact ⟨A, n, c, e, h.wide hF⟩

/-- Two data side by side. -/
def Lay.pair (L : Lay α) (M : Lay β) : Lay (α × β) where
  size := L.size + M.size
  see w hi x vs := ∃ v1 v2, vs = v1 ++ v2 ∧ L.see w hi x.1 v1 ∧ M.see w hi x.2 v2
  own w F x vs := ∃ v1 v2 F1 F2, vs = v1 ++ v2 ∧ L.own w F1 x.1 v1 ∧ M.own w F2 x.2 v2 ∧ (∀ g, F1 g → F g) ∧ (∀ g, F2 g → F g) ∧ ∀ g, F1 g → ¬ F2 g
  len h := by obtain ⟨v1, v2, rfl, a, b⟩ := h; rw [List.length_append, L.len a, M.len b]
  keep h hk := by obtain ⟨v1, v2, e, a, b⟩ := h; exact ⟨v1, v2, e, L.keep a hk, M.keep b hk⟩
  more h hh := by obtain ⟨v1, v2, e, a, b⟩ := h; exact ⟨v1, v2, e, L.more a hh, M.more b hh⟩
  seen h hF := by obtain ⟨v1, v2, F1, F2, e, a, b, h1, h2, _⟩ := h; exact ⟨v1, v2, e, L.seen a fun g hg => hF g (h1 g hg), M.seen b fun g hg => hF g (h2 g hg)⟩
  stay h hk hz := by obtain ⟨v1, v2, F1, F2, e, a, b, h1, h2, h3⟩ := h; exact ⟨v1, v2, F1, F2, e, L.stay a (fun g hg => hk g (h1 g hg)) hz, M.stay b (fun g hg => hk g (h2 g hg)) hz, h1, h2, h3⟩
  wide h hF := by obtain ⟨v1, v2, F1, F2, e, a, b, h1, h2, h3⟩ := h; exact ⟨v1, v2, F1, F2, e, a, b, fun g hg => hF g (h1 g hg), fun g hg => hF g (h2 g hg), h3⟩

/-- Data that lie as their image does. -/
def Lay.via (L : Lay α) (f : γ → α) : Lay γ where
  size := L.size
  see w hi x vs := L.see w hi (f x) vs
  own w F x vs := L.own w F (f x) vs
  len h := L.len h
  keep h hk := L.keep h hk
  more h hh := L.more h hh
  seen h hF := L.seen h hF
  stay h hk hz := L.stay h hk hz
  wide h hF := L.wide h hF

/-- What the form reads at type t lies as L says. -/
def Opens (P : Program) (t : TypeId) (L : Lay α) : Prop :=
  L.size = P.cellsOf t ∧ ∀ {H : Type} {enc : TypeId × Value → H} {w : World} {base : Nat} {spare : Nat → Bool} {held : Bool} {fuel : Nat} {cs : List Value} {x : DataW H × List MemPlace},
    DataW.trod enc P w base spare held fuel t cs = some x → ∃ a, L.see w w.heap.size a cs

theorem opens_via {P : Program} {t : TypeId} {L : Lay α} (f : γ → α) (hf : ∀ a, ∃ x, f x = a) (h : Opens P t L) : Opens P t (L.via f) :=
  ⟨h.1, fun ht => by obtain ⟨a, ha⟩ := h.2 ht; obtain ⟨x, rfl⟩ := hf a; exact ⟨x, ha⟩⟩

theorem opens_int {P : Program} {t : TypeId} {k : IntKind} (ht : P.underlying t = some (.int k)) (hc : P.cellsOf t = 1) :
    Opens P t (Lay.flat 1 (fun z => [.int k z]) (fun z => (Lit.int k z).wf = true) (fun _ => rfl)) :=
  ⟨hc.symm, fun h => by obtain ⟨n, rfl, _, hw⟩ := DataW.trod_int ht h; exact ⟨n, rfl, hw⟩⟩
theorem opens_bool {P : Program} {t : TypeId} (ht : P.underlying t = some .bool) (hc : P.cellsOf t = 1) :
    Opens P t (Lay.flat 1 (fun b => [.bool b]) (fun _ => True) (fun _ => rfl)) :=
  ⟨hc.symm, fun h => by obtain ⟨n, rfl, _⟩ := DataW.trod_bool ht h; exact ⟨n, rfl, trivial⟩⟩

theorem opens_slice {P : Program} {t e e' : TypeId} {L : Lay α} (ht : P.underlying t = some (.slice e)) (hc : P.cellsOf t = 1) (hs : 0 < L.size) (hL : Opens P e L) : Opens P t (L.slice e') := by
  refine ⟨hc.symm, fun {H enc w base spare held fuel cs x} h => ?_⟩
  rcases open_slice ht h with ⟨rfl, _⟩ | ⟨a, len, cap, m, n, D, Pl, rfl, hb, hl, hm, hmm, _, hi⟩
  · exact ⟨[], none, 0, 0, rfl, Nat.le_refl _, Nat.zero_le _, SeenR.nil_⟩
  · have hlm : len ≤ m := by rw [hmm]; split <;> omega
    have hel : ∀ i, i < len → ∃ (y : α) (cs' : List Value), L.see w w.heap.size y cs' ∧ cs'.length = L.size ∧ ∀ j, j < L.size → w.cell? ((a.add (i * L.size)).add j) = cs'[j]? := by
      intro i hil
      obtain ⟨cs', hcs, htr⟩ := hi i (by omega)
      obtain ⟨y, hy⟩ := hL.2 htr
      obtain ⟨_, hcl, hat⟩ := World.cells?_some hcs
      rw [← hL.1] at hat hcl
      exact ⟨y, cs', hy, hcl, hat⟩
    by_cases h0 : len = 0
    · subst h0
      exact ⟨[], some a, 0, cap, rfl, hl, hm, SeenR.nil_⟩
    · obtain ⟨Y, C, hYC⟩ : ∃ (Y : Nat → α) (C : Nat → List Value), ∀ i, i < len → L.see w w.heap.size (Y i) (C i) ∧ (C i).length = L.size ∧ ∀ j, j < L.size → w.cell? ((a.add (i * L.size)).add j) = (C i)[j]? :=
        ⟨fun i => if h : i < len then (hel i h).choose else (hel 0 (by omega)).choose, fun i => if h : i < len then (hel i h).choose_spec.choose else [], fun i hi => by
          simp only [dif_pos hi]; exact (hel i hi).choose_spec.choose_spec⟩
      refine ⟨(List.range len).map Y, some a, len, cap, rfl, hl, hm, by simp, .inr ?_⟩
      obtain ⟨g, o, sp⟩ := a
      obtain ⟨_, hl0, h00⟩ := hYC 0 (by omega)
      have hc0 := h00 0 hs
      rw [List.getElem?_eq_getElem (by omega)] at hc0
      have hsp : sp = none := by simpa [Addr.add] using World.cell?_spot hc0
      subst hsp
      refine ⟨g, o, rfl, ?_, C, fun i x hx => ?_⟩
      · have := World.block_lt_of_cell? w _ hc0
        simpa [add_plain] using this
      · have hil : i < len := by
          have := (List.getElem?_eq_some_iff.1 hx).1
          simpa using this
        obtain rfl : Y i = x := by simpa [hil] using hx
        refine ⟨(hYC i hil).1, fun j u hu => ?_⟩
        have hj : j < L.size := by rw [← (hYC i hil).2.1]; exact (List.getElem?_eq_some_iff.1 hu).1
        have := (hYC i hil).2.2 j hj
        rw [add_plain, add_plain, hu, Nat.add_assoc] at this
        exact this

/-- Fields that lie one behind the other from o on. -/
inductive LaysF (P : Program) : List Field → Nat → {α : Type} → Lay α → Prop
  | one {α : Type} {f : Field} {o : Nat} {L : Lay α} : f.offset = o → Opens P f.type L → LaysF P [f] o L
  | cons {α β : Type} {f : Field} {fs : List Field} {o : Nat} {L : Lay α} {M : Lay β} : f.offset = o → Opens P f.type L → LaysF P fs (o + L.size) M → LaysF P (f :: fs) o (L.pair M)

theorem laysF_see {P : Program} {w : World} {cs : List Value} {H : Type} {enc : TypeId × Value → H} {base : Nat} {spare : Nat → Bool} {held : Bool} {n : Nat} {fs : List Field} {o : Nat} {α : Type} {L : Lay α} (h : LaysF P fs o L)
    (hf : ∀ (j : Nat) (f : Field), fs[j]? = some f → ∃ y, DataW.trod enc P w base spare held n f.type ((cs.drop f.offset).take (P.cellsOf f.type)) = some y) : ∃ a, L.see w w.heap.size a ((cs.drop o).take L.size) := by
  induction h with
  | one ho hL =>
    obtain ⟨y, hy⟩ := hf 0 _ rfl
    rw [ho, ← hL.1] at hy
    exact hL.2 hy
  | cons ho hL hr ih =>
    rename_i L1 M1
    obtain ⟨y, hy⟩ := hf 0 _ rfl
    rw [ho, ← hL.1] at hy
    obtain ⟨a, ha⟩ := hL.2 hy
    obtain ⟨b, hb⟩ := ih fun j f hj => hf (j + 1) f (by simpa using hj)
    refine ⟨(a, b), _, _, ?_, ha, hb⟩
    show (cs.drop _).take (L1.size + M1.size) = _
    rw [List.take_add, List.drop_drop]

theorem opens_struct {P : Program} {t : TypeId} {fs : Array Field} {L : Lay α} (ht : P.underlying t = some (.struct fs)) (hc : P.cellsOf t = L.size) (h : LaysF P fs.toList 0 L) : Opens P t L := by
  refine ⟨hc.symm, fun {H enc w base spare held fuel cs x} hx => ?_⟩
  obtain ⟨xs, n, rfl, _, hl, hlen, hf⟩ := DataW.trod_struct ht hx
  obtain ⟨a, ha⟩ := laysF_see h (cs := cs) (w := w) (enc := enc) (base := base) (spare := spare) (held := held) (n := n) fun j f hj => by
    have h1 := hf j f (by simpa using hj)
    have hjl : j < xs.length := by
      rw [hlen]
      have := (List.getElem?_eq_some_iff.1 hj).1
      simpa using this
    exact ⟨_, h1.trans (List.getElem?_eq_getElem hjl)⟩
  refine ⟨a, ?_⟩
  have hh : cs.length = L.size := by rw [← hc]; exact hl
  rwa [List.drop_zero, ← hh, List.take_length] at ha

/-- An argument of an opened type. -/
theorem Opens.arg {P : Program} {t : TypeId} {L : Lay α} (h : Opens P t L) {H : Type} {enc : TypeId × Value → H} {w : World} {base : Nat} {spare : Nat → Bool} {held : Bool} {v : Value} {d : DataW H} {p : List MemPlace}
    (hv : DataW.Trod enc P w base spare held t v d p) : ∃ a, L.see w w.heap.size a v.cells.toList := by
  obtain ⟨fuel, hf⟩ := hv
  exact h.2 hf

/-- A byte. -/
def Lay.byte : Lay UInt8 := Lay.flat 1 (fun b => [.int .u8 (b.toNat : Int)]) (fun _ => True) (fun _ => rfl)
theorem opens_byte {P : Program} {t : TypeId} (ht : P.underlying t = some (.int .u8)) (hc : P.cellsOf t = 1) : Opens P t Lay.byte := by
  refine ⟨hc.symm, fun h => ?_⟩
  obtain ⟨n, rfl, _, hw⟩ := DataW.trod_int ht h
  have hb : 0 ≤ n ∧ n < 256 := by have := bounds_u8 hw; omega
  refine ⟨UInt8.ofNat n.toNat, ?_, trivial⟩
  simp only [UInt8.toNat_ofNat']
  congr 2
  omega

/-- An int; a bool. -/
def Lay.int : Lay Int := Lay.flat 1 (fun z => [.int .i64 z]) (fun z => (Lit.int .i64 z).wf = true) (fun _ => rfl)
def Lay.bool : Lay Bool := Lay.flat 1 (fun b => [.bool b]) (fun _ => True) (fun _ => rfl)
/-- What lies so lies otherwise, too. -/
theorem Opens.to {P : Program} {t : TypeId} {L : Lay α} {M : Lay β} (h : Opens P t L) (hs : M.size = L.size) (hto : ∀ (w : World) (hi : Nat) (a : α) (vs : List Value), L.see w hi a vs → ∃ b, M.see w hi b vs) : Opens P t M :=
  ⟨hs.trans h.1, fun ht => by obtain ⟨a, ha⟩ := h.2 ht; exact hto _ _ _ _ ha⟩
end

end Go.Proofs.YtllkbikhclfgpaaDoor
