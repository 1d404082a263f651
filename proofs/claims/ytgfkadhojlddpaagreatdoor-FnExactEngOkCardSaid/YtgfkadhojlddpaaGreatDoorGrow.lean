
/- A row of data with blocks of their own that grows by one element, told with the very cells that it holds (OwnR.grow); append at a step of a region that draws its order (step_append_kin). No program is named here. -/

import Derived.Test.YtgfkadhojlddpaaGreatDoorBase

import Derived.Deep.AppendLies

namespace Go.Proofs.YtgfkadhojlddpaaGreatDoor
set_option linter.unusedSimpArgs false
set_option linter.unusedVariables false
open Go.RowKit

theorem OwnR.grow {α : Type} {L : Lay α} {e : TypeId} {w : World} {F : Nat → Prop} {A : Option Addr} {n c : Nat} {xs : List α} (h : OwnR L e w F A n c xs) (hFw : ∀ g, F g → g < w.heap.size) :
    ∃ vs, Own w 0 w.heap.size e L.size A n c vs ∧ (∀ g, blkA A = some g → F g) ∧
      ∀ (E : Nat → Prop) (x : α) (us : List Value) (w' : World) (A' : Option Addr) (c' : Nat), L.own w E x us → us.length = L.size → (∀ g, E g → ¬ F g ∧ g < w.heap.size) → Own w' 0 w'.heap.size e L.size A' (n + 1) c' (vs ++ us) →
        (∀ k, k < w.heap.size → blkA A ≠ some k → w'.heap[k]? = w.heap[k]?) → (blkA A' = blkA A ∨ blkA A' = some w.heap.size) → w.heap.size ≤ w'.heap.size → OwnR L e w' (fun g => F g ∨ E g ∨ blkA A' = some g) A' (n + 1) c' (xs ++ [x]) := by
  obtain ⟨hl, vs, G, ho, hA, hel, hG, h1, h2⟩ := h
  refine ⟨vs, ho, hA, fun E x us w' A' c' hx hus hE how hk hA' hz => ?_⟩
  have hvl := ho.1.1
  have hnA : ∀ g, E g → blkA A ≠ some g := fun g hg hh => (hE g hg).1 (hA g hh)
  refine ⟨by simp [hl], vs ++ us, fun i => if i = n then E else G i, how, fun g hg => ?_, fun i y hy => ?_, fun i g hi hg => ?_, fun i g hi hg hh => ?_, fun i j g hij hj hg hg' => ?_⟩
  · exact .inr (.inr hg)
  · by_cases hin : i = n
    · subst hin
      simp only [if_true]
      rw [List.getElem?_append_right (by omega), hl, Nat.sub_self] at hy
      simp only [List.getElem?_cons_zero, Option.some.injEq] at hy
      subst hy
      rw [List.drop_append, List.drop_of_length_le (by omega), List.nil_append, hvl, Nat.sub_self, List.drop_zero, List.take_of_length_le (by omega)]
      exact L.stay hx (fun g hg _ => hk g (hE g hg).2 (hnA g hg)) hz
    · simp only [if_neg hin]
      have hin' : i < n := by
        have := (List.getElem?_eq_some_iff.1 hy).1
        simp [hl] at this
        omega
      rw [List.getElem?_append_left (by omega)] at hy
      have hle : (i + 1) * L.size ≤ n * L.size := Nat.mul_le_mul_right _ hin'
      rw [Nat.add_mul, Nat.one_mul] at hle
      rw [List.drop_append, show i * L.size - vs.length = 0 by omega, List.drop_zero, List.take_append_of_le_length (by rw [List.length_drop]; omega)]
      exact L.stay (hel i y hy) (fun g hg hlt => hk g hlt (h1 i g hin' hg)) hz
  · by_cases hin : i = n
    · simp only [if_pos hin] at hg; exact .inr (.inl hg)
    · simp only [if_neg hin] at hg; exact .inl (hG i g (by omega) hg)
  · by_cases hin : i = n
    · simp only [if_pos hin] at hg
      rcases hA' with h' | h'
      · rw [h'] at hh; exact hnA g hg hh
      · rw [h'] at hh; injection hh with hh; have := (hE g hg).2; omega
    · simp only [if_neg hin] at hg
      rcases hA' with h' | h'
      · rw [h'] at hh; exact h1 i g (by omega) hg hh
      · rw [h'] at hh; injection hh with hh; have := hFw g (hG i g (by omega) hg); omega
  · have hin : ¬ i = n := by omega
    simp only [if_neg hin] at hg
    by_cases hjn : j = n
    · simp only [if_pos hjn] at hg'
      exact (hE g hg').1 (hG i g (by omega) hg)
    · simp only [if_neg hjn] at hg'
      exact h2 i j g hij (by omega) hg hg'

theorem step_append_kin {P : Program} {w : World} {ops : Array Oper} {o : Oper} {a : Act} {K : Act → World → Prop} {Q : Exit → Act → World → Prop} {E : Prop} (hgd : o.guard = none) (s x : Operand) (t : TypeId)
    (ho : o.op = .call { callee := .builtin .append, args := #[s, x], argTypes := #[t, t] })
    (base hi : Nat) (e : TypeId) (i : TypeInfo) (z : Value) (size bytes : Nat) (ht : P.underlying t = some (.slice e)) (hi0 : P.info? e = some i) (hz : i.zero = some z)
    (hsize : i.size = size) (hby : i.bytes = bytes) (hzs : z.cells.size = size) (hsz : 0 < size)
    (A : Option Addr) (n c : Nat) (xs : List Value) (hs : a.eval s = .slice A n c) (hown : Own w base hi e size A n c xs)
    (hi' : Nat) (ad : Addr) (m c2 : Nat) (news : List Value) (hx : a.eval x = .slice (some ad) m c2) (hr : Seen w hi' size (some ad) m news) (h1 : ∀ u ∈ news, u.oneCell' = true)
    (hm : 0 < m) (h63 : n + m ≤ maxLen) (hbytes : (n + m) * bytes ≤ 140737488355328) (hbase : base ≤ w.heap.size)
    (h : ∀ A' c' w', Own w' base w'.heap.size e size A' (n + m) c' (xs ++ news) → Below base w w' → (∀ k, k < w.heap.size → blkA A ≠ some k → w'.heap[k]? = w.heap[k]?) →
      (blkA A' = blkA A ∨ blkA A' = some w.heap.size) → K (a.put o.dst (.slice A' (n + m) c')) w') :
    if Region.wanted o (yielded ops a.tmps) = true then Oper.wp P o a w K Q else E := by
  refine step_append_lies w hgd s x t ho base e i z size bytes ht hi0 hz hsize hby hzs hsz _ n xs hs hown.1 ad m c2 news hx hr.1 (hr.news rfl) h1 hm h63 hbytes hbase w.heap.size rfl ?_
  intro g cap w' h2 h3 h5 _
  obtain ⟨A', c', hv, ho'⟩ := Own.of_row (hi := w'.heap.size) h2 (Nat.le_refl _)
  injection hv with e2 _ e3
  subst e2 e3
  have e1 : ∀ (X : Option Addr) (p q : Nat), (Value.slice X p q).ownBlock = blkA X := fun X p q => by cases X <;> rfl
  rw [e1] at h3 h5
  refine h (some ⟨g, 0, none⟩) cap w' ho' ((Below.refl _ _).grown h3 hbase fun k hk => ?_) (fun k hk hne => h3.block k hk (fun e => hne e.symm)) ?_
  · exact (hown.blk hk).1
  · rcases h5 with h5 | h5
    · exact .inl h5.symm
    · exact .inr (by rw [h5]; rfl)

/-- Shut again with another element there, which may have blocks that the row did not have. -/
theorem OpenRow.shutWide {α : Type} {L : Lay α} {e : TypeId} {w : World} {F Gi Gi' : Nat → Prop} {n c i g : Nat} {xs : List α} {us : List Value} (h : OpenRow L e w F n c xs i g Gi us) {x' : α} (hx : L.own w Gi' x' us) (hG' : ∀ b, Gi' b → Gi b ∨ ¬ F b) :
    OwnR L e w (fun b => F b ∨ Gi' b) (some ⟨g, 0, none⟩) n c (xs.set i x') := by
  obtain ⟨vs, G, hown, hc, hG, hel, hF, h1, h2⟩ := h.rest
  subst hG
  refine ⟨by rw [List.length_set, h.len], vs, fun j => if j = i then Gi' else G j, hown, fun b hb => ?_, fun j y hy => ?_, fun j b hj hb => ?_, fun j b hj hb e1 => ?_, fun j k b hjk hk hb hb' => ?_⟩
  · obtain rfl : g = b := by simpa [blkA] using hb
    exact .inl h.here
  · by_cases hji : j = i
    · subst hji
      rw [List.getElem?_set_self (by rw [h.len]; exact h.lt)] at hy
      obtain rfl := Option.some.inj hy
      simp only [if_true]
      show L.own w Gi' x' (cutAt vs j L.size)
      rw [hc]
      exact hx
    · rw [List.getElem?_set_ne (fun e1 => hji e1.symm)] at hy
      simp only [if_neg hji]
      exact hel j y hji hy
  · by_cases hji : j = i
    · simp only [if_pos hji] at hb; exact .inr hb
    · simp only [if_neg hji] at hb; exact .inl (hF j b hj hb)
  · obtain rfl : g = b := by simpa [blkA] using e1
    by_cases hji : j = i
    · simp only [if_pos hji] at hb
      rcases hG' g hb with h3 | h3
      · exact h.not h3
      · exact h3 h.here
    · simp only [if_neg hji] at hb
      exact h1 j g hj hb rfl
  · by_cases hji : j = i
    · simp only [if_pos hji] at hb
      have hki : ¬ k = i := by omega
      simp only [if_neg hki] at hb'
      rcases hG' b hb with h3 | h3
      · exact h2 j k b hjk hk (by rw [hji]; exact h3) hb'
      · exact h3 (hF k b hk hb')
    · simp only [if_neg hji] at hb
      by_cases hki : k = i
      · simp only [if_pos hki] at hb'
        rcases hG' b hb' with h3 | h3
        · exact h2 j k b hjk hk hb (by rw [hki]; exact h3)
        · exact h3 (hF j b (by omega) hb)
      · simp only [if_neg hki] at hb'
        exact h2 j k b hjk hk hb hb'
end Go.Proofs.YtgfkadhojlddpaaGreatDoor
