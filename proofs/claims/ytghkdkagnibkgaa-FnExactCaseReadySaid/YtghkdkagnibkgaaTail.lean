
/- Rows of flat elements that begin somewhere in a block of their own (what is left of a row behind q[1:]): TailR, and the lay of a slice that may lie so. No program is named here. -/

import Derived.Test.YtghkdkagnibkgaaBase

namespace Go.Proofs.Ytghkdkagnibkgaa
set_option linter.unusedSimpArgs false
set_option linter.unusedVariables false
open Go.RowKit

section

variable {α β : Type} {L : Lay α} {w w' : World} {hi n c : Nat} {A : Option Addr} {xs : List α} {e : TypeId} {F F' G : Nat → Prop}

/-- A row in a block of its own, behind elements that are left out. -/
def TailR (L : Lay α) (e : TypeId) (w : World) (F : Nat → Prop) (A : Option Addr) (n c : Nat) (xs : List α) : Prop :=
  xs.length = n ∧ n ≤ c ∧ c ≤ maxLen ∧ (n = 0 ∨ ∃ g k pre, A = some ⟨g, k * L.size, none⟩ ∧ pre.length = k ∧ OwnR L e w F (some ⟨g, 0, none⟩) (k + n) (k + c) (pre ++ xs))

theorem OwnR.capMax (h : OwnR L e w F A n c xs) : c ≤ maxLen := by obtain ⟨_, _, _, ho, _⟩ := h; exact ho.capMax
theorem OwnR.form (h : OwnR L e w F A n c xs) (hn : 0 < n) : ∃ g, A = some ⟨g, 0, none⟩ ∧ g < w.heap.size := by
  obtain ⟨_, _, _, ho, _⟩ := h
  obtain ⟨g, hg, _, _, h2⟩ := ho.form hn
  exact ⟨g, hg, h2⟩
theorem TailR.of (h : OwnR L e w F A n c xs) : TailR L e w F A n c xs := by
  refine ⟨h.1, h.cap, h.capMax, ?_⟩
  by_cases hn : n = 0
  · exact .inl hn
  · obtain ⟨g, rfl, _⟩ := h.form (by omega)
    exact .inr ⟨g, 0, [], by simp, rfl, by simpa using h⟩
theorem TailR.seen (h : TailR L e w F A n c xs) (hF : ∀ g, F g → g < hi) : SeenR L w hi A n xs := by
  obtain ⟨hl, _, _, h0 | ⟨g, k, pre, rfl, hk, ho⟩⟩ := h
  · subst h0
    exact ⟨hl, .inl (List.length_eq_zero_iff.1 hl)⟩
  · obtain ⟨hlen, h0 | ⟨g', o, hA, hg, f, hf⟩⟩ := ho.seen hF
    · refine ⟨hl, .inl ?_⟩
      simp at h0
      exact h0.2
    · injection hA with hA
      injection hA with h1 h2
      subst h1 h2
      refine ⟨hl, .inr ⟨g, k * L.size, rfl, hg, fun i => f (k + i), fun i x hx => ?_⟩⟩
      have hx' : (pre ++ xs)[k + i]? = some x := by rw [List.getElem?_append_right (by omega), hk, Nat.add_sub_cancel_left]; exact hx
      refine ⟨(hf _ _ hx').1, fun j u hu => ?_⟩
      have := (hf _ _ hx').2 j u hu
      rw [Nat.add_mul, Nat.add_assoc, Nat.zero_add] at this
      exact this
theorem TailR.stay (h : TailR L e w F A n c xs) (hk : ∀ g, F g → g < w.heap.size → w'.heap[g]? = w.heap[g]?) (hz : w.heap.size ≤ w'.heap.size) : TailR L e w' F A n c xs :=
  ⟨h.1, h.2.1, h.2.2.1, h.2.2.2.imp id fun ⟨g, k, pre, h1, h2, h3⟩ => ⟨g, k, pre, h1, h2, h3.stay hk hz⟩⟩
theorem TailR.wide (h : TailR L e w F A n c xs) (hF : ∀ g, F g → F' g) : TailR L e w F' A n c xs :=
  ⟨h.1, h.2.1, h.2.2.1, h.2.2.2.imp id fun ⟨g, k, pre, h1, h2, h3⟩ => ⟨g, k, pre, h1, h2, h3.wide hF⟩⟩
theorem TailR.cap (h : TailR L e w F A n c xs) : n ≤ c := h.2.1
theorem TailR.turned {l r : Nat} (h : TailR L e w F A n c xs) (ht : Turned l r w w') (hF : ∀ g, F g → r ≤ g ∨ g < l) : TailR L e w' F A n c xs :=
  h.stay (fun g hg hlt => ht.block g hlt (by have := hF g hg; omega)) ht.size
theorem TailR.turnedF (h : TailR L e w F A n c xs) (ht : TurnedF G w w') (hF : ∀ g, F g → ¬ G g) : TailR L e w' F A n c xs :=
  h.stay (fun g hg hlt => ht.block g hlt (hF g hg)) ht.size
theorem TailR.setCell (h : TailR L e w F A n c xs) {g o : Nat} (hg : ¬ F g) (u : Value) : TailR L e (w.setCell ⟨g, o, none⟩ u) F A n c xs :=
  ⟨h.1, h.2.1, h.2.2.1, h.2.2.2.imp id fun ⟨g1, k, pre, h1, h2, h3⟩ => ⟨g1, k, pre, h1, h2, h3.setCell hg u⟩⟩

/-- One element of such a row. -/
theorem TailR.focus (h : TailR L e w F A n c xs) {i : Nat} (hi : i < n) : ∃ (hx : i < xs.length) (g o : Nat) (G : Nat → Prop) (vs : List Value), A = some ⟨g, o, none⟩ ∧ F g ∧ ¬ G g ∧ (∀ b, G b → F b) ∧ g < w.heap.size ∧
    L.own w G xs[i] vs ∧ (∀ j u, j < L.size → vs[j]? = some u → w.cell? ⟨g, o + (i * L.size + j), none⟩ = some u) ∧ (∀ j, w.frozen? ⟨g, j, none⟩ = false) ∧
    ∀ (w' : World) (x' : α) (us : List Value), us.length = L.size → L.own w' G x' us → TurnedF (fun b => G b ∨ b = g) w w' → w'.heap[g]? = (putCells w g (o + i * L.size) us).heap[g]? → TailR L e w' F A n c (xs.set i x') := by
  obtain ⟨hl, hc, hm, h0 | ⟨g, k, pre, rfl, hk, ho⟩⟩ := h
  · omega
  · have hx : i < xs.length := by rw [hl]; exact hi
    obtain ⟨hx2, g', G, vs, hA, hFg, hGg, hGF, hgs, hown, hcell, hfr, hput⟩ := ho.focus (i := k + i) (by omega)
    injection hA with hA
    injection hA with h1 _
    subst h1
    have he : (pre ++ xs)[k + i] = xs[i] := by
      rw [List.getElem_append_right (by omega)]
      simp [hk]
    rw [he] at hown
    refine ⟨hx, g, k * L.size, G, vs, rfl, hFg, hGg, hGF, hgs, hown, fun j u hj hu => ?_, hfr, fun w' x' us hus how ht hrow => ?_⟩
    · have := hcell j u hj hu
      rw [Nat.add_mul, Nat.add_assoc] at this
      exact this
    · have h9 := hput w' x' us hus how ht (by rw [Nat.add_mul]; exact hrow)
      refine ⟨by rw [List.length_set, hl], hc, hm, .inr ⟨g, k, pre, rfl, hk, ?_⟩⟩
      rw [List.set_append_right _ _ (by omega), hk, Nat.add_sub_cancel_left] at h9
      exact h9

/-- What is left behind the first element. -/
theorem TailR.rest {x : α} {A' : Option Addr} (h : TailR L e w F A (n + 1) c (x :: xs)) (hA : n ≠ 0 → A' = A.map (·.add L.size)) : TailR L e w F A' n (c - 1) xs := by
  obtain ⟨hl, hc, hm, h0 | ⟨g, k, pre, rfl, hk, ho⟩⟩ := h
  · omega
  · simp at hl
    refine ⟨hl, by omega, by omega, ?_⟩
    by_cases hn : n = 0
    · exact .inl hn
    · refine .inr ⟨g, k + 1, pre ++ [x], ?_, by simp [hk], ?_⟩
      · rw [hA hn]
        simp [add_plain, Nat.add_mul]
      · have e1 : k + 1 + n = k + (n + 1) := by omega
        have e2 : k + 1 + (c - 1) = k + c := by omega
        rw [e1, e2, List.append_assoc]
        exact ho

/-- A slice of flat elements that may begin behind some that were left out. -/
def Lay.tail (L : Lay α) (e : TypeId) : Lay (List α) where
  size := 1
  see w hi xs vs := ∃ A n c, vs = [.slice A n c] ∧ n ≤ c ∧ c ≤ maxLen ∧ SeenR L w hi A n xs
  own w F xs vs := ∃ A n c, vs = [.slice A n c] ∧ TailR L e w F A n c xs
  len h := by obtain ⟨A, n, c, rfl, _⟩ := h; rfl
  keep h hk := by obtain ⟨A, n, c, e, hc, hm, h⟩ := h; exact ⟨A, n, c, e, hc, hm, h.keep hk⟩
  more h hh := by obtain ⟨A, n, c, e, hc, hm, h⟩ := h; exact ⟨A, n, c, e, hc, hm, h.more hh⟩
  seen h hF := by
    obtain ⟨A, n, c, e, h⟩ := h
    exact ⟨A, n, c, e, h.2.1, h.2.2.1, h.seen hF⟩
  stay h hk hz := by obtain ⟨A, n, c, e, h⟩ := h; exact ⟨A, n, c, e, h.stay hk hz⟩
  wide h hF := by obtain ⟨A, n, c, e, h⟩ := h; exact ⟨A, n, c, e, h.wide hF⟩

theorem opens_tail {P : Program} {t e e' : TypeId} (ht : P.underlying t = some (.slice e)) (hc : P.cellsOf t = 1) (hs : 0 < L.size) (hL : Opens P e L) : Opens P t (L.tail e') := opens_slice (e' := e') ht hc hs hL
end

end Go.Proofs.Ytghkdkagnibkgaa
