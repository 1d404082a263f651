
/- Copies of a channel: append(nil, row...) of flat rows (the program's copied), the program's copyChan, the model's l06Copy. -/

import Derived.Test.YtakogbpjijbpeaaChanM

import Derived.Deep.Cut

namespace Go.Proofs.Ytakogbpjijbpeaa
set_option linter.unusedSimpArgs false
set_option linter.unusedVariables false
open Go.RowKit

theorem seenR_flat {α : Type} {w : World} {hi size n : Nat} {A : Option Addr} {cells : α → List Value} {wf : α → Prop} {hl : ∀ x, (cells x).length = size} {xs : List α} (h : SeenR (Lay.flat size cells wf hl) w hi A n xs) :
    Seen w hi size A n ((xs.map cells).flatten) ∧ ∀ x ∈ xs, wf x := by
  obtain ⟨hlen, rfl | ⟨g, o, rfl, hg, f, hf⟩⟩ := h
  · simp at hlen
    subst hlen
    exact ⟨⟨by simp, .inl rfl⟩, fun x hx => by simp at hx⟩
  · refine ⟨⟨by rw [flat_len_ hl, hlen], ?_⟩, fun x hx => ?_⟩
    · refine .inr ⟨g, o, rfl, hg, fun j u hu => ?_⟩
      have hj : j < n * size := by
        have := (List.getElem?_eq_some_iff.1 hu).1
        rwa [flat_len_ hl, hlen] at this
      have hs : 0 < size := by
        rcases Nat.eq_zero_or_pos size with h0 | h0
        · rw [h0] at hj; omega
        · exact h0
      have hq : j / size < n := Nat.div_lt_of_lt_mul (by rw [Nat.mul_comm]; exact hj)
      have hx : xs[j / size]? = some (xs[j / size]'(by omega)) := List.getElem?_eq_getElem _
      have h1 := hf _ _ hx
      have h2 := flat_cut hl hx
      have e1 := h1.1.1
      have h3 : (cells (xs[j / size]'(by omega)))[j % size]? = some u := by
        rw [← h2, List.getElem?_take, if_pos (Nat.mod_lt _ hs), List.getElem?_drop, show j / size * size + j % size = j by rw [Nat.mul_comm]; exact Nat.div_add_mod j size]
        exact hu
      have h4 := h1.2 (j % size) u (by rw [e1]; exact h3)
      have h5 : j / size * (Lay.flat size cells wf hl).size + j % size = j := by
        show j / size * size + j % size = j
        rw [Nat.mul_comm]; exact Nat.div_add_mod j size
      rw [h5] at h4
      exact h4
    · obtain ⟨i, hi⟩ := List.mem_iff_getElem?.1 hx
      exact (hf i x hi).1.2

theorem infoIntC : (Try.prog.info? 3).map (fun i => (i.zero, i.size, i.bytes)) = some (some (.int .i64 0), 1, 8) := by kernel_rfl
theorem cells_one (xs : List DWaiter) : ∀ u ∈ (xs.map fun x => [Value.int .i64 x.fG, .int .i64 x.fCase, .int .i64 x.fVal]).flatten, u.oneCell' = true := by
  intro u hu
  simp only [List.mem_flatten, List.mem_map] at hu
  obtain ⟨l, ⟨x, _, rfl⟩, hu⟩ := hu
  simp at hu
  rcases hu with rfl | rfl | rfl <;> rfl
theorem cells_oneI (xs : List Int) : ∀ u ∈ (xs.map fun x => [Value.int .i64 x]).flatten, u.oneCell' = true := by
  intro u hu
  simp only [List.mem_flatten, List.mem_map] at hu
  obtain ⟨l, ⟨x, _, rfl⟩, hu⟩ := hu
  simp at hu
  subst hu
  rfl

end Go.Proofs.Ytakogbpjijbpeaa
