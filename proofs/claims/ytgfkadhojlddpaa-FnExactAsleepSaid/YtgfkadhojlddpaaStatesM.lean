
/- The numbers of the goroutines in a state. Mathematics alone. -/

import Derived.Test.YtgfkadhojlddpaaDEng

namespace Go.Proofs.Ytgfkadhojlddpaa
set_option linter.unusedSimpArgs false
set_option linter.unusedVariables false
open Go.RowKit

/-- The numbers of those in a state. -/
def inStB (gs : List DGor) (st : Int) (j : Nat) : Bool := match gs[j]? with | some g => decide (g.fState = st) | none => false
def statesTo (gs : List DGor) (st : Int) (k : Nat) : List Int := ((List.range k).filter (inStB gs st)).map fun (j : Nat) => (j : Int)
def statesL (e : DEng) (st : Int) : List Int := statesTo e.fGs st e.fGs.length

theorem statesTo_step {gs : List DGor} {st : Int} {k : Nat} {g : DGor} (h : gs[k]? = some g) : statesTo gs st (k + 1) = statesTo gs st k ++ if g.fState = st then [(k : Int)] else [] := by
  unfold statesTo
  rw [List.range_succ, List.filter_append, List.map_append]
  congr 1
  by_cases hs : g.fState = st
  · simp [inStB, h, hs]
  · simp [inStB, h, hs]
theorem statesTo_len (gs : List DGor) (st : Int) (k : Nat) : (statesTo gs st k).length ≤ k := by
  unfold statesTo
  rw [List.length_map]
  exact Nat.le_trans (List.length_filter_le _ _) (by simp)
theorem statesTo_mem {gs : List DGor} {st : Int} {k : Nat} {z : Int} (h : z ∈ statesTo gs st k) : 0 ≤ z ∧ z < k := by
  unfold statesTo at h
  obtain ⟨j, hj, rfl⟩ := List.mem_map.1 h
  have := List.mem_range.1 (List.mem_filter.1 hj).1
  omega

end Go.Proofs.Ytgfkadhojlddpaa
