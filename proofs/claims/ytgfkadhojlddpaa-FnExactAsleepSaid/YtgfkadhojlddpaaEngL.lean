
/- How many marks an engine takes. Mathematics alone. -/

import Derived.Test.YtgfkadhojlddpaaMEng

namespace Go.Proofs.Ytgfkadhojlddpaa
set_option linter.unusedSimpArgs false
set_option linter.unusedVariables false
open Go.RowKit

theorem sum_bound {α : Type} {f : α → Int} {s : α → Nat} {a b : Int} (h : ∀ x, f x ≤ a + b * (s x : Int)) : ∀ l : List α, (l.map f).sum ≤ a * (l.length : Int) + b * ((l.map s).sum : Nat)
  | [] => by simp
  | x :: l => by
    have h1 := sum_bound h l
    have h2 := h x
    simp only [List.map_cons, List.sum_cons, List.length_cons, Int.natCast_add, Int.mul_add]
    omega
theorem vcntEng_le {x : DEng} (h : szEng x ≤ 1048580) : 0 ≤ vcntEng x ∧ vcntEng x ≤ 8388700 := by
  have g1 := sum_bound (f := cntGor) (s := szGor) (a := 4) (b := 4) (fun g => by unfold cntGor szGor; omega) x.fGs
  have g2 := sum_bound (f := cntChan) (s := szChan) (a := 4) (b := 4) (fun g => by unfold cntChan szChan; omega) x.fChans
  have g3 := sum_bound (f := cntMutex) (s := szMutex) (a := 4) (b := 4) (fun g => by unfold cntMutex szMutex; omega) x.fMus
  have p1 := sum_pos cntGor_pos x.fGs
  have p2 := sum_pos cntChan_pos x.fChans
  have p3 := sum_pos cntMutex_pos x.fMus
  unfold szEng at h
  unfold vcntEng
  omega
end Go.Proofs.Ytgfkadhojlddpaa
