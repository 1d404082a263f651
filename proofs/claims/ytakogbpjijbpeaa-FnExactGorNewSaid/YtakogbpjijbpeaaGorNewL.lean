
/- GorNew, as a law's walk takes it. -/

import Derived.Test.YtakogbpjijbpeaaGorNew

import Derived.Test.YtakogbpjijbpeaaGorNewS

import Derived.Test.YtakogbpjijbpeaaMGor

import Derived.Test.YtakogbpjijbpeaaAns

namespace Go.Proofs.Ytakogbpjijbpeaa
set_option linter.unusedSimpArgs false
set_option linter.unusedVariables false
open Go.RowKit

theorem madeG_of {w w' : World} {r : DGor} {e : Ending} (h0 : (Lit.int .i64 r.fProc).wf = true) (h1 : (Lit.int .i64 r.fPc).wf = true) (h3 : (Lit.int .i64 r.fState).wf = true) (h : CopiedG r w e w') : MadeO layGor w r e w' := by
  obtain ⟨hb, A2, c2, A4, c4, F2, F4, rfl, o2, o4, hF, hd⟩ := h
  exact ⟨[.int .i64 r.fProc, .int .i64 r.fPc, .slice A2 r.fRegs.length c2, .int .i64 r.fState, .slice A4 r.fTrace.length c4], fun g => F2 g ∨ F4 g, rfl, ownGor h0 h1 (TailR.of o2) h3 (TailR.of o4) (fun g h => .inl h) (fun g h => .inr h) hd, hF, hb⟩
theorem wf_newG {p a : Int} (hp : (Lit.int .i64 p).wf = true) : (Lit.int .i64 (newG p a).fProc).wf = true ∧ (Lit.int .i64 (newG p a).fPc).wf = true ∧ (Lit.int .i64 (newG p a).fState).wf = true := by
  unfold newG
  split
  · exact ⟨show (Lit.int .i64 0).wf = true by decide, show (Lit.int .i64 0).wf = true by decide, show (Lit.int .i64 0).wf = true by decide⟩
  · exact ⟨hp, show (Lit.int .i64 0).wf = true by decide, show (Lit.int .i64 1).wf = true by decide⟩
theorem implGorNew_law {w : World} {p a : Int} (hv : (Lit.int .i64 p).wf = true) (hv2 : (Lit.int .i64 a).wf = true) : Calls Try.prog 9 #[.int .i64 p, .int .i64 a] w (MadeO layGor w (newG p a)) :=
  (implGorNew_any hv hv2).mono fun _ _ h => madeG_of (wf_newG hv).1 (wf_newG hv).2.1 (wf_newG hv).2.2 h
theorem specGorNew_law {w : World} {p a : Int} (hv : (Lit.int .i64 p).wf = true) (hv2 : (Lit.int .i64 a).wf = true) : Calls Try.prog 8 #[.int .i64 p, .int .i64 a] w (MadeO layGor w (newG p a)) :=
  (specGorNew_any hv hv2).mono fun _ _ h => madeG_of (wf_newG hv).1 (wf_newG hv).2.1 (wf_newG hv).2.2 h
theorem vcntG_le {x : DGor} (h : szGor x ≤ 1048580) : 0 ≤ vcntGor x ∧ vcntGor x ≤ 12582960 := by
  unfold szGor at h
  unfold vcntGor
  omega
theorem newG_sz {p a : Int} : szGor (newG p a) ≤ 1048580 := by
  unfold newG szGor
  split <;> simp
end Go.Proofs.Ytakogbpjijbpeaa
