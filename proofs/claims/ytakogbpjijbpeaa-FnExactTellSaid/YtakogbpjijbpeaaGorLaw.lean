
/- The contracts of SetReg, Tell, Over, as a law's walk takes them; how much their answers hold. -/

import Derived.Test.YtakogbpjijbpeaaGorSet

import Derived.Test.YtakogbpjijbpeaaGorOver

import Derived.Test.YtakogbpjijbpeaaMGor

import Derived.Test.YtakogbpjijbpeaaAns

namespace Go.Proofs.Ytakogbpjijbpeaa
set_option linter.unusedSimpArgs false
set_option linter.unusedVariables false
open Go.RowKit

def GorL (w : World) (r : DGor) (e : Ending) (w' : World) : Prop := MadeO layGor w r e w'
theorem gorL_of {w w' : World} {r : DGor} {e : Ending} (h0 : (Lit.int .i64 r.fProc).wf = true) (h1 : (Lit.int .i64 r.fPc).wf = true) (h3 : (Lit.int .i64 r.fState).wf = true) (h : CopiedG r w e w') : GorL w r e w' := by
  obtain ⟨hb, A2, c2, A4, c4, F2, F4, rfl, o2, o4, hF, hd⟩ := h
  exact ⟨[.int .i64 r.fProc, .int .i64 r.fPc, .slice A2 r.fRegs.length c2, .int .i64 r.fState, .slice A4 r.fTrace.length c4], fun g => F2 g ∨ F4 g, rfl, ownGor h0 h1 (TailR.of o2) h3 (TailR.of o4) (fun g h => .inl h) (fun g h => .inr h) hd, hF, hb⟩
theorem wf_setR {x : DGor} {r v : Int} : (setR x r v).fProc = x.fProc ∧ (setR x r v).fPc = x.fPc ∧ (setR x r v).fState = x.fState := by
  unfold setR
  split <;> exact ⟨rfl, rfl, rfl⟩
theorem wf_overR {x : DGor} {y : Int} : (overR x y).fProc = x.fProc ∧ (overR x y).fPc = x.fPc ∧ (Lit.int .i64 (overR x y).fState).wf = true := by
  unfold overR
  split
  · exact ⟨rfl, rfl, show (Lit.int .i64 3).wf = true by decide⟩
  · exact ⟨rfl, rfl, show (Lit.int .i64 4).wf = true by decide⟩
theorem seeGor_wf {w : World} {hi : Nat} {x : DGor} {vs : List Value} (h : layGor.see w hi x vs) : (Lit.int .i64 x.fProc).wf = true ∧ (Lit.int .i64 x.fPc).wf = true ∧ (Lit.int .i64 x.fState).wf = true := by
  obtain ⟨A2, n2, c2, A4, n4, c4, -, hw0, hw1, -, hw3, -⟩ := seeGor h
  exact ⟨hw0, hw1, hw3⟩
theorem implSetReg_law {w : World} {hi : Nat} {x : DGor} {vs : List Value} {r v : Int} (h : layGor.see w hi x vs) (hhi : hi ≤ w.heap.size) (hn : szGor x ≤ 1048576) (hv : (Lit.int .i64 v).wf = true) :
    Calls Try.prog 16 #[.agg vs.toArray, .int .i64 r, .int .i64 v] w (GorL w (setR x r v)) :=
  (implSetReg_any h hhi hn hv).mono fun _ _ h9 => gorL_of (by rw [wf_setR.1]; exact (seeGor_wf h).1) (by rw [wf_setR.2.1]; exact (seeGor_wf h).2.1) (by rw [wf_setR.2.2]; exact (seeGor_wf h).2.2) h9
theorem specSetReg_law {w : World} {hi : Nat} {x : DGor} {vs : List Value} {r v : Int} (h : layGor.see w hi x vs) (hhi : hi ≤ w.heap.size) (hn : szGor x ≤ 1048576) (hv : (Lit.int .i64 v).wf = true) :
    Calls Try.prog 14 #[.agg vs.toArray, .int .i64 r, .int .i64 v] w (GorL w (setR x r v)) :=
  (specSetReg_any h hhi hn hv).mono fun _ _ h9 => gorL_of (by rw [wf_setR.1]; exact (seeGor_wf h).1) (by rw [wf_setR.2.1]; exact (seeGor_wf h).2.1) (by rw [wf_setR.2.2]; exact (seeGor_wf h).2.2) h9
theorem implOver_law {w : World} {hi : Nat} {x : DGor} {vs : List Value} {y : Int} (h : layGor.see w hi x vs) (hhi : hi ≤ w.heap.size) (hn : szGor x ≤ 1048576) (hv : (Lit.int .i64 y).wf = true) :
    Calls Try.prog 23 #[.agg vs.toArray, .int .i64 y] w (GorL w (overR x y)) :=
  (implOver_any h hhi hn hv).mono fun _ _ h9 => gorL_of (by rw [wf_overR.1]; exact (seeGor_wf h).1) (by rw [wf_overR.2.1]; exact (seeGor_wf h).2.1) wf_overR.2.2 h9
theorem specOver_law {w : World} {hi : Nat} {x : DGor} {vs : List Value} {y : Int} (h : layGor.see w hi x vs) (hhi : hi ≤ w.heap.size) (hn : szGor x ≤ 1048576) (hv : (Lit.int .i64 y).wf = true) :
    Calls Try.prog 22 #[.agg vs.toArray, .int .i64 y] w (GorL w (overR x y)) :=
  (specOver_any h hhi hn hv).mono fun _ _ h9 => gorL_of (by rw [wf_overR.1]; exact (seeGor_wf h).1) (by rw [wf_overR.2.1]; exact (seeGor_wf h).2.1) wf_overR.2.2 h9
theorem implTell_law {w : World} {hi : Nat} {x : DGor} {vs : List Value} {i : DItem} (h : layGor.see w hi x vs) (hhi : hi ≤ w.heap.size) (hn : szGor x ≤ 1048576) (hv : (Lit.int .i64 i.fKind).wf = true ∧ (Lit.int .i64 i.fObj).wf = true ∧ (Lit.int .i64 i.fVal).wf = true) :
    Calls Try.prog 21 #[.agg vs.toArray, .agg #[.int .i64 i.fKind, .int .i64 i.fObj, .int .i64 i.fVal, .bool i.fOk]] w (GorL w (tellR x i)) :=
  (implTell_any h hhi hn hv).mono fun _ _ h9 => gorL_of (seeGor_wf h).1 (seeGor_wf h).2.1 (seeGor_wf h).2.2 h9
theorem specTell_law {w : World} {hi : Nat} {x : DGor} {vs : List Value} {i : DItem} (h : layGor.see w hi x vs) (hhi : hi ≤ w.heap.size) (hn : szGor x ≤ 1048576) (hv : (Lit.int .i64 i.fKind).wf = true ∧ (Lit.int .i64 i.fObj).wf = true ∧ (Lit.int .i64 i.fVal).wf = true) :
    Calls Try.prog 19 #[.agg vs.toArray, .agg #[.int .i64 i.fKind, .int .i64 i.fObj, .int .i64 i.fVal, .bool i.fOk]] w (GorL w (tellR x i)) :=
  (specTell_any h hhi hn hv).mono fun _ _ h9 => gorL_of (seeGor_wf h).1 (seeGor_wf h).2.1 (seeGor_wf h).2.2 h9
theorem vcntGor_le {x : DGor} (h : szGor x ≤ 1048580) : 0 ≤ vcntGor x ∧ vcntGor x ≤ 12582960 := by
  unfold szGor at h
  unfold vcntGor
  omega
theorem setR_sz {x : DGor} {r v : Int} (h : szGor x ≤ 1048576) : szGor (setR x r v) ≤ 1048580 := by
  unfold setR szGor at *
  split
  · simp; omega
  · omega
theorem tellR_sz {x : DGor} {i : DItem} (h : szGor x ≤ 1048576) : szGor (tellR x i) ≤ 1048580 := by
  unfold tellR szGor at *
  simp
  omega
theorem overR_sz {x : DGor} {y : Int} (h : szGor x ≤ 1048576) : szGor (overR x y) ≤ 1048580 := by
  unfold overR tellR szGor at *
  split <;> (simp; omega)
end Go.Proofs.Ytakogbpjijbpeaa
