
/- Selects in memory of their own: rows of cases; what of a case can be an int. -/

import Derived.Test.YtllkbikhclfgpaaDoorSelMath

import Derived.Test.YtllkbikhclfgpaaDoorDSelect

import Derived.Test.YtllkbikhclfgpaaDoorBase

namespace Go.Proofs.YtllkbikhclfgpaaDoor
set_option linter.unusedSimpArgs false
set_option linter.unusedVariables false
open Go.RowKit

theorem ownR_none {α : Type} {L : Lay α} {e : TypeId} (w : World) (F : Nat → Prop) : OwnR L e w F none 0 0 ([] : List α) :=
  ⟨rfl, [], fun _ _ => False, Own.nil_ w 0 _ e L.size, (fun g h => by cases h), (fun i x h => by simp at h), (fun _ _ _ h => h.elim), (fun _ _ _ h => h.elim), (fun _ _ _ _ _ h => h.elim)⟩
abbrev caseCells (c : DCase) : List Value := [.bool c.fSend, .int .i64 c.fChan, .int .i64 c.fReg, .int .i64 c.fOk, .int .i64 c.fTo]
def caseWf (x : DCase) : Prop := (Lit.int .i64 x.fChan).wf = true ∧ (Lit.int .i64 x.fReg).wf = true ∧ (Lit.int .i64 x.fOk).wf = true ∧ (Lit.int .i64 x.fTo).wf = true
theorem ownR_cases {w : World} {lo hi n c : Nat} {e : TypeId} {A : Option Addr} {xs : List DCase} (h : Own w lo hi e 5 A n c ((xs.map caseCells).flatten)) (hn : xs.length = n) (hw : ∀ x ∈ xs, caseWf x) : OwnR layCase e w (fun g => lo ≤ g ∧ g < hi) A n c xs := ownR_flat h hn hw
theorem textNum_range (s : List UInt8) : 0 ≤ (textNum s).1 ∧ (textNum s).1 ≤ 4294967295 := by
  unfold textNum
  split
  · simp only; omega
  · simp
theorem readW_range (word s : List UInt8) : -1 ≤ readW word s ∧ readW word s ≤ 4294967295 := by
  have := textNum_range s
  unfold readW
  split <;> omega
theorem wf_range {z : Int} (h : -1 ≤ z ∧ z ≤ 4294967295) : (Lit.int .i64 z).wf = true := by
  simp [Lit.wf, IntKind.min, IntKind.max, IntKind.signed, IntKind.bits]
  omega
theorem readW_wf (word s : List UInt8) : (Lit.int .i64 (readW word s)).wf = true := wf_range (readW_range word s)
theorem candP_wf (p : List (List UInt8)) : caseWf (candP p) := by
  unfold candP
  split
  · exact ⟨readW_wf _ _, readW_wf _ _, (show (Lit.int .i64 0).wf = true by decide), readW_wf _ _⟩
  · exact ⟨readW_wf _ _, readW_wf _ _, readW_wf _ _, readW_wf _ _⟩
theorem isNum_wf {z : Int} (h : isNumB z = true) : (Lit.int .i64 z).wf = true := wf_range (by have h' : 0 ≤ z ∧ z ≤ 4294967295 := by simpa [isNumB] using h
                                                                                              omega)
theorem numW_wf {word : List UInt8} {z : Int} (h : (numW true word z).2 = true) : (Lit.int .i64 z).wf = true := by
  unfold numW at h
  by_cases h1 : z = -1
  · subst h1; decide
  · rw [if_neg (by simpa using h1)] at h
    exact isNum_wf h
theorem caseText_wf {c : DCase} (h : caseText c ≠ []) : caseWf c := by
  obtain ⟨h1, h2, -⟩ := caseText_ne h
  have hz := zip_vals h2
  obtain ⟨s, a, b, d, e⟩ := c
  cases s
  · exact ⟨numW_wf (hz 0 4 a rfl rfl), isNum_wf (hz 1 1 b rfl rfl), isNum_wf (hz 2 1 d rfl rfl), isNum_wf (hz 3 3 e rfl rfl)⟩
  · simp only [forall_const] at h1
    subst h1
    exact ⟨numW_wf (hz 0 4 a rfl rfl), isNum_wf (hz 1 1 b rfl rfl), (show (Lit.int .i64 0).wf = true by decide), isNum_wf (hz 2 3 e rfl rfl)⟩
theorem readC_wf {t : List UInt8} {c : DCase} (h : readC t = some c) : caseWf c := caseText_wf (by rw [(readC_some h).1]; exact (readC_some h).2)
theorem readE_wf (s : List UInt8) : (Lit.int .i64 (readE s).1).wf = true := by
  unfold readE
  split
  · decide
  · exact wf_range (by have := textNum_range s; omega)
theorem seen_five (w : World) (a b c d e : Value) (t : TypeId) : Seen (w.alloc (.cells #[a, b, c, d, e] t)) (w.heap.size + 1) 5 (some ⟨w.heap.size, 0, none⟩) 1 [a, b, c, d, e] := by
  refine ⟨rfl, .inr ⟨w.heap.size, 0, rfl, by omega, fun j u hu => ?_⟩⟩
  have hx := box_new w #[a, b, c, d, e] t
  match j, hu with
  | 0, hu => simp at hu; subst hu; exact box_cell hx rfl
  | 1, hu => simp at hu; subst hu; exact box_cell hx rfl
  | 2, hu => simp at hu; subst hu; exact box_cell hx rfl
  | 3, hu => simp at hu; subst hu; exact box_cell hx rfl
  | 4, hu => simp at hu; subst hu; exact box_cell hx rfl
  | k + 5, hu => simp at hu
end Go.Proofs.YtllkbikhclfgpaaDoor
