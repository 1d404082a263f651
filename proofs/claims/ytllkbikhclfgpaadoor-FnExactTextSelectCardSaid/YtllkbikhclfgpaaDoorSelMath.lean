
/- The plain mathematics of reading a select word by word; it comes to what the model answers. No program is walked here. -/

import Derived.Test.YtllkbikhclfgpaaDoorReadMath

import Derived.Test.YtllkbikhclfgpaaDoorCaseShapeI

namespace Go.Proofs.YtllkbikhclfgpaaDoor
set_option linter.unusedSimpArgs false
set_option linter.unusedVariables false
open Go.RowKit

/-- What the model takes a word for, read as a case. -/
def candP (p : List (List UInt8)) : DCase :=
  if p.getD 0 [] = sendW then ⟨true, readW nilW (p.getD 1 []), readW [] (p.getD 2 []), 0, readW [] (p.getD 3 [])⟩
  else ⟨false, readW nilW (p.getD 1 []), readW [] (p.getD 2 []), readW [] (p.getD 3 []), readW [] (p.getD 4 [])⟩
def candC (t : List UInt8) : DCase := candP (cutR 58 [] t ++ [[], [], [], []])
def candSel (s : List UInt8) : DSelect := ⟨((cutR 32 [] s).drop 2).map candC, readW dashW ((cutR 32 [] s).getD 1 [])⟩
/-- What the model's TextSelect answers. -/
def textSelect (s : List UInt8) : DSelect × Bool :=
  if (cutR 32 [] s).length < 2 ∨ selText (candSel s) ≠ s then (⟨[], 0⟩, false) else (candSel s, true)

/-- What the program makes of a word: a case, or none. -/
def caseOf (send : Bool) (vs : List Int) : DCase := if send then ⟨true, vs.getD 0 0, vs.getD 1 0, 0, vs.getD 2 0⟩ else ⟨false, vs.getD 0 0, vs.getD 1 0, vs.getD 2 0, vs.getD 3 0⟩
def readC (t : List UInt8) : Option DCase :=
  if (cutR 58 [] t).getD 0 [] = sendW then (fieldsR (shapeNames true) ((cutR 58 [] t).drop 1)).map (caseOf true)
  else if (cutR 58 [] t).getD 0 [] = recvW then (fieldsR (shapeNames false) ((cutR 58 [] t).drop 1)).map (caseOf false)
  else none
def readE (s : List UInt8) : Int × Bool := if s == dashW then (-1, true) else textNum s
def allC : List (List UInt8) → Option (List DCase)
  | [] => some []
  | t :: r => (readC t).bind fun c => (allC r).map (c :: ·)
/-- What the program makes of a line: a select, or none. -/
def readSel (s : List UInt8) : Option DSelect :=
  match cutR 32 [] s with
  | w0 :: e :: r => if w0 = selW then (if (readE e).2 then (allC r).map fun cs => ⟨cs, (readE e).1⟩ else none) else none
  | _ => none

theorem wordsT_ne {w0 : List UInt8} {mark : UInt8} {fs : List (List UInt8)} (h : wordsT w0 mark fs ≠ []) (h0 : w0 ≠ []) : [] ∉ fs ∧ wordsT w0 mark fs = w0 ++ Lib.joinTail [mark] fs := by
  have hn : [] ∉ fs := fun hm => h (wordsT_bad hm)
  exact ⟨hn, wordsT_ok h0 hn⟩
theorem numText_no {z : Int} {c : UInt8} (h : ¬ IsDig c) : c ∉ numText z := fun hc => h (numText_digs z c hc)
theorem not_dig_58 : ¬ IsDig 58 := by unfold IsDig; decide
theorem not_dig_32 : ¬ IsDig 32 := by unfold IsDig; decide
theorem numW_no {nil1 : Bool} {word : List UInt8} {z : Int} {c : UInt8} (h : ¬ IsDig c) (hw : c ∉ word) : c ∉ (numW nil1 word z).1 := by
  unfold numW
  split
  · exact hw
  · exact numText_no h
theorem fieldT_no {nm v : Int} {c : UInt8} (h : ¬ IsDig c) (hw : c ∉ nilW) : c ∉ fieldT nm v := numW_no h hw
theorem mem_joinTail {m c : UInt8} : ∀ {fs : List (List UInt8)}, c ∈ Lib.joinTail [m] fs → c = m ∨ ∃ f ∈ fs, c ∈ f
  | [], h => by simp [joinTail_nil] at h
  | x :: r, h => by
    rw [joinTail_cons] at h
    rcases List.mem_append.1 h with h | h
    · rcases List.mem_cons.1 h with h | h
      · exact .inl h
      · exact .inr ⟨x, List.mem_cons_self, h⟩
    · rcases mem_joinTail h with h | ⟨f, hf, h⟩
      · exact .inl h
      · exact .inr ⟨f, List.mem_cons_of_mem _ hf, h⟩

/-- The head of a case's text, and its fields. -/
def headC (c : DCase) : List UInt8 := if c.fSend then sendW else recvW
def namC (c : DCase) : List Int := shapeNames c.fSend
def valC (c : DCase) : List Int := if c.fSend then [c.fChan, c.fReg, c.fTo] else [c.fChan, c.fReg, c.fOk, c.fTo]
theorem headC_ne (c : DCase) : headC c ≠ [] := by unfold headC; split <;> decide
theorem headC_no (c : DCase) : (58 : UInt8) ∉ headC c ∧ (32 : UInt8) ∉ headC c := by unfold headC; split <;> decide
theorem valC_len (c : DCase) : (valC c).length = (namC c).length := by obtain ⟨s, a, b, d, e⟩ := c; cases s <;> rfl
theorem caseText_words (c : DCase) : caseText c = if c.fSend = true ∧ c.fOk ≠ 0 then [] else wordsT (headC c) 58 (List.zipWith fieldT (namC c) (valC c)) := by
  obtain ⟨s, a, b, d, e⟩ := c
  cases s
  · rw [caseText_recv, if_neg (by simp)]
    rfl
  · rw [caseText_send]
    by_cases h : d = 0
    · rw [if_pos h, if_neg (by simp [h])]
      rfl
    · rw [if_neg h, if_pos ⟨rfl, h⟩]
theorem caseText_ne {c : DCase} (h : caseText c ≠ []) : (c.fSend = true → c.fOk = 0) ∧ [] ∉ List.zipWith fieldT (namC c) (valC c) ∧ caseText c = headC c ++ Lib.joinTail [58] (List.zipWith fieldT (namC c) (valC c)) := by
  rw [caseText_words] at h ⊢
  split at h
  · exact absurd rfl h
  · rename_i hc
    rw [if_neg hc]
    obtain ⟨h1, h2⟩ := wordsT_ne h (headC_ne c)
    refine ⟨fun hs => Decidable.byContradiction fun hn => hc ⟨hs, hn⟩, h1, h2⟩
theorem zip_no {c : UInt8} (h : ¬ IsDig c) (hw : c ∉ nilW) (ns vs : List Int) : ∀ f ∈ List.zipWith fieldT ns vs, c ∉ f := by
  intro f hf
  obtain ⟨j, hj, rfl⟩ := List.getElem_of_mem hf
  rw [List.getElem_zipWith]
  exact fieldT_no h hw
theorem caseText_blank (c : DCase) : (32 : UInt8) ∉ caseText c := by
  by_cases h : caseText c = []
  · rw [h]; simp
  · rw [(caseText_ne h).2.2]
    intro hm
    rcases List.mem_append.1 hm with hm | hm
    · exact (headC_no c).2 hm
    · rcases mem_joinTail hm with h' | ⟨f, hf, h'⟩
      · revert h'; decide
      · exact zip_no not_dig_32 (by decide) _ _ f hf h'
theorem caseText_cut {c : DCase} (h : caseText c ≠ []) : cutR 58 [] (caseText c) = headC c :: List.zipWith fieldT (namC c) (valC c) := by
  rw [(caseText_ne h).2.2]
  exact cut_join 58 _ _ (headC_no c).1 (zip_no not_dig_58 (by decide) _ _)
theorem zip_vals {ns vs : List Int} (hno : [] ∉ List.zipWith fieldT ns vs) : ∀ (j : Nat) (nm v : Int), ns[j]? = some nm → vs[j]? = some v → (numW (nm == 4) nilW v).2 = true := by
  intro j nm v h1 h2
  cases hb : (numW (nm == 4) nilW v).2
  · exfalso
    apply hno
    refine List.mem_of_getElem? (i := j) ?_
    rw [List.getElem?_zipWith, h1, h2]
    simp only [Option.some.injEq]
    exact fieldT_nil.2 hb
  · rfl
theorem vals_zip {ns vs : List Int} (hl : vs.length = ns.length) (h : ∀ (j : Nat) (nm v : Int), ns[j]? = some nm → vs[j]? = some v → (numW (nm == 4) nilW v).2 = true) : [] ∉ List.zipWith fieldT ns vs := by
  intro hmem
  obtain ⟨j, hj, e⟩ := List.getElem_of_mem hmem
  rw [List.getElem_zipWith] at e
  have hj2 := hj
  rw [List.length_zipWith] at hj2
  have h6 := h j _ _ (List.getElem?_eq_getElem (by omega)) (List.getElem?_eq_getElem (by omega))
  rw [fieldT_nil.1 e] at h6
  cases h6
theorem caseOf_val (c : DCase) (h : c.fSend = true → c.fOk = 0) : caseOf c.fSend (valC c) = c := by
  obtain ⟨s, a, b, d, e⟩ := c
  cases s
  · rfl
  · simp only [forall_const] at h
    subst h
    rfl
theorem readC_text {c : DCase} (h : caseText c ≠ []) : readC (caseText c) = some c := by
  obtain ⟨h1, h2, -⟩ := caseText_ne h
  have hf := fieldsR_fieldT (namC c) (valC c) (valC_len c) (zip_vals h2)
  unfold readC
  rw [caseText_cut h, List.getD_cons_zero, List.drop_succ_cons, List.drop_zero]
  have hc := caseOf_val c h1
  obtain ⟨s, a, b, d, e⟩ := c
  cases s
  · rw [show headC ⟨false, a, b, d, e⟩ = recvW from rfl, if_neg (by decide), if_pos rfl]
    rw [show shapeNames false = namC ⟨false, a, b, d, e⟩ from rfl, hf, Option.map_some]
    exact congrArg some hc
  · rw [show headC ⟨true, a, b, d, e⟩ = sendW from rfl, if_pos rfl]
    rw [show shapeNames true = namC ⟨true, a, b, d, e⟩ from rfl, hf, Option.map_some]
    exact congrArg some hc
theorem caseOf_wrote {send : Bool} {vs : List Int} (h : vs.length = (shapeNames send).length) : (caseOf send vs).fSend = send ∧ valC (caseOf send vs) = vs ∧ (send = true → (caseOf send vs).fOk = 0) := by
  cases send
  · match vs, h with
    | [a, b, c, d], _ => exact ⟨rfl, rfl, fun h => by cases h⟩
  · match vs, h with
    | [a, b, c], _ => exact ⟨rfl, rfl, fun _ => rfl⟩
theorem readC_at {t w0 : List UInt8} {ws : List (List UInt8)} {vs : List Int} (send : Bool) (hc : cutR 58 [] t = w0 :: ws) (hw : w0 = if send then sendW else recvW) (hf : fieldsR (shapeNames send) ws = some vs) : caseText (caseOf send vs) = t ∧ t ≠ [] := by
  obtain ⟨h1, h2, h3⟩ := fieldsR_vals hf
  obtain ⟨e1, e2, e3⟩ := caseOf_wrote h1
  have hs := join_cut 58 t [] w0 ws hc
  rw [List.nil_append] at hs
  have hne : w0 ≠ [] := by rw [hw]; split <;> decide
  refine ⟨?_, fun e => ?_⟩
  · rw [caseText_words, if_neg, headC, namC, e1, e2, ← hw, wordsT_ok hne (vals_zip h1 h3), ← h2, ← hs]
    rintro ⟨h, h'⟩
    rw [e1] at h
    exact h' (e3 h)
  · rw [e] at hs
    exact hne (List.append_eq_nil_iff.1 hs.symm).1
theorem readC_some {t : List UInt8} {c : DCase} (h : readC t = some c) : caseText c = t ∧ t ≠ [] := by
  obtain ⟨w0, ws, hc⟩ : ∃ w0 ws, cutR 58 [] t = w0 :: ws := by
    cases h : cutR 58 [] t with
    | nil => exact absurd h (cutR_ne 58 t [])
    | cons x r => exact ⟨x, r, rfl⟩
  unfold readC at h
  rw [hc, List.getD_cons_zero, List.drop_succ_cons, List.drop_zero] at h
  split at h
  · rename_i hw
    obtain ⟨vs, hf, rfl⟩ := Option.map_eq_some_iff.1 h
    exact readC_at true hc (by rw [hw]; rfl) hf
  · split at h
    · rename_i hw
      obtain ⟨vs, hf, rfl⟩ := Option.map_eq_some_iff.1 h
      exact readC_at false hc (by rw [hw]; rfl) hf
    · cases h
theorem candC_text {c : DCase} (h : caseText c ≠ []) : candC (caseText c) = c := by
  obtain ⟨h1, h2, -⟩ := caseText_ne h
  have hz := zip_vals h2
  unfold candC
  rw [caseText_cut h]
  obtain ⟨s, a, b, d, e⟩ := c
  cases s
  · have e0 := readW_numW nil_not.1 nil_not.2 (hz 0 4 a rfl rfl)
    have e1 : isNumB b = true := hz 1 1 b rfl rfl
    have e2 : isNumB d = true := hz 2 1 d rfl rfl
    have e3 : isNumB e = true := hz 3 3 e rfl rfl
    simp only [headC, namC, valC, shapeNames, Bool.false_eq_true, if_false, List.zipWith_cons_cons, List.zipWith_nil_left, candP, List.cons_append, List.getD_cons_zero, List.getD_cons_succ]
    rw [if_neg (by decide), fieldT_num (nm := 1) (by decide), fieldT_num (nm := 1) (by decide), fieldT_num (nm := 3) (by decide), readW_num e1, readW_num e2, readW_num e3, fieldT]
    rw [e0]
  · have e0 := readW_numW nil_not.1 nil_not.2 (hz 0 4 a rfl rfl)
    have e1 : isNumB b = true := hz 1 1 b rfl rfl
    have e3 : isNumB e = true := hz 2 3 e rfl rfl
    simp only [forall_const] at h1
    subst h1
    simp only [headC, namC, valC, shapeNames, if_true, List.zipWith_cons_cons, List.zipWith_nil_left, candP, List.cons_append, List.getD_cons_zero, List.getD_cons_succ]
    rw [fieldT_num (nm := 1) (by decide), fieldT_num (nm := 3) (by decide), readW_num e1, readW_num e3, fieldT]
    rw [e0]

theorem readE_text {z : Int} (h : (numW true dashW z).2 = true) : readE (numW true dashW z).1 = (z, true) := by
  unfold numW at h ⊢
  by_cases h1 : z = -1
  · subst h1; rfl
  · have h2 : ¬ ((true && z == -1) = true) := by simpa using h1
    rw [if_neg h2] at h ⊢
    rw [readE, if_neg, textNum_numText h]
    intro hh
    exact numText_word dash_not.1 dash_not.2 (by simpa using hh)
theorem readE_some {s : List UInt8} (h : (readE s).2 = true) : numW true dashW (readE s).1 = (s, true) := by
  unfold readE at h ⊢
  split
  · rename_i hc
    have : s = dashW := by simpa using hc
    rw [this]; rfl
  · rename_i hc
    rw [if_neg hc] at h
    obtain ⟨h1, h2⟩ := textNum_true h
    have h3 : (textNum s).1 ≠ -1 := fun e => by rw [e] at h2; revert h2; decide
    rw [numW, if_neg (by simpa using h3), h1, h2]

theorem allC_text : ∀ {cs : List DCase}, (∀ c ∈ cs, caseText c ≠ []) → allC (cs.map caseText) = some cs
  | [], _ => rfl
  | c :: cs, h => by
    rw [List.map_cons, allC, readC_text (h c List.mem_cons_self), Option.bind_some, allC_text fun x hx => h x (List.mem_cons_of_mem _ hx)]
    rfl
theorem allC_some : ∀ {r : List (List UInt8)} {cs : List DCase}, allC r = some cs → r = cs.map caseText ∧ ∀ c ∈ cs, caseText c ≠ []
  | [], cs, h => by simp [allC] at h; subst h; simp
  | t :: r, cs, h => by
    rw [allC] at h
    obtain ⟨c, hc, h⟩ := Option.bind_eq_some_iff.1 h
    obtain ⟨cs', hcs, rfl⟩ := Option.map_eq_some_iff.1 h
    obtain ⟨h1, h2⟩ := allC_some hcs
    obtain ⟨h3, h4⟩ := readC_some hc
    refine ⟨by rw [List.map_cons, ← h1, h3], fun x hx => ?_⟩
    rcases List.mem_cons.1 hx with rfl | hx
    · rw [h3]; exact h4
    · exact h2 x hx
theorem allC_bad : ∀ (r : List (List UInt8)) (j : Nat) (t : List UInt8), r[j]? = some t → readC t = none → allC r = none
  | [], j, t, h, _ => by simp at h
  | x :: r, 0, t, h, hn => by
    simp at h; subst h
    rw [allC, hn]; rfl
  | x :: r, j + 1, t, h, hn => by
    rw [allC, allC_bad r j t (by simpa using h) hn]
    cases readC x <;> rfl
theorem allC_snoc (t : List UInt8) : ∀ (l : List (List UInt8)) (cs : List DCase) (c : DCase), allC l = some cs → readC t = some c → allC (l ++ [t]) = some (cs ++ [c])
  | [], cs, c, h, hc => by
    simp [allC] at h; subst h
    simp [allC, hc]
  | x :: l, cs, c, h, hc => by
    rw [allC] at h
    obtain ⟨d, hd, h⟩ := Option.bind_eq_some_iff.1 h
    obtain ⟨ds, hds, rfl⟩ := Option.map_eq_some_iff.1 h
    rw [List.cons_append, allC, hd, Option.bind_some, allC_snoc t l ds c hds hc]
    rfl

theorem selText_ne {x : DSelect} (h : selText x ≠ []) : (numW true dashW x.fElse).2 = true ∧ (∀ c ∈ x.fCases, caseText c ≠ []) ∧ cutR 32 [] (selText x) = selW :: (numW true dashW x.fElse).1 :: x.fCases.map caseText := by
  rw [selText_words] at h ⊢
  obtain ⟨h1, h2⟩ := wordsT_ne h (by decide)
  rw [h2]
  refine ⟨?_, fun c hc e => h1 (List.mem_cons_of_mem _ (List.mem_map.2 ⟨c, hc, e⟩)), cut_join 32 _ _ (by decide) fun f hf => ?_⟩
  · cases hb : (numW true dashW x.fElse).2
    · exact absurd (List.mem_cons.2 (.inl ((numW_nil (by decide)).2 hb).symm)) h1
    · rfl
  · rcases List.mem_cons.1 hf with rfl | hf
    · exact numW_no not_dig_32 (by decide)
    · obtain ⟨c, _, rfl⟩ := List.mem_map.1 hf
      exact caseText_blank c
theorem readSel_text {x : DSelect} (h : selText x ≠ []) : readSel (selText x) = some x := by
  obtain ⟨h1, h2, h3⟩ := selText_ne h
  unfold readSel
  rw [h3]
  simp only [if_true]
  rw [readE_text h1, if_pos rfl, allC_text h2]
  rfl
theorem candSel_text {x : DSelect} (h : selText x ≠ []) : candSel (selText x) = x := by
  obtain ⟨h1, h2, h3⟩ := selText_ne h
  unfold candSel
  rw [h3]
  simp only [List.drop_succ_cons, List.drop_zero, List.getD_cons_succ, List.getD_cons_zero, List.map_map]
  rw [readW_numW dash_not.1 dash_not.2 h1]
  have : x.fCases.map (candC ∘ caseText) = x.fCases := by
    conv => rhs; rw [← List.map_id x.fCases]
    exact List.map_congr_left fun c hc => candC_text (h2 c hc)
  rw [this]
theorem readSel_some {s : List UInt8} {x : DSelect} (h : readSel s = some x) : selText x = s ∧ s ≠ [] := by
  unfold readSel at h
  split at h
  · rename_i w0 e r hc
    split at h
    · rename_i hw
      split at h
      · rename_i he
        obtain ⟨cs, hcs, rfl⟩ := Option.map_eq_some_iff.1 h
        obtain ⟨h1, h2⟩ := allC_some hcs
        have hs := join_cut 32 s [] w0 _ hc
        rw [List.nil_append] at hs
        have hE := readE_some he
        subst hw
        refine ⟨?_, fun e => by rw [e] at hs; revert hs; simp [selW]⟩
        rw [selText_words, hE, wordsT_ok (by decide), ← h1, ← hs]
        intro hm
        rcases List.mem_cons.1 hm with hm | hm
        · have := (numW_nil (nil1 := true) (word := dashW) (by decide) (z := (readE e).1)).1 (by rw [hE]; exact hm.symm)
          rw [hE] at this
          cases this
        · rw [List.mem_map] at hm
          obtain ⟨c, hc, e⟩ := hm
          exact h2 c hc e
      · cases h
    · cases h
  · cases h
theorem readSel_long {s : List UInt8} {x : DSelect} (h : readSel s = some x) : ¬ (cutR 32 [] s).length < 2 := by
  unfold readSel at h
  split at h
  · rename_i w0 e r hc
    rw [hc]; simp
  · cases h
/-- What the program makes of a line is what the model makes of it. -/
theorem textSelect_read (s : List UInt8) : textSelect s = match readSel s with | some x => (x, true) | none => (⟨[], 0⟩, false) := by
  cases hr : readSel s with
  | some x =>
    obtain ⟨h1, h2⟩ := readSel_some hr
    have hc : candSel s = x := by rw [← h1, candSel_text (by rw [h1]; exact h2)]
    simp only
    rw [textSelect, hc, if_neg]
    rintro (h | h)
    · exact readSel_long hr h
    · exact h h1
  | none =>
    simp only
    rw [textSelect, if_pos]
    by_cases hl : (cutR 32 [] s).length < 2
    · exact .inl hl
    · refine .inr fun he => ?_
      have hs : s ≠ [] := fun e => hl (by rw [e]; decide)
      have := readSel_text (x := candSel s) (by rw [he]; exact hs)
      rw [he, hr] at this
      cases this
end Go.Proofs.YtllkbikhclfgpaaDoor
