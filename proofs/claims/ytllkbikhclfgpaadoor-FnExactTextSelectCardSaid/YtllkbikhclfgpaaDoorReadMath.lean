
/- The plain mathematics of reading an instruction word by word; it comes to what the model answers. No program is walked here. -/

import Derived.Test.YtllkbikhclfgpaaDoorWordsMath

import Derived.Test.YtllkbikhclfgpaaDoorTextInstrS

namespace Go.Proofs.YtllkbikhclfgpaaDoor
set_option linter.unusedSimpArgs false
set_option linter.unusedVariables false
open Go.RowKit

/-- A word that names nm, as a number. -/
def readF (nm : Int) (s : List UInt8) : Int × Bool := if nm == 4 && s == nilW then (-1, true) else textNum s
/-- Words as numbers, one for each name; none where one isn't, or where there are not as many. -/
def fieldsR : List Int → List (List UInt8) → Option (List Int)
  | [], [] => some []
  | nm :: ns, s :: ss => if (readF nm s).2 then (fieldsR ns ss).map ((readF nm s).1 :: ·) else none
  | _, _ => none

theorem textNum_false {s : List UInt8} (h : (textNum s).2 = false) : textNum s = (0, false) := by
  unfold textNum at h ⊢
  split
  · rename_i hc
    rw [if_pos hc] at h
    cases h
  · rfl
theorem textNum_true {s : List UInt8} (h : (textNum s).2 = true) : numText (textNum s).1 = s ∧ isNumB (textNum s).1 = true := by
  unfold textNum at h ⊢
  split
  · rename_i hc
    simp only
    have : 0 ≤ ((decFold 0 s : Nat) : Int) ∧ ((decFold 0 s : Nat) : Int) ≤ 4294967295 := by omega
    rw [numText, if_pos this, Int.toNat_natCast]
    exact ⟨hc.2, decide_eq_true this⟩
  · rename_i hc
    rw [if_neg hc] at h
    cases h
theorem readF_true {nm : Int} {s : List UInt8} (h : (readF nm s).2 = true) : fieldT nm (readF nm s).1 = s ∧ (numW (nm == 4) nilW (readF nm s).1).2 = true := by
  unfold readF at h ⊢
  split
  · rename_i hc
    simp only [Bool.and_eq_true] at hc
    have : s = nilW := by simpa using hc.2
    simp [fieldT, numW, hc.1, this]
  · rename_i hc
    rw [if_neg hc] at h
    obtain ⟨h1, h2⟩ := textNum_true h
    have h3 : (textNum s).1 ≠ -1 := fun e => by rw [e] at h2; revert h2; decide
    have h4 : ((textNum s).1 == -1) = false := by simpa using h3
    rw [fieldT, numW, h4]
    simp [h1, h2]
theorem readF_fieldT {nm v : Int} (h : (numW (nm == 4) nilW v).2 = true) : readF nm (fieldT nm v) = (v, true) := by
  unfold fieldT
  unfold numW at h ⊢
  split
  · rename_i hc
    simp only [Bool.and_eq_true] at hc
    have : v = -1 := by simpa using hc.2
    simp [readF, hc.1, this]
  · rename_i hc
    rw [if_neg hc] at h
    rw [readF, if_neg, textNum_numText h]
    intro hh
    simp only [Bool.and_eq_true] at hh
    exact numText_word nil_not.1 nil_not.2 (by simpa using hh.2)

theorem fieldsR_len : ∀ (ns : List Int) (ss : List (List UInt8)), ss.length ≠ ns.length → fieldsR ns ss = none
  | [], [], h => absurd rfl h
  | [], _ :: _, _ => rfl
  | _ :: _, [], _ => rfl
  | nm :: ns, s :: ss, h => by
    rw [fieldsR, fieldsR_len ns ss (by simpa using h)]
    simp
theorem fieldsR_bad : ∀ (ns : List Int) (ss : List (List UInt8)) (j : Nat) (nm : Int) (s : List UInt8), ns[j]? = some nm → ss[j]? = some s → (readF nm s).2 = false → fieldsR ns ss = none
  | nm :: ns, s :: ss, 0, nm', s', h1, h2, h => by
    simp at h1 h2
    subst h1 h2
    rw [fieldsR, h]
    rfl
  | nm :: ns, s :: ss, j + 1, nm', s', h1, h2, h => by
    rw [fieldsR, fieldsR_bad ns ss j nm' s' (by simpa using h1) (by simpa using h2) h]
    simp
  | [], _, j, _, _, h1, _, _ => by simp at h1
  | _ :: _, [], j, _, _, _, h2, _ => by simp at h2
def valsR (ns : List Int) (ss : List (List UInt8)) : List Int := List.zipWith (fun nm s => (readF nm s).1) ns ss
theorem fieldsR_ok : ∀ (ns : List Int) (ss : List (List UInt8)), ss.length = ns.length → (∀ (j : Nat) (nm : Int) (s : List UInt8), ns[j]? = some nm → ss[j]? = some s → (readF nm s).2 = true) → fieldsR ns ss = some (valsR ns ss)
  | [], [], _, _ => rfl
  | [], _ :: _, h, _ => by simp at h
  | _ :: _, [], h, _ => by simp at h
  | nm :: ns, s :: ss, h, hh => by
    rw [fieldsR, hh 0 nm s rfl rfl, if_pos rfl, fieldsR_ok ns ss (by simpa using h) fun j nm' s' h1 h2 => hh (j + 1) nm' s' (by simpa using h1) (by simpa using h2)]
    rfl
theorem fieldsR_vals {ns : List Int} {ss : List (List UInt8)} {vs : List Int} (h : fieldsR ns ss = some vs) : vs.length = ns.length ∧ ss = List.zipWith fieldT ns vs ∧ (∀ (j : Nat) (nm v : Int), ns[j]? = some nm → vs[j]? = some v → (numW (nm == 4) nilW v).2 = true) := by
  induction ns generalizing ss vs with
  | nil =>
    cases ss with
    | nil => simp [fieldsR] at h; subst h; simp
    | cons s ss => simp [fieldsR] at h
  | cons nm ns ih =>
    cases ss with
    | nil => simp [fieldsR] at h
    | cons s ss =>
      rw [fieldsR] at h
      split at h
      · rename_i hs
        obtain ⟨vs', hv, rfl⟩ := Option.map_eq_some_iff.1 h
        obtain ⟨h1, h2, h3⟩ := ih hv
        obtain ⟨h4, h5⟩ := readF_true hs
        refine ⟨by simp [h1], by simp [h4, ← h2], fun j nm' v' a b => ?_⟩
        cases j with
        | zero => simp at a b; subst a b; exact h5
        | succ j => exact h3 j nm' v' (by simpa using a) (by simpa using b)
      · cases h
theorem fieldsR_fieldT : ∀ (ns vs : List Int), vs.length = ns.length → (∀ (j : Nat) (nm v : Int), ns[j]? = some nm → vs[j]? = some v → (numW (nm == 4) nilW v).2 = true) → fieldsR ns (List.zipWith fieldT ns vs) = some vs
  | [], [], _, _ => rfl
  | [], _ :: _, h, _ => by simp at h
  | _ :: _, [], h, _ => by simp at h
  | nm :: ns, v :: vs, h, hh => by
    have h0 := readF_fieldT (hh 0 nm v rfl rfl)
    rw [List.zipWith_cons_cons, fieldsR, h0, if_pos rfl, fieldsR_fieldT ns vs (by simpa using h) fun j nm' v' a b => hh (j + 1) nm' v' (by simpa using a) (by simpa using b)]
    rfl

/-- The names that an instruction has. -/
def namesL (op : Int) : List Int := ([(namesA op).1, (namesA op).2.1, (namesA op).2.2]).take (opField op).toNat
def fillR (vs : List Int) : Int × Int × Int := (vs.getD 0 0, vs.getD 1 0, vs.getD 2 0)
/-- What the program makes of a line: an instruction, or none. -/
def readI (s : List UInt8) : Option (Int × Int × Int × Int) :=
  if opOf ((cutR 32 [] s).getD 0 []) = 0 then none
  else (fieldsR (namesL (opOf ((cutR 32 [] s).getD 0 []))) ((cutR 32 [] s).drop 1)).map fun vs => (opOf ((cutR 32 [] s).getD 0 []), fillR vs)

theorem cut_join (c : UInt8) : ∀ (ws : List (List UInt8)) (w0 : List UInt8), c ∉ w0 → (∀ f ∈ ws, c ∉ f) → cutR c [] (w0 ++ Lib.joinTail [c] ws) = w0 :: ws
  | [], w0, h, _ => by rw [joinTail_nil, List.append_nil, cutR_miss c w0 [] h, List.nil_append]
  | x :: ws, w0, h, hh => by
    rw [joinTail_cons, List.cons_append, cutR_hit c _ w0 [] h, List.nil_append, cut_join c ws x (hh x List.mem_cons_self) fun f hf => hh f (List.mem_cons_of_mem _ hf)]
theorem join_cut (c : UInt8) : ∀ (l cur w0 : List UInt8) (ws : List (List UInt8)), cutR c cur l = w0 :: ws → cur ++ l = w0 ++ Lib.joinTail [c] ws
  | [], cur, w0, ws, h => by
    simp only [cutR, List.cons.injEq] at h
    obtain ⟨rfl, rfl⟩ := h
    simp [joinTail_nil]
  | x :: l, cur, w0, ws, h => by
    unfold cutR at h
    split at h
    · rename_i hx
      simp only [List.cons.injEq] at h
      obtain ⟨rfl, hw⟩ := h
      cases ws with
      | nil => exact absurd hw (cutR_ne c l [])
      | cons y ys =>
        have ih := join_cut c l [] y ys hw
        rw [List.nil_append] at ih
        rw [joinTail_cons, ih, hx]
        simp
    · have ih := join_cut c l (cur ++ [x]) w0 ws h
      rw [← ih]
      simp
theorem fieldT_blank (nm v : Int) : (32 : UInt8) ∉ fieldT nm v := numW_blank _ _

theorem namesL_len {op : Int} (h : 1 ≤ op ∧ op ≤ 15) : (namesL op).length = (opField op).toNat := by
  obtain ⟨_, _, _, _, h3, h4⟩ := opWord_words h
  rw [namesL, List.length_take]
  simp
  omega
theorem fieldsA_names {op : Int} (a b c : Int) : fieldsA op a b c = List.zipWith fieldT (namesL op) (([a, b, c] : List Int).take (opField op).toNat) := by
  rw [fieldsA, namesL, ← List.take_zipWith]
  rfl
theorem opOf_op {w : List UInt8} (h : opOf w ≠ 0) : 1 ≤ opOf w ∧ opOf w ≤ 15 := by
  have := opOf_range w
  omega
theorem fill_take {vs : List Int} {m : Nat} (h : vs.length = m) (hm : m ≤ 3) : ([(fillR vs).1, (fillR vs).2.1, (fillR vs).2.2] : List Int).take m = vs ∧ restB (fillR vs).1 (fillR vs).2.1 (fillR vs).2.2 (m : Int) = true := by
  have h4 : m = 0 ∨ m = 1 ∨ m = 2 ∨ m = 3 := by omega
  match vs, h with
  | [], h => simp at h; subst h; simp [fillR, restB]
  | [x], h => simp at h; subst h; simp [fillR, restB]
  | [x, y], h => simp at h; subst h; simp [fillR, restB]
  | [x, y, z], h => simp at h; subst h; simp [fillR, restB]
  | x :: y :: z :: u :: r, h => simp at h; omega

theorem textInstr_read (s : List UInt8) : textInstr s = match readI s with | some i => (i, true) | none => ((0, 0, 0, 0), false) := by
  obtain ⟨w0, ws, hc⟩ : ∃ w0 ws, cutR 32 [] s = w0 :: ws := by
    cases h : cutR 32 [] s with
    | nil => exact absurd h (cutR_ne 32 s [])
    | cons x r => exact ⟨x, r, rfl⟩
  have hs := join_cut 32 s [] w0 ws hc
  rw [List.nil_append] at hs
  cases hr : readI s with
  | some i =>
    simp only
    unfold readI at hr
    rw [hc] at hr
    simp only [List.getD_cons_zero, List.drop_succ_cons, List.drop_zero] at hr
    split at hr
    · cases hr
    · rename_i h0
      obtain ⟨vs, hv, rfl⟩ := Option.map_eq_some_iff.1 hr
      have hop := opOf_op h0
      obtain ⟨_, _, _, hne, hk0, hk3⟩ := opWord_words hop
      obtain ⟨m, hm⟩ : ∃ m : Nat, opField (opOf w0) = m := ⟨(opField (opOf w0)).toNat, by omega⟩
      obtain ⟨h1, h2, h3⟩ := fieldsR_vals hv
      rw [namesL_len hop, hm, Int.toNat_natCast] at h1
      obtain ⟨h4, h5⟩ := fill_take h1 (by omega)
      have hw : opWord (opOf w0) = w0 := opWord_opOf h0
      rw [hw] at hne
      refine textInstr_yes (op := opOf w0) (a := (fillR vs).1) (b := (fillR vs).2.1) (c := (fillR vs).2.2) ?_ ?_
      · rw [hs]
        intro e
        exact hne (List.append_eq_nil_iff.1 e).1
      · rw [instrText_words _ _ _ hop, hm, h5, if_pos rfl, fieldsA_names, hm, Int.toNat_natCast, h4, ← h2, hw, wordsT_ok hne, ← hs]
        intro hmem
        obtain ⟨j, hj, e⟩ := List.getElem_of_mem hmem
        have hj2 := hj
        rw [h2] at hj2
        simp only [List.length_zipWith] at hj2
        have e2 : ws[j]? = some [] := by rw [List.getElem?_eq_getElem hj, e]
        rw [h2, List.getElem?_zipWith] at e2
        rw [List.getElem?_eq_getElem (by omega), List.getElem?_eq_getElem (by omega)] at e2
        simp only [Option.some.injEq] at e2
        have h6 := h3 j _ _ (List.getElem?_eq_getElem (by omega)) (List.getElem?_eq_getElem (by omega))
        rw [fieldT_nil.1 e2] at h6
        cases h6
  | none =>
    simp only
    refine textInstr_no fun op a b c hne he => ?_
    have hop : 1 ≤ op ∧ op ≤ 15 := by
      refine Decidable.byContradiction fun hn => ?_
      rw [instrText, if_pos (.inl (by rw [opField_neg hn]; decide))] at he
      exact hne he.symm
    obtain ⟨_, ho, hb, hn0, hk0, hk3⟩ := opWord_words hop
    obtain ⟨m, hm⟩ : ∃ m : Nat, opField op = m := ⟨(opField op).toNat, by omega⟩
    have hx := instrText_words a b c hop
    rw [he] at hx
    cases hrest : restB a b c (opField op)
    · rw [hrest] at hx
      exact hne hx
    · rw [hrest, if_pos rfl] at hx
      have hno : [] ∉ fieldsA op a b c := fun hmem => hne (by rw [hx, wordsT_bad hmem])
      rw [wordsT_ok hn0 hno] at hx
      have hcut := cut_join 32 (fieldsA op a b c) (opWord op) hb fun f hf => by
        rw [fieldsA_names] at hf
        obtain ⟨j, hj, rfl⟩ := List.getElem_of_mem hf
        rw [List.getElem_zipWith]
        exact fieldT_blank _ _
      rw [← hx] at hcut
      have hsome : fieldsR (namesL op) (fieldsA op a b c) = some (([a, b, c] : List Int).take (opField op).toNat) := by
        rw [fieldsA_names]
        refine fieldsR_fieldT _ _ ?_ fun j nm v h1 h2 => ?_
        · rw [namesL_len hop, List.length_take]; simp; omega
        · cases hb : (numW (nm == 4) nilW v).2
          · exfalso
            apply hno
            rw [fieldsA_names]
            refine List.mem_of_getElem? (i := j) ?_
            rw [List.getElem?_zipWith, h1, h2]
            simp only [Option.some.injEq]
            exact fieldT_nil.2 hb
          · rfl
      have hro : readI s ≠ none := by
        unfold readI
        rw [hcut]
        simp only [List.getD_cons_zero, List.drop_succ_cons, List.drop_zero]
        rw [ho, if_neg (by omega), hsome]
        simp
      exact hro hr
end Go.Proofs.YtllkbikhclfgpaaDoor
