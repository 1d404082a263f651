
/- The contract of the model's SelectText. -/

import Derived.Test.YtgfkadhojlddpaaGreatDoorCaseTextS

import Derived.Test.YtgfkadhojlddpaaGreatDoorGDProg

namespace Go.Proofs.YtgfkadhojlddpaaGreatDoor
set_option linter.unusedSimpArgs false
set_option linter.unusedVariables false
open Go.RowKit

def selectW : List UInt8 := [115, 101, 108, 101, 99, 116, 32]
/-- The texts of cases, each behind a blank; none where one can't be written. -/
def casesText : List DCase → Option (List UInt8)
  | [] => some []
  | x :: r => if caseText x = [] then none else (casesText r).map (fun t => 32 :: caseText x ++ t)
theorem casesText_snoc (x : DCase) : ∀ l : List DCase, casesText (l ++ [x]) = (casesText l).bind fun t => if caseText x = [] then none else some (t ++ 32 :: caseText x)
  | [] => by
    simp only [List.nil_append, casesText, Option.bind_some]
    split <;> simp
  | y :: l => by
    simp only [List.cons_append, casesText]
    rw [casesText_snoc x l]
    split
    · simp
    · cases casesText l with
      | none => simp
      | some t =>
        simp only [Option.bind_some, Option.map_some]
        split <;> simp
theorem casesText_bad {x : DCase} (hx : caseText x = []) : ∀ {l : List DCase}, x ∈ l → casesText l = none
  | [], h => by cases h
  | y :: l, h => by
    unfold casesText
    split
    · rfl
    · rename_i hy
      rcases List.mem_cons.1 h with rfl | h
      · exact absurd hx hy
      · rw [casesText_bad hx h]; rfl
theorem casesText_len : ∀ (l : List DCase) (t : List UInt8), casesText l = some t → t.length ≤ 49 * l.length
  | [], t, h => by
    simp only [casesText, Option.some.injEq] at h
    subst h
    simp
  | x :: l, t, h => by
    unfold casesText at h
    split at h
    · cases h
    · obtain ⟨t', ht', rfl⟩ := Option.map_eq_some_iff.1 h
      have h1 := casesText_len l t' ht'
      have h2 := caseText_len x
      simp only [List.length_cons, List.length_append]
      omega
/-- The text of a select. -/
def selText (s : DSelect) : List UInt8 :=
  if (numW true dashW s.fElse).2 then
    match casesText s.fCases with
    | some t => selectW ++ (numW true dashW s.fElse).1 ++ t
    | none => []
  else []
theorem dashNum_len (z : Int) : (numW true dashW z).1.length ≤ 10 := by
  unfold numW
  split
  · simp [dashW]
  · exact numText_len z
theorem selText_len (s : DSelect) : (selText s).length ≤ 17 + 49 * s.fCases.length := by
  unfold selText
  split
  · split
    · rename_i t ht
      have h1 := casesText_len _ _ ht
      have h2 := dashNum_len s.fElse
      simp only [List.length_append, selectW, List.length_cons, List.length_nil]
      omega
    · simp
  · simp

set_option maxRecDepth 100000 in
set_option maxHeartbeats 4000000 in
theorem specSelectText_any {w : World} {hi : Nat} {s : DSelect} {vs : List Value} (h : laySelect.see w hi s vs) (hhi : hi ≤ w.heap.size) (hs : szSelect s ≤ 1048576) :
    Calls Tryz.prog 77 #[.agg vs.toArray] w fun e w' => e = .returned (Tx (selText s)) ∧ Below w.heap.size w w' := by
  obtain ⟨A0, n0, c0, rfl, ⟨hc0, hm0, s0⟩, hw1⟩ := seeSelect h
  have L0 := Lib.hid s0.1
  unfold szSelect at hs
  rw [L0.out] at hs
  have HS := Lib.hid (show selText s = if (numW true dashW s.fElse).2 then (match casesText s.fCases with | some t => selectW ++ (numW true dashW s.fElse).1 ++ t | none => []) else [] from rfl)
  obtain ⟨cs, el⟩ := s
  simp only at HS s0 L0 hw1 ⊢
  have HNUM := Lib.hid (fun W : World => l05Num_any el true dashW W)
  have hle := dashNum_len el
  generalize numW true dashW el = r at *
  obtain ⟨ew, eb⟩ := r
  simp only at hle
  have hl := w.heap.size.lt_succ_self
  have HB := box_new w #[.slice A0 n0 c0, .int .i64 el] 79
  have hW0 : Below w.heap.size w (w.alloc (.cells #[.slice A0 n0 c0, .int .i64 el] 79)) := (Below.refl _ _).alloc (Nat.le_refl _) _
  have zal : (w.alloc (.cells #[.slice A0 n0 c0, .int .i64 el] 79)).heap.size = w.heap.size + 1 := by simp
  show Calls Tryz.prog 77 #[.agg #[.slice A0 n0 c0, .int .i64 el]] w _
  go_enter Tryz.func77, Tryz.ntmps77
  go_wp2_with fail
  refine (HNUM.out _).mono ?_
  rintro e w1 ⟨rfl, hb1⟩
  have HB1 := box_keep HB hb1 (by omega)
  have hW1 : Below w.heap.size w w1 := hW0.trans (hb1.mono (by omega))
  have cx := box_cell (j := 0) HB1 rfl
  have hl1 := lt_of_block HB1
  clear HB hW0 zal hb1 HB1
  cases eb
  · have hfin := Lib.hid (show selText ⟨cs, el⟩ = [] by rw [HS.out]; rfl)
    go_wp2_with fail
    go_ret
    exact ⟨by rw [hfin.out]; rfl, hW1⟩
  have HZ := Lib.hid (show selText ⟨cs, el⟩ = (match casesText cs with | some t => selectW ++ ew ++ t | none => []) by rw [HS.out]; rfl)
  clear HS HNUM
  go_wp2_with fail
  clear cx
  go_loopw [5, 22] (fun v i wr => ∃ (j : Nat) (t : List UInt8), j ≤ n0 ∧ i = .int .i64 (j : Int) ∧ v = Tx (selectW ++ ew ++ t) ∧ Hid (casesText (cs.take j) = some t) ∧ Below w.heap.size w wr) (fun _ i _ => n0 - (intOf i).toNat)
  case atStart => exact ⟨0, [], Nat.zero_le _, rfl, by rw [List.append_nil]; exact congrArg Value.string (by rw [Tx_app]; rfl), Lib.hid rfl, hW1⟩
  case round =>
    obtain ⟨j, t, hj, rfl, rfl, HT, hb⟩ := hrel
    have htl := casesText_len _ _ HT.out
    have htl2 : (cs.take j).length ≤ j := List.length_take_le _ _
    by_cases hlt : j < n0
    · obtain ⟨hx, g, o, vs, rfl, hg, ⟨rfl, hw⟩, hcell⟩ := (s0.below hb hhi).at_ hlt
      have cc0 := hcell 0 _ rfl
      have cc1 := hcell 1 _ rfl
      have cc2 := hcell 2 _ rfl
      have cc3 := hcell 3 _ rfl
      have cc4 := hcell 4 _ rfl
      simp only [show (layCase).size = 5 from rfl, ← Nat.add_assoc, Nat.add_zero, Nat.mul_one] at cc0 cc1 cc2 cc3 cc4
      have hbad := Lib.hid (fun hh : caseText cs[j] = [] => casesText_bad hh (List.getElem_mem hx))
      have hgood := Lib.hid (fun hh : caseText cs[j] ≠ [] => show casesText (cs.take (j + 1)) = some (t ++ 32 :: caseText cs[j]) by rw [List.take_succ_eq_append_getElem hx, casesText_snoc, HT.out, Option.bind_some, if_neg hh])
      clear hcell hw
      generalize cs[j] = x at *
      obtain ⟨xs, xc, xr, xo, xt⟩ := x
      simp only at cc0 cc1 cc2 cc3 cc4
      have hcl := caseText_len ⟨xs, xc, xr, xo, xt⟩
      have HC := Lib.hid (fun W : World => l05Case_any xs xc xr xo xt W)
      generalize caseText ⟨xs, xc, xr, xo, xt⟩ = y at *
      go_wp2_with fail
      refine (HC.out _).mono ?_
      rintro e w5 ⟨rfl, hb5⟩
      have hW5 : Below w.heap.size w w5 := grown_on hb5 (hb.alloc hb.size _) (Nat.le_refl _)
      cases hy : y.isEmpty
      · have hne : y ≠ [] := by intro h; rw [h] at hy; cases hy
        have HG := Lib.hid (hgood.out hne)
        have hq : selectW.length = 7 := rfl
        have hl1' : ¬ 9223372036854775807 < selectW.length + (ew.length + t.length) + 1 := by omega
        have hl2' : ¬ 9223372036854775807 < selectW.length + (ew.length + t.length) + 1 + y.length := by omega
        clear hq
        go_wp2_with fail
        go_roundw
        case rel => exact ⟨j + 1, _, by omega, by go_num, by first | rfl | (rw [Tx_app, Tx_app]; simp), HG, hW5⟩
        case measure => simp [intOf]; omega
      · have hne : y = [] := by simpa using hy
        have hfin := Lib.hid (show selText ⟨cs, el⟩ = [] by rw [HZ.out, hbad.out hne])
        subst hne
        go_wp2_with fail
        go_ret
        exact ⟨by rw [hfin.out]; rfl, hW5⟩
    · obtain rfl : j = n0 := by omega
      have hfin := Lib.hid (show selText ⟨cs, el⟩ = selectW ++ ew ++ t by rw [HZ.out, ← List.take_of_length_le (show cs.length ≤ j by rw [L0.out]; exact Nat.le_refl _), HT.out])
      go_wp2_with fail
      go_ret
      exact ⟨by rw [hfin.out]; rfl, hb⟩
end Go.Proofs.YtgfkadhojlddpaaGreatDoor
