
/- The contract of the model's l05Nums: numbers behind a word. -/

import Derived.Test.YtgfkadhojlddpaaGreatDoorInstrTextS

import Derived.Test.YtgfkadhojlddpaaGreatDoorBase

import Derived.Test.YtgfkadhojlddpaaGreatDoorDInt

namespace Go.Proofs.YtgfkadhojlddpaaGreatDoor
set_option linter.unusedSimpArgs false
set_option linter.unusedVariables false
open Go.RowKit

/-- A number behind a blank, with a sign if it is none. -/
def signText (z : Int) : List UInt8 := 32 :: (numText z ++ (if isNumB z then [] else [63]))
def signsText : List Int → List UInt8
  | [] => []
  | z :: r => signText z ++ signsText r
def numsText (word : List UInt8) (l : List Int) : List UInt8 := word ++ signsText l ++ [10]
theorem signsText_snoc (z : Int) : ∀ l : List Int, signsText (l ++ [z]) = signsText l ++ signText z
  | [] => by simp [signsText]
  | y :: l => by rw [List.cons_append, signsText, signsText, signsText_snoc z l, List.append_assoc]
theorem signText_len (z : Int) : (signText z).length ≤ 12 := by
  have := numText_len z
  unfold signText
  simp only [List.length_cons, List.length_append]
  split <;> simp <;> omega
theorem signsText_len : ∀ l : List Int, (signsText l).length ≤ 12 * l.length
  | [] => by simp [signsText]
  | z :: l => by
    have h1 := signText_len z
    have h2 := signsText_len l
    rw [signsText, List.length_append, List.length_cons]
    omega

set_option maxRecDepth 100000 in
set_option maxHeartbeats 2000000 in
theorem l05Nums_any {w : World} {hi n c : Nat} {A : Option Addr} {xs : List Int} {word : List UInt8} (h : SeenR Lay.int w hi A n xs) (hhi : hi ≤ w.heap.size) (hn : n ≤ 1048576) (hwd : word.length ≤ 1048576) :
    Calls Tryz.prog 76 #[Tx word, .slice A n c] w fun e w' => e = .returned (Tx (numsText word xs)) ∧ Below w.heap.size w w' := by
  have HL := Lib.hid h.1
  go_enter Tryz.func76, Tryz.ntmps76
  go_wp2_with fail
  go_loopw [0, 9] (fun v i wr => ∃ (j : Nat) (t : List UInt8), j ≤ n ∧ i = .int .i64 (j : Int) ∧ v = Tx t ∧ Hid (t = word ++ signsText (xs.take j)) ∧ t.length ≤ 1048576 + 12 * j ∧ Below w.heap.size w wr) (fun _ i _ => n - (intOf i).toNat)
  case atStart => exact ⟨0, word, Nat.zero_le _, rfl, rfl, Lib.hid (by simp [signsText]), by omega, Below.refl _ _⟩
  case round =>
    obtain ⟨j, t, hj, rfl, rfl, HT, htl, hb⟩ := hrel
    by_cases hlt : j < n
    · obtain ⟨hx, g, o, vs, rfl, hg, ⟨rfl, hw⟩, hcell⟩ := (h.below hb hhi).at_ hlt
      have cc0 := hcell 0 _ rfl
      simp only [show (Lay.int).size = 1 from rfl, ← Nat.add_assoc, Nat.add_zero, Nat.mul_one] at cc0
      have hnext := Lib.hid (show word ++ signsText (xs.take (j + 1)) = t ++ signText xs[j] by rw [List.take_succ_eq_append_getElem hx, signsText_snoc, ← List.append_assoc, ← HT.out])
      clear hcell hw
      generalize xs[j] = x at *
      have hl1 : ¬ 9223372036854775807 < t.length + 1 := by omega
      have hxl := numText_len x
      have HN := Lib.hid (show signText x = 32 :: (numText x ++ (if isNumB x then [] else [63])) from rfl)
      have HC := Lib.hid (fun W : World => specNumText_any x W)
      generalize numText x = y at *
      have hl2 : ¬ 9223372036854775807 < t.length + 1 + y.length := by omega
      have hl3 : ¬ 9223372036854775807 < t.length + (y.length + 1) := by omega
      have hl4 : ¬ 9223372036854775807 < t.length + (y.length + 1) + 1 := by omega
      have hl5 : ¬ 9223372036854775807 < t.length + 1 + y.length + 1 := by omega
      go_wp2_with fail
      refine (HC.out _).mono ?_
      rintro e w5 ⟨rfl, hb5⟩
      have hW5 : Below w.heap.size w w5 := grown_on hb5 hb (Nat.le_refl _)
      go_wp2_with fail
      refine (l01Num_is x _).mono ?_
      cases hy : isNumB x
      · rintro e w6 ⟨rfl, rfl⟩
        go_wp2_with fail
        go_roundw
        case rel => exact ⟨j + 1, t ++ [32] ++ y ++ [63], by omega, by go_num, by rw [Tx_app, Tx_app, Tx_app], Lib.hid (by rw [hnext.out, HN.out, hy]; simp), by simp only [List.length_append, List.length_cons, List.length_nil]; omega, hW5⟩
        case measure => simp [intOf]; omega
      · rintro e w6 ⟨rfl, rfl⟩
        go_wp2_with fail
        go_roundw
        case rel => exact ⟨j + 1, t ++ [32] ++ y, by omega, by go_num, by rw [Tx_app, Tx_app], Lib.hid (by rw [hnext.out, HN.out, hy]; simp), by simp only [List.length_append, List.length_cons, List.length_nil]; omega, hW5⟩
        case measure => simp [intOf]; omega
    · obtain rfl : j = n := by omega
      have hl1 : ¬ 9223372036854775807 < t.length + 1 := by omega
      have hfin := Lib.hid (show numsText word xs = t ++ [10] by rw [numsText, HT.out, List.take_of_length_le (by rw [HL.out]; exact Nat.le_refl _)])
      go_wp2_with fail
      go_ret
      exact ⟨by rw [hfin.out]; exact congrArg (fun v => Ending.returned (Value.string v)) (Tx_app t [10]), hb⟩
end Go.Proofs.YtgfkadhojlddpaaGreatDoor
