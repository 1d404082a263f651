
/- The contracts of the model's l05Num, l05IsChan, InstrText. -/

import Derived.Test.YtgfkadhojlddpaaGreatDoorAsmMath

import Derived.Test.YtgfkadhojlddpaaGreatDoorNumText

namespace Go.Proofs.YtgfkadhojlddpaaGreatDoor
set_option linter.unusedSimpArgs false
set_option linter.unusedVariables false
open Go.RowKit

theorem str_is {b : ByteArray} {l : List UInt8} (h : b.data.toList = l) : Value.string b = Tx l := by
  subst h
  rfl
theorem Tx_app (a b : List UInt8) : (⟨a.toArray⟩ : ByteArray) ++ ⟨b.toArray⟩ = ⟨(a ++ b).toArray⟩ := by rw [ByteArray.mk_append_mk]

abbrev textBool (r : List UInt8 × Bool) : Ending := .returned (.tuple #[Tx r.1, .bool r.2])

theorem l01Num_is (z : Int) (w : World) : Calls Tryz.prog 137 #[.int .i64 z] w fun e w' => e = .returned (.bool (isNumB z)) ∧ w = w' := by
  by_cases h : 0 ≤ z ∧ z ≤ 4294967295
  · rw [isNumB, decide_eq_true h]
    exact l01Num_yes z w h.1 h.2
  · rw [isNumB, decide_eq_false h]
    exact l01Num_no z w h

set_option maxRecDepth 100000 in
set_option maxHeartbeats 1000000 in
theorem l05Num_any (z : Int) (nil1 : Bool) (word : List UInt8) (w : World) :
    Calls Tryz.prog 138 #[.int .i64 z, .bool nil1, Tx word] w fun e w' => e = textBool (numW nil1 word z) ∧ Below w.heap.size w w' := by
  have plain : ∀ b : Bool, b = (nil1 && z == -1) → b = false → Calls Tryz.prog 138 #[.int .i64 z, .bool nil1, Tx word] w fun e w' => e = textBool (numW nil1 word z) ∧ Below w.heap.size w w' := by
    intro b hb hf
    have e1 := Lib.hid (show numW nil1 word z = (numText z, isNumB z) by rw [numW, ← hb, hf]; rfl)
    subst hf
    have hz : nil1 = true → (z == -1) = false := fun e => by rw [e] at hb; simpa using hb.symm
    clear hb
    have go : ∀ nb : Bool, nb = nil1 → Calls Tryz.prog 138 #[.int .i64 z, .bool nil1, Tx word] w fun e w' => e = textBool (numW nil1 word z) ∧ Below w.heap.size w w' := by
      intro nb hnb
      cases nil1
      · clear hz hnb
        go_enter Tryz.func138, Tryz.ntmps138
        go_wp2_with fail
        refine (specNumText_any z _).mono ?_
        rintro e w1 ⟨rfl, hb1⟩
        go_wp2_with fail
        refine (l01Num_is z _).mono ?_
        rintro e w2 ⟨rfl, rfl⟩
        go_wp2_with fail
        go_ret2
        exact ⟨by rw [e1.out]; rfl, hb1⟩
      · have hz1 := hz rfl
        clear hz hnb
        go_enter Tryz.func138, Tryz.ntmps138
        go_wp2_with fail
        refine (specNumText_any z _).mono ?_
        rintro e w1 ⟨rfl, hb1⟩
        go_wp2_with fail
        refine (l01Num_is z _).mono ?_
        rintro e w2 ⟨rfl, rfl⟩
        go_wp2_with fail
        go_ret2
        exact ⟨by rw [e1.out]; rfl, hb1⟩
    exact go nil1 rfl
  cases hb : (nil1 && z == -1)
  · exact plain false hb.symm rfl
  · have e1 := Lib.hid (show numW nil1 word z = (word, true) by rw [numW, hb]; rfl)
    have h2 : nil1 = true ∧ z = -1 := by simpa using hb
    obtain ⟨rfl, rfl⟩ := h2
    go_enter Tryz.func138, Tryz.ntmps138
    go_wp2_with fail
    go_ret2
    exact ⟨by rw [e1.out]; rfl, Below.refl _ _⟩

theorem l05IsChan_any (z : Int) (w : World) : Calls Tryz.prog 143 #[.int .i64 z] w fun e w' => e = .returned (.bool (isChanOp z)) ∧ w = w' := by
  cases h1 : (z == 8)
  · cases h2 : (z == 9)
    · cases h3 : (z == 10)
      all_goals
        rw [show isChanOp z = _ from by rw [isChanOp, h1, h2, h3]]
        go_enter Tryz.func143, Tryz.ntmps143
        go_wp2_with fail
        go_ret
        exact ⟨rfl, rfl⟩
    · rw [show isChanOp z = true from by rw [isChanOp, h1, h2]; rfl]
      go_enter Tryz.func143, Tryz.ntmps143
      go_wp2_with fail
      go_ret
      exact ⟨rfl, rfl⟩
  · rw [show isChanOp z = true from by rw [isChanOp, h1]; rfl]
    go_enter Tryz.func143, Tryz.ntmps143
    go_wp2_with fail
    go_ret
    exact ⟨rfl, rfl⟩
end Go.Proofs.YtgfkadhojlddpaaGreatDoor
