
/- slices.Contains at the empty text and strings.Join at a mark of one byte, over a row of texts that can be read. -/

import Derived.Test.YtgfkadhojlddpaaGreatDoorPartsS

import Derived.Test.YtgfkadhojlddpaaGreatDoorShelfJoin

import Derived.Lib.Join

namespace Go.Proofs.YtgfkadhojlddpaaGreatDoor
set_option linter.unusedSimpArgs false
set_option linter.unusedVariables false
open Go.RowKit

def bytesOf (ss : List (List UInt8)) : List ByteArray := ss.map fun l => ⟨l.toArray⟩
theorem bytesOf_data (ss : List (List UInt8)) : (bytesOf ss).map (·.data.toList) = ss := by simp [bytesOf, Function.comp_def]
theorem bytesOf_len (ss : List (List UInt8)) : (bytesOf ss).length = ss.length := by simp [bytesOf]
theorem containsS_empty (ss : List (List UInt8)) : Lib.containsS (bytesOf ss) ⟨#[]⟩ = decide ([] ∈ ss) := by
  rw [Bool.eq_iff_iff, Lib.containsS_iff, decide_eq_true_iff]
  simp only [bytesOf, List.mem_map]
  constructor
  · rintro ⟨l, hl, e⟩
    have : l.toArray = #[] := congrArg ByteArray.data e
    have : l = [] := by simpa using this
    rwa [this] at hl
  · intro h
    exact ⟨[], h, rfl⟩

theorem seen_bytes {w : World} {hi n : Nat} {g o : Nat} {ss : List (List UInt8)} (h : ∀ j u, (ss.map Tx)[j]? = some u → w.cell? ⟨g, o + j, none⟩ = some u) : ∀ (j : Nat) x, (bytesOf ss)[j]? = some x → w.cell? ⟨g, o + j, none⟩ = some (.string x) := by
  intro j x hx
  refine h j _ ?_
  rw [bytesOf, List.getElem?_map] at hx
  obtain ⟨l, hl, rfl⟩ := Option.map_eq_some_iff.1 hx
  rw [List.getElem?_map, hl]
  rfl

theorem contains_seen {w : World} {hi n c : Nat} {A : Option Addr} {ss : List (List UInt8)} (h : Seen w hi 1 A n (ss.map Tx)) (hn : n ≤ maxLen) :
    Calls Tryz.prog 152 #[.slice A n c, Tx []] w fun e w' => e = .returned (.bool (decide ([] ∈ ss))) ∧ w = w' := by
  have hl : ss.length = n := by have := h.1; simpa using this
  rcases h.2 with h0 | ⟨g, o, rfl, hg, hc⟩
  · have : ss = [] := by simpa using h0
    subst this
    obtain rfl : n = 0 := by simpa using hl.symm
    refine (Tryz.slices_Contains_string_empty A c ⟨#[]⟩ w).mono ?_
    rintro e w' ⟨rfl, rfl⟩
    exact ⟨rfl, rfl⟩
  · have hcc := seen_bytes (hi := hi) (n := n) hc
    refine (Tryz.slices_Contains_string g o n c (bytesOf ss) ⟨#[]⟩ w (by rw [bytesOf_len, hl]; exact Nat.le_refl _) (by unfold maxLen at hn; omega) fun j hj => hcc j _ ?_).mono ?_
    · rw [List.getD_eq_getElem?_getD, List.getElem?_eq_getElem hj, Option.getD_some]
    · rintro e w' ⟨rfl, rfl⟩
      refine ⟨?_, rfl⟩
      rw [List.take_of_length_le (by rw [bytesOf_len, hl]; exact Nat.le_refl _), containsS_empty]

theorem join_seen {w : World} {hi n c : Nat} {A : Option Addr} {ss : List (List UInt8)} {mark : List UInt8} (h : Seen w hi 1 A n (ss.map Tx)) (hhi : hi ≤ w.heap.size) (hc : n ≤ c) (hn : n ≤ 140737488355328) (hlen : (Lib.join ss mark).length ≤ 140737488355328) :
    Calls Tryz.prog 36 #[.slice A n c, Tx mark] w fun e w' => e = .returned (Tx (Lib.join ss mark)) ∧ Below w.heap.size w w' := by
  have hl : ss.length = n := by have := h.1; simpa using this
  rcases h.2 with h0 | ⟨g, o, rfl, hg, hcell⟩
  · have : ss = [] := by simpa using h0
    subst this
    obtain rfl : n = 0 := by simpa using hl.symm
    refine (Tryz.strings_Join_none A c ⟨mark.toArray⟩ w).mono ?_
    rintro e w' ⟨rfl, rfl⟩
    exact ⟨rfl, Below.refl _ _⟩
  · have hcc := seen_bytes (hi := hi) (n := n) hcell
    have hb : (bytesOf ss).length = n := by rw [bytesOf_len, hl]
    have e1 : Lib.join ((bytesOf ss).map (·.data.toList)) (⟨mark.toArray⟩ : ByteArray).data.toList = Lib.join ss mark := by rw [bytesOf_data]
    have := Tryz.strings_Join g o c (bytesOf ss) ⟨mark.toArray⟩ w hcc (by omega) (by omega) (by omega) (by rw [e1]; exact hlen)
    rw [e1, hb] at this
    exact this
end Go.Proofs.YtgfkadhojlddpaaGreatDoor
