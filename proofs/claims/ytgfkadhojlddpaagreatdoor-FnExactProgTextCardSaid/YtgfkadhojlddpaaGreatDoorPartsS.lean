
/- Contracts of the model's Parts and Lines. -/

import Derived.Test.YtgfkadhojlddpaaGreatDoorBase

import Derived.Test.YtgfkadhojlddpaaGreatDoorBaseP

import Derived.WalkSpells

import Derived.Handy

namespace Go.Proofs.YtgfkadhojlddpaaGreatDoor

open Go.RowKit

/-- A text as a value. -/
theorem str_info' : (Tryz.prog.info? 9).map (fun i => (i.zero, i.size, i.bytes)) = some (some (.string ByteArray.empty), 1, 16) := by kernel_rfl
theorem oneCell_T (ss : List (List UInt8)) : ∀ u ∈ ss.map Tx, u.oneCell' = true := by
  intro u hu
  obtain ⟨b, _, rfl⟩ := List.mem_map.1 hu
  rfl

/-- The call answers a row of texts in memory of its own, and turns nothing that was there. -/
def MadeT (w : World) (ss : List (List UInt8)) (en : Ending) (w' : World) : Prop :=
  ∃ A n c, en = .returned (.slice A n c) ∧ Own w' w.heap.size w'.heap.size 9 1 A n c (ss.map Tx) ∧ Below w.heap.size w w'

/-- Where the model's loop stands: what it has cut off, and from where on it goes. -/
def CutAt (c : UInt8) (l : List UInt8) (k : Nat) (done : List (List UInt8)) (F : Nat) : Prop :=
  F ≤ k ∧ done.length ≤ k ∧ cutR c [] l = done ++ cutR c ((l.take k).drop F) (l.drop k)

theorem cutAt_start (c : UInt8) (l : List UInt8) : CutAt c l 0 [] 0 := ⟨Nat.le_refl _, Nat.le_refl _, by simp⟩
theorem cutAt_hit {c : UInt8} {l : List UInt8} {k F : Nat} {done : List (List UInt8)} (h : CutAt c l k done F) (hk : l[k]? = some c) : CutAt c l (k + 1) (done ++ [(l.take k).drop F]) (k + 1) := by
  obtain ⟨h1, h2, h3⟩ := h
  obtain ⟨hi, e⟩ := List.getElem?_eq_some_iff.1 hk
  refine ⟨Nat.le_refl _, by simp; omega, ?_⟩
  rw [h3, List.drop_eq_getElem_cons hi, e, cutR, if_pos rfl, List.append_assoc]
  rw [List.drop_of_length_le (show (l.take (k + 1)).length ≤ k + 1 by simp; omega)]
  rfl
theorem cutAt_miss {c x : UInt8} {l : List UInt8} {k F : Nat} {done : List (List UInt8)} (h : CutAt c l k done F) (hk : l[k]? = some x) (hx : x ≠ c) : CutAt c l (k + 1) done F := by
  obtain ⟨h1, h2, h3⟩ := h
  obtain ⟨hi, e⟩ := List.getElem?_eq_some_iff.1 hk
  refine ⟨by omega, by omega, ?_⟩
  rw [h3, List.drop_eq_getElem_cons hi, e, cutR, if_neg hx]
  congr 2
  rw [List.take_succ_eq_append_getElem hi, e, List.drop_append_of_le_length (by simp; omega)]
theorem cutAt_end {c : UInt8} {l : List UInt8} {F : Nat} {done : List (List UInt8)} (h : CutAt c l l.length done F) : cutR c [] l = done ++ [l.drop F] := by
  obtain ⟨_, _, h3⟩ := h
  rw [h3, List.drop_length, List.take_length, cutR]

theorem extract_list (s : ByteArray) (a b : Nat) : Value.string (s.extract a b) = Tx ((s.data.toList.take b).drop a) := by
  have h := Lib.extract_data s a b
  rw [List.drop_take, ← h]

/-- Lines: an empty piece at the end is none. -/
def dropNil (ps : List (List UInt8)) : List (List UInt8) := if ps.getLast? = some [] then ps.dropLast else ps
theorem dropNil_length (ps : List (List UInt8)) : (dropNil ps).length ≤ ps.length := by
  unfold dropNil
  split
  · simp
  · exact Nat.le_refl _
theorem dropNil_nil (ps : List (List UInt8)) : dropNil (ps ++ [[]]) = ps := by simp [dropNil]
theorem dropNil_more (ps : List (List UInt8)) {p : List UInt8} (h : p ≠ []) : dropNil (ps ++ [p]) = ps ++ [p] := by simp [dropNil, h]

end Go.Proofs.YtgfkadhojlddpaaGreatDoor
