
/- Contracts of the laws' helpers over slices of bytes: copying (toByteS), comparing (eqByteS), marking (markByteS), asking for the marks (heldByteS). -/

import Derived.Test.YtlaiiphngekhnaaByte

namespace Go.Proofs.Ytlaiiphngekhnaa

open Go.RowKit

/-- The call answers a slice of n bytes in memory of its own, and turns nothing that was there. -/
def MadeB (w : World) (bs : List UInt8) (n : Nat) (en : Ending) (w' : World) : Prop :=
  ∃ A c, en = .returned (.slice A n c) ∧ Own w' w.heap.size w'.heap.size 5 1 A n c (bs.map B) ∧ Below w.heap.size w w'

theorem toByteS_row {bs : List UInt8} {n k : Nat} (hl : bs.length = n) (hk : k < n) :
    (((bs.take k ++ List.replicate (n - k) 0).map B).set k (B (bs[k]'(by omega)))) = (bs.take (k + 1) ++ List.replicate (n - (k + 1)) 0).map B := by
  apply List.ext_getElem?
  intro i
  simp only [List.getElem?_set, List.getElem?_map, List.getElem?_append, List.length_take, List.getElem?_take, List.getElem?_replicate, List.length_map, List.length_append, List.length_replicate]
  rcases Nat.lt_trichotomy i k with h | h | h
  · simp [show ¬ k = i from by omega, show i < min k bs.length from by omega, show i < min (k + 1) bs.length from by omega, h, show i < k + 1 from by omega]
  · subst h
    simp [show i < min (i + 1) bs.length from by omega, show i < min i bs.length + (n - i) from by omega, List.getElem?_eq_getElem (show i < bs.length from by omega)]
  · simp [show ¬ k = i from by omega, show ¬ i < min k bs.length from by omega, show ¬ i < min (k + 1) bs.length from by omega]
    congr 1
    simp; omega

set_option maxHeartbeats 400000 in
theorem toByteS_any {A : Option Addr} {n c hi : Nat} {bs : List UInt8} {w : World} (h : Seen w hi 1 A n (bs.map B)) (hhi : hi ≤ w.heap.size) (hn : n ≤ 16777216) :
    Calls Try.prog 31 #[.slice A n c] w (MadeB w bs n) := by
  obtain ⟨i0, hi0, hz0, hz1, hz2⟩ := info_parts u8_info
  have hmk := fun W : World => run_make (P := Try.prog) W 24 5 i0 _ Try.underlying24 hi0 hz0 .i64 .i64 n n (by omega) (by omega) (by rw [hz2]; omega) (by omega)
  simp only [hz1, Int.toNat_natCast, Nat.mul_one] at hmk
  have hlen0 : bs.length = n := by simpa using h.1
  have hlen : Hid (bs.length = n) := hlen0
  clear hlen0
  clear hi0 hz0 hz1 hz2
  go_enter Try.func31, Try.ntmps31
  go_wp2
  clear hmk
  go_loopw [4] (fun i wr => ∃ k : Nat, k ≤ n ∧ i = .int .i64 k ∧ Own wr w.heap.size (w.heap.size + 1) 5 1 (some ⟨w.heap.size, 0, none⟩) n n ((bs.take k ++ List.replicate (n - k) 0).map B) ∧ Below w.heap.size w wr) (fun i _ => n - (intOf i).toNat)
  case atStart =>
    refine ⟨0, Nat.zero_le _, rfl, ?_, (Below.refl _ _).alloc (Nat.le_refl _) _⟩
    have hm := Own.made (size := 1) (e := 5) w (madeCells #[.int .u8 0] n) n n (by simp only [maxLen]; omega) (by simp [size_madeCells]) (Nat.le_refl _)
    rw [toList_madeCells_one] at hm
    simpa [List.take_replicate, B] using hm
  case round =>
    obtain ⟨k, hk, rfl, hown, hb⟩ := hrel
    by_cases hlt : k < n
    · have hkb : k < bs.length := by rw [hlen.out]; exact hlt
      have hs := h.below hb hhi
      obtain ⟨g, o, u, rfl, hg, hu, hc⟩ := hs.at_ (j := k) (by omega)
      have hx : u = B bs[k] := by simpa [List.getElem?_eq_getElem hkb] using hu.symm
      subst hx
      have hrow := Lib.hid (toByteS_row hlen.out hlt)
      generalize bs[k] = x at *
      have hold : wr.cell? ⟨w.heap.size, k, none⟩ = some (B 0) := hown.cell (by have hl := hlen.out; simp [List.getElem?_append, hl, show ¬ k < min k n from by omega, show k - min k n < n - k from by omega])
      have hfz := hown.free k
      clear hs hu
      go_wp2
      go_roundw
      case rel => exact ⟨k + 1, by omega, by go_num, by rw [← hrow.out]; exact hown.set_ k _, hb.setCell (by simp) _⟩
      case measure => simp [intOf]; omega
    · go_wp2
      go_ret
      have hkn : k = n := by omega
      subst hkn
      refine ⟨_, _, rfl, ?_, hb⟩
      have hl := hlen.out
      have hlt' := hown.lt _ rfl
      have := hown.wider (Nat.le_refl _) (show w.heap.size + 1 ≤ wr.heap.size from hlt'.2.2)
      simpa [List.take_of_length_le (show bs.length ≤ k from by omega)] using this

theorem eqByteS_same {A A' : Option Addr} {n c c' hi hi' : Nat} {bs : List UInt8} {w : World} (h : Seen w hi 1 A n (bs.map B)) (h' : Seen w hi' 1 A' n (bs.map B)) (hn : n ≤ 16777216) :
    Calls Try.prog 10 #[.slice A n c, .slice A' n c'] w fun e w' => e = .returned (.bool true) ∧ ∃ m, w' = w.drewN m := by
  have hlen0 : bs.length = n := by simpa using h.1
  have hlen : Hid (bs.length = n) := hlen0
  clear hlen0
  go_enter Try.func10, Try.ntmps10
  go_wp2
  go_loopw [5] (fun i wr => ∃ k m : Nat, k ≤ n ∧ i = .int .i64 k ∧ wr = w.drewN m) (fun i _ => n - (intOf i).toNat)
  case atStart => exact ⟨0, 0, Nat.zero_le _, rfl, rfl⟩
  case round =>
    obtain ⟨k, m, hk, rfl, rfl⟩ := hrel
    by_cases hlt : k < n
    · have hkb : k < bs.length := by rw [hlen.out]; exact hlt
      obtain ⟨g, o, u, rfl, hg, hu, hc⟩ := h.at_ (j := k) (by omega)
      obtain ⟨g', o', u', rfl, hg', hu', hc'⟩ := h'.at_ (j := k) (by omega)
      have hx : u = B bs[k] := by simpa [List.getElem?_eq_getElem hkb] using hu.symm
      have hx' : u' = B bs[k] := by simpa [List.getElem?_eq_getElem hkb] using hu'.symm
      subst hx hx'
      generalize bs[k] = x at *
      clear hu hu'
      go_wp2
      go_quiet (fail)
      go_wp2
      go_roundw
      case rel => exact ⟨k + 1, _, by omega, by go_num, rfl⟩
      case measure => simp [intOf]; omega
    · go_wp2
      go_ret
      exact ⟨rfl, m, rfl⟩

theorem eqByteS_yes {A A' : Option Addr} {n c c' hi hi' : Nat} {bs : List UInt8} {w : World} (h : Seen w hi 1 A n (bs.map B)) (h' : Seen w hi' 1 A' n (bs.map B)) (hn : n ≤ 16777216) :
    Calls Try.prog 10 #[.slice A n c, .slice A' n c'] w fun e w' => e = .returned (.bool true) ∧ Below w.heap.size w w' :=
  (eqByteS_same h h' hn).mono fun _ _ ⟨he, m, hm⟩ => ⟨he, by rw [hm]; exact ⟨rfl, rfl, rfl, Nat.le_refl _, fun _ _ => rfl⟩⟩

/-- The marks k, k + 1 and so on, each in a byte. -/
def marks (k n : Nat) : List UInt8 := (List.range n).map fun i => UInt8.ofNat (k + i)
theorem marks_length (k n : Nat) : (marks k n).length = n := by simp [marks]
theorem marks_get (k n i : Nat) (h : i < n) : (marks k n)[i]? = some (UInt8.ofNat (k + i)) := by simp [marks, h]

theorem marks_row {bs : List UInt8} {k n i : Nat} (hl : bs.length = n) (hi : i < n) :
    ((((marks k i) ++ bs.drop i).map B).set i (B (UInt8.ofNat (k + i)))) = ((marks k (i + 1)) ++ bs.drop (i + 1)).map B := by
  apply List.ext_getElem?
  intro j
  simp only [marks, List.getElem?_set, List.getElem?_map, List.getElem?_append, List.length_map, List.length_append, List.length_range, List.length_drop, List.getElem?_drop]
  rcases Nat.lt_trichotomy j i with h | h | h
  · simp [show ¬ i = j from by omega, h, show j < i + 1 from by omega]
  · subst h
    simp [show j < j + (bs.length - j) from by omega]
  · simp [show ¬ i = j from by omega, show ¬ j < i from by omega, show ¬ j < i + 1 from by omega, show i + (j - i) = j from by omega, show i + 1 + (j - (i + 1)) = j from by omega]

theorem B_mod (k j : Nat) : Value.int .u8 (((k : Int) + (j : Int)) % 256) = B (UInt8.ofNat (k + j)) := by
  simp only [B, UInt8.toNat_ofNat']
  congr 1

/-- The slice is marked from k on: nothing but its own block has turned. -/
def MarkedB (w : World) (lo hi : Nat) (A : Option Addr) (n c k : Nat) (en : Ending) (w' : World) : Prop :=
  en = .returned (.int .i64 ((k + n : Nat) : Int)) ∧ Own w' lo hi 5 1 A n c ((marks k n).map B) ∧ Turned lo hi w w'

theorem markByteS_any {A : Option Addr} {n c k lo hi : Nat} {bs : List UInt8} {w : World} (h : Own w lo hi 5 1 A n c (bs.map B)) (hn : n ≤ 16777216) (hk : k ≤ 16777216) :
    Calls Try.prog 13 #[.slice A n c, .int .i64 k] w (MarkedB w lo hi A n c k) := by
  have hlen0 : bs.length = n := by simpa using h.1.1
  have hlen : Hid (bs.length = n) := hlen0
  clear hlen0
  go_enter Try.func13, Try.ntmps13
  go_wp2
  go_loopw [1, 5] (fun q i wr => ∃ j : Nat, j ≤ n ∧ i = .int .i64 j ∧ q = .int .i64 ((k + j : Nat) : Int) ∧ Own wr lo hi 5 1 A n c ((marks k j ++ bs.drop j).map B) ∧ Turned lo hi w wr) (fun _ i _ => n - (intOf i).toNat)
  case atStart => exact ⟨0, Nat.zero_le _, rfl, by simp, by simpa [marks] using h, Turned.refl _ _ _⟩
  case round =>
    obtain ⟨j, hj, rfl, rfl, hown, ht⟩ := hrel
    by_cases hlt : j < n
    · obtain ⟨g, rfl, hg1, hg2, hg3⟩ := hown.form (by omega)
      have hjb : j < bs.length := by rw [hlen.out]; exact hlt
      have hrow := Lib.hid (marks_row (k := k) hlen.out hlt)
      have hold : wr.cell? ⟨g, j, none⟩ = some (B bs[j]) := hown.cell (by simp [List.getElem?_append, marks_length, List.getElem?_eq_getElem hjb])
      have hfz := hown.free j
      generalize bs[j] = x at *
      go_wp2
      go_roundw
      case rel =>
        refine ⟨j + 1, by omega, by go_num, by go_num, ?_, ht.setCell hg1 hg2 _⟩
        rw [B_mod, ← hrow.out]
        exact hown.set_ j _
      case measure => simp [intOf]; omega
    · go_wp2
      go_ret
      have hjn : j = n := by omega
      subst hjn
      refine ⟨rfl, ?_, ht⟩
      have hl := hlen.out
      simpa [List.drop_of_length_le (show bs.length ≤ j from by omega)] using hown

theorem heldByteS_any {A : Option Addr} {n c k hi : Nat} {w : World} (h : Seen w hi 1 A n ((marks k n).map B)) (hn : n ≤ 16777216) (hk : k ≤ 16777216) :
    Calls Try.prog 14 #[.slice A n c, .int .i64 k] w fun e w' => e = .returned (.int .i64 ((k + n : Nat) : Int)) ∧ w = w' := by
  go_enter Try.func14, Try.ntmps14
  go_wp2
  go_loop [1, 5] (fun q i => ∃ j : Nat, j ≤ n ∧ i = .int .i64 j ∧ q = .int .i64 ((k + j : Nat) : Int)) (fun _ i => n - (intOf i).toNat)
  case atStart => exact ⟨0, Nat.zero_le _, rfl, by simp⟩
  case round =>
    obtain ⟨j, hj, rfl, rfl⟩ := hrel
    by_cases hlt : j < n
    · obtain ⟨g, o, u, rfl, hg, hu, hc⟩ := h.at_ (j := j) (by omega)
      have hx : u = Value.int .u8 (((k : Int) + (j : Int)) % 256) := by
        rw [B_mod]
        simpa [marks_get k n j hlt] using hu.symm
      subst hx
      clear hu
      go_wp2
      go_round
      case rel => exact ⟨j + 1, by omega, by go_num, by go_num⟩
      case measure => simp [intOf]; omega
    · go_wp2
      go_ret
      have hjn : j = n := by omega
      subst hjn
      exact ⟨rfl, rfl⟩
end Go.Proofs.Ytlaiiphngekhnaa
