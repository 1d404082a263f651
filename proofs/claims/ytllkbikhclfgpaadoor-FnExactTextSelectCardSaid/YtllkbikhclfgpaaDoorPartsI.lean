
/- Contracts of the program's Parts and Lines, over strings.Split and strings.Clone. -/

import Derived.Test.YtllkbikhclfgpaaDoorPartsS

import Derived.Test.YtllkbikhclfgpaaDoorShelfSplit

import Derived.Test.YtllkbikhclfgpaaDoorBaseP

namespace Go.Proofs.YtllkbikhclfgpaaDoor

open Go.RowKit

theorem str_size : ∀ w, (Go.sizeOf 9).run Tryd.prog w = .ok 1 w := fun _ => by kernel_rfl

theorem clone_any (s : ByteArray) (w : World) (h : s.size ≤ 1048576) :
    Calls Tryd.prog 73 #[.string s] w fun e w' => e = .returned (.string s) ∧ Below w.heap.size w w' := by
  go_enter Tryd.func73, Tryd.ntmps73
  go_wp2_with fail
  refine (Tryd.stringslite_Clone s _ (by omega)).mono ?_
  rintro e w1 ⟨rfl, hb⟩
  go_wp2_with fail
  go_ret
  exact ⟨rfl, hb⟩

theorem split_any (s : ByteArray) (c : UInt8) (m : Int) (w : World) (hs : s.size ≤ 1048576) (hm : w.cell? ⟨1, 0, none⟩ = some (.int .i64 m)) :
    Calls Tryd.prog 72 #[.string s, .string ⟨#[c]⟩] w fun e w' => e = .returned (.slice (some ⟨w.heap.size, 0, none⟩) (cutR c [] s.data.toList).length (cutR c [] s.data.toList).length) ∧
      w' = w.alloc (.cells ((cutR c [] s.data.toList).map Tx).toArray 9) := by
  have h := Any.strings_Split { Tryd.laysM146 with } Tryd.laysM146.i9 s ⟨#[c]⟩ m w (by omega) hm (Nat.le_refl 1)
  have hc := split_cut c _ s rfl
  have hl : Lib.countB s ⟨#[c]⟩ + 1 = (cutR c [] s.data.toList).length := by
    rw [← hc, List.length_map, Lib.splitB_all ⟨#[c]⟩ (Nat.le_refl 1) 0 _ s rfl]
  have hv : (Lib.splitB ⟨#[c]⟩ 0 (Lib.countB s ⟨#[c]⟩) s).map Value.string = (cutR c [] s.data.toList).map Tx := by
    rw [← hc, List.map_map]
    rfl
  rw [hl, hv] at h
  exact h

/-- The call answers a row of texts, as long as its memory, in memory of its own, and turns nothing that was there. -/
def MadeT1 (w : World) (ss : List (List UInt8)) (en : Ending) (w' : World) : Prop :=
  ∃ g, en = .returned (.slice (some ⟨g, 0, none⟩) ss.length ss.length) ∧ Own w' w.heap.size w'.heap.size 9 1 (some ⟨g, 0, none⟩) ss.length ss.length (ss.map Tx) ∧ Below w.heap.size w w'

set_option maxRecDepth 100000 in
set_option maxHeartbeats 1000000 in
theorem cutAt_any (s : ByteArray) (c : UInt8) (m : Int) (w : World) (hs : s.size ≤ 1048576) (hm : w.cell? ⟨1, 0, none⟩ = some (.int .i64 m)) :
    Calls Tryd.prog 65 #[.string s, .string ⟨#[c]⟩] w (MadeT1 w (cutR c [] s.data.toList)) := by
  have hlen := cutR_length c s.data.toList []
  rw [show s.data.toList.length = s.size from rfl] at hlen
  have hall : ∀ p ∈ cutR c [] s.data.toList, p.length ≤ 1048576 := fun p hp => by have := cutR_mem c s.data.toList [] p hp; rw [show s.data.toList.length = s.size from rfl] at this; simp only [List.length_nil] at this; omega
  generalize hss : cutR c [] s.data.toList = ss at *
  have HSS := Lib.hid hss
  have HA := Lib.hid hall
  clear hss hall
  go_enter Tryd.func65, Tryd.ntmps65
  go_wp2_with fail
  refine (split_any s c m _ hs hm).mono ?_
  rw [HSS.out]
  rintro e w1 ⟨rfl, rfl⟩
  go_wp2_with fail
  go_loopw [6, 12] (fun _ i wr => ∃ k : Nat, k ≤ ss.length ∧ i = .int .i64 k ∧ Own wr w.heap.size (w.heap.size + 1) 9 1 (some ⟨w.heap.size, 0, none⟩) ss.length ss.length (ss.map Tx) ∧ Below w.heap.size w wr) (fun _ i _ => ss.length - (intOf i).toNat)
  case atStart =>
    refine ⟨0, Nat.zero_le _, rfl, ?_, (Below.refl _ _).alloc (Nat.le_refl _) _⟩
    have hm := Own.made (size := 1) (e := 9) w (ss.map Tx).toArray ss.length ss.length (by simp only [maxLen]; omega) (by simp) (Nat.le_refl _)
    simpa [List.take_of_length_le] using hm
  case round =>
    obtain ⟨k, hk, rfl, hown, hb⟩ := hrel
    have z := hb.size
    have hz1 : w.heap.size < wr.heap.size := (hown.lt _ rfl).2.2
    by_cases hlt : k < ss.length
    · have hkk := Lib.hid (List.getElem?_eq_getElem hlt)
      have hle := HA.out _ (List.getElem_mem hlt)
      have hmk : (ss.map Tx)[k]? = some (Tx ss[k]) := by rw [List.getElem?_map, hkk.out]; rfl
      have HM := Lib.hid hmk
      have hold := hown.cell hmk
      clear hmk
      have hfz := hown.free k
      generalize ss[k] = p at *
      go_wp2_with fail
      refine (clone_any ⟨p.toArray⟩ _ (by simpa [ByteArray.size] using hle)).mono ?_
      rintro e w1 ⟨rfl, hb1⟩
      have hown1 := hown.below hb1 (by omega)
      have hold1 := hown1.cell HM.out
      have hfz1 := hown1.free k
      have hown2 := hown1.set_ k (Tx p)
      have hset : (ss.map Tx).set k (Tx p) = ss.map Tx := by
        apply List.ext_getElem?
        intro j
        by_cases hj : k = j
        · subst hj; rw [List.getElem?_set_self (by simpa using hlt), HM.out]
        · rw [List.getElem?_set_ne hj]
      rw [hset] at hown2
      have hbb := hb.trans (hb1.mono z)
      clear hset hold hfz hb1 hown1
      go_wp2_with fail
      go_roundw
      case rel => exact ⟨k + 1, by omega, by go_num, hown2, hbb.setCell (by simp) _⟩
      case measure => simp [intOf]; omega
    · go_wp2_with fail
      go_ret
      have hl := (hown.lt _ rfl).2.2
      exact ⟨w.heap.size, rfl, hown.wider (Nat.le_refl _) hl, hb⟩

theorem implParts_any (s : ByteArray) (m : Int) (w : World) (hs : s.size ≤ 1048576) (hm : w.cell? ⟨1, 0, none⟩ = some (.int .i64 m)) :
    Calls Tryd.prog 52 #[.string s] w (MadeT w (cutR 32 [] s.data.toList)) := by
  go_enter Tryd.func52, Tryd.ntmps52
  go_wp2_with fail
  refine (cutAt_any s 32 m _ hs hm).mono ?_
  rintro e w1 ⟨g, rfl, own1, hb1⟩
  go_wp2_with fail
  go_ret
  exact ⟨_, _, _, rfl, own1, hb1⟩

theorem Own.shorten {w : World} {lo hi g n c m : Nat} {e : TypeId} {xs : List Value} (h : Own w lo hi e 1 (some ⟨g, 0, none⟩) n c xs) (hm : m ≤ n) : Own w lo hi e 1 (some ⟨g, 0, none⟩) m c (xs.take m) := by
  have hl := h.len
  refine ⟨⟨by simp [hl]; omega, ?_⟩, h.2⟩
  rcases h.1.2 with ⟨hv, _⟩ | ⟨g', cap, cur, hv, hb, hg, hnc, hm', hs, ht⟩
  · cases hv
  · injection hv with hA _ hc
    subst hc
    exact .inr ⟨g', c, cur, by rw [hA], hb, hg, by omega, hm', hs, by rw [← ht, List.take_take]; congr 1; omega⟩

end Go.Proofs.YtllkbikhclfgpaaDoor
