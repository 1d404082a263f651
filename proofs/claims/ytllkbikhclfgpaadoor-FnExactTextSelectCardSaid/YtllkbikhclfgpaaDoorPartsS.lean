
/- Contracts of the model's Parts and Lines. -/

import Derived.Test.YtllkbikhclfgpaaDoorBase

import Derived.Test.YtllkbikhclfgpaaDoorBaseP

import Derived.WalkSpells

import Derived.Handy

namespace Go.Proofs.YtllkbikhclfgpaaDoor

open Go.RowKit

/-- A text as a value. -/
theorem str_info' : (Tryd.prog.info? 9).map (fun i => (i.zero, i.size, i.bytes)) = some (some (.string ByteArray.empty), 1, 16) := by kernel_rfl
theorem oneCell_T (ss : List (List UInt8)) : ∀ u ∈ ss.map Tx, u.oneCell' = true := by
  intro u hu
  obtain ⟨b, _, rfl⟩ := List.mem_map.1 hu
  rfl

/-- The call answers a row of texts in memory of its own, and turns nothing that was there. -/
def MadeT (w : World) (ss : List (List UInt8)) (en : Ending) (w' : World) : Prop :=
  ∃ A n c, en = .returned (.slice A n c) ∧ Own w' w.heap.size w'.heap.size 9 1 A n c (ss.map Tx) ∧ Below w.heap.size w w'

/-- Where the model's loop stands: what it has cut off, and from where on it goes. -/
def CutAt (c : UInt8) (l : List UInt8) (k : Nat) (done : List (List UInt8)) (F : Nat) : Prop :=
  F ≤ k ∧ done.length ≤ k ∧ cutR c [] l = done ++ cutR c ((l.take k).drop F) (l.drop k)

theorem cutAt_start (c : UInt8) (l : List UInt8) : CutAt c l 0 [] 0 := ⟨Nat.le_refl _, Nat.le_refl _, by simp⟩
theorem cutAt_hit {c : UInt8} {l : List UInt8} {k F : Nat} {done : List (List UInt8)} (h : CutAt c l k done F) (hk : l[k]? = some c) : CutAt c l (k + 1) (done ++ [(l.take k).drop F]) (k + 1) := by
  obtain ⟨h1, h2, h3⟩ := h
  obtain ⟨hi, e⟩ := List.getElem?_eq_some_iff.1 hk
  refine ⟨Nat.le_refl _, by simp; omega, ?_⟩
  rw [h3, List.drop_eq_getElem_cons hi, e, cutR, if_pos rfl, List.append_assoc]
  rw [List.drop_of_length_le (show (l.take (k + 1)).length ≤ k + 1 by simp; omega)]
  rfl
theorem cutAt_miss {c x : UInt8} {l : List UInt8} {k F : Nat} {done : List (List UInt8)} (h : CutAt c l k done F) (hk : l[k]? = some x) (hx : x ≠ c) : CutAt c l (k + 1) done F := by
  obtain ⟨h1, h2, h3⟩ := h
  obtain ⟨hi, e⟩ := List.getElem?_eq_some_iff.1 hk
  refine ⟨by omega, by omega, ?_⟩
  rw [h3, List.drop_eq_getElem_cons hi, e, cutR, if_neg hx]
  congr 2
  rw [List.take_succ_eq_append_getElem hi, e, List.drop_append_of_le_length (by simp; omega)]
theorem cutAt_end {c : UInt8} {l : List UInt8} {F : Nat} {done : List (List UInt8)} (h : CutAt c l l.length done F) : cutR c [] l = done ++ [l.drop F] := by
  obtain ⟨_, _, h3⟩ := h
  rw [h3, List.drop_length, List.take_length, cutR]

theorem extract_list (s : ByteArray) (a b : Nat) : Value.string (s.extract a b) = Tx ((s.data.toList.take b).drop a) := by
  have h := Lib.extract_data s a b
  rw [List.drop_take, ← h]

set_option maxRecDepth 100000 in
set_option maxHeartbeats 1000000 in
theorem specParts_any (s : ByteArray) (w : World) (hl : s.size ≤ 1048576) :
    Calls Tryd.prog 31 #[.string s] w (MadeT w (cutR 32 [] s.data.toList)) := by
  obtain ⟨i0, hi0, hz0, hz1, hz2⟩ := info_parts str_info'
  have hsz : s.data.toList.length = s.size := rfl
  have HS := Lib.hid hsz
  clear hsz
  go_enter Tryd.func31, Tryd.ntmps31
  go_wp2_with fail
  go_loopw [3, 4, 5] (fun v f i wr => ∃ A c k F done, v = .slice A done.length c ∧ f = .int .i64 ((F : Nat) : Int) ∧ i = .int .i64 ((k : Nat) : Int) ∧ k ≤ s.size ∧ CutAt 32 s.data.toList k done F ∧ Own wr w.heap.size wr.heap.size 9 1 A done.length c (done.map Tx) ∧ Below w.heap.size w wr) (fun _ _ i _ => s.size - (intOf i).toNat)
  case atStart => exact ⟨_, 0, 0, 0, [], rfl, rfl, rfl, Nat.zero_le _, cutAt_start _ _, by simpa using (Own.made (size := 1) (e := 9) w #[] 0 0 (Nat.zero_le _) rfl (Nat.le_refl _)).wider (Nat.le_refl _) (by simp), (Below.refl _ _).alloc (Nat.le_refl _) _⟩
  case round =>
    obtain ⟨A, c, k, F, done, rfl, rfl, rfl, hk, hcut, hown, hb⟩ := hrel
    have HC := Lib.hid hcut
    have hF := hcut.1
    have hdl := hcut.2.1
    have z := hb.size
    clear hcut
    by_cases hlt : k < s.size
    · have hx := Lib.hid (show s.data.toList[k]? = some s[k] from List.getElem?_eq_getElem (by rw [HS.out]; exact hlt))
      have hown1 := hown.alloc (.cells #[.string (s.extract F k)] 9)
      by_cases h32 : s[k] = 32
      · have hb32 : ((s[k].toNat : Int) == 32) = true := by rw [h32]; rfl
        have HE := Lib.hid (extract_list s F k)
        have H32 := Lib.hid h32
        clear h32
        go_wp2_with (at_builtin; refine wpList_append_seen rfl (.tmp 17) (.tmp 22) _ rfl w.heap.size _ 9 i0 _ 1 16 Tryd.underlying55 hi0 hz0 hz1 hz2 rfl (by omega) A done.length c _ rfl hown1 _ _ 1 1 _ rfl (Seen.one wr (.string (s.extract F k)) 9) (by simp [Value.oneCell']) (by simp only [maxLen]; omega) (by omega) (by simp; omega) ?_; intro A5 c5 w5 own5 hb5)
        go_roundw
        case rel =>
          have hn := cutAt_hit HC.out (by rw [hx.out, H32.out])
          rw [HE.out] at own5
          exact ⟨A5, c5, k + 1, k + 1, _, by simp, by go_num, by go_num, by omega, hn, by simpa using own5, (hb.alloc z _).trans hb5⟩
        case measure => simp [intOf]; omega
      · have hb32 : ((s[k].toNat : Int) == 32) = false := by
          rw [beq_eq_false_iff_ne]
          intro h
          exact h32 (UInt8.toNat_inj.1 (show s[k].toNat = 32 by omega))
        go_wp2_with fail
        go_roundw
        case rel => exact ⟨A, c, k + 1, F, done, rfl, rfl, by go_num, by omega, cutAt_miss HC.out hx.out h32, hown, hb⟩
        case measure => simp [intOf]; omega
    · obtain rfl : k = s.size := by omega
      have hown1 := hown.alloc (.cells #[.string (s.extract F s.size)] 9)
      have HE := Lib.hid (extract_list s F s.size)
      go_wp2_with (at_builtin; refine wpList_append_seen rfl (.tmp 26) (.tmp 30) _ rfl w.heap.size _ 9 i0 _ 1 16 Tryd.underlying55 hi0 hz0 hz1 hz2 rfl (by omega) A done.length c _ rfl hown1 _ _ 1 1 _ rfl (Seen.one wr (.string (s.extract F s.size)) 9) (by simp [Value.oneCell']) (by simp only [maxLen]; omega) (by omega) (by simp; omega) ?_; intro A5 c5 w5 own5 hb5)
      go_ret
      have he : cutR 32 [] s.data.toList = done ++ [s.data.toList.drop F] := cutAt_end (by rw [HS.out]; exact HC.out)
      rw [HE.out, List.take_of_length_le (by rw [HS.out]; exact Nat.le_refl _)] at own5
      exact ⟨A5, _, c5, rfl, by rw [he]; simpa using own5, (hb.alloc z _).trans hb5⟩
/-- Lines: an empty piece at the end is none. -/
def dropNil (ps : List (List UInt8)) : List (List UInt8) := if ps.getLast? = some [] then ps.dropLast else ps
theorem dropNil_length (ps : List (List UInt8)) : (dropNil ps).length ≤ ps.length := by
  unfold dropNil
  split
  · simp
  · exact Nat.le_refl _
theorem dropNil_nil (ps : List (List UInt8)) : dropNil (ps ++ [[]]) = ps := by simp [dropNil]
theorem dropNil_more (ps : List (List UInt8)) {p : List UInt8} (h : p ≠ []) : dropNil (ps ++ [p]) = ps ++ [p] := by simp [dropNil, h]

end Go.Proofs.YtllkbikhclfgpaaDoor
