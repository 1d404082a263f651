
/- The contract of the model's l05Colons. -/

import Derived.Test.YtllkbikhclfgpaaDoorPartsS

namespace Go.Proofs.YtllkbikhclfgpaaDoor

open Go.RowKit

set_option maxRecDepth 100000 in
set_option maxHeartbeats 1000000 in
theorem l05Colons_any (s : ByteArray) (w : World) (hl : s.size ≤ 1048576) :
    Calls Tryd.prog 42 #[.string s] w (MadeT w (cutR 58 [] s.data.toList)) := by
  obtain ⟨i0, hi0, hz0, hz1, hz2⟩ := info_parts str_info'
  have hsz : s.data.toList.length = s.size := rfl
  have HS := Lib.hid hsz
  clear hsz
  go_enter Tryd.func42, Tryd.ntmps42
  go_wp2_with fail
  go_loopw [3, 4, 5] (fun v f i wr => ∃ A c k F done, v = .slice A done.length c ∧ f = .int .i64 ((F : Nat) : Int) ∧ i = .int .i64 ((k : Nat) : Int) ∧ k ≤ s.size ∧ CutAt 58 s.data.toList k done F ∧ Own wr w.heap.size wr.heap.size 9 1 A done.length c (done.map Tx) ∧ Below w.heap.size w wr) (fun _ _ i _ => s.size - (intOf i).toNat)
  case atStart => exact ⟨_, 0, 0, 0, [], rfl, rfl, rfl, Nat.zero_le _, cutAt_start _ _, by simpa using (Own.made (size := 1) (e := 9) w #[] 0 0 (Nat.zero_le _) rfl (Nat.le_refl _)).wider (Nat.le_refl _) (by simp), (Below.refl _ _).alloc (Nat.le_refl _) _⟩
  case round =>
    obtain ⟨A, c, k, F, done, rfl, rfl, rfl, hk, hcut, hown, hb⟩ := hrel
    have HC := Lib.hid hcut
    have hF := hcut.1
    have hdl := hcut.2.1
    have z := hb.size
    clear hcut
    by_cases hlt : k < s.size
    · have hx := Lib.hid (show s.data.toList[k]? = some s[k] from List.getElem?_eq_getElem (by rw [HS.out]; exact hlt))
      have hown1 := hown.alloc (.cells #[.string (s.extract F k)] 9)
      by_cases h32 : s[k] = 58
      · have hb32 : ((s[k].toNat : Int) == 58) = true := by rw [h32]; rfl
        have HE := Lib.hid (extract_list s F k)
        have H32 := Lib.hid h32
        clear h32
        go_wp2_with (at_builtin; refine wpList_append_seen rfl (.tmp 17) (.tmp 22) _ rfl w.heap.size _ 9 i0 _ 1 16 Tryd.underlying55 hi0 hz0 hz1 hz2 rfl (by omega) A done.length c _ rfl hown1 _ _ 1 1 _ rfl (Seen.one wr (.string (s.extract F k)) 9) (by simp [Value.oneCell']) (by simp only [maxLen]; omega) (by omega) (by simp; omega) ?_; intro A5 c5 w5 own5 hb5)
        go_roundw
        case rel =>
          have hn := cutAt_hit HC.out (by rw [hx.out, H32.out])
          rw [HE.out] at own5
          exact ⟨A5, c5, k + 1, k + 1, _, by simp, by go_num, by go_num, by omega, hn, by simpa using own5, (hb.alloc z _).trans hb5⟩
        case measure => simp [intOf]; omega
      · have hb32 : ((s[k].toNat : Int) == 58) = false := by
          rw [beq_eq_false_iff_ne]
          intro h
          exact h32 (UInt8.toNat_inj.1 (show s[k].toNat = 58 by omega))
        go_wp2_with fail
        go_roundw
        case rel => exact ⟨A, c, k + 1, F, done, rfl, rfl, by go_num, by omega, cutAt_miss HC.out hx.out h32, hown, hb⟩
        case measure => simp [intOf]; omega
    · obtain rfl : k = s.size := by omega
      have hown1 := hown.alloc (.cells #[.string (s.extract F s.size)] 9)
      have HE := Lib.hid (extract_list s F s.size)
      go_wp2_with (at_builtin; refine wpList_append_seen rfl (.tmp 26) (.tmp 30) _ rfl w.heap.size _ 9 i0 _ 1 16 Tryd.underlying55 hi0 hz0 hz1 hz2 rfl (by omega) A done.length c _ rfl hown1 _ _ 1 1 _ rfl (Seen.one wr (.string (s.extract F s.size)) 9) (by simp [Value.oneCell']) (by simp only [maxLen]; omega) (by omega) (by simp; omega) ?_; intro A5 c5 w5 own5 hb5)
      go_ret
      have he : cutR 58 [] s.data.toList = done ++ [s.data.toList.drop F] := cutAt_end (by rw [HS.out]; exact HC.out)
      rw [HE.out, List.take_of_length_le (by rw [HS.out]; exact Nat.le_refl _)] at own5
      exact ⟨A5, _, c5, rfl, by rw [he]; simpa using own5, (hb.alloc z _).trans hb5⟩
end Go.Proofs.YtllkbikhclfgpaaDoor
