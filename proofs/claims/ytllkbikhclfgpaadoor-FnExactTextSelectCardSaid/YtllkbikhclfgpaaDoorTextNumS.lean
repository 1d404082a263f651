
/- Contract of the model's TextNum (digit by digit). -/

import Derived.Test.YtllkbikhclfgpaaDoorNumText

import Derived.WalkSpells

import Derived.WalkLawsBesides

namespace Go.Proofs.YtllkbikhclfgpaaDoor

open Go.RowKit

abbrev intBool (r : Int × Bool) : Ending := .returned (.tuple #[.int .i64 r.1, .bool r.2])

theorem mem_take_succ {l : List UInt8} {k : Nat} {x c : UInt8} (hx : l[k]? = some x) (hc : c ∈ l.take (k + 1)) : c ∈ l.take k ∨ c = x := by
  have hk := (List.getElem?_eq_some_iff.1 hx).1
  rw [List.take_succ_eq_append_getElem hk, (List.getElem?_eq_some_iff.1 hx).2] at hc
  simpa using hc
theorem fold_take_succ {l : List UInt8} {k : Nat} {x : UInt8} (hx : l[k]? = some x) : decFold 0 (l.take (k + 1)) = decFold 0 (l.take k) * 10 + (x.toNat - 48) := by
  have hk := (List.getElem?_eq_some_iff.1 hx).1
  rw [List.take_succ_eq_append_getElem hk, (List.getElem?_eq_some_iff.1 hx).2, decFold_snoc]
def AllDig (l : List UInt8) : Prop := ∀ c ∈ l, IsDig c

theorem numText_nat {F : Nat} (h : F ≤ 4294967295) : numText (F : Int) = Lib.decDigits F := by rw [numText, if_pos (by omega), Int.toNat_natCast]
theorem toList_data (s : ByteArray) : s.toList = s.data.toList := ByteArray.toList_eq s

set_option maxRecDepth 100000 in
set_option maxHeartbeats 400000 in
theorem specTextNum_any (s : ByteArray) (w : World) (hs : s.size ≤ 1048576) :
    Calls Tryd.prog 51 #[.string s] w fun e w' => e = intBool (textNum s.data.toList) ∧ Below w.heap.size w w' := by
  by_cases h1 : s.size < 1
  · have hfin := Lib.hid (textNum_short (l := s.data.toList) (.inl (by simpa using h1)))
    go_enter Tryd.func51, Tryd.ntmps51
    go_wp2_with fail
    go_ret2
    rw [hfin.out]
    exact ⟨rfl, Below.refl _ _⟩
  by_cases h10 : 10 < s.size
  · have hfin := Lib.hid (textNum_short (l := s.data.toList) (.inr (by simpa using h10)))
    go_enter Tryd.func51, Tryd.ntmps51
    go_wp2_with fail
    go_ret2
    rw [hfin.out]
    exact ⟨rfl, Below.refl _ _⟩
  go_enter Tryd.func51, Tryd.ntmps51
  go_wp2_with fail
  go_loop [2, 3, 4, 5] (fun _ _ n i => ∃ k : Nat, k ≤ s.size ∧ i = .int .i64 k ∧ n = .int .i64 ((decFold 0 (s.data.toList.take k) : Nat) : Int) ∧ AllDig (s.data.toList.take k)) (fun _ _ _ i => s.size - (intOf i).toNat)
  case atStart => exact ⟨0, Nat.zero_le _, rfl, rfl, fun c hc => by simp at hc⟩
  case round =>
    obtain ⟨k, hk, rfl, rfl, hd⟩ := hrel
    have hbd : decFold 0 (s.data.toList.take k) < 10000000000 := by
      have h2 := decFold_bound (s.data.toList.take k) 0 hd
      have h3 : 10 ^ (s.data.toList.take k).length ≤ 10 ^ 10 := Nat.pow_le_pow_right (by omega) (by
        have : (s.data.toList.take k).length ≤ k := List.length_take_le _ _
        omega)
      omega
    by_cases hlt : k < s.size
    · have hx : Hid (s.data.toList[k]? = some s[k]) := by
        show _ = _
        rw [List.getElem?_eq_getElem (by simpa using hlt)]
        rfl
      by_cases hdig : 48 ≤ s[k].toNat ∧ s[k].toNat ≤ 57
      · obtain ⟨hd1, hd2⟩ := hdig
        have hfs := Lib.hid (fold_take_succ hx.out)
        generalize hF : decFold 0 (s.data.toList.take k) = F at *
        clear hF
        go_wp2_with fail
        go_round
        case rel =>
          refine ⟨k + 1, by omega, by go_num, by rw [hfs.out]; go_num, fun c hc => ?_⟩
          rcases mem_take_succ hx.out hc with h | h
          · exact hd c h
          · subst h; exact ⟨hd1, hd2⟩
        case measure => simp [intOf]; omega
      · have hfin := Lib.hid (textNum_bad (l := s.data.toList) (c := s[k]) (List.mem_of_getElem? hx.out) hdig)
        clear hd hx
        by_cases hd1 : s[k].toNat < 48
        · clear hdig
          go_wp2_with fail
          go_ret2
          rw [hfin.out]
          exact ⟨rfl, Below.refl _ _⟩
        · have hd2 : 57 < s[k].toNat := by omega
          clear hdig
          go_wp2_with fail
          go_ret2
          rw [hfin.out]
          exact ⟨rfl, Below.refl _ _⟩
    · have hks : k = s.size := by omega
      subst hks
      have htk : s.data.toList.take s.size = s.data.toList := List.take_of_length_le (by simp)
      rw [htk] at hbd hd ⊢
      clear htk hd
      generalize hF : decFold 0 s.data.toList = F at *
      have HF := Lib.hid hF
      clear hF
      go_wp2_with fail
      refine (specNumText_any (F : Int) _).mono ?_
      rintro e w1 ⟨rfl, hb1⟩
      go_wp2_with fail
      · have hne : (!numText (F : Int) == s.toList) = true := by assumption
        rw [toList_data] at hne
        have hfin := textNum_at HF.out (fun h => by rw [numText_nat h.1, h.2] at hne; simp at hne)
        go_ret2
        rw [hfin]
        exact ⟨rfl, hb1⟩
      · have hne : (!numText (F : Int) == s.toList) = false := by assumption
        rw [toList_data] at hne
        have heq : numText (F : Int) = s.data.toList := by simpa using hne
        have hF : F ≤ 4294967295 := by
          rcases Nat.lt_or_ge 4294967295 F with h | h
          · rw [numText, if_neg (by omega)] at heq
            have := congrArg List.length heq
            simp at this
            omega
          · exact h
        rw [numText_nat hF] at heq
        have hfin := textNum_yes hF heq
        go_ret2
        rw [hfin]
        exact ⟨rfl, hb1⟩

end Go.Proofs.YtllkbikhclfgpaaDoor
