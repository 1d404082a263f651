
/- Contract of the program's TextNum (by strconv.ParseUint). -/

import Derived.Test.YtllkbikhclfgpaaDoorLaid

import Derived.Test.YtllkbikhclfgpaaDoorTextNumS

import Derived.Test.YtllkbikhclfgpaaDoorShelfParse

import Derived.WalkSpells

import Derived.WalkLawsBesides

namespace Go.Proofs.YtllkbikhclfgpaaDoor

open Go.RowKit

set_option maxRecDepth 100000 in
set_option maxHeartbeats 400000 in
theorem implTextNum_any (s : ByteArray) (w : World) (hs : s.size ≤ 1048576) (htab : Lib.TabIs Tryd.prog w "internal/strconv.uint64pow10" .u64 Lib.pow10Tab)
    {t1 t2 : TypeId} {p1 p2 : Value} (hv1 : w.var? Tryd.prog "strconv.ErrSyntax" = some #[.iface t1 p1]) (hv2 : w.var? Tryd.prog "strconv.ErrRange" = some #[.iface t2 p2]) :
    Calls Tryd.prog 77 #[.string s] w fun e w' => e = intBool (textNum s.data.toList) ∧ Below w.heap.size w w' := by
  have HT := Lib.hid htab
  have HV1 := Lib.hid hv1
  have HV2 := Lib.hid hv2
  clear htab hv1 hv2
  cases hp : Lib.parseUintB 32 s.data.toList with
  | ok u =>
    have hcon := Lib.hid (Tryd.strconv_ParseUint_10_at32_ok s (by omega) u hp w)
    obtain ⟨hu1, hu2⟩ := textNum_parsed hp
    have HU := Lib.hid hu1
    clear hu1 hp
    go_enter Tryd.func77, Tryd.ntmps77
    go_wp2_with fail
    refine hcon.out.mono ?_
    rintro e w1 ⟨rfl, hw1⟩
    have hb1 : Below w.heap.size w w1 := by
      rcases hw1 with h | h
      · rw [h]; exact Below.refl _ _
      · rw [h]; exact Lib.bytesWorld_below w _ s
    clear hw1 hcon
    go_wp2_with fail
    refine (implNumText_any (u : Int) _ (tab_below HT.out hb1 (Nat.le_refl _))).mono ?_
    rintro e w2 ⟨rfl, hb2⟩
    have hb := hb1.trans (hb2.mono hb1.size)
    clear hb1 hb2
    go_wp2_with fail
    · have hne : (!numText (u : Int) == s.toList) = true := by assumption
      rw [toList_data] at hne
      have hfin := textNum_at HU.out (fun h => by rw [numText_nat h.1, h.2] at hne; simp at hne)
      go_ret2
      rw [hfin]
      exact ⟨rfl, hb⟩
    · have hne : (!numText (u : Int) == s.toList) = false := by assumption
      rw [toList_data] at hne
      have heq : numText (u : Int) = s.data.toList := by simpa using hne
      rw [numText_nat hu2] at heq
      have hfin := textNum_yes hu2 heq
      go_ret2
      rw [hfin]
      exact ⟨rfl, hb⟩
  | range =>
    have hcon := Lib.hid (Any.strconv_ParseUint_10_at32_range_var Tryd.laysPu14 s (by omega) hp t2 p2 w HV2.out)
    have hfin := Lib.hid (textNum_unparsed (l := s.data.toList) (fun u h => by rw [hp] at h; cases h))
    clear hp
    go_enter Tryd.func77, Tryd.ntmps77
    go_wp2_with fail
    refine hcon.out.mono ?_
    rintro e w1 ⟨N, rfl, hN, _, hb1⟩
    clear hcon
    go_wp2_with fail
    go_ret2
    rw [hfin.out]
    exact ⟨rfl, hb1⟩
  | _ =>
    have hcon := Lib.hid (Any.strconv_ParseUint_10_at32_syntax_var Tryd.laysPu14 s (by omega) hp t1 p1 w HV1.out)
    have hfin := Lib.hid (textNum_unparsed (l := s.data.toList) (fun u h => by rw [hp] at h; cases h))
    clear hp
    go_enter Tryd.func77, Tryd.ntmps77
    go_wp2_with fail
    refine hcon.out.mono ?_
    rintro e w1 ⟨N, rfl, hN, _, hb1⟩
    clear hcon
    go_wp2_with fail
    go_ret2
    rw [hfin.out]
    exact ⟨rfl, hb1⟩
end Go.Proofs.YtllkbikhclfgpaaDoor
