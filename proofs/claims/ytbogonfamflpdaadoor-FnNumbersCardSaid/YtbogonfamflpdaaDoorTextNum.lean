
/- Contracts of TextNum, the program's (by strconv.ParseUint) and the model's (digit by digit). -/

import Derived.Test.YtbogonfamflpdaaDoorLaid

import Derived.Test.YtbogonfamflpdaaDoorShelfParse

import Derived.WalkSpells

import Derived.WalkLawsBesides

namespace Go.Proofs.YtbogonfamflpdaaDoor

open Go.RowKit

abbrev intBool (r : Int × Bool) : Ending := .returned (.tuple #[.int .i64 r.1, .bool r.2])

theorem mem_take_succ {l : List UInt8} {k : Nat} {x c : UInt8} (hx : l[k]? = some x) (hc : c ∈ l.take (k + 1)) : c ∈ l.take k ∨ c = x := by
  have hk := (List.getElem?_eq_some_iff.1 hx).1
  rw [List.take_succ_eq_append_getElem hk, (List.getElem?_eq_some_iff.1 hx).2] at hc
  simpa using hc
theorem fold_take_succ {l : List UInt8} {k : Nat} {x : UInt8} (hx : l[k]? = some x) : decFold 0 (l.take (k + 1)) = decFold 0 (l.take k) * 10 + (x.toNat - 48) := by
  have hk := (List.getElem?_eq_some_iff.1 hx).1
  rw [List.take_succ_eq_append_getElem hk, (List.getElem?_eq_some_iff.1 hx).2, decFold_snoc]
def AllDig (l : List UInt8) : Prop := ∀ c ∈ l, IsDig c

theorem numText_nat {F : Nat} (h : F ≤ 4294967295) : numText (F : Int) = Lib.decDigits F := by rw [numText, if_pos (by omega), Int.toNat_natCast]
theorem toList_data (s : ByteArray) : s.toList = s.data.toList := ByteArray.toList_eq s

set_option maxRecDepth 100000 in
set_option maxHeartbeats 400000 in
theorem implTextNum_any (s : ByteArray) (w : World) (hs : s.size ≤ 1048576) (htab : Lib.TabIs Tryd.prog w "internal/strconv.uint64pow10" .u64 Lib.pow10Tab)
    {t1 t2 : TypeId} {p1 p2 : Value} (hv1 : w.var? Tryd.prog "strconv.ErrSyntax" = some #[.iface t1 p1]) (hv2 : w.var? Tryd.prog "strconv.ErrRange" = some #[.iface t2 p2]) :
    Calls Tryd.prog 12 #[.string s] w fun e w' => e = intBool (textNum s.data.toList) ∧ Below w.heap.size w w' := by
  have HT := Lib.hid htab
  have HV1 := Lib.hid hv1
  have HV2 := Lib.hid hv2
  clear htab hv1 hv2
  cases hp : Lib.parseUintB 32 s.data.toList with
  | ok u =>
    have hcon := Lib.hid (Tryd.strconv_ParseUint_10_at32_ok s (by omega) u hp w)
    obtain ⟨hu1, hu2⟩ := textNum_parsed hp
    have HU := Lib.hid hu1
    clear hu1 hp
    go_enter Tryd.func12, Tryd.ntmps12
    go_wp2_with fail
    refine hcon.out.mono ?_
    rintro e w1 ⟨rfl, hw1⟩
    have hb1 : Below w.heap.size w w1 := by
      rcases hw1 with h | h
      · rw [h]; exact Below.refl _ _
      · rw [h]; exact Lib.bytesWorld_below w _ s
    clear hw1 hcon
    go_wp2_with fail
    refine (implNumText_any (u : Int) _ (tab_below HT.out hb1 (Nat.le_refl _))).mono ?_
    rintro e w2 ⟨rfl, hb2⟩
    have hb := hb1.trans (hb2.mono hb1.size)
    clear hb1 hb2
    go_wp2_with fail
    · have hne : (!numText (u : Int) == s.toList) = true := by assumption
      rw [toList_data] at hne
      have hfin := textNum_at HU.out (fun h => by rw [numText_nat h.1, h.2] at hne; simp at hne)
      go_ret2
      rw [hfin]
      exact ⟨rfl, hb⟩
    · have hne : (!numText (u : Int) == s.toList) = false := by assumption
      rw [toList_data] at hne
      have heq : numText (u : Int) = s.data.toList := by simpa using hne
      rw [numText_nat hu2] at heq
      have hfin := textNum_yes hu2 heq
      go_ret2
      rw [hfin]
      exact ⟨rfl, hb⟩
  | range =>
    have hcon := Lib.hid (Any.strconv_ParseUint_10_at32_range_var Tryd.laysPu14 s (by omega) hp t2 p2 w HV2.out)
    have hfin := Lib.hid (textNum_unparsed (l := s.data.toList) (fun u h => by rw [hp] at h; cases h))
    clear hp
    go_enter Tryd.func12, Tryd.ntmps12
    go_wp2_with fail
    refine hcon.out.mono ?_
    rintro e w1 ⟨N, rfl, hN, _, hb1⟩
    clear hcon
    go_wp2_with fail
    go_ret2
    rw [hfin.out]
    exact ⟨rfl, hb1⟩
  | _ =>
    have hcon := Lib.hid (Any.strconv_ParseUint_10_at32_syntax_var Tryd.laysPu14 s (by omega) hp t1 p1 w HV1.out)
    have hfin := Lib.hid (textNum_unparsed (l := s.data.toList) (fun u h => by rw [hp] at h; cases h))
    clear hp
    go_enter Tryd.func12, Tryd.ntmps12
    go_wp2_with fail
    refine hcon.out.mono ?_
    rintro e w1 ⟨N, rfl, hN, _, hb1⟩
    clear hcon
    go_wp2_with fail
    go_ret2
    rw [hfin.out]
    exact ⟨rfl, hb1⟩
end Go.Proofs.YtbogonfamflpdaaDoor
