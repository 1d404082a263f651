
/- Contracts of Crc, the program's (a closure over its register) and the model's. -/

import Derived.Test.YtikcoplihfoiiaaDoorByte

import Derived.Test.YtikcoplihfoiiaaDoorCrcMath

namespace Go.Proofs.YtikcoplihfoiiaaDoor

open Go.RowKit

set_option maxRecDepth 100000 in
set_option maxHeartbeats 400000 in
theorem specCrc_any {A : Option Addr} {m c hi : Nat} {bs : List UInt8} {w : World} (hsn : Seen w hi 1 A m (bs.map B)) (hm : m ≤ 16777216) :
    Calls Tryd.prog 38 #[.slice A m c] w fun e w' => e = .returned (.int .i64 ((crc bs : Nat) : Int)) ∧ w = w' := by
  have hlen := Lib.hid (show bs.length = m by simpa using hsn.1)
  go_enter Tryd.func38, Tryd.ntmps38
  go_wp2_with fail
  go_loop [3, 4, 5, 6] (fun r i _ _ => ∃ k : Nat, k ≤ m ∧ i = .int .i64 k ∧ r = .int .i64 ((crcRun (bs.take k) : Nat) : Int)) (fun _ i _ _ => m - (intOf i).toNat)
  case atStart => exact ⟨0, Nat.zero_le _, rfl, rfl⟩
  case round =>
    obtain ⟨k, hk, rfl, rfl⟩ := hrel
    have hR := crcRun_lt (bs.take k)
    by_cases hlt : k < m
    · have hkb : k < bs.length := by rw [hlen.out]; exact hlt
      obtain ⟨g, o, u, rfl, hg, hu, hc⟩ := hsn.at_ (j := k) (by omega)
      have hx : u = B bs[k] := by simpa [List.getElem?_eq_getElem hkb] using hu.symm
      subst hx
      have hst := Lib.hid (crcRun_step hkb)
      generalize bs[k] = x at *
      clear hu
      generalize crcRun (bs.take k) = R at *
      have hx256 : x.toNat < 256 := x.toNat_lt
      have hxo := xor_i64 R x.toNat hR (by omega)
      have hin := crcIn_lt hR x
      have hby := Lib.hid (show crcByte R x = Nat.repeat crcBit 8 (R ^^^ x.toNat) from rfl)
      go_wp2_with fail
      clear hxo
      generalize R ^^^ x.toNat = S at *
      go_loop [3, 5, 6] (fun r i _ => ∃ j : Nat, j ≤ 8 ∧ i = .int .i64 j ∧ r = .int .i64 ((Nat.repeat crcBit j S : Nat) : Int)) (fun _ i _ => 8 - (intOf i).toNat)
      case atStart => exact ⟨0, Nat.zero_le _, rfl, rfl⟩
      case round =>
        obtain ⟨j, hj, rfl, rfl⟩ := hrel
        have hQ := crcBits_lt hin j
        by_cases hj8 : j < 8
        · have hst2 := Lib.hid (show Nat.repeat crcBit (j + 1) S = crcBit (Nat.repeat crcBit j S) from rfl)
          generalize Nat.repeat crcBit j S = Q at *
          by_cases hodd : Q % 2 = 1
          · have hb : ((Q : Int) % 2 == 1) = true := by simp; omega
            have hxo := xor_half Q hQ
            have hcb := Lib.hid (show crcBit Q = Q / 2 ^^^ 3988292384 from if_pos hodd)
            clear hodd
            go_wp2_with fail
            go_round
            case rel => exact ⟨j + 1, by omega, by go_num, by rw [hst2.out, hcb.out]⟩
            case measure => simp [intOf]; omega
          · have hb : ((Q : Int) % 2 == 1) = false := by simp; omega
            have hcb := Lib.hid (show crcBit Q = Q / 2 from if_neg hodd)
            clear hodd
            go_wp2_with fail
            go_round
            case rel => exact ⟨j + 1, by omega, by go_num, by rw [hst2.out, hcb.out]; go_num⟩
            case measure => simp [intOf]; omega
        · have hj8' : j = 8 := by omega
          subst hj8'
          go_wp2_with fail
          go_round
          case rel => exact ⟨k + 1, by omega, by go_num, by rw [hst.out, hby.out]⟩
          case measure => simp [intOf]; omega
    · have hx := xor_all (crcRun (bs.take k)) hR
      go_wp2_with fail
      go_ret
      have : k = m := by omega
      subst this
      rw [List.take_of_length_le (by rw [hlen.out]; exact Nat.le_refl _)]
      exact ⟨rfl, rfl⟩

/-- Behind a byte: only the register's block has turned. -/
def Fed (w : World) (g : Nat) (r : Nat) (e : Ending) (w' : World) : Prop :=
  e = .returned (.tuple #[]) ∧ w'.heap[g]? = some (.cells #[.int .u32 (r : Int)] 107 (0, 0)) ∧ Turned g (g + 1) w w'

set_option maxRecDepth 100000 in
set_option maxHeartbeats 400000 in
theorem feed_any {g R : Nat} {x : UInt8} {w : World} (hg : w.heap[g]? = some (.cells #[.int .u32 (R : Int)] 107 (0, 0))) (hR : R < 4294967296) :
    Calls Tryd.prog 73 #[B x, .pointer (some ⟨g, 0, none⟩)] w (Fed w g (crcByte R x)) := by
  have hc := cell_of_one hg
  have hf := free_of_one hg
  have hx256 : x.toNat < 256 := x.toNat_lt
  have hxo := u32_xor_nat R x.toNat hR (by omega)
  have hin := crcIn_lt hR x
  have hby := Lib.hid (show crcByte R x = Nat.repeat crcBit 8 (R ^^^ x.toNat) from rfl)
  have hg' := Lib.hid hg
  clear hg
  have ht0 : Turned g (g + 1) w (w.setCell ⟨g, 0, none⟩ (.int .u32 ((R ^^^ x.toNat : Nat) : Int))) := (Turned.refl _ _ _).setCell (by simp) (by simp) _
  have hb0 := Lib.hid (one_setCell (u := .int .u32 ((R ^^^ x.toNat : Nat) : Int)) hg'.out)
  clear hg'
  go_enter Tryd.func73, Tryd.ntmps73
  go_wp2_with fail
  clear hxo hc hf
  generalize w.setCell ⟨g, 0, none⟩ (.int .u32 ((R ^^^ x.toNat : Nat) : Int)) = w0 at *
  generalize R ^^^ x.toNat = S at *
  go_loopw [3, 8] (fun _ i wr => ∃ j : Nat, j ≤ 8 ∧ i = .int .i64 j ∧ wr.heap[g]? = some (.cells #[.int .u32 ((Nat.repeat crcBit j S : Nat) : Int)] 107 (0, 0)) ∧ Turned g (g + 1) w wr) (fun _ i _ => 8 - (intOf i).toNat)
  case atStart => exact ⟨0, Nat.zero_le _, rfl, hb0.out, ht0⟩
  case round =>
    clear hb0 ht0
    obtain ⟨j, hj, rfl, hbk, ht⟩ := hrel
    have hQ := crcBits_lt hin j
    have hbk' := Lib.hid hbk
    have hc := cell_of_one hbk
    have hf := free_of_one hbk
    clear hbk
    by_cases hj8 : j < 8
    · have hst2 := Lib.hid (show Nat.repeat crcBit (j + 1) S = crcBit (Nat.repeat crcBit j S) from rfl)
      generalize Nat.repeat crcBit j S = Q at *
      have hand := and_u32 Q hQ
      by_cases hodd : Q % 2 = 1
      · have hb : ((Q : Int) % 2 == 1) = true := by simp; omega
        have hxo := xor_half_u32 Q hQ
        have hcb := Lib.hid (show crcBit Q = Q / 2 ^^^ 3988292384 from if_pos hodd)
        clear hodd
        go_wp2_with fail
        go_roundw
        case rel => exact ⟨j + 1, by omega, by go_num, by rw [hst2.out, hcb.out]; exact one_setCell (one_setCell hbk'.out), (ht.setCell (by simp) (by simp) _).setCell (by simp) (by simp) _⟩
        case measure => simp [intOf]; omega
      · have hb : ((Q : Int) % 2 == 1) = false := by simp; omega
        have hcb := Lib.hid (show crcBit Q = Q / 2 from if_neg hodd)
        clear hodd
        go_wp2_with fail
        go_roundw
        case rel => exact ⟨j + 1, by omega, by go_num, by rw [hst2.out, hcb.out]; exact one_setCell hbk'.out, ht.setCell (by simp) (by simp) _⟩
        case measure => simp [intOf]; omega
    · have hj8' : j = 8 := by omega
      subst hj8'
      go_wp2_with fail
      go_end0
      exact ⟨rfl, by rw [hby.out]; exact hbk'.out, ht⟩

theorem newSum_any (w : World) :
    Calls Tryd.prog 57 #[] w fun e w' => e = .returned (.tuple #[.func (.func 73) #[] #[.pointer (some ⟨w.heap.size, 0, none⟩)], .func (.func 74) #[] #[.pointer (some ⟨w.heap.size, 0, none⟩)]]) ∧ w.alloc (.cells #[.int .u32 4294967295] 107) = w' := by
  go_enter Tryd.func57, Tryd.ntmps57
  go_wp2
  go_ret2
  exact ⟨rfl, rfl⟩

theorem implCrc_any {A : Option Addr} {m c hi : Nat} {bs : List UInt8} {w : World} (hsn : Seen w hi 1 A m (bs.map B)) (hhi : hi ≤ w.heap.size) (hm : m ≤ 16777216) :
    Calls Tryd.prog 40 #[.slice A m c] w fun e w' => e = .returned (.int .i64 ((crc bs : Nat) : Int)) ∧ Below w.heap.size w w' := by
  have hlen := Lib.hid (show bs.length = m by simpa using hsn.1)
  go_enter Tryd.func40, Tryd.ntmps40
  go_wp2_with fail
  refine (newSum_any _).mono ?_
  rintro e w' ⟨rfl, rfl⟩
  go_wp2_with fail
  go_loopw [6, 13] (fun _ i wr => ∃ k : Nat, k ≤ m ∧ i = .int .i64 k ∧ wr.heap[w.heap.size]? = some (.cells #[.int .u32 ((crcRun (bs.take k) : Nat) : Int)] 107 (0, 0)) ∧ Below w.heap.size w wr) (fun _ i _ => m - (intOf i).toNat)
  case atStart => exact ⟨0, Nat.zero_le _, rfl, heap_alloc_new w _, (Below.refl _ _).alloc (Nat.le_refl _) _⟩
  case round =>
    obtain ⟨k, hk, rfl, hbk, hb⟩ := hrel
    have hR := crcRun_lt (bs.take k)
    by_cases hlt : k < m
    · have hkb : k < bs.length := by rw [hlen.out]; exact hlt
      obtain ⟨g, o, u, rfl, hg, hu, hc⟩ := (hsn.below hb hhi).at_ (j := k) (by omega)
      have hx : u = B bs[k] := by simpa [List.getElem?_eq_getElem hkb] using hu.symm
      subst hx
      have hst := Lib.hid (crcRun_step hkb)
      generalize bs[k] = x at *
      clear hu
      generalize crcRun (bs.take k) = R at *
      have hbk' := Lib.hid hbk
      clear hbk
      go_wp2_with fail
      refine (feed_any hbk'.out hR).mono ?_
      rintro e w1 ⟨rfl, hbk1, ht1⟩
      have hbk1' := Lib.hid hbk1
      clear hbk1 hbk'
      go_wp2_with fail
      go_roundw
      case rel => exact ⟨k + 1, by omega, by go_num, by rw [hst.out]; exact hbk1'.out, hb.trans (ht1.below (Nat.le_refl _) hb.size)⟩
      case measure => simp [intOf]; omega
    · have hc := cell_of_one hbk
      have hbk' := Lib.hid hbk
      clear hbk
      have hkm : k = m := by omega
      subst hkm
      rw [List.take_of_length_le (show bs.length ≤ k by rw [hlen.out]; exact Nat.le_refl _)] at hR hc
      have hcrc := Lib.hid (show crc bs = crcRun bs ^^^ 4294967295 from rfl)
      generalize crcRun bs = R at *
      go_wp2
      go_ret
      refine ⟨?_, hb⟩
      show Ending.returned (.int .i64 (wrap64 (bits .xor .u32 IntKind.u32.max (R : Int)))) = _
      rw [not_u32 R hR, hcrc.out]
end Go.Proofs.YtikcoplihfoiiaaDoor
