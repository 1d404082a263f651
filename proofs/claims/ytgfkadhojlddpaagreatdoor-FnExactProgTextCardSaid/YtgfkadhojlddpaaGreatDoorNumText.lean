
/- Contracts of NumText, the program's (by strconv.Itoa) and the model's (digit behind digits). -/

import Derived.Test.YtgfkadhojlddpaaGreatDoorBaseP

import Derived.Test.YtgfkadhojlddpaaGreatDoorShelfItoa

import Derived.Test.YtgfkadhojlddpaaGreatDoorBase

import Derived.Lib.ItoaMem

import Derived.RegionCalls

namespace Go.Proofs.YtgfkadhojlddpaaGreatDoor

open Go.RowKit

theorem below_grow (w : World) (k : Nat) (os : Array Obj) : Below w.heap.size w (Sort.grow (w.drewN k) os) := by
  refine ⟨rfl, rfl, rfl, ?_, fun j hj => ?_⟩
  · show w.heap.size ≤ (w.heap ++ os).size
    simp
  · show (w.heap ++ os)[j]? = _
    rw [Array.getElem?_append, if_pos hj]

set_option maxRecDepth 100000 in
set_option maxHeartbeats 400000 in
theorem specNumText_dig (n : Nat) : ∀ (w : World), n ≤ 4294967295 →
    Calls Tryz.prog 136 #[.int .i64 (n : Int)] w fun e w' => e = .returned (.string ⟨(Lib.decDigits n).toArray⟩) ∧ Below w.heap.size w w' := by
  induction n using Nat.strongRecOn with
  | ind n ih =>
    intro w h1
    have IH := Lib.hid ih
    clear ih
    by_cases h10 : n < 10
    · have hd := Lib.hid (show Lib.decDigits n = [UInt8.ofNat (48 + n)] by rw [Lib.decDigits, dif_pos h10])
      have hcv := conv_one (W := w.alloc (.cells #[.int .u8 (48 + (n : Int))] 5)) (g := w.heap.size) (x := 48 + (n : Int)) (by simp)
      go_enter Tryz.func136, Tryz.ntmps136
      go_wp2_with fail
      refine (l01Num_yes _ _ (by omega) (by omega)).mono ?_
      rintro e w' ⟨rfl, rfl⟩
      go_wp2_with fail
      go_ret
      refine ⟨?_, (Below.refl _ _).alloc (Nat.le_refl _) _⟩
      rw [hd.out]
      show Ending.returned (.string ⟨#[UInt8.ofNat (48 + (n : Int)).toNat]⟩) = _
      rw [show (48 + (n : Int)).toNat = 48 + n from by omega]
    · have hd := Lib.hid (show Lib.decDigits n = Lib.decDigits (n / 10) ++ [UInt8.ofNat (48 + n % 10)] by rw [Lib.decDigits, dif_neg h10])
      have hcon := IH.out (n / 10) (by omega)
      rw [show ((n / 10 : Nat) : Int) = (n : Int) / 10 from by omega] at hcon
      have HC := Lib.hid (fun W => hcon W (by omega))
      clear hcon IH
      have hcv : ∀ (W : World) (g : Nat), W.cell? ⟨g, 0, none⟩ = some (.int .u8 (48 + (n : Int) % 10)) → (convert 131 9 (.slice (some ⟨g, 0, none⟩) 1 1)).run Tryz.prog W = .ok (.string ⟨#[UInt8.ofNat (48 + (n : Int) % 10).toNat]⟩) W := fun W g h => conv_one h
      go_enter Tryz.func136, Tryz.ntmps136
      go_wp2_with fail
      refine (l01Num_yes _ _ (by omega) (by omega)).mono ?_
      rintro e w' ⟨rfl, rfl⟩
      go_wp2_with fail
      have hw1 : IntKind.i64.wrap ((n : Int) / 10) = (n : Int) / 10 := IntWalk.i64_in _ (by omega)
      have hw2 : IntKind.i64.wrap (48 + (n : Int) % 10) = 48 + (n : Int) % 10 := IntWalk.i64_in _ (by omega)
      have hw3 : IntKind.u8.wrap (48 + (n : Int) % 10) = 48 + (n : Int) % 10 := by simp [IntKind.wrap, IntKind.bits, IntKind.signed]; omega
      have hw4 : (n : Int).tmod 10 = (n : Int) % 10 := Int.tmod_eq_emod_of_nonneg (by omega)
      have hdl := decDigits_short (n / 10) (by omega)
      have hl1 : ¬ 9223372036854775807 < (Lib.decDigits (n / 10)).length + 1 := by omega
      have hl2 : ¬ 9223372036854775806 < (Lib.decDigits (n / 10)).length := by omega
      go_region_with (go_at_call 136; refine (HC.out _).mono ?_; rintro e w1 ⟨rfl, hb1⟩; have hz1 := hb1.size; have hc1 := hb1.cell (p := ⟨w.heap.size, 0, none⟩))
      all_goals (go_wp2_with fail; go_ret; refine ⟨?_, ?_⟩)
      all_goals first
        | exact ((Below.refl _ _).drew.trans hb1).alloc hz1 _
        | exact (((Below.refl _ _).alloc (Nat.le_refl _) _).drew).trans (hb1.mono (by simp))
        | (show Ending.returned (.string (⟨(Lib.decDigits (n / 10)).toArray⟩ ++ ⟨[UInt8.ofNat (48 + (n : Int) % 10).toNat].toArray⟩)) = _; rw [hd.out, ByteArray.mk_append_mk, show (48 + (n : Int) % 10).toNat = 48 + n % 10 from by omega])

theorem specNumText_any (n : Int) (w : World) :
    Calls Tryz.prog 136 #[.int .i64 n] w fun e w' => e = .returned (.string ⟨(numText n).toArray⟩) ∧ Below w.heap.size w w' := by
  by_cases hn : 0 ≤ n ∧ n ≤ 4294967295
  · rw [numText, if_pos hn]
    obtain ⟨k, rfl⟩ := Int.eq_ofNat_of_zero_le hn.1
    exact specNumText_dig k w (by omega)
  · rw [numText, if_neg hn]
    go_enter Tryz.func136, Tryz.ntmps136
    go_wp2_with fail
    refine (l01Num_no _ _ hn).mono ?_
    rintro e w' ⟨rfl, rfl⟩
    go_wp2_with fail
    go_ret
    exact ⟨rfl, Below.refl _ _⟩

theorem implNumText_any (n : Int) (w : World) (htab : Lib.TabIs Tryz.prog w "internal/strconv.uint64pow10" .u64 Lib.pow10Tab) :
    Calls Tryz.prog 35 #[.int .i64 n] w fun e w' => e = .returned (.string ⟨(numText n).toArray⟩) ∧ Below w.heap.size w w' := by
  by_cases hn : 0 ≤ n ∧ n ≤ 4294967295
  · rw [numText, if_pos hn]
    have HT := Lib.hid htab
    clear htab
    go_enter Tryz.func35, Tryz.ntmps35
    go_wp2_with fail
    refine (isNum_yes _ _ hn.1 hn.2).mono ?_
    rintro e w' ⟨rfl, rfl⟩
    go_wp2_with fail
    refine (Tryz.strconv_Itoa n (by omega) (by omega) w HT.out).mono ?_
    rintro e w1 ⟨rfl, k, os, hw⟩
    have hb : Below w.heap.size w w1 := by rw [hw]; exact below_grow w k os
    clear hw
    go_wp2_with fail
    go_ret
    refine ⟨?_, hb⟩
    obtain ⟨m, rfl⟩ := Int.eq_ofNat_of_zero_le hn.1
    rw [Int.toNat_natCast, ← Lib.itoa_nonneg]
    rfl
  · rw [numText, if_neg hn]
    clear htab
    go_enter Tryz.func35, Tryz.ntmps35
    go_wp2_with fail
    refine (isNum_no _ _ hn).mono ?_
    rintro e w' ⟨rfl, rfl⟩
    go_wp2_with fail
    go_ret
    exact ⟨rfl, Below.refl _ _⟩
end Go.Proofs.YtgfkadhojlddpaaGreatDoor
