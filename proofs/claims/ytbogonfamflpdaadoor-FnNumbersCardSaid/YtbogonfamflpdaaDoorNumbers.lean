
/- Numbers are read as they were written: the plain mathematics, and Mod by seven. -/

import Derived.Test.YtbogonfamflpdaaDoorGetMath

import Derived.Test.YtbogonfamflpdaaDoorProg

import Derived.WalkKit

import Derived.WalkLawsBesides

import Derived.Lib.Hide

namespace Go.Proofs.YtbogonfamflpdaaDoor

open Go.RowKit

theorem digits_ne (n : Nat) : digits n ≠ [] := by
  by_cases h : n < 128
  · rw [digits_small h]; simp
  · rw [digits_big h]; simp
theorem val_digits (n : Nat) : val (digits n) = n := by
  induction n using Nat.strongRecOn with
  | ind n ih =>
    by_cases h : n < 128
    · rw [digits_small h]
      simp only [val, UInt8.toNat_ofNat']
      omega
    · rw [digits_big h, val, ih (n / 128) (by omega), UInt8.toNat_ofNat']
      omega
theorem scan_digits (n : Nat) : ∀ f, (digits n).length ≤ f → scanDigits f (digits n) = some (digits n) := by
  induction n using Nat.strongRecOn with
  | ind n ih =>
    intro f hf
    by_cases h : n < 128
    · rw [digits_small h] at hf ⊢
      obtain ⟨f, rfl⟩ : ∃ f', f = f' + 1 := ⟨f - 1, by simp at hf; omega⟩
      rw [scanDigits, if_pos]
      simp only [UInt8.toNat_ofNat']
      omega
    · rw [digits_big h] at hf ⊢
      obtain ⟨f, rfl⟩ : ∃ f', f = f' + 1 := ⟨f - 1, by simp at hf; omega⟩
      rw [scanDigits, if_neg, ih (n / 128) (by omega) f (by simpa using hf)]
      · rfl
      · simp only [UInt8.toNat_ofNat']
        omega
theorem getVar_put (bs : List UInt8) {n : Nat} (h : n ≤ 4294967295) : getVar (bs ++ digits n) (bs.length : Int) = ((n : Int), ((bs ++ digits n).length : Int), true) := by
  have hd := List.length_pos_iff.2 (digits_ne n)
  rw [getVar, if_pos ⟨by omega, by rw [List.length_append]; omega⟩, Int.toNat_natCast, List.drop_left, scan_digits n 5 (digits_length n 4 (by omega))]
  simp only
  rw [if_pos ⟨by rw [val_digits]; exact h, digits_last n⟩, val_digits, List.length_append]
  simp
theorem putVar_nat (bs : List UInt8) {n : Nat} (h : n ≤ 4294967295) : putVar bs (n : Int) = (bs ++ digits n, true) := by
  rw [putVar, if_pos ⟨by omega, by omega⟩, Int.toNat_natCast]
/-- The number that stands for -(n / 4). -/
def zigNum (n : Nat) : Nat := if n / 4 = 0 then 0 else 2 * (n / 4) - 1
theorem putZig_down (bs : List UInt8) {n : Nat} (h : n ≤ 4294967295) : putZig bs (-((n : Int) / 4)) = (bs ++ digits (zigNum n), true) := by
  have hz : zigNum n ≤ 4294967295 := by unfold zigNum; split <;> omega
  rw [putZig, if_pos ⟨by omega, by omega⟩, ← putVar_nat bs hz]
  congr 1
  unfold zigNum
  by_cases h0 : n / 4 = 0
  · rw [if_pos h0, if_pos (by omega)]; omega
  · rw [if_neg h0, if_neg (by omega)]; omega
theorem getZig_down (bs : List UInt8) {n : Nat} (h : n ≤ 4294967295) : getZig (bs ++ digits (zigNum n)) (bs.length : Int) = (-((n : Int) / 4), ((bs ++ digits (zigNum n)).length : Int), true) := by
  have hz : zigNum n ≤ 4294967295 := by unfold zigNum; split <;> omega
  rw [getZig, getVar_put bs hz, zigOf, if_pos rfl]
  simp only
  congr 1
  unfold zigNum
  by_cases h0 : n / 4 = 0
  · rw [if_pos h0, if_neg (by omega)]; omega
  · rw [if_neg h0, if_pos (by omega)]; omega

set_option maxRecDepth 100000 in
theorem implMod7_any {n : Nat} (h : n ≤ 4294967295) (w : World) :
    Calls Tryd.prog 14 #[.int .i64 (-(n : Int)), .int .i64 7] w fun e w' => ∃ r : Nat, (r < 7 ∧ (n + r) % 7 = 0) ∧ e = .returned (.int .i64 (r : Int)) ∧ w = w' := by
  have ht : (-(n : Int)).tmod 7 = -((n % 7 : Nat) : Int) := by rw [Int.neg_tmod, Int.tmod_eq_emod_of_nonneg (by omega)]; omega
  generalize hR : n % 7 = R at *
  have hR7 : R < 7 := by omega
  have HR := Lib.hid hR
  clear hR
  by_cases h0 : R = 0
  · subst h0
    replace ht : (-(n : Int)).tmod 7 = 0 := by simpa using ht
    go_enter Tryd.func14, Tryd.ntmps14
    go_wp2_with fail
    go_ret
    exact ⟨0, ⟨by omega, by have := HR.out; omega⟩, rfl, rfl⟩
  · go_enter Tryd.func14, Tryd.ntmps14
    go_wp2_with fail
    go_ret
    exact ⟨7 - R, ⟨by omega, by have := HR.out; omega⟩, by go_num, rfl⟩
end Go.Proofs.YtbogonfamflpdaaDoor
