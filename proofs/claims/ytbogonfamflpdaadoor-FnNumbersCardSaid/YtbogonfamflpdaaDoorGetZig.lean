
/- Contracts of GetZig, the program's and the model's. -/

import Derived.Test.YtbogonfamflpdaaDoorGetVarSpec

namespace Go.Proofs.YtbogonfamflpdaaDoor

open Go.RowKit

theorem and_one (n : Int) (h0 : 0 ≤ n) (h1 : n ≤ 4294967295) : bits .and .i64 n 1 = n % 2 := by
  obtain ⟨m, rfl⟩ := Int.eq_ofNat_of_zero_le h0
  show IntKind.i64.wrap ((BitVec.ofInt 64 (m : Int) &&& BitVec.ofInt 64 ((1 : Nat) : Int)).toNat : Int) = _
  rw [BitVec.toNat_and, BitVec.ofInt_natCast, BitVec.ofInt_natCast, BitVec.toNat_ofNat, BitVec.toNat_ofNat, Nat.mod_eq_of_lt (by omega), Nat.mod_eq_of_lt (by omega), Nat.and_one_is_mod, IntKind.wrap_i64]
  omega

theorem implGetZig_any {A : Option Addr} {m c hi : Nat} {bs : List UInt8} {w : World} (p : Int) (hsn : Seen w hi 1 A m (bs.map B)) (hm : m ≤ 16777216) :
    Calls Tryd.prog 11 #[.slice A m c, .int .i64 p] w fun e w' => e = int3 (getZig bs p) ∧ w = w' := by
  have hr := getVar_range bs p
  have hcon := implGetVar_any (c := c) (w := w) p hsn hm
  have hz := Lib.hid (show getZig bs p = zigOf (getVar bs p) from rfl)
  generalize getVar bs p = r at *
  obtain ⟨n, next, ok⟩ := r
  obtain ⟨h0, h1, h2⟩ := hr
  simp only at h0 h1 h2
  have hcon' := Lib.hid hcon
  clear hcon
  have hand := and_one n h0 h1
  cases ok with
  | false =>
    have h3 := h2 rfl
    simp only [Prod.mk.injEq] at h3
    obtain ⟨rfl, rfl, _⟩ := h3
    clear h2
    go_enter Tryd.func11, Tryd.ntmps11
    go_wp2_with fail
    refine hcon'.out.mono ?_
    rintro e w' ⟨rfl, rfl⟩
    go_wp2_with fail
    go_ret3
    rw [hz.out]
    exact ⟨rfl, rfl⟩
  | true =>
    clear h2
    by_cases ho : n % 2 = 1
    · have hb : (n % 2 == 1) = true := by simp [ho]
      have HO := Lib.hid ho
      clear ho
      go_enter Tryd.func11, Tryd.ntmps11
      go_wp2_with fail
      refine hcon'.out.mono ?_
      rintro e w' ⟨rfl, rfl⟩
      go_wp2_with fail
      go_ret3
      refine ⟨?_, rfl⟩
      rw [hz.out]
      simp [zigOf, HO.out]
    · have hb : (n % 2 == 1) = false := by simp [ho]
      have HO := Lib.hid ho
      clear ho
      go_enter Tryd.func11, Tryd.ntmps11
      go_wp2_with fail
      refine hcon'.out.mono ?_
      rintro e w' ⟨rfl, rfl⟩
      go_wp2_with fail
      go_ret3
      refine ⟨?_, rfl⟩
      rw [hz.out]
      simp only [zigOf, if_neg HO.out, if_true]
      rfl

end Go.Proofs.YtbogonfamflpdaaDoor
