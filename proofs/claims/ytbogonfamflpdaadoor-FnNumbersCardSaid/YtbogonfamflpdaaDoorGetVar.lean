
/- Contracts of GetVar, the program's and the model's. -/

import Derived.Test.YtbogonfamflpdaaDoorPutVar

import Derived.Test.YtbogonfamflpdaaDoorGetMath

namespace Go.Proofs.YtbogonfamflpdaaDoor

open Go.RowKit

/-- The call answers two ints and a bool. -/
abbrev int3 (r : Int × Int × Bool) : Ending := .returned (.tuple #[.int .i64 r.1, .int .i64 r.2.1, .bool r.2.2])

/-- The first k of t have 128. -/
def High (t : List UInt8) (k : Nat) : Prop := ∀ i d, i < k → t[i]? = some d → 128 ≤ d.toNat

theorem andNot128 : ∀ x : Fin 256, (x.val &&& (255 - 128)) = x.val % 128 := by decide +kernel
theorem or_step (V x k : Nat) (hV : V < 128 ^ k) (hk : k < 5) (hx : x < 256) :
    bits .or .u64 (V : Int) (IntKind.u64.wrap (IntKind.u64.wrap (bits .andNot .u8 (x : Int) 128) * 2 ^ (7 * k))) = ((V + 128 ^ k * (x % 128) : Nat) : Int) := by
  have h1 : bits .andNot .u8 (x : Int) ((128 : Nat) : Int) = ((x % 128 : Nat) : Int) := by
    rw [u8_andNot_nat x 128 hx (by omega)]
    have := andNot128 ⟨x, hx⟩
    simp only at this
    rw [this]
  have h128 : (128 : Nat) ^ k = 2 ^ (7 * k) := by rw [Nat.pow_mul]
  have hx7 := Nat.mod_lt x (show 0 < 128 by omega)
  have hp : (2 : Nat) ^ (7 * k) ≤ 2 ^ 28 := Nat.pow_le_pow_right (by omega) (by omega)
  have hprod : x % 128 * 2 ^ (7 * k) < 2 ^ 35 := by
    calc x % 128 * 2 ^ (7 * k) ≤ 127 * 2 ^ 28 := Nat.mul_le_mul (by omega) hp
      _ < 2 ^ 35 := by decide
  have e1 : IntKind.u64.wrap ((x % 128 : Nat) : Int) = ((x % 128 : Nat) : Int) := by
    rw [IntKind.wrap_u64]; omega
  have e2 : (((x % 128 : Nat) : Int) * 2 ^ (7 * k)) = ((x % 128 * 2 ^ (7 * k) : Nat) : Int) := by
    rw [Int.natCast_mul, Int.natCast_pow]; rfl
  have e3 : IntKind.u64.wrap ((x % 128 * 2 ^ (7 * k) : Nat) : Int) = ((x % 128 * 2 ^ (7 * k) : Nat) : Int) := by
    rw [IntKind.wrap_u64]; omega
  rw [show (128 : Int) = ((128 : Nat) : Int) from rfl, h1, e1, e2, e3, u64_or_nat V _ (by omega) (by omega)]
  have := Nat.two_pow_add_eq_or_of_lt (i := 7 * k) (b := V) (by omega) (x % 128)
  rw [Nat.or_comm, Nat.mul_comm (x % 128), ← this, h128, Nat.add_comm]

theorem val_step {t : List UInt8} {x : UInt8} {k : Nat} (hx : t[k]? = some x) (_hk : k < 5) :
    val (t.take k) < 128 ^ k ∧ val (t.take (k + 1)) = val (t.take k) + 128 ^ k * (x.toNat % 128) := by
  have hkl : k < t.length := (List.getElem?_eq_some_iff.1 hx).1
  have hx' : t[k] = x := (List.getElem?_eq_some_iff.1 hx).2
  have hl : (t.take k).length = k := by simp; omega
  have h1 := val_lt (t.take k)
  rw [hl] at h1
  refine ⟨h1, ?_⟩
  rw [List.take_succ_eq_append_getElem hkl, val_snoc, hl, hx']

theorem getVar_found {bs : List UInt8} {m p k : Nat} {x : UInt8} (hl : bs.length = m) (hp : p < m) (hk : k < 5) (hh : High (bs.drop p) k) (hx : (bs.drop p)[k]? = some x) (hlt : x.toNat < 128) :
    getVar bs (p : Int) = if val ((bs.drop p).take (k + 1)) ≤ 4294967295 ∧ ¬ (x = 0 ∧ 0 < k) then ((val ((bs.drop p).take (k + 1)) : Int), (p : Int) + k + 1, true) else (0, 0, false) := by
  have hkl : k < (bs.drop p).length := (List.getElem?_eq_some_iff.1 hx).1
  have hx' : (bs.drop p)[k] = x := (List.getElem?_eq_some_iff.1 hx).2
  have hlen : ((bs.drop p).take (k + 1)).length = k + 1 := by rw [List.length_take]; omega
  have hlast : ((bs.drop p).take (k + 1)).getLast? = some x := by
    rw [List.take_succ_eq_append_getElem hkl, hx']; simp
  rw [getVar, if_pos (by omega), Int.toNat_natCast, scan_found 5 k (bs.drop p) hk hh ⟨x, hx, hlt⟩]
  simp only [hlen, hlast]
  have hiff : (k + 1 = 1 ∨ some x ≠ some 0) ↔ ¬ (x = 0 ∧ 0 < k) := by
    by_cases h0 : x = 0
    · subst h0; simp
    · simp [h0]
  simp only [hiff]
  congr 3

theorem getVar_none {bs : List UInt8} {m p k : Nat} (hl : bs.length = m) (hh : High (bs.drop p) k) (hk : ¬ (k < 5 ∧ p + k < m)) : getVar bs (p : Int) = (0, 0, false) := by
  rw [getVar]
  split
  · rw [Int.toNat_natCast, scan_none 5 (bs.drop p) (fun i d hi he => hh i d ?_ he)]
    have := (List.getElem?_eq_some_iff.1 he).1
    simp at this
    omega
  · rfl

set_option maxRecDepth 100000 in
set_option maxHeartbeats 400000 in
theorem implGetVar_any {A : Option Addr} {m c hi : Nat} {bs : List UInt8} {w : World} (p : Int) (hsn : Seen w hi 1 A m (bs.map B)) (hm : m ≤ 16777216) :
    Calls Tryd.prog 9 #[.slice A m c, .int .i64 p] w fun e w' => e = int3 (getVar bs p) ∧ w = w' := by
  have hlen0 : bs.length = m := by simpa using hsn.1
  have hlen := Lib.hid hlen0
  clear hlen0
  by_cases h0 : p < 0
  · have hfin : Hid (getVar bs p = (0, 0, false)) := by show getVar bs p = _; rw [getVar, if_neg (by omega)]
    go_enter Tryd.func9, Tryd.ntmps9
    go_wp2_with fail
    go_ret3
    rw [hfin.out]
    exact ⟨rfl, rfl⟩
  by_cases h1 : (m : Int) ≤ p
  · have hfin : Hid (getVar bs p = (0, 0, false)) := by show getVar bs p = _; rw [getVar, if_neg (by have := hlen.out; omega)]
    go_enter Tryd.func9, Tryd.ntmps9
    go_wp2_with fail
    go_ret3
    rw [hfin.out]
    exact ⟨rfl, rfl⟩
  obtain ⟨q, rfl⟩ := Int.eq_ofNat_of_zero_le (show 0 ≤ p by omega)
  have h2 : q < m := by omega
  clear h0 h1
  by_cases h5 : 5 ≤ m - q
  all_goals
    go_enter Tryd.func9, Tryd.ntmps9
    go_wp2_with fail
    go_loop [7, 8, 9, 23] (fun n _ _ i => ∃ k : Nat, k ≤ 5 ∧ q + k ≤ m ∧ i = .int .i64 k ∧ n = .int .u64 ((val ((bs.drop q).take k) : Nat) : Int) ∧ High (bs.drop q) k) (fun _ _ _ i => 5 - (intOf i).toNat)
    case atStart => exact ⟨0, by omega, by omega, rfl, rfl, fun i d hi => by omega⟩
    case round =>
      obtain ⟨k, hk5, hkm, rfl, rfl, hh⟩ := hrel
      by_cases hlt : k < 5 ∧ q + k < m
      · obtain ⟨hlt1, hlt2⟩ := hlt
        obtain ⟨g, o, u, rfl, hg, hu, hc⟩ := hsn.at_ (j := q + k) (by omega)
        have hkb : q + k < bs.length := by rw [hlen.out]; exact hlt2
        have hx : u = B bs[q + k] := by simpa [List.getElem?_eq_getElem hkb] using hu.symm
        subst hx
        have hdx : Hid ((bs.drop q)[k]? = some bs[q + k]) := by show _ = _; rw [List.getElem?_drop, List.getElem?_eq_getElem hkb]
        generalize bs[q + k] = x at *
        clear hu
        have hx256 := x.toNat_lt
        by_cases hx : 128 ≤ x.toNat
        · go_wp2_with fail
          go_round
          case rel =>
            have hst := Lib.hid (val_step hdx.out hlt1)
            rw [or_step _ _ _ hst.out.1 hlt1 hx256, ← hst.out.2]
            refine ⟨k + 1, by omega, by omega, by go_num, rfl, fun i d hi he => ?_⟩
            rcases Nat.lt_or_ge i k with hik | hik
            · exact hh i d hik he
            · have hie : i = k := by omega
              subst hie
              rw [hdx.out] at he
              injection he with he
              rw [← he]; exact hx
          case measure => simp [intOf]; omega
        · have hfd := Lib.hid (getVar_found (p := q) (k := k) hlen.out h2 hlt1 hh hdx.out (by omega))
          have hst := val_step hdx.out hlt1
          have hor := or_step _ _ _ hst.1 hlt1 hx256
          rw [hst.2] at hfd
          obtain ⟨N, hN⟩ : ∃ N, val (List.take k (List.drop q bs)) + 128 ^ k * (x.toNat % 128) = N := ⟨_, rfl⟩
          rw [hN] at hor hfd
          clear hst hN hdx hh
          generalize val (List.take k (List.drop q bs)) = V at *
          by_cases hN1 : N ≤ 4294967295
          · by_cases hx0 : x = 0
            · have hxb : ((x.toNat : Int) == 0) = true := by rw [hx0]; decide
              by_cases hk0 : 0 < k
              · have hfd' := Lib.hid (hfd.out.trans (if_neg (by simp [hk0, hx0])))
                clear hfd hx0
                go_wp2_with fail
                go_ret3
                rw [hfd'.out]
                exact ⟨rfl, rfl⟩
              · have hfd' := Lib.hid (hfd.out.trans (if_pos (by simp [hk0, hN1])))
                clear hfd hx0
                go_wp2_with fail
                go_ret3
                rw [hfd'.out]
                exact ⟨rfl, rfl⟩
            · have hfd' := Lib.hid (hfd.out.trans (if_pos (by simp [hx0, hN1])))
              clear hfd
              have hxb : ((x.toNat : Int) == 0) = false := by
                simp only [beq_eq_false_iff_ne, ne_eq]
                intro e
                exact hx0 (UInt8.toNat_inj.1 (by simpa using e))
              clear hx0
              go_wp2_with fail
              go_ret3
              rw [hfd'.out]
              exact ⟨rfl, rfl⟩
          · have hfd' := Lib.hid (hfd.out.trans (if_neg (by simp [hN1])))
            clear hfd
            go_wp2_with fail
            go_ret3
            rw [hfd'.out]
            exact ⟨rfl, rfl⟩
      · have hfin := Lib.hid (getVar_none (p := q) (k := k) hlen.out hh (by omega))
        go_wp2_with fail
        go_ret3
        rw [hfin.out]
        exact ⟨rfl, rfl⟩
end Go.Proofs.YtbogonfamflpdaaDoor
