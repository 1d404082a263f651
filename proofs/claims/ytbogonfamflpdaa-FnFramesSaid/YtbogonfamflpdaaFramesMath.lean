
/- Small facts for the law of frames: a byte that is turned, bounds. -/

import Derived.Test.YtbogonfamflpdaaMakeChunks

import Derived.Test.YtbogonfamflpdaaStream

import Derived.Test.YtbogonfamflpdaaChunkS

namespace Go.Proofs.Ytbogonfamflpdaa

open Go.RowKit

theorem xor_turn (x : UInt8) {m : Nat} (hm : m < 255) : ∃ y : UInt8, Value.int .u8 (bits .xor .u8 (x.toNat : Int) (1 + (m : Int))) = B y ∧ y ≠ x := by
  have hx := x.toNat_lt
  have h1 : bits .xor .u8 (x.toNat : Int) ((1 + m : Nat) : Int) = ((x.toNat ^^^ (1 + m) : Nat) : Int) := u8_xor_nat _ _ (by omega) (by omega)
  have h2 : x.toNat ^^^ (1 + m) < 2 ^ 8 := Nat.xor_lt_two_pow (by omega) (by omega)
  refine ⟨UInt8.ofNat (x.toNat ^^^ (1 + m)), ?_, ?_⟩
  · rw [show (1 + (m : Int)) = ((1 + m : Nat) : Int) by omega, h1]
    simp only [B, UInt8.toNat_ofNat']
    rw [Nat.mod_eq_of_lt h2]
  · intro e
    have := congrArg UInt8.toNat e
    rw [UInt8.toNat_ofNat', Nat.mod_eq_of_lt h2] at this
    have h3 := congrArg (x.toNat ^^^ ·) this
    simp only [← Nat.xor_assoc, Nat.xor_self, Nat.zero_xor] at h3
    omega

theorem fit_small {ds : List (List UInt8)} (h5 : ds.length ≤ 5) (h8 : ∀ d ∈ ds, d.length ≤ 8) : Fit 0 ds := ⟨by omega, fun d hd => by have := h8 d hd; omega⟩
theorem room_small : ∀ (ds : List (List UInt8)), (∀ d ∈ ds, d.length ≤ 8) → room ds ≤ 23 * ds.length
  | [], _ => by simp [room]
  | d :: ds, h => by
    have := room_small ds (fun x hx => h x (by simp [hx]))
    have h1 := h d (by simp)
    simp only [room, List.map_cons, List.sum_cons, List.length_cons] at this ⊢
    omega
theorem streamB_yes {ds : List (List UInt8)} (h : Fit 0 ds) : streamB ds = (stream 0 ds, true) := by rw [streamB, if_pos h]
end Go.Proofs.Ytbogonfamflpdaa
