
/- The plain mathematics of the sum; no program is named here. -/

import Derived.WalkKit

namespace Go.Proofs.YtikcoplihfoiiaaDoor

open Go.RowKit

/-- One of the eight steps. -/
def crcBit (r : Nat) : Nat := if r % 2 = 1 then r / 2 ^^^ 3988292384 else r / 2
/-- Eight steps behind a byte. -/
def crcByte (r : Nat) (b : UInt8) : Nat := Nat.repeat crcBit 8 (r ^^^ b.toNat)
def crcRun (bs : List UInt8) : Nat := bs.foldl crcByte 4294967295
/-- What Crc answers. -/
def crc (bs : List UInt8) : Nat := crcRun bs ^^^ 4294967295

theorem crcBit_lt {r : Nat} (h : r < 4294967296) : crcBit r < 4294967296 := by
  unfold crcBit
  split
  · exact Nat.xor_lt_two_pow (n := 32) (by omega) (by omega)
  · omega
theorem crcBits_lt {r : Nat} (h : r < 4294967296) : ∀ k, Nat.repeat crcBit k r < 4294967296
  | 0 => h
  | k + 1 => crcBit_lt (crcBits_lt h k)
theorem crcIn_lt {r : Nat} (h : r < 4294967296) (b : UInt8) : r ^^^ b.toNat < 4294967296 := by
  have := b.toNat_lt
  exact Nat.xor_lt_two_pow (n := 32) (by omega) (by omega)
theorem crcByte_lt {r : Nat} (h : r < 4294967296) (b : UInt8) : crcByte r b < 4294967296 := crcBits_lt (crcIn_lt h b) 8
theorem crcFold_lt : ∀ (bs : List UInt8) (r : Nat), r < 4294967296 → bs.foldl crcByte r < 4294967296
  | [], _, h => h
  | b :: bs, _, h => crcFold_lt bs _ (crcByte_lt h b)
theorem crcRun_lt (bs : List UInt8) : crcRun bs < 4294967296 := crcFold_lt bs _ (by omega)
theorem crc_lt (bs : List UInt8) : crc bs < 4294967296 := Nat.xor_lt_two_pow (n := 32) (crcRun_lt bs) (by omega)
theorem crcRun_step {bs : List UInt8} {k : Nat} (h : k < bs.length) : crcRun (bs.take (k + 1)) = crcByte (crcRun (bs.take k)) bs[k] := by
  unfold crcRun
  rw [List.take_succ_eq_append_getElem h, List.foldl_append]
  rfl

theorem xor_i64 (a b : Nat) (ha : a < 4294967296) (hb : b < 4294967296) : bits .xor .i64 (a : Int) (b : Int) = ((a ^^^ b : Nat) : Int) := by
  have hx : a ^^^ b < 2 ^ 32 := Nat.xor_lt_two_pow (by omega) (by omega)
  show IntKind.i64.wrap ((BitVec.ofInt 64 (a : Int) ^^^ BitVec.ofInt 64 (b : Int)).toNat : Int) = _
  rw [BitVec.toNat_xor, BitVec.ofInt_natCast, BitVec.ofInt_natCast, BitVec.toNat_ofNat, BitVec.toNat_ofNat, Nat.mod_eq_of_lt (by omega), Nat.mod_eq_of_lt (by omega), IntKind.wrap_i64]
  omega
theorem xor_half (Q : Nat) (h : Q < 4294967296) : bits .xor .i64 ((Q : Int) / 2) 3988292384 = ((Q / 2 ^^^ 3988292384 : Nat) : Int) := by
  have := xor_i64 (Q / 2) 3988292384 (by omega) (by omega)
  rw [show ((Q / 2 : Nat) : Int) = (Q : Int) / 2 from by omega] at this
  exact this
theorem xor_all (R : Nat) (h : R < 4294967296) : bits .xor .i64 (R : Int) 4294967295 = ((R ^^^ 4294967295 : Nat) : Int) := xor_i64 R 4294967295 h (by omega)
theorem xor_half_u32 (Q : Nat) (h : Q < 4294967296) : bits .xor .u32 ((Q : Int) / 2) 3988292384 = ((Q / 2 ^^^ 3988292384 : Nat) : Int) := by
  have := u32_xor_nat (Q / 2) 3988292384 (by omega) (by omega)
  rw [show ((Q / 2 : Nat) : Int) = (Q : Int) / 2 from by omega] at this
  exact this
theorem not_u32 (R : Nat) (h : R < 4294967296) : wrap64 (bits .xor .u32 IntKind.u32.max (R : Int)) = ((R ^^^ 4294967295 : Nat) : Int) := by
  have h1 : bits .xor .u32 ((4294967295 : Nat) : Int) (R : Int) = ((4294967295 ^^^ R : Nat) : Int) := u32_xor_nat 4294967295 R (by omega) h
  have h2 : (4294967295 ^^^ R : Nat) < 2 ^ 32 := Nat.xor_lt_two_pow (by omega) (by omega)
  rw [show IntKind.u32.max = ((4294967295 : Nat) : Int) from by decide, h1, IntWalk.wrap64_in _ (by omega), Nat.xor_comm]
theorem and_u32 (a : Nat) (ha : a < 4294967296) : bits .and .u32 (a : Int) 1 = ((a % 2 : Nat) : Int) := by
  have := u32_and_nat a 1 ha (by omega)
  rw [Nat.and_one_is_mod] at this
  exact this
end Go.Proofs.YtikcoplihfoiiaaDoor
