
/- The plain mathematics of numbers in digits of base 128, of signed numbers and of the sum; no program is named here. -/

namespace Go.Proofs.YtikcoplihfoiiaaDoor

/-- n in digits of base 128, the lowest first, 128 added to all but the last. -/
def digits (n : Nat) : List UInt8 :=
  if n < 128 then [UInt8.ofNat n] else UInt8.ofNat (n % 128 + 128) :: digits (n / 128)
termination_by n
decreasing_by omega

theorem digits_small {n : Nat} (h : n < 128) : digits n = [UInt8.ofNat n] := by rw [digits, if_pos h]
theorem digits_big {n : Nat} (h : ¬ n < 128) : digits n = UInt8.ofNat (n % 128 + 128) :: digits (n / 128) := by rw [digits, if_neg h]

theorem digits_length (n : Nat) (k : Nat) (h : n < 128 ^ (k + 1)) : (digits n).length ≤ k + 1 := by
  induction k generalizing n with
  | zero => rw [digits_small (by omega)]; simp
  | succ k ih =>
    by_cases hn : n < 128
    · rw [digits_small hn]; simp
    · rw [digits_big hn]
      have := ih (n / 128) (Nat.div_lt_of_lt_mul (by rw [Nat.pow_succ] at h; omega))
      simp; omega

/-- What PutVar answers: the bytes, and whether it is a number. -/
def putVar (bs : List UInt8) (n : Int) : List UInt8 × Bool :=
  if 0 ≤ n ∧ n ≤ 4294967295 then (bs ++ digits n.toNat, true) else ([], false)

theorem putVar_len (bs : List UInt8) (n : Int) : (putVar bs n).1.length ≤ bs.length + 5 := by
  unfold putVar
  split
  · have := digits_length n.toNat 4 (by omega)
    simp; omega
  · simp

/-- What PutZig answers. -/
def putZig (bs : List UInt8) (n : Int) : List UInt8 × Bool :=
  if -2147483648 ≤ n ∧ n ≤ 2147483647 then putVar bs (if 0 ≤ n then 2 * n else -2 * n - 1) else ([], false)

theorem putZig_len (bs : List UInt8) (n : Int) : (putZig bs n).1.length ≤ bs.length + 5 := by
  unfold putZig
  split
  · exact putVar_len _ _
  · simp
end Go.Proofs.YtikcoplihfoiiaaDoor
