
/- The plain mathematics of numbers in decimal digits; no program is named here. -/

import Derived.Lib.ItoaMem

import Derived.Lib.ParseIntB

namespace Go.Proofs.YtllkbikhclfgpaaDoor

/-- What decimal digits tell. -/
def decFold (acc : Nat) (l : List UInt8) : Nat := l.foldl (fun a c => a * 10 + (c.toNat - 48)) acc
def IsDig (c : UInt8) : Prop := 48 ≤ c.toNat ∧ c.toNat ≤ 57
/-- What TextNum answers. -/
def textNum (l : List UInt8) : Int × Bool :=
  if decFold 0 l ≤ 4294967295 ∧ Lib.decDigits (decFold 0 l) = l then ((decFold 0 l : Int), true) else (0, false)

theorem decFold_snoc (acc : Nat) (l : List UInt8) (c : UInt8) : decFold acc (l ++ [c]) = decFold acc l * 10 + (c.toNat - 48) := by simp [decFold]
theorem decFold_ge : ∀ (l : List UInt8) (acc : Nat), acc ≤ decFold acc l
  | [], _ => Nat.le_refl _
  | c :: l, acc => by
    have := decFold_ge l (acc * 10 + (c.toNat - 48))
    show acc ≤ decFold (acc * 10 + (c.toNat - 48)) l
    omega

theorem dec_digits (n : Nat) : decFold 0 (Lib.decDigits n) = n ∧ (∀ c ∈ Lib.decDigits n, IsDig c) ∧ Lib.decDigits n ≠ [] := by
  induction n using Nat.strongRecOn with
  | ind n ih =>
    rw [Lib.decDigits]
    split
    · rename_i h
      have e : (UInt8.ofNat (48 + n)).toNat = 48 + n := by rw [UInt8.toNat_ofNat']; omega
      refine ⟨?_, ?_, by simp⟩
      · show 0 * 10 + ((UInt8.ofNat (48 + n)).toNat - 48) = n
        rw [e]; omega
      · intro c hc
        rw [List.mem_singleton] at hc
        subst hc
        unfold IsDig
        rw [e]; omega
    · rename_i h
      obtain ⟨h1, h2, h3⟩ := ih (n / 10) (by omega)
      have e : (UInt8.ofNat (48 + n % 10)).toNat = 48 + n % 10 := by rw [UInt8.toNat_ofNat']; omega
      refine ⟨?_, ?_, by simp⟩
      · rw [decFold_snoc, h1, e]; omega
      · intro c hc
        rw [List.mem_append, List.mem_singleton] at hc
        rcases hc with hc | hc
        · exact h2 c hc
        · subst hc
          unfold IsDig
          rw [e]; omega

theorem decDigits_len : ∀ (k u : Nat), u < 10 ^ (k + 1) → (Lib.decDigits u).length ≤ k + 1 := by
  intro k
  induction k with
  | zero => intro u h; rw [Lib.decDigits, dif_pos (by omega)]; simp
  | succ k ih =>
    intro u h
    rw [Lib.decDigits]
    split
    · simp
    · have := ih (u / 10) (Nat.div_lt_of_lt_mul (by rw [Nat.pow_succ] at h; omega))
      simp; omega
theorem decDigits_short (u : Nat) (h : u ≤ 4294967295) : (Lib.decDigits u).length ≤ 10 := decDigits_len 9 u (by omega)

theorem textNum_yes {n : Nat} {l : List UInt8} (hn : n ≤ 4294967295) (h : Lib.decDigits n = l) : textNum l = ((n : Int), true) := by
  subst h
  rw [textNum, (dec_digits n).1, if_pos ⟨hn, rfl⟩]
theorem textNum_no {l : List UInt8} (h : ∀ n, n ≤ 4294967295 → Lib.decDigits n ≠ l) : textNum l = (0, false) := by
  rw [textNum, if_neg (fun hh => h _ hh.1 hh.2)]
theorem textNum_at {n : Nat} {l : List UInt8} (hf : decFold 0 l = n) (h : ¬ (n ≤ 4294967295 ∧ Lib.decDigits n = l)) : textNum l = (0, false) := by
  rw [textNum, hf, if_neg h]
theorem textNum_short {l : List UInt8} (h : l.length < 1 ∨ 10 < l.length) : textNum l = (0, false) := textNum_no fun n hn e => by
  subst e
  have h1 := decDigits_short n hn
  have h2 := (dec_digits n).2.2
  rcases h with h | h
  · exact h2 (List.eq_nil_of_length_eq_zero (by omega))
  · omega
theorem textNum_bad {l : List UInt8} {c : UInt8} (hc : c ∈ l) (h : ¬ IsDig c) : textNum l = (0, false) := textNum_no fun n _ e => by
  subst e
  exact h ((dec_digits n).2.1 c hc)

theorem decFold_bound (l : List UInt8) : ∀ acc, (∀ c ∈ l, IsDig c) → decFold acc l + 1 ≤ (acc + 1) * 10 ^ l.length := by
  induction l with
  | nil => intro acc _; simp [decFold]
  | cons c l ih =>
    intro acc h
    have hc := h c (by simp)
    unfold IsDig at hc
    have := ih (acc * 10 + (c.toNat - 48)) (fun d hd => h d (by simp [hd]))
    show decFold (acc * 10 + (c.toNat - 48)) l + 1 ≤ _
    refine Nat.le_trans this ?_
    rw [List.length_cons, Nat.pow_succ, Nat.mul_comm (10 ^ l.length) 10, ← Nat.mul_assoc]
    exact Nat.mul_le_mul_right _ (by omega)

theorem parse_ok : ∀ (l : List UInt8) (acc : Nat), (∀ c ∈ l, IsDig c) → decFold acc l ≤ 4294967295 → Lib.parseUintM 4294967295 acc l = .ok (decFold acc l)
  | [], acc, _, _ => by simp [Lib.parseUintM, decFold]
  | c :: l, acc, h, hb => by
    have hc := h c (by simp)
    unfold IsDig at hc
    have hge := decFold_ge l (acc * 10 + (c.toNat - 48))
    have hb' : decFold (acc * 10 + (c.toNat - 48)) l ≤ 4294967295 := hb
    have ih := parse_ok l (acc * 10 + (c.toNat - 48)) (fun d hd => h d (by simp [hd])) hb'
    rw [Lib.parseUintM, if_pos hc, if_neg (by omega), if_neg (by omega), ih]
    rfl
theorem parse_only : ∀ (l : List UInt8) (acc u : Nat), Lib.parseUintM 4294967295 acc l = .ok u → acc ≤ 4294967295 → u = decFold acc l ∧ u ≤ 4294967295
  | [], acc, u, h, ha => by
    simp [Lib.parseUintM] at h
    subst h
    exact ⟨rfl, ha⟩
  | c :: l, acc, u, h, ha => by
    rw [Lib.parseUintM] at h
    split at h
    · split at h
      · cases h
      · split at h
        · cases h
        · exact parse_only l (acc * 10 + (c.toNat - 48)) u h (by omega)
    · cases h

/-- What strconv.ParseUint makes of a text, and what TextNum makes of that. -/
theorem textNum_parsed {l : List UInt8} {u : Nat} (h : Lib.parseUintB 32 l = .ok u) : decFold 0 l = u ∧ u ≤ 4294967295 := by
  rw [Lib.parseUintB] at h
  split at h
  · cases h
  · have := parse_only l 0 u h (by omega)
    exact ⟨this.1.symm, this.2⟩
theorem textNum_unparsed {l : List UInt8} (h : ∀ u, Lib.parseUintB 32 l ≠ .ok u) : textNum l = (0, false) := textNum_no fun n hn e => by
  subst e
  obtain ⟨h1, h2, h3⟩ := dec_digits n
  refine h n ?_
  rw [Lib.parseUintB, if_neg h3]
  have := parse_ok (Lib.decDigits n) 0 h2 (by rw [h1]; exact hn)
  rw [h1] at this
  exact this

/-- What NumText answers. -/
def numText (n : Int) : List UInt8 := if 0 ≤ n ∧ n ≤ 4294967295 then Lib.decDigits n.toNat else []
end Go.Proofs.YtllkbikhclfgpaaDoor
