
/- The plain mathematics of reading a number in digits of base 128; no program is named here. -/

import Derived.Test.YtbogonfamflpdaaDoorVarMath

namespace Go.Proofs.YtbogonfamflpdaaDoor

/-- The digits up to the first that is below 128, of the first k. -/
def scanDigits : Nat → List UInt8 → Option (List UInt8)
  | 0, _ => none
  | _ + 1, [] => none
  | k + 1, d :: r => if d.toNat < 128 then some [d] else (scanDigits k r).map (d :: ·)

/-- The number that digits tell, the lowest first. -/
def val : List UInt8 → Nat
  | [] => 0
  | d :: r => d.toNat % 128 + 128 * val r

/-- What GetVar answers. -/
def getVar (bs : List UInt8) (at_ : Int) : Int × Int × Bool :=
  if 0 ≤ at_ ∧ at_ < bs.length then
    match scanDigits 5 (bs.drop at_.toNat) with
    | none => (0, 0, false)
    | some ds => if val ds ≤ 4294967295 ∧ (ds.length = 1 ∨ ds.getLast? ≠ some 0) then ((val ds : Int), at_ + ds.length, true) else (0, 0, false)
  else (0, 0, false)

/-- What GetZig makes of what GetVar answers. -/
def zigOf (r : Int × Int × Bool) : Int × Int × Bool :=
  if r.2.2 then (if r.1 % 2 = 1 then -(r.1 / 2) - 1 else r.1 / 2, r.2.1, true) else (0, 0, false)
def getZig (bs : List UInt8) (at_ : Int) : Int × Int × Bool := zigOf (getVar bs at_)

theorem getVar_range (bs : List UInt8) (at_ : Int) : 0 ≤ (getVar bs at_).1 ∧ (getVar bs at_).1 ≤ 4294967295 ∧ ((getVar bs at_).2.2 = false → getVar bs at_ = (0, 0, false)) := by
  unfold getVar
  split
  · split
    · simp
    · split
      · rename_i ds _ h
        refine ⟨by simp, ?_, by simp⟩
        have := h.1
        show (val ds : Int) ≤ 4294967295
        omega
      · simp
  · simp

theorem scan_found : ∀ (f k : Nat) (t : List UInt8), k < f → (∀ i d, i < k → t[i]? = some d → 128 ≤ d.toNat) → (∃ d, t[k]? = some d ∧ d.toNat < 128) → scanDigits f t = some (t.take (k + 1)) := by
  intro f
  induction f with
  | zero => intro k t h; omega
  | succ f ih =>
    intro k t hk hi ⟨d, hd, hlt⟩
    cases t with
    | nil => simp at hd
    | cons a r =>
      cases k with
      | zero =>
        simp at hd
        subst hd
        simp [scanDigits, hlt]
      | succ k =>
        have ha := hi 0 a (by omega) rfl
        rw [scanDigits, if_neg (by omega), ih k r (by omega) (fun i d hik he => hi (i + 1) d (by omega) (by simpa using he)) ⟨d, by simpa using hd, hlt⟩]
        simp

theorem scan_none : ∀ (f : Nat) (t : List UInt8), (∀ i d, i < f → t[i]? = some d → 128 ≤ d.toNat) → scanDigits f t = none := by
  intro f
  induction f with
  | zero => intro t _; rw [scanDigits]
  | succ f ih =>
    intro t hi
    cases t with
    | nil => rw [scanDigits]
    | cons a r =>
      have ha := hi 0 a (by omega) rfl
      rw [scanDigits, if_neg (by omega), ih r (fun i d hif he => hi (i + 1) d (by omega) (by simpa using he))]
      rfl

theorem val_snoc : ∀ (l : List UInt8) (d : UInt8), val (l ++ [d]) = val l + 128 ^ l.length * (d.toNat % 128) := by
  intro l
  induction l with
  | nil => intro d; simp [val]
  | cons a r ih =>
    intro d
    simp only [List.cons_append, val, ih, List.length_cons, Nat.pow_succ, Nat.mul_add]
    rw [Nat.mul_comm (128 ^ r.length) 128, Nat.mul_assoc]
    omega

theorem val_lt : ∀ l : List UInt8, val l < 128 ^ l.length := by
  intro l
  induction l with
  | nil => simp [val]
  | cons a r ih =>
    simp only [val, List.length_cons, Nat.pow_succ]
    have := Nat.mod_lt a.toNat (show 0 < 128 by omega)
    omega

/-- Digits with 128 on all but the last, the last of several not 0, are just the digits of what they tell. -/
theorem digits_val : ∀ l : List UInt8, l ≠ [] → (∀ i d, i + 1 < l.length → l[i]? = some d → 128 ≤ d.toNat) → (∀ d, l.getLast? = some d → d.toNat < 128 ∧ (l.length = 1 ∨ d ≠ 0)) → digits (val l) = l := by
  intro l
  induction l with
  | nil => intro h; exact absurd rfl h
  | cons a r ih =>
    intro _ hi hl
    cases r with
    | nil =>
      have := (hl a (by simp)).1
      rw [val, val, Nat.mul_zero, Nat.add_zero, Nat.mod_eq_of_lt this, digits_small this]
      simp
    | cons b r =>
      have ha := hi 0 a (by simp) rfl
      have h2 := ih (by simp) (fun i d hid he => hi (i + 1) d (by simp at hid ⊢; omega) (by simpa using he)) (fun d hd => by
        have := hl d (by simpa using hd)
        refine ⟨this.1, .inr ?_⟩
        rcases this.2 with h | h
        · simp at h
        · exact h)
      have hpos : 0 < val (b :: r) := by
        rcases Nat.eq_zero_or_pos (val (b :: r)) with h0 | h0
        · exfalso
          rw [h0, digits_small (by omega)] at h2
          injection h2 with e1 e2
          have := hl b (by rw [← e2]; simp)
          rcases this.2 with h | h
          · simp at h
          · exact h (by rw [← e1]; rfl)
        · exact h0
      have hval : val (a :: b :: r) = a.toNat % 128 + 128 * val (b :: r) := rfl
      rw [hval, digits_big (by omega), show (a.toNat % 128 + 128 * val (b :: r)) / 128 = val (b :: r) from by omega, h2]
      congr 1
      have : a.toNat < 256 := a.toNat_lt
      rw [show (a.toNat % 128 + 128 * val (b :: r)) % 128 + 128 = a.toNat from by omega]
      simp

/-- The last digit of a number with several digits is not 0; the others have 128. -/
theorem digits_last (n : Nat) : (digits n).length = 1 ∨ (digits n).getLast? ≠ some 0 := by
  induction n using Nat.strongRecOn with
  | ind n ih =>
    by_cases h : n < 128
    · left; rw [digits_small h]; rfl
    · right
      rw [digits_big h]
      have h1 := ih (n / 128) (by omega)
      have hne : digits (n / 128) ≠ [] := by
        intro e
        by_cases h2 : n / 128 < 128
        · rw [digits_small h2] at e; simp at e
        · rw [digits_big h2] at e; simp at e
      rw [List.getLast?_cons_of_ne_nil hne]
      rcases h1 with h1 | h1
      · by_cases h2 : n / 128 < 128
        · rw [digits_small h2]
          intro e
          simp at e
          have := congrArg UInt8.toNat e
          simp at this
          omega
        · rw [digits_big h2] at h1
          simp at h1
          exfalso
          by_cases h3 : n / 128 / 128 < 128
          · rw [digits_small h3] at h1; simp at h1
          · rw [digits_big h3] at h1; simp at h1
      · exact h1
end Go.Proofs.YtbogonfamflpdaaDoor
