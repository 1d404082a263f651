
/- The plain mathematics of frames: numbers in bytes, a frame, how it is read, streams and scans; no program is named here. -/

import Derived.Test.YtlaiiphngekhnaaCrcMath

namespace Go.Proofs.Ytlaiiphngekhnaa

open Go.RowKit

/-- x in k bytes, the highest first. -/
def high : Nat → Nat → List UInt8
  | 0, _ => []
  | k + 1, x => UInt8.ofNat (x / 256 ^ k) :: high k x
/-- The number that bytes spell, the highest first, behind a. -/
def numFrom (a : Nat) (bs : List UInt8) : Nat := bs.foldl (fun n c => n * 256 + c.toNat) a
def num (bs : List UInt8) : Nat := numFrom 0 bs

theorem high_length (k x : Nat) : (high k x).length = k := by induction k with | zero => rfl | succ k ih => simp [high, ih]
theorem numFrom_cons (a : Nat) (b : UInt8) (bs : List UInt8) : numFrom a (b :: bs) = numFrom (a * 256 + b.toNat) bs := rfl
theorem numFrom_snoc (a : Nat) (bs : List UInt8) (b : UInt8) : numFrom a (bs ++ [b]) = numFrom a bs * 256 + b.toNat := by simp [numFrom]
theorem numFrom_eq (bs : List UInt8) : ∀ a, numFrom a bs = a * 256 ^ bs.length + num bs := by
  induction bs with
  | nil => intro a; simp [numFrom, num]
  | cons b bs ih =>
    intro a
    have h1 := ih (a * 256 + b.toNat)
    have h2 := ih (0 * 256 + b.toNat)
    rw [numFrom_cons, h1, show num (b :: bs) = numFrom (0 * 256 + b.toNat) bs from rfl, h2, List.length_cons, Nat.pow_succ, Nat.add_mul, Nat.mul_assoc, Nat.mul_comm 256]
    simp [Nat.add_assoc]
theorem num_cons (b : UInt8) (bs : List UInt8) : num (b :: bs) = b.toNat * 256 ^ bs.length + num bs := by
  rw [num, numFrom_cons, numFrom_eq]; simp
theorem num_lt (bs : List UInt8) : num bs < 256 ^ bs.length := by
  induction bs with
  | nil => simp [num, numFrom]
  | cons b bs ih =>
    rw [num_cons, List.length_cons, Nat.pow_succ]
    have := b.toNat_lt
    have h2 : (b.toNat + 1) * 256 ^ bs.length ≤ 256 * 256 ^ bs.length := Nat.mul_le_mul_right _ (by omega)
    rw [Nat.add_mul] at h2
    rw [Nat.mul_comm (256 ^ _) 256]
    omega
theorem num_high (k x : Nat) : num (high k x) = x % 256 ^ k := by
  induction k with
  | zero => simp [high, num, numFrom, Nat.mod_one]
  | succ k ih =>
    rw [high, num_cons, ih, high_length, Nat.pow_succ, Nat.mod_mul, UInt8.toNat_ofNat', Nat.mul_comm, show (2 : Nat) ^ 8 = 256 from rfl]
    omega
theorem num_inj : ∀ (xs ys : List UInt8), xs.length = ys.length → num xs = num ys → xs = ys := by
  intro xs
  induction xs with
  | nil => intro ys hl _; cases ys with | nil => rfl | cons y ys => simp at hl
  | cons x xs ih =>
    intro ys hl h
    cases ys with
    | nil => simp at hl
    | cons y ys =>
      have hl' : xs.length = ys.length := by simpa using hl
      rw [num_cons, num_cons, ← hl'] at h
      have h1 := num_lt xs
      have h2 := num_lt ys
      rw [← hl'] at h2
      have hxy : x.toNat = y.toNat := by
        have a := congrArg (· / 256 ^ xs.length) h
        simp only [Nat.mul_comm _ (256 ^ xs.length)] at a
        rw [Nat.mul_add_div (by omega), Nat.mul_add_div (by omega), Nat.div_eq_of_lt h1, Nat.div_eq_of_lt h2] at a
        simpa using a
      rw [hxy] at h
      rw [UInt8.toNat_inj.1 hxy, ih ys hl' (by omega)]

/-! A turned byte turns the sum. -/

theorem crcBit_inj {r s : Nat} (hr : r < 4294967296) (hs : s < 4294967296) (h : crcBit r = crcBit s) : r = s := by
  have top : ∀ a b : Nat, a < 2147483648 → b < 2147483648 → a ^^^ 3988292384 = b → False := by
    intro a b ha hb e
    have := congrArg (Nat.testBit · 31) e
    simp only [Nat.testBit_xor] at this
    rw [Nat.testBit_lt_two_pow (show a < 2 ^ 31 from ha), Nat.testBit_lt_two_pow (show b < 2 ^ 31 from hb)] at this
    revert this
    decide
  unfold crcBit at h
  by_cases h1 : r % 2 = 1 <;> by_cases h2 : s % 2 = 1
  · rw [if_pos h1, if_pos h2] at h
    have := congrArg (· ^^^ 3988292384) h
    simp only [Nat.xor_assoc, Nat.xor_self, Nat.xor_zero] at this
    omega
  · rw [if_pos h1, if_neg h2] at h
    exact (top _ _ (by omega) (by omega) h).elim
  · rw [if_neg h1, if_pos h2] at h
    exact (top _ _ (by omega) (by omega) h.symm).elim
  · rw [if_neg h1, if_neg h2] at h
    omega
theorem crcBits_inj : ∀ (k : Nat) {r s : Nat}, r < 4294967296 → s < 4294967296 → Nat.repeat crcBit k r = Nat.repeat crcBit k s → r = s
  | 0, _, _, _, _, h => h
  | k + 1, _, _, hr, hs, h => crcBits_inj k hr hs (crcBit_inj (crcBits_lt hr k) (crcBits_lt hs k) h)
theorem xor_cancel {a b c : Nat} (h : a ^^^ c = b ^^^ c) : a = b := by
  have := congrArg (· ^^^ c) h
  simpa [Nat.xor_assoc] using this
theorem crcByte_inj {r s : Nat} (b : UInt8) (hr : r < 4294967296) (hs : s < 4294967296) (h : crcByte r b = crcByte s b) : r = s :=
  xor_cancel (crcBits_inj 8 (crcIn_lt hr b) (crcIn_lt hs b) h)
theorem crcByte_inj' {r : Nat} {b c : UInt8} (hr : r < 4294967296) (h : crcByte r b = crcByte r c) : b = c := by
  have := crcBits_inj 8 (crcIn_lt hr b) (crcIn_lt hr c) h
  rw [Nat.xor_comm r, Nat.xor_comm r] at this
  exact UInt8.toNat_inj.1 (xor_cancel this)
theorem crcFold_inj : ∀ (bs : List UInt8) {r s : Nat}, r < 4294967296 → s < 4294967296 → bs.foldl crcByte r = bs.foldl crcByte s → r = s
  | [], _, _, _, _, h => h
  | b :: bs, _, _, hr, hs, h => crcByte_inj b hr hs (crcFold_inj bs (crcByte_lt hr b) (crcByte_lt hs b) h)
theorem crc_turned (pre post : List UInt8) {x y : UInt8} (h : crc (pre ++ x :: post) = crc (pre ++ y :: post)) : x = y := by
  have := xor_cancel h
  simp only [crcRun, List.foldl_append, List.foldl_cons] at this
  have hp := crcRun_lt pre
  exact crcByte_inj' hp (crcFold_inj post (crcByte_lt hp x) (crcByte_lt hp y) this)
theorem crc_set {bs : List UInt8} {p : Nat} (hp : p < bs.length) {y : UInt8} (h : crc (bs.set p y) = crc bs) : y = bs[p] := by
  have e1 : bs = bs.take p ++ bs[p] :: bs.drop (p + 1) := by simp
  rw [List.set_eq_take_append_cons_drop, if_pos hp] at h
  have h2 : crc (bs.take p ++ y :: bs.drop (p + 1)) = crc (bs.take p ++ bs[p] :: bs.drop (p + 1)) := by rw [h, ← e1]
  exact crc_turned _ _ h2

/-! Frames. -/

def head (seq size : Nat) : List UInt8 := 82 :: (high 3 seq ++ high 3 size)
def frame (seq : Nat) (d : List UInt8) : List UInt8 := head seq d.length ++ (high 4 (crc (head seq d.length)) ++ (high 4 (crc d) ++ d))
def frameBytes (seq : Int) (d : List UInt8) : List UInt8 × Bool :=
  if 0 ≤ seq ∧ seq ≤ 100000 ∧ d.length ≤ 4000 then (frame seq.toNat d, true) else ([], false)
theorem head_length (s n : Nat) : (head s n).length = 7 := by simp [head, high_length]
theorem frame_length (s : Nat) (d : List UInt8) : (frame s d).length = 15 + d.length := by simp [frame, head_length, high_length]; omega

def part (r : List UInt8) (i n : Nat) : List UInt8 := (r.drop i).take n
/-- How the frame that begins r is read: the code, the number, the data. -/
def rd (r : List UInt8) : Nat × Nat × List UInt8 :=
  if r.length < 11 then (2, 0, [])
  else if r.head? ≠ some 82 ∨ num (part r 7 4) ≠ crc (part r 0 7) ∨ 100000 < num (part r 1 3) ∨ 4000 < num (part r 4 3) then (3, 0, [])
  else if r.length < 15 + num (part r 4 3) then (4, 0, [])
  else if num (part r 11 4) ≠ crc (part r 15 (num (part r 4 3))) then (5, 0, [])
  else (0, num (part r 1 3), part r 15 (num (part r 4 3)))

/-- What FrameRead answers. -/
def fread (b : List UInt8) (p : Int) : Int × List UInt8 × Int × Int :=
  if p < 0 ∨ (b.length : Int) < p then (0, [], 0, 1)
  else if (rd (b.drop p.toNat)).1 = 0 then (((rd (b.drop p.toNat)).2.1 : Nat), (rd (b.drop p.toNat)).2.2, p + 15 + ((rd (b.drop p.toNat)).2.2.length : Nat), 0)
  else (0, [], 0, ((rd (b.drop p.toNat)).1 : Nat))
theorem fread_out {b : List UInt8} {p : Int} (h : p < 0 ∨ (b.length : Int) < p) : fread b p = (0, [], 0, 1) := by rw [fread, if_pos h]
theorem fread_no {b : List UInt8} {p k : Nat} {q} (h : p ≤ b.length) (hr : rd (b.drop p) = (k, q)) (hk : k ≠ 0) : fread b p = (0, [], 0, (k : Int)) := by
  rw [fread, if_neg (by omega), Int.toNat_natCast, hr, if_neg hk]
theorem fread_yes {b : List UInt8} {p s : Nat} {d : List UInt8} (h : p ≤ b.length) (hr : rd (b.drop p) = (0, s, d)) : fread b p = ((s : Int), d, (p : Int) + 15 + (d.length : Nat), 0) := by
  rw [fread, if_neg (by omega), Int.toNat_natCast, hr, if_pos rfl]
theorem rd_2 {r : List UInt8} (h : r.length < 11) : rd r = (2, 0, []) := by rw [rd, if_pos h]
theorem rd_3 {r : List UInt8} (h : ¬ r.length < 11) (h2 : r.head? ≠ some 82 ∨ num (part r 7 4) ≠ crc (part r 0 7) ∨ 100000 < num (part r 1 3) ∨ 4000 < num (part r 4 3)) : rd r = (3, 0, []) := by rw [rd, if_neg h, if_pos h2]
theorem rd_4 {r : List UInt8} (h : ¬ r.length < 11) (h2 : ¬ (r.head? ≠ some 82 ∨ num (part r 7 4) ≠ crc (part r 0 7) ∨ 100000 < num (part r 1 3) ∨ 4000 < num (part r 4 3))) (h3 : r.length < 15 + num (part r 4 3)) : rd r = (4, 0, []) := by rw [rd, if_neg h, if_neg h2, if_pos h3]
theorem rd_5 {r : List UInt8} (h : ¬ r.length < 11) (h2 : ¬ (r.head? ≠ some 82 ∨ num (part r 7 4) ≠ crc (part r 0 7) ∨ 100000 < num (part r 1 3) ∨ 4000 < num (part r 4 3))) (h3 : ¬ r.length < 15 + num (part r 4 3)) (h4 : num (part r 11 4) ≠ crc (part r 15 (num (part r 4 3)))) : rd r = (5, 0, []) := by rw [rd, if_neg h, if_neg h2, if_neg h3, if_pos h4]
theorem rd_0 {r : List UInt8} (h : ¬ r.length < 11) (h2 : ¬ (r.head? ≠ some 82 ∨ num (part r 7 4) ≠ crc (part r 0 7) ∨ 100000 < num (part r 1 3) ∨ 4000 < num (part r 4 3))) (h3 : ¬ r.length < 15 + num (part r 4 3)) (h4 : num (part r 11 4) = crc (part r 15 (num (part r 4 3)))) : rd r = (0, num (part r 1 3), part r 15 (num (part r 4 3))) := by rw [rd, if_neg h, if_neg h2, if_neg h3, if_neg (by simpa using h4)]

theorem part_length (r : List UInt8) (i n : Nat) : (part r i n).length = min n (r.length - i) := by simp [part]
theorem part_mid {a b c : List UInt8} {i n : Nat} (hi : a.length = i) (hn : b.length = n) : part (a ++ (b ++ c)) i n = b := by
  subst hi hn; simp [part]
theorem part_take {r : List UInt8} {k i n : Nat} (h : i + n ≤ k) : part (r.take k) i n = part r i n := by
  simp only [part, List.drop_take, List.take_take]
  rw [show min n (k - i) = n by omega]
theorem part_set_out {r : List UInt8} {p i n : Nat} {y : UInt8} (h : p < i ∨ i + n ≤ p) : part (r.set p y) i n = part r i n := by
  simp only [part, List.drop_set]
  split
  · rfl
  · rw [List.take_set, List.set_eq_of_length_le]
    simp; omega
theorem part_set_in {r : List UInt8} {p i n : Nat} {y : UInt8} (h : i ≤ p) : part (r.set p y) i n = (part r i n).set (p - i) y := by
  simp only [part, List.drop_set]
  rw [if_neg (by omega), List.take_set]

section

variable (s : Nat) (d t : List UInt8)

theorem frame_part0 : part (frame s d ++ t) 0 7 = head s d.length := by
  have := part_mid (a := []) (b := head s d.length) (c := (high 4 (crc (head s d.length)) ++ (high 4 (crc d) ++ d)) ++ t) rfl (head_length _ _)
  simpa [frame] using this
theorem frame_part1 : part (frame s d ++ t) 1 3 = high 3 s := by
  have := part_mid (a := [82]) (b := high 3 s) (c := high 3 d.length ++ ((high 4 (crc (head s d.length)) ++ (high 4 (crc d) ++ d)) ++ t)) rfl (high_length _ _)
  simpa [frame, head] using this
theorem frame_part4 : part (frame s d ++ t) 4 3 = high 3 d.length := by
  have := part_mid (i := 4) (a := 82 :: high 3 s) (b := high 3 d.length) (c := ((high 4 (crc (head s d.length)) ++ (high 4 (crc d) ++ d)) ++ t)) (by simp [high_length]) (high_length _ _)
  simpa [frame, head] using this
theorem frame_part7 : part (frame s d ++ t) 7 4 = high 4 (crc (head s d.length)) := by
  have := part_mid (a := head s d.length) (b := high 4 (crc (head s d.length))) (c := (high 4 (crc d) ++ d) ++ t) (head_length _ _) (high_length _ _)
  simpa [frame] using this
theorem frame_part11 : part (frame s d ++ t) 11 4 = high 4 (crc d) := by
  have := part_mid (i := 11) (a := head s d.length ++ high 4 (crc (head s d.length))) (b := high 4 (crc d)) (c := d ++ t) (by simp [head_length, high_length]) (high_length _ _)
  simpa [frame] using this
theorem frame_part15 : part (frame s d ++ t) 15 d.length = d := by
  have := part_mid (i := 15) (a := head s d.length ++ (high 4 (crc (head s d.length)) ++ high 4 (crc d))) (b := d) (c := t) (by simp [head_length, high_length]) rfl
  simpa [frame] using this
theorem frame_first : (frame s d ++ t).head? = some 82 := rfl
theorem num_high3 {n : Nat} (h : n ≤ 100000) : num (high 3 n) = n := by rw [num_high]; exact Nat.mod_eq_of_lt (by omega)
theorem num_crc (d : List UInt8) : num (high 4 (crc d)) = crc d := by rw [num_high]; exact Nat.mod_eq_of_lt (crc_lt d)
end

theorem rd_frame {s : Nat} {d : List UInt8} (hs : s ≤ 100000) (hd : d.length ≤ 4000) (t : List UInt8) : rd (frame s d ++ t) = (0, s, d) := by
  unfold rd
  rw [frame_part0, frame_part1, frame_part4, frame_part7, frame_part11, frame_first, num_high3 hs, num_high3 (show d.length ≤ 100000 by omega), num_crc, frame_part15, num_crc, List.length_append, frame_length]
  rw [if_neg (by omega), if_neg (by simp; omega), if_neg (by omega), if_neg (by simp)]

theorem rd_torn {s : Nat} {d : List UInt8} (hs : s ≤ 100000) (hd : d.length ≤ 4000) {k : Nat} (hk : k < 15 + d.length) : (rd ((frame s d).take k)).1 = 2 ∨ (rd ((frame s d).take k)).1 = 4 := by
  have e := List.append_nil (frame s d)
  have hl : ((frame s d).take k).length = k := by rw [List.length_take, frame_length]; omega
  by_cases h : k < 11
  · left; unfold rd; rw [hl, if_pos h]
  · right
    unfold rd
    rw [hl, if_neg h, part_take (show 7 + 4 ≤ k by omega), part_take (show 0 + 7 ≤ k by omega), part_take (show 1 + 3 ≤ k by omega), part_take (show 4 + 3 ≤ k by omega)]
    have f0 := frame_part0 s d []
    have f1 := frame_part1 s d []
    have f4 := frame_part4 s d []
    have f7 := frame_part7 s d []
    rw [e] at f0 f1 f4 f7
    rw [f0, f1, f4, f7, num_high3 hs, num_high3 (show d.length ≤ 100000 by omega), num_crc, if_neg, if_pos hk]
    have : ((frame s d).take k).head? = some 82 := by
      obtain ⟨k', rfl⟩ : ∃ k', k = k' + 1 := ⟨k - 1, by omega⟩
      rfl
    rw [this]
    simp; omega

theorem rd_bent {s : Nat} {d : List UInt8} (hs : s ≤ 100000) (hd : d.length ≤ 4000) (t : List UInt8) {p : Nat} (hp : p < 15 + d.length) {y : UInt8} (hy : (frame s d ++ t)[p]? ≠ some y) :
    (rd ((frame s d ++ t).set p y)).1 = 3 ∨ (rd ((frame s d ++ t).set p y)).1 = 5 := by
  have hlen : ((frame s d ++ t).set p y).length = 15 + d.length + t.length := by rw [List.length_set, List.length_append, frame_length]
  have f0 := frame_part0 s d t
  have f1 := frame_part1 s d t
  have f4 := frame_part4 s d t
  have f7 := frame_part7 s d t
  have f11 := frame_part11 s d t
  have f15 := frame_part15 s d t
  have hf := frame_first s d t
  have hplen : p < (frame s d ++ t).length := by rw [List.length_append, frame_length]; omega
  generalize hF : frame s d ++ t = F at *
  have hget : ∀ i n q, part F i n = q → i ≤ p → p < i + n → n = q.length → ∀ h : p - i < q.length, q[p - i] ≠ y := by
    intro i n q hq h1 h2 h3 h4 e
    apply hy
    have : q[p - i]? = F[p]? := by
      rw [← hq]
      simp only [part, List.getElem?_take, List.getElem?_drop]
      rw [if_pos (by omega), show i + (p - i) = p by omega]
    rw [← this, List.getElem?_eq_getElem h4, e]
  unfold rd
  rw [hlen, if_neg (by omega)]
  by_cases h7 : p < 7
  · left
    rw [if_pos]
    right; left
    rw [part_set_out (.inl h7), f7, num_crc, part_set_in (Nat.zero_le _), f0]
    intro e
    have hq : p - 0 < (head s d.length).length := by rw [head_length]; omega
    exact hget 0 7 _ f0 (by omega) (by omega) (head_length _ _).symm hq (crc_set hq e.symm).symm
  · by_cases h11 : p < 11
    · left
      rw [if_pos]
      right; left
      rw [part_set_in (show 7 ≤ p by omega), f7, part_set_out (.inr (by omega)), f0]
      intro e
      have hq : p - 7 < (high 4 (crc (head s d.length))).length := by rw [high_length]; omega
      have := num_inj _ (high 4 (crc (head s d.length))) (by simp) (e.trans (num_crc _).symm)
      refine hget 7 4 _ f7 (by omega) (by omega) (high_length _ _).symm hq ?_
      have h2 := congrArg (fun l => l[p - 7]?) this
      simp only [List.getElem?_set_self hq] at h2
      rw [List.getElem?_eq_getElem hq] at h2
      exact (Option.some.inj h2).symm
    · right
      rw [part_set_out (i := 1) (.inr (by omega)), part_set_out (i := 4) (.inr (by omega)), part_set_out (i := 7) (.inr (by omega)), part_set_out (i := 0) (.inr (by omega)), f0, f1, f4, f7,
        num_crc, num_high3 hs, num_high3 (show d.length ≤ 100000 by omega), if_neg, if_neg (by omega), if_pos]
      · by_cases h15 : p < 15
        · rw [part_set_in (show 11 ≤ p by omega), f11, part_set_out (.inl h15), f15]
          intro e
          have hq : p - 11 < (high 4 (crc d)).length := by rw [high_length]; omega
          have := num_inj _ (high 4 (crc d)) (by simp) (e.trans (num_crc _).symm)
          refine hget 11 4 _ f11 (by omega) (by omega) (high_length _ _).symm hq ?_
          have h2 := congrArg (fun l => l[p - 11]?) this
          simp only [List.getElem?_set_self hq] at h2
          rw [List.getElem?_eq_getElem hq] at h2
          exact (Option.some.inj h2).symm
        · rw [part_set_out (.inr (by omega)), f11, num_crc, part_set_in (show 15 ≤ p by omega), f15]
          intro e
          have hq : p - 15 < d.length := by omega
          exact hget 15 d.length _ f15 (by omega) (by omega) rfl hq (crc_set hq e.symm).symm
      · have : (F.set p y).head? = some 82 := by
          cases F with
          | nil => simp at hplen
          | cons x xs =>
            obtain ⟨q, rfl⟩ : ∃ q, p = q + 1 := ⟨p - 1, by omega⟩
            exact hf
        rw [this]
        simp; omega

theorem rd_len (r : List UInt8) : (rd r).2.2.length ≤ r.length := by
  unfold rd
  repeat' split
  all_goals simp [part]
  all_goals omega
theorem fread_len (b : List UInt8) (p : Int) : (fread b p).2.1.length ≤ b.length := by
  have := rd_len (b.drop p.toNat)
  rw [List.length_drop] at this
  unfold fread
  repeat' split
  all_goals simp
  omega

/-! Streams and scans. -/

def stream : Nat → List (List UInt8) → List UInt8
  | _, [] => []
  | k, d :: l => frame k d ++ stream (k + 1) l
def Fit (k : Nat) (l : List (List UInt8)) : Prop := k + l.length ≤ 100001 ∧ ∀ d ∈ l, d.length ≤ 4000
/-- How many bytes the frames of l take. -/
def room (l : List (List UInt8)) : Nat := (l.map fun d => 15 + d.length).sum
theorem stream_snoc (l : List (List UInt8)) (d : List UInt8) : ∀ k, stream k (l ++ [d]) = stream k l ++ frame (k + l.length) d := by
  induction l with
  | nil => intro k; simp [stream]
  | cons e l ih => intro k; simp [stream, ih (k + 1), show k + 1 + l.length = k + (l.length + 1) by omega]
theorem stream_length (l : List (List UInt8)) : ∀ k, (stream k l).length = room l := by
  induction l with
  | nil => intro k; rfl
  | cons e l ih => intro k; simp only [stream, List.length_append, frame_length, ih, room, List.map_cons, List.sum_cons]
def scanR (r : List UInt8) (k : Nat) : List (List UInt8) × Nat × Nat :=
  if h : r = [] then ([], 0, 0)
  else if (rd r).1 = 2 ∨ (rd r).1 = 4 then ([], 0, 1)
  else if (rd r).1 ≠ 0 ∨ (rd r).2.1 ≠ k then ([], 0, 2)
  else
    let t := scanR (r.drop (15 + (rd r).2.2.length)) (k + 1)
    ((rd r).2.2 :: t.1, 15 + (rd r).2.2.length + t.2.1, t.2.2)
termination_by r.length
decreasing_by
  rw [List.length_drop]
  have : 0 < r.length := List.length_pos_iff.2 h
  omega
theorem scanR_nil (k : Nat) : scanR [] k = ([], 0, 0) := by rw [scanR]; simp
theorem scanR_torn {r : List UInt8} {k : Nat} (h : r ≠ []) (h2 : (rd r).1 = 2 ∨ (rd r).1 = 4) : scanR r k = ([], 0, 1) := by rw [scanR, dif_neg h, if_pos h2]
theorem scanR_bent {r : List UInt8} {k : Nat} (h : r ≠ []) (h2 : ¬ ((rd r).1 = 2 ∨ (rd r).1 = 4)) (h3 : (rd r).1 ≠ 0 ∨ (rd r).2.1 ≠ k) : scanR r k = ([], 0, 2) := by rw [scanR, dif_neg h, if_neg h2, if_pos h3]
theorem scanR_step {r : List UInt8} {k : Nat} {d : List UInt8} (h : rd r = (0, k, d)) :
    scanR r k = (d :: (scanR (r.drop (15 + d.length)) (k + 1)).1, 15 + d.length + (scanR (r.drop (15 + d.length)) (k + 1)).2.1, (scanR (r.drop (15 + d.length)) (k + 1)).2.2) := by
  have hne : r ≠ [] := by rintro rfl; simp [rd] at h
  rw [scanR, dif_neg hne, h]
  simp
theorem Fit.tail {k : Nat} {d : List UInt8} {l : List (List UInt8)} (h : Fit k (d :: l)) : k ≤ 100000 ∧ d.length ≤ 4000 ∧ Fit (k + 1) l :=
  ⟨by have := h.1; simp at this; omega, h.2 d (by simp), by have := h.1; simp at this; omega, fun e he => h.2 e (by simp [he])⟩
theorem drop_frame (k : Nat) (d t : List UInt8) : (frame k d ++ t).drop (15 + d.length) = t := by
  rw [← frame_length k d, List.drop_left]
theorem scan_whole (l : List (List UInt8)) : ∀ k, Fit k l → scanR (stream k l) k = (l, room l, 0) := by
  induction l with
  | nil => intro k _; rw [stream, scanR_nil]; rfl
  | cons d l ih =>
    intro k h
    obtain ⟨h1, h2, h3⟩ := h.tail
    rw [stream, scanR_step (rd_frame h1 h2 _), drop_frame, ih _ h3]
    simp [room]
/-- A stream that was cut off: what is all there. -/
theorem scan_torn (l : List (List UInt8)) : ∀ k m, Fit k l → m ≤ room l →
    ∃ j st, scanR ((stream k l).take m) k = (l.take j, room (l.take j), st) ∧ st ≠ 2 ∧ j ≤ l.length ∧ room (l.take j) ≤ m ∧ (st = 0 ↔ room (l.take j) = m) ∧ ∀ i, i < l.length → (room (l.take (i + 1)) ≤ m ↔ i < j) := by
  induction l with
  | nil =>
    intro k m _ hm
    have : m = 0 := by simpa [room] using hm
    subst this
    exact ⟨0, 0, by simp [scanR_nil, room], by simp, by simp, by simp [room], by simp [room], fun i hi => by simp at hi⟩
  | cons d l ih =>
    intro k m h hm
    obtain ⟨h1, h2, h3⟩ := h.tail
    have hr : room (d :: l) = 15 + d.length + room l := by simp [room]
    have hrt : ∀ i, room ((d :: l).take (i + 1)) = 15 + d.length + room (l.take i) := fun i => by simp [room]
    by_cases hlt : m < 15 + d.length
    · have ht : (stream k (d :: l)).take m = (frame k d).take m := by rw [stream, List.take_append_of_le_length (by rw [frame_length]; omega)]
      rw [ht]
      by_cases h0 : m = 0
      · subst h0
        exact ⟨0, 0, by simp [scanR_nil, room], by simp, by simp, by simp [room], by simp [room], fun i _ => by rw [hrt]; simp⟩
      · refine ⟨0, 1, ?_, by simp, by simp, by simp [room], by simp [room]; omega, fun i _ => by rw [hrt]; simp; omega⟩
        rw [scanR_torn _ (rd_torn h1 h2 hlt)]
        · simp [room]
        · intro e
          have := congrArg List.length e
          rw [List.length_take, frame_length] at this
          simp at this; omega
    · have ht : (stream k (d :: l)).take m = frame k d ++ (stream (k + 1) l).take (m - (15 + d.length)) := by
        rw [stream, List.take_append, frame_length, List.take_of_length_le (by rw [frame_length]; omega)]
      obtain ⟨j, st, e, e1, e2, e3, e4, e5⟩ := ih (k + 1) (m - (15 + d.length)) h3 (by omega)
      refine ⟨j + 1, st, ?_, e1, by simp; omega, by rw [hrt]; omega, by rw [hrt, e4]; omega, fun i hi => ?_⟩
      · rw [ht, scanR_step (rd_frame h1 h2 _), drop_frame, e, hrt]
        simp
      · rw [hrt]
        cases i with
        | zero => simp [room]; omega
        | succ i =>
          have := e5 i (by simp at hi; omega)
          omega
/-- A stream with a turned byte: what is ahead of its frame. -/
theorem scan_bent (l : List (List UInt8)) : ∀ k i p y, Fit k l → (hi : i < l.length) → p < 15 + (l[i]).length → (stream k l)[room (l.take i) + p]? ≠ some y →
    scanR ((stream k l).set (room (l.take i) + p) y) k = (l.take i, room (l.take i), 2) := by
  induction l with
  | nil => intro k i p y _ hi; simp at hi
  | cons d l ih =>
    intro k i p y h hi hp hy
    obtain ⟨h1, h2, h3⟩ := h.tail
    cases i with
    | zero =>
      simp only [List.take_zero, room, List.map_nil, List.sum_nil, Nat.zero_add, List.getElem_cons_zero] at *
      have hb := rd_bent h1 h2 (stream (k + 1) l) hp hy
      rw [stream]
      refine scanR_bent ?_ (by omega) (.inl (by omega))
      intro e
      have := congrArg List.length e
      rw [List.length_set, List.length_append, frame_length] at this
      simp at this
    | succ i =>
      have hrt : room ((d :: l).take (i + 1)) = 15 + d.length + room (l.take i) := by simp [room]
      rw [hrt] at hy ⊢
      have hlen := frame_length k d
      have hs : (stream k (d :: l)).set (15 + d.length + room (l.take i) + p) y = frame k d ++ (stream (k + 1) l).set (room (l.take i) + p) y := by
        rw [stream, List.set_append_right _ _ (by omega), hlen, show 15 + d.length + room (l.take i) + p - (15 + d.length) = room (l.take i) + p by omega]
      have hy' : (stream (k + 1) l)[room (l.take i) + p]? ≠ some y := by
        rw [stream, List.getElem?_append_right (by omega), hlen, show 15 + d.length + room (l.take i) + p - (15 + d.length) = room (l.take i) + p by omega] at hy
        exact hy
      rw [hs, scanR_step (rd_frame h1 h2 _), drop_frame, ih (k + 1) i p y h3 (by simpa using hi) (by simpa using hp) hy']
      simp
end Go.Proofs.Ytlaiiphngekhnaa
