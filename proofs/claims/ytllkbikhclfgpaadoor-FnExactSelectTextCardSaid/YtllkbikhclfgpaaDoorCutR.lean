
/- The mathematics of cutting a text at a byte: pieces one by one (cutR), and that strings.Split's pieces are these. No program is named here. -/

import Derived.Lib.SplitLaws

import Derived.Lib.CountLaws

import Derived.Lib.CutLaws

import Derived.Lib.IndexLaws

import Derived.Lib.IndexBytes

import Derived.Lib.Strings

namespace Go.Proofs.YtllkbikhclfgpaaDoor

/-- The pieces of a list at c, cur being what stands ahead of it. -/
def cutR (c : UInt8) : List UInt8 → List UInt8 → List (List UInt8)
  | cur, [] => [cur]
  | cur, x :: r => if x = c then cur :: cutR c [] r else cutR c (cur ++ [x]) r

theorem cutR_miss (c : UInt8) : ∀ (a cur : List UInt8), c ∉ a → cutR c cur a = [cur ++ a] := by
  intro a
  induction a with
  | nil => intro cur _; simp [cutR]
  | cons x a ih =>
    intro cur h
    rw [cutR, if_neg (fun e => h (by simp [e])), ih _ (fun e => h (by simp [e]))]
    simp
theorem cutR_hit (c : UInt8) (r : List UInt8) : ∀ (a cur : List UInt8), c ∉ a → cutR c cur (a ++ c :: r) = (cur ++ a) :: cutR c [] r := by
  intro a
  induction a with
  | nil => intro cur _; simp [cutR]
  | cons x a ih =>
    intro cur h
    rw [List.cons_append, cutR, if_neg (fun e => h (by simp [e])), ih _ (fun e => h (by simp [e]))]
    simp
theorem cutR_ne (c : UInt8) (l : List UInt8) : ∀ cur, cutR c cur l ≠ [] := by
  induction l with
  | nil => intro cur; simp [cutR]
  | cons x l ih => intro cur; rw [cutR]; split
                   · simp
                   · exact ih _
theorem cutR_length (c : UInt8) (l : List UInt8) : ∀ cur, (cutR c cur l).length ≤ l.length + 1 := by
  induction l with
  | nil => intro cur; simp [cutR]
  | cons x l ih =>
    intro cur
    rw [cutR]
    split
    · have := ih []; simp; omega
    · have := ih (cur ++ [x]); simp; omega

theorem cutR_mem (c : UInt8) (l : List UInt8) : ∀ cur, ∀ p ∈ cutR c cur l, p.length ≤ cur.length + l.length := by
  induction l with
  | nil => intro cur p hp; simp only [cutR, List.mem_singleton] at hp; subst hp; simp
  | cons x l ih =>
    intro cur p hp
    rw [cutR] at hp
    simp only [List.length_cons]
    split at hp
    · rcases List.mem_cons.1 hp with h | h
      · subst h; omega
      · have := ih [] p h; simp only [List.length_nil] at this; omega
    · have := ih _ p hp; simp only [List.length_append, List.length_cons, List.length_nil] at this; omega

theorem index_one_byte (s : ByteArray) (c : UInt8) : Lib.indexB s ⟨#[c]⟩ = Lib.indexByte s.data.toList c := by
  rw [Lib.one s ⟨#[c]⟩ rfl]
  congr 1
  show (((c.toNat : Nat) : Int)).toNat.toUInt8 = c
  simp

theorem split_cut (c : UInt8) : ∀ (k : Nat) (s : ByteArray), Lib.countB s ⟨#[c]⟩ = k → (Lib.splitB ⟨#[c]⟩ 0 k s).map (·.data.toList) = cutR c [] s.data.toList := by
  intro k
  induction k with
  | zero =>
    intro s h
    rcases Lib.indexB_cases s ⟨#[c]⟩ with h1 | ⟨i, h1, h2⟩
    · rw [Lib.splitB_zero, cutR_miss]
      · rfl
      · rw [index_one_byte] at h1
        intro hm
        obtain ⟨j, hj⟩ := List.getElem?_of_mem hm
        exact Lib.indexByte_none h1 j hj
    · rw [Lib.countB_hit s ⟨#[c]⟩ i (Nat.le_refl 1) h1] at h
      omega
  | succ k ih =>
    intro s h
    rcases Lib.indexB_cases s ⟨#[c]⟩ with h1 | ⟨i, h1, h2⟩
    · rw [Lib.countB_miss s _ h1] at h
      omega
    · have hc := h
      rw [Lib.countB_hit s ⟨#[c]⟩ i (Nat.le_refl 1) h1] at hc
      rw [Lib.splitB_hit _ _ _ _ i h1, List.map_cons, ih _ (by omega)]
      rw [index_one_byte] at h1
      obtain ⟨ha, hb⟩ := Lib.indexByte_some h1
      have hil := (List.getElem?_eq_some_iff.1 ha).1
      have hsz : s.data.toList.length = s.size := rfl
      have hspl : s.data.toList = s.data.toList.take i ++ c :: s.data.toList.drop (i + 1) := by
        rw [(List.getElem?_eq_some_iff.1 ha).2.symm, List.getElem_cons_drop, List.take_append_drop]
      have hnot : c ∉ s.data.toList.take i := by
        intro hm
        obtain ⟨j, hj⟩ := List.getElem?_of_mem hm
        rw [List.getElem?_take] at hj
        split at hj
        · exact hb j ‹_› hj
        · cases hj
      conv => rhs; rw [hspl]
      rw [cutR_hit c _ _ _ hnot, List.nil_append]
      congr 1
      · rw [Lib.extract_data]; simp
      · rw [Lib.extract_data]
        congr 1
        show (s.data.toList.drop (i + 1)).take (s.size - (i + 1)) = _
        rw [List.take_of_length_le (by rw [List.length_drop]; omega)]
end Go.Proofs.YtllkbikhclfgpaaDoor
