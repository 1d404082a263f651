
/- From rows in memory of their own to what the contracts of Stream and of the marks ask. -/

import Derived.Test.YtlaiiphngekhnaaChunkT

import Derived.Test.YtlaiiphngekhnaaStream

namespace Go.Proofs.Ytlaiiphngekhnaa

open Go.RowKit

theorem bytes_of_row {w : World} {F : Nat → Prop} {lo hi n c : Nat} {A : Option Addr} {bs : List UInt8} {e : TypeId} (h : OwnR Lay.byte e w F A n c bs) (hF : ∀ g, F g → lo ≤ g ∧ g < hi) : Own w lo hi e 1 A n c (bs.map B) := by
  obtain ⟨hl, vs, G, ho, hA, hel, _⟩ := h
  have hvl : vs.length = n := by have := ho.1.1; simpa [Lay.byte, Lay.flat] using this
  have hvs : vs = bs.map B := by
    apply List.ext_getElem?
    intro i
    by_cases hi : i < n
    · have h1 := (hel i _ (List.getElem?_eq_getElem (show i < bs.length by omega))).1
      have h2 : ((vs.drop (i * 1)).take 1)[0]? = some (B bs[i]) := by
        show ((vs.drop (i * Lay.byte.size)).take Lay.byte.size)[0]? = _
        rw [h1]; rfl
      rw [Nat.mul_one, List.getElem?_take, if_pos (by omega), List.getElem?_drop, Nat.add_zero] at h2
      rw [h2, List.getElem?_map, List.getElem?_eq_getElem (show i < bs.length by omega)]
      rfl
    · rw [List.getElem?_eq_none (by omega), List.getElem?_eq_none (by simp; omega)]
  subst hvs
  exact ho.rebound fun g hg => hF g (hA g hg)

theorem chunks_of_row {w : World} {lo hi n c : Nat} {A : Option Addr} {ds : List (List UInt8)} (h : OwnR chunkLay 40 w (fun g => lo ≤ g ∧ g < hi) A n c ds) : Chunks w lo hi A n c ds := by
  obtain ⟨hl, vs, G, ho, hA, hel, hG, h1, h2⟩ := h
  have hvl : vs.length = n := by have := ho.1.1; simpa [chunkLay, Lay.slice] using this
  have hat : ∀ i d, ds[i]? = some d → ∃ Ai ni ci, vs[i]? = some (Value.slice Ai ni ci) ∧ OwnR Lay.byte 5 w (G i) Ai ni ci d := by
    intro i d hd
    obtain ⟨Ai, ni, ci, he, ho⟩ := hel i d hd
    refine ⟨Ai, ni, ci, ?_, ho⟩
    have h2 : ((vs.drop (i * 1)).take 1)[0]? = some (Value.slice Ai ni ci) := by
      show ((vs.drop (i * chunkLay.size)).take chunkLay.size)[0]? = _
      rw [he]; rfl
    rwa [Nat.mul_one, List.getElem?_take, if_pos (by omega), List.getElem?_drop, Nat.add_zero] at h2
  have hblk : ∀ i g, vs[i]?.bind blkV = some g → i < n ∧ G i g := by
    intro i g hg
    have hin : i < n := by
      rcases Nat.lt_or_ge i n with h | h
      · exact h
      · rw [List.getElem?_eq_none (by omega)] at hg; cases hg
    obtain ⟨Ai, ni, ci, he, ho⟩ := hat i _ (List.getElem?_eq_getElem (show i < ds.length by omega))
    rw [he] at hg
    obtain ⟨_, _, _, _, hA', _⟩ := ho
    exact ⟨hin, hA' g hg⟩
  refine ⟨hl, vs, ho.rebound fun g hg => hA g hg, fun i d hd => ?_, fun i g hg => ?_, fun i j g hij hg hg' => ?_⟩
  · obtain ⟨Ai, ni, ci, he, ho⟩ := hat i d hd
    exact ⟨Ai, ni, ci, he, bytes_of_row ho fun g hg => hG i g (by rw [← hl]; exact (List.getElem?_eq_some_iff.1 hd).1) hg⟩
  · obtain ⟨hin, hg⟩ := hblk i g hg
    exact h1 i g hin hg
  · obtain ⟨_, hg⟩ := hblk i g hg
    obtain ⟨hj, hg'⟩ := hblk j g hg'
    exact h2 i j g hij hj hg hg'

theorem room_tot (ds : List (List UInt8)) : room ds = 15 * ds.length + tot ds := by
  induction ds with
  | nil => rfl
  | cons d ds ih => simp only [room, tot, List.map_cons, List.sum_cons, List.length_cons] at ih ⊢; omega
theorem streamB_len (ds : List (List UInt8)) : (streamB ds).1.length ≤ room ds := by
  unfold streamB
  split
  · rw [stream_length]; exact Nat.le_refl _
  · exact Nat.zero_le _
end Go.Proofs.Ytlaiiphngekhnaa
