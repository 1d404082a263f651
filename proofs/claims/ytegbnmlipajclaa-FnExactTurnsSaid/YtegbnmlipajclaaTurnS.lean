
/- Turns, the model's: a pick for each number below. -/

import Derived.Test.YtegbnmlipajclaaDPick

import Derived.Test.YtegbnmlipajclaaGInv

import Derived.Deep.Cut

namespace Go.Proofs.Ytegbnmlipajclaa
set_option linter.unusedSimpArgs false
set_option linter.unusedVariables false
open Go.RowKit

/-- How many there are. -/
def turnN (n : Int) : Nat := if n ≤ 2000 then n.toNat else 2000
/-- The picks 0 to n - 1. -/
def turnsTo (n : Nat) : List DPick := (List.range n).map fun (i : Nat) => ⟨(i : Int), (i : Int)⟩
def turnCells (x : DPick) : List Value := [.int .i64 x.fG, .int .i64 x.fC]
theorem turnN_le (n : Int) : turnN n ≤ 2000 := by unfold turnN; split <;> omega
theorem turnsTo_len (n : Nat) : (turnsTo n).length = n := by simp [turnsTo]
theorem turnsTo_step (n : Nat) : turnsTo (n + 1) = turnsTo n ++ [⟨(n : Int), (n : Int)⟩] := by
  unfold turnsTo; rw [List.range_succ, List.map_append]; rfl
theorem turnsTo_cells (n : Nat) : ((turnsTo (n + 1)).map turnCells).flatten = ((turnsTo n).map turnCells).flatten ++ [.int .i64 (n : Int), .int .i64 (n : Int)] := by
  rw [turnsTo_step, List.map_append, List.flatten_append]; rfl
theorem seen_cells (w : World) (xs : List Value) (t : TypeId) : Seen (w.alloc (.cells xs.toArray t)) (w.heap.size + 1) xs.length (some ⟨w.heap.size, 0, none⟩) 1 xs := by
  refine ⟨by simp, .inr ⟨w.heap.size, 0, rfl, by omega, fun j u hu => ?_⟩⟩
  rw [Nat.zero_add]
  exact box_cell (box_new w xs.toArray t) (by simpa using hu)
theorem turnsTo_wf {n : Nat} (hn : n ≤ 2000) : ∀ x ∈ turnsTo n, (Lit.int .i64 x.fG).wf = true ∧ (Lit.int .i64 x.fC).wf = true := by
  intro x hx
  obtain ⟨i, hi, rfl⟩ := List.mem_map.1 hx
  have := List.mem_range.1 hi
  have h := wf_mark (z := (i : Int)) (by omega) (by omega)
  exact ⟨h, h⟩
theorem turn_made {w : World} {A : Option Addr} {c n : Nat} {t : TypeId} {lo hi : Nat} (hn : n ≤ 2000) (h : Own w lo hi t 2 A n c ((turnsTo n).map turnCells).flatten) : OwnR layPick t w (fun g => lo ≤ g ∧ g < hi) A n c (turnsTo n) :=
  ownR_flat (cells := turnCells) h (turnsTo_len n) (turnsTo_wf hn)

set_option maxRecDepth 100000 in
set_option maxHeartbeats 4000000 in
theorem specTurns_any (n : Int) (w : World) : Calls Try.prog 8 #[.int .i64 n] w (MadeRow layPick 34 w (turnsTo (turnN n))) := by
  obtain ⟨i0, hi0, iz0, iz1, iz2⟩ := info_parts (show (Try.prog.info? 34).map (fun i => (i.zero, i.size, i.bytes)) = some (some (.agg #[.int .i64 0, .int .i64 0]), 2, 16) by kernel_rfl)
  obtain ⟨N, hN⟩ : ∃ N, N = turnN n := ⟨_, rfl⟩
  have hN2 : N ≤ 2000 := by rw [hN]; exact turnN_le n
  rw [← hN]
  have HN := Lib.hid (show ∀ k : Nat, k < N ↔ (k : Int) < n ∧ k < 2000 by intro k; rw [hN]; unfold turnN; split <;> omega)
  clear hN
  have hm0 := Own.made (size := 2) w #[] 0 0 (e := 34) (by decide) rfl (Nat.le_refl _)
  have HM0 := Lib.hid hm0
  have HB0 := Lib.hid (show Below w.heap.size w (w.alloc (.cells #[] 34)) from (Below.refl _ _).alloc (Nat.le_refl _) _)
  clear hm0
  by_cases hb : n ≤ 2000
  · have HK := Lib.hid (show ∀ k : Nat, k < N ↔ (k : Int) < n by intro k; have := HN.out k; omega)
    go_enter Try.func8, Try.ntmps8
    go_wp2_with fail
    go_loopw [3, 4] (fun q i wr => ∃ (k : Nat) (B : Option Addr) (c : Nat), k ≤ N ∧ i = .int .i64 k ∧ q = .slice B k c ∧ Own wr w.heap.size wr.heap.size 34 2 B k c ((turnsTo k).map turnCells).flatten ∧ Below w.heap.size w wr) (fun _ i _ => N - (intOf i).toNat)
    case atStart => exact ⟨0, _, 0, Nat.zero_le _, rfl, rfl, by simpa [turnsTo] using HM0.out, HB0.out⟩
    case round =>
      obtain ⟨k, B, c, hk, rfl, rfl, hown, hb0⟩ := hrel
      clear HM0 HB0
      have hz := hb0.size
      by_cases hlt : k < N
      · have h1 : (k : Int) < n := (HK.out k).1 hlt
        have hs1 := seen_cells wr [.int .i64 (k : Int), .int .i64 (k : Int)] 34
        have hownA := hown.alloc (.cells ([.int .i64 (k : Int), .int .i64 (k : Int)]).toArray 34)
        have HBA := Lib.hid (hb0.alloc hz (.cells ([.int .i64 (k : Int), .int .i64 (k : Int)]).toArray 34))
        clear hown hb0
        go_wp2_with (at_builtin; refine wpList_append_seen rfl (.tmp 13) (.tmp 17) _ rfl w.heap.size _ 34 i0 _ 2 16 Try.underlying28 hi0 iz0 iz1 iz2 rfl (by omega) B k c _ rfl hownA _ _ 1 1 _ rfl hs1 (by simp [Value.oneCell']) (by simp only [maxLen]; omega) (by omega) (by simp; omega) ?_; intro B4 c4 w2 own2 hb2)
        go_roundw
        case rel => exact ⟨k + 1, B4, c4, by omega, by go_num, by simp, by rw [turnsTo_cells]; exact own2, HBA.out.trans hb2⟩
        case measure => simp [intOf]; omega
      · obtain rfl : k = N := by omega
        have h1 : ¬ (k : Int) < n := fun h => hlt ((HK.out k).2 h)
        go_wp2_with fail
        go_ret
        exact ⟨B, c, by rw [turnsTo_len]; rfl, by rw [turnsTo_len]; exact turn_made hN2 hown, hb0⟩
  · have HK := Lib.hid (show ∀ k : Nat, k < N ↔ (k : Int) < 2000 by intro k; have := HN.out k; omega)
    go_enter Try.func8, Try.ntmps8
    go_wp2_with fail
    go_loopw [3, 4] (fun q i wr => ∃ (k : Nat) (B : Option Addr) (c : Nat), k ≤ N ∧ i = .int .i64 k ∧ q = .slice B k c ∧ Own wr w.heap.size wr.heap.size 34 2 B k c ((turnsTo k).map turnCells).flatten ∧ Below w.heap.size w wr) (fun _ i _ => N - (intOf i).toNat)
    case atStart => exact ⟨0, _, 0, Nat.zero_le _, rfl, rfl, by simpa [turnsTo] using HM0.out, HB0.out⟩
    case round =>
      obtain ⟨k, B, c, hk, rfl, rfl, hown, hb0⟩ := hrel
      clear HM0 HB0
      have hz := hb0.size
      by_cases hlt : k < N
      · have h1 : (k : Int) < 2000 := (HK.out k).1 hlt
        have hs1 := seen_cells wr [.int .i64 (k : Int), .int .i64 (k : Int)] 34
        have hownA := hown.alloc (.cells ([.int .i64 (k : Int), .int .i64 (k : Int)]).toArray 34)
        have HBA := Lib.hid (hb0.alloc hz (.cells ([.int .i64 (k : Int), .int .i64 (k : Int)]).toArray 34))
        clear hown hb0
        go_wp2_with (at_builtin; refine wpList_append_seen rfl (.tmp 13) (.tmp 17) _ rfl w.heap.size _ 34 i0 _ 2 16 Try.underlying28 hi0 iz0 iz1 iz2 rfl (by omega) B k c _ rfl hownA _ _ 1 1 _ rfl hs1 (by simp [Value.oneCell']) (by simp only [maxLen]; omega) (by omega) (by simp; omega) ?_; intro B4 c4 w2 own2 hb2)
        go_roundw
        case rel => exact ⟨k + 1, B4, c4, by omega, by go_num, by simp, by rw [turnsTo_cells]; exact own2, HBA.out.trans hb2⟩
        case measure => simp [intOf]; omega
      · obtain rfl : k = N := by omega
        have h1 : ¬ (k : Int) < 2000 := fun h => hlt ((HK.out k).2 h)
        go_wp2_with fail
        go_ret
        exact ⟨B, c, by rw [turnsTo_len]; rfl, by rw [turnsTo_len]; exact turn_made hN2 hown, hb0⟩
end Go.Proofs.Ytegbnmlipajclaa
