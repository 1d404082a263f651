
/- Rows of chunks that come in as arguments: their copies (toChunkS). -/

import Derived.Test.YtlaiiphngekhnaaChunkA

import Derived.Test.YtlaiiphngekhnaaLayRow

import Derived.Handy

namespace Go.Proofs.Ytlaiiphngekhnaa

open Go.RowKit

theorem bcell {W w1 : World} {B : Nat} (hb : Below B W w1) : (∀ b o, b < B → w1.cell? ⟨b, o, none⟩ = W.cell? ⟨b, o, none⟩) ∧ (∀ b o, b < B → w1.frozen? ⟨b, o, none⟩ = W.frozen? ⟨b, o, none⟩) :=
  ⟨fun b o h => hb.cell (p := ⟨b, o, none⟩) h, fun b o h => hb.frozen (p := ⟨b, o, none⟩) h⟩

/-- The call answers data of a Lean type in memory of their own, and turns nothing that was there. -/
def MadeL {α : Type} (L : Lay α) (w : World) (x : α) (en : Ending) (w' : World) : Prop :=
  ∃ vs, en = .returned (.agg vs.toArray) ∧ L.own w' (fun g => w.heap.size ≤ g ∧ g < w'.heap.size) x vs ∧ Below w.heap.size w w'

theorem row_of_own {w : World} {lo hi n c : Nat} {A : Option Addr} {bs : List UInt8} {e : TypeId} (h : Own w lo hi e 1 A n c (bs.map B)) (hhi : hi ≤ w.heap.size) : OwnR Lay.byte e w (fun g => lo ≤ g ∧ g < hi) A n c bs := by
  have hl : bs.length = n := by simpa using h.1.1
  refine ⟨hl, bs.map B, fun _ _ => False, h.rebound fun g hg => ⟨Nat.zero_le _, by have := h.blk hg; omega⟩, fun g hg => by have := h.blk hg; exact ⟨this.1, this.2.1⟩, fun i x hx => ?_, fun i g _ hg => hg.elim, fun i g _ hg => hg.elim, fun i j g _ _ hg => hg.elim⟩
  refine ⟨?_, trivial⟩
  have hi := (List.getElem?_eq_some_iff.1 hx).1
  show ((bs.map B).drop (i * 1)).take 1 = [B x]
  rw [Nat.mul_one]
  apply List.ext_getElem?
  intro j
  rw [List.getElem?_take]
  match j with
  | 0 => simp [hx]
  | j + 1 => rw [if_neg (by omega), List.getElem?_eq_none (by simp)]

set_option maxRecDepth 100000 in
set_option maxHeartbeats 400000 in
theorem toChunk_any {w : World} {A : Option Addr} {n c hi : Nat} {bs : List UInt8} (h : Seen w hi 1 A n (bs.map B)) (hhi : hi ≤ w.heap.size) (hn : n ≤ 16777216) :
    Calls Try.prog 21 #[.agg #[.slice A n c]] w (MadeL chunkLay w bs) := by
  go_enter Try.func21, Try.ntmps21
  go_wp2_with fail
  refine (toByteS_any (h.below (B := w.heap.size) ?_ hhi) (hi := hi) ?_ hn).mono ?_
  · go_grown
  · simp; omega
  rintro e w1 ⟨A1, c1, rfl, own1, hb1⟩
  obtain ⟨hcl, hfz⟩ := bcell hb1
  have z1 := hb1.size
  simp only [World.size_alloc] at z1 own1
  go_wp2_with fail
  refine bodyPost_ret (v := .agg #[.slice A1 n c1]) (by simp [results, Try.results21, go_sem, hcl]) rfl ?_
  have ht : Turned (w.heap.size + 1) (w.heap.size + 3) w1 ((w1.setCell ⟨w.heap.size + 1 + 1, 0, none⟩ (.slice A1 n c1)).setCell ⟨w.heap.size + 1, 0, none⟩ (.slice A1 n c1)) :=
    ((Turned.refl _ _ _).setCell (by simp) (by simp) _).setCell (by simp) (by simp) _
  have hB : Below w.heap.size w w1 := Below.trans (show Below w.heap.size w (((w.alloc (.cells #[.slice A n c] 39)).alloc (.cells #[.slice none 0 0] 40)).alloc (.cells #[.slice none 0 0] 40)) by go_grown) (hb1.mono (by simp; omega))
  have own2 := own1.turned ht (.inr (by omega))
  refine ⟨[.slice A1 n c1], rfl, ⟨A1, n, c1, rfl, (row_of_own own2 ht.size).wide fun g hg => ⟨by omega, Nat.lt_of_lt_of_le hg.2 ht.size⟩⟩, (hB.setCell (by simp; omega) _).setCell (by simp) _⟩

/-- The call answers a row of data in memory of its own, and turns nothing that was there. -/
def MadeR {α : Type} (L : Lay α) (e : TypeId) (w : World) (n : Nat) (xs : List α) (en : Ending) (w' : World) : Prop :=
  ∃ A c, en = .returned (.slice A n c) ∧ OwnR L e w' (fun g => w.heap.size ≤ g ∧ g < w'.heap.size) A n c xs ∧ Below w.heap.size w w'

set_option maxRecDepth 100000 in
set_option maxHeartbeats 1000000 in
theorem toChunkS_any {w : World} {A : Option Addr} {n c hi : Nat} {ds : List (List UInt8)} (h : SeenR chunkLay w hi A n ds) (hhi : hi ≤ w.heap.size) (hn : n + tot ds ≤ 1048576) :
    Calls Try.prog 8 #[.slice A n c] w (MadeR chunkLay 40 w n ds) := by
  obtain ⟨i0, hi0, hz0, hz1, hz2⟩ := info_parts chunk_info
  have hmk := fun W : World => run_make (P := Try.prog) W 27 40 i0 _ Try.underlying27 hi0 hz0 .i64 .i64 n n (by omega) (by omega) (by rw [hz2]; omega) (by omega)
  simp only [hz1, Int.toNat_natCast, Nat.mul_one] at hmk
  have HL := Lib.hid h.1
  clear hi0 hz0 hz1 hz2
  go_enter Try.func8, Try.ntmps8
  go_wp2
  clear hmk
  go_loopw [4] (fun i wr => ∃ k : Nat, k ≤ n ∧ i = .int .i64 k ∧ Part chunkLay 40 wr w.heap.size n ds k wr.heap.size ∧ Below w.heap.size w wr) (fun i _ => n - (intOf i).toNat)
  case atStart =>
    refine ⟨0, Nat.zero_le _, rfl, ?_, (Below.refl _ _).alloc (Nat.le_refl _) _⟩
    have hm := Own.made (size := 1) (e := 40) w (madeCells #[.slice none 0 0] n) n n (by simp only [maxLen]; omega) (by simp [size_madeCells]) (Nat.le_refl _)
    exact Part.start HL.out hm (by simp)
  case round =>
    obtain ⟨k, hk, rfl, hpart, hb⟩ := hrel
    have z := hb.size
    by_cases hlt : k < n
    · obtain ⟨hx, g, o, vs, rfl, hg, ⟨Ai, ni, ci, rfl, hci, hcm, hs⟩, hcell⟩ := (h.below hb hhi).at_ hlt
      have hc := hcell 0 _ rfl
      have hs' := seen_of_row hs
      have hdl := Lib.hid hs.1
      have htg := tot_ge (List.getElem_mem hx)
      rw [hdl.out] at htg
      have hdk := Lib.hid (List.getElem?_eq_getElem hx)
      simp only [chunkLay, Lay.slice, Nat.mul_one, Nat.add_zero] at hc
      clear hcell hs
      generalize ds[k] = d at *
      go_wp2_with fail
      refine (toChunk_any hs' (by omega) (by omega)).mono ?_
      rintro e w1 ⟨us, rfl, ⟨A1, n1, c1, rfl, own1⟩, hb1⟩
      have hp1 := hpart.below hb1
      obtain ⟨⟨v, hold⟩, hfz⟩ := hp1.room hlt 0 (by decide)
      have hp2 := hp1.step hdk.out (us := [.slice A1 n1 c1]) rfl ⟨A1, n1, c1, rfl, own1⟩ (fun g hg => hg)
      have hb2 : Below w.heap.size w w1 := hb.trans (hb1.mono z)
      simp only [chunkLay, Lay.slice, Nat.mul_one, Nat.add_zero] at hold hfz
      clear hpart hp1 hb1 hc
      go_wp2_with fail
      go_roundw
      case rel => exact ⟨k + 1, by omega, by go_num, by simpa [putCells, chunkLay, Lay.slice] using hp2, hb2.setCell (by simp) _⟩
      case measure => simp [intOf]; omega
    · go_wp2_with fail
      go_ret
      obtain rfl : k = n := by omega
      exact ⟨_, _, rfl, hpart.done, hb⟩
end Go.Proofs.Ytlaiiphngekhnaa
