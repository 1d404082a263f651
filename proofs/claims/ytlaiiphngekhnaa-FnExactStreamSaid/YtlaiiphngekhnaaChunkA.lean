
/- Rows of chunks that come in as arguments: opening (seenC_of), their size (szChunkS), their copies (toChunkS). -/

import Derived.Test.YtlaiiphngekhnaaChunkM

namespace Go.Proofs.Ytlaiiphngekhnaa

open Go.RowKit

theorem seen_of_row {w : World} {hi n : Nat} {A : Option Addr} {bs : List UInt8} (h : SeenR Lay.byte w hi A n bs) : Seen w hi 1 A n (bs.map B) := by
  refine ⟨by simp [h.1], ?_⟩
  rcases h.2 with h0 | ⟨g, o, e, hg, f, hf⟩
  · left; simp [h0]
  · refine .inr ⟨g, o, e, hg, fun j u hu => ?_⟩
    rw [List.getElem?_map] at hu
    obtain ⟨b, hb, rfl⟩ := Option.map_eq_some_iff.1 hu
    obtain ⟨⟨hc, _⟩, hk⟩ := hf j b hb
    have := hk 0 (B b) (by rw [hc]; rfl)
    simpa [Lay.byte, Lay.flat] using this

/-- A chunk: a slice of bytes. -/
def chunkLay : Lay (List UInt8) := Lay.byte.slice 5

theorem seenC_of_row {w : World} {hi n : Nat} {A : Option Addr} {ds : List (List UInt8)} (h : SeenR chunkLay w hi A n ds) : SeenC w hi A n ds := by
  refine ⟨h.1, ?_⟩
  rcases h.2 with h0 | ⟨g, o, e, hg, f, hf⟩
  · subst h0
    obtain rfl : n = 0 := by have := h.1; simpa using this.symm
    exact ⟨[], Seen.nil_, fun i d hd => by simp at hd⟩
  · refine ⟨(List.range n).map fun i => (f i).headD undef, ⟨by simp, .inr ⟨g, o, e, hg, fun j u hu => ?_⟩⟩, fun i d hd => ?_⟩
    · have hj : j < n := by
        have := (List.getElem?_eq_some_iff.1 hu).1
        simpa using this
      have hjd : j < ds.length := by rw [h.1]; exact hj
      obtain ⟨⟨Ai, ni, ci, hv, _⟩, hk⟩ := hf j _ (List.getElem?_eq_getElem hjd)
      have hu' : (f j).headD undef = u := by simpa [hj] using hu
      rw [hv] at hu'
      have := hk 0 u (by rw [hv]; exact congrArg some hu')
      simpa [chunkLay, Lay.slice] using this
    · have hi' : i < n := by rw [← h.1]; exact (List.getElem?_eq_some_iff.1 hd).1
      obtain ⟨⟨Ai, ni, ci, hv, hc, _, hs⟩, _⟩ := hf i d hd
      exact ⟨Ai, ni, ci, by simp [hi', hv], hc, seen_of_row hs⟩

theorem opens_chunks : Opens Try.prog 22 (chunkLay.slice 0) :=
  opens_slice Try.underlying22 (by kernel_rfl) (by decide)
    (opens_struct Try.underlying39 (by kernel_rfl) (.one rfl (opens_slice Try.underlying24 (by kernel_rfl) (by decide) (opens_byte Try.underlying5 (by kernel_rfl)))))

theorem row_of {H : Type} {enc : TypeId × Value → H} {w : World} {base : Nat} {spare : Nat → Bool} {held : Bool} {A : Option Addr} {n c : Nat} {d : DataW H} {p : List MemPlace}
    (hv : DataW.Trod enc Try.prog w base spare held 22 (.slice A n c) d p) : ∃ ds, SeenR chunkLay w w.heap.size A n ds ∧ n ≤ maxLen := by
  obtain ⟨ds, A', n', c', e, hc, hm, h⟩ := opens_chunks.arg hv
  have e' : Value.slice A n c = .slice A' n' c' := by simpa [Value.cells] using e
  injection e' with e1 e2 e3
  subst e1 e2 e3
  exact ⟨ds, h, Nat.le_trans hc hm⟩

/-- What a size's call answers: what is left, or -1 where it does not reach. -/
def SzPost (w : World) (l s : Nat) (e : Ending) (w' : World) : Prop :=
  Below w.heap.size w w' ∧ ((s ≤ l ∧ e = .returned (.int .i64 ((l - s : Nat) : Int))) ∨ (l < s ∧ e = .returned (.int .i64 (-1))))

theorem szByteS_yes {w : World} {A : Option Addr} {n c l : Nat} (hl : l ≤ 1048576) (h : n ≤ l) :
    Calls Try.prog 28 #[.slice A n c, .int .i64 (l : Int)] w fun e w' => e = .returned (.int .i64 ((l - n : Nat) : Int)) ∧ w = w' := by
  have hs : ((l - n : Nat) : Int) = (l : Int) - (n : Int) := by omega
  rw [hs]
  clear hs
  go_enter Try.func28, Try.ntmps28
  go_wp2
  go_ret
  exact ⟨rfl, rfl⟩
theorem szByteS_no {w : World} {A : Option Addr} {n c l : Nat} (hl : l ≤ 1048576) (hn : n ≤ maxLen) (h : l < n) :
    Calls Try.prog 28 #[.slice A n c, .int .i64 (l : Int)] w fun e w' => e = .returned (.int .i64 (-1)) ∧ w = w' := by
  unfold maxLen at hn
  go_enter Try.func28, Try.ntmps28
  go_wp2
  go_ret
  exact ⟨rfl, rfl⟩
theorem szChunk_any {w : World} {A : Option Addr} {n c l : Nat} (hl : l ≤ 1048576) (hn : n ≤ maxLen) :
    Calls Try.prog 19 #[.agg #[.slice A n c], .int .i64 (l : Int)] w (SzPost w l n) := by
  have hb0 : Below w.heap.size w (w.alloc (.cells #[.slice A n c] 39)) := (Below.refl _ _).alloc (Nat.le_refl _) _
  by_cases h : n ≤ l
  · go_enter Try.func19, Try.ntmps19
    go_wp2_with fail
    refine (szByteS_yes hl h).mono ?_
    rintro e w' ⟨rfl, rfl⟩
    go_wp2_with fail
    go_ret
    exact ⟨hb0, .inl ⟨h, rfl⟩⟩
  · have h' : l < n := by omega
    go_enter Try.func19, Try.ntmps19
    go_wp2_with fail
    refine (szByteS_no hl hn h').mono ?_
    rintro e w' ⟨rfl, rfl⟩
    go_wp2_with fail
    go_ret
    exact ⟨hb0, .inr ⟨h', rfl⟩⟩

set_option maxRecDepth 100000 in
set_option maxHeartbeats 400000 in
theorem szChunkS_any {w : World} {hi n c l : Nat} {A : Option Addr} {ds : List (List UInt8)} (h : SeenR chunkLay w hi A n ds) (hhi : hi ≤ w.heap.size) (hl : l ≤ 1048576) (hn : n ≤ maxLen) :
    Calls Try.prog 6 #[.slice A n c, .int .i64 (l : Int)] w (SzPost w l (n + tot ds)) := by
  have hn' := hn
  unfold maxLen at hn
  have HL := Lib.hid h.1
  by_cases h0 : n ≤ l
  · go_enter Try.func6, Try.ntmps6
    go_wp2_with fail
    go_loopw [1, 5] (fun q i wr => ∃ k : Nat, k ≤ n ∧ i = .int .i64 k ∧ n + tot (ds.take k) ≤ l ∧ q = .int .i64 ((l - (n + tot (ds.take k)) : Nat) : Int) ∧ Below w.heap.size w wr) (fun _ i _ => n - (intOf i).toNat)
    case atStart => exact ⟨0, Nat.zero_le _, rfl, by simpa [tot] using h0, by simp [tot]; go_num, Below.refl _ _⟩
    case round =>
      obtain ⟨k, hk, rfl, hle, rfl, hb⟩ := hrel
      have z := hb.size
      by_cases hlt : k < n
      · obtain ⟨hx, g, o, vs, rfl, hg, ⟨Ai, ni, ci, rfl, hci, hcm, hs⟩, hcell⟩ := (h.keep fun k hk => hb.block k (by omega)).at_ hlt
        have hc := hcell 0 _ rfl
        have htt := Lib.hid (tot_take (List.getElem?_eq_getElem hx))
        have hdl := Lib.hid hs.1
        have htl := tot_take_le ds (k + 1)
        rw [htt.out, hdl.out] at htl
        simp only [chunkLay, Lay.slice, Nat.mul_one, Nat.add_zero] at hc
        clear hcell hs
        generalize ds[k] = d at *
        generalize hT : tot (ds.take k) = T at *
        have HT := Lib.hid hT
        clear hT
        go_wp2_with fail
        refine (szChunk_any (l := l - (n + T)) (by omega) (Nat.le_trans hci hcm)).mono ?_
        rintro e w1 ⟨hb1, hcase⟩
        have hbb : Below w.heap.size w w1 := hb.trans (hb1.mono z)
        clear hc hb1
        rcases hcase with ⟨h1, rfl⟩ | ⟨h1, rfl⟩
        · go_wp2_with fail
          go_roundw
          case rel => exact ⟨k + 1, by omega, by go_num, by rw [htt.out, hdl.out]; omega, by rw [htt.out, hdl.out]; go_num, hbb⟩
          case measure => simp [intOf]; omega
        · go_wp2_with fail
          go_ret
          exact ⟨hbb, .inr ⟨by omega, rfl⟩⟩
      · go_wp2_with fail
        go_ret
        obtain rfl : k = n := by omega
        have htk : ds.take k = ds := List.take_of_length_le (by rw [HL.out]; exact Nat.le_refl _)
        rw [htk] at hle ⊢
        exact ⟨hb, .inl ⟨hle, rfl⟩⟩
  · have h1 : l < n := by omega
    clear h
    go_enter Try.func6, Try.ntmps6
    go_wp2_with fail
    go_ret
    exact ⟨Below.refl _ _, .inr ⟨by omega, rfl⟩⟩
end Go.Proofs.Ytlaiiphngekhnaa
