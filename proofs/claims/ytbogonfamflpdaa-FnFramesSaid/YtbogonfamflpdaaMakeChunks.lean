
/- Contracts of the model's MakeChunks (at most five chunks of at most eight bytes) and MakeNum (a number below another). -/

import Derived.Test.YtbogonfamflpdaaDraw

import Derived.Test.YtbogonfamflpdaaChunk

namespace Go.Proofs.Ytbogonfamflpdaa

open Go.RowKit

section

variable {A : Option Addr} {n c hi g : Nat} {bs : List UInt8} {w : World}

theorem CurAt.later {w' : World} (h : CurAt w g A n c) {b : Nat} (hb : Below b w w') (hB : g < b) : CurAt w' g A n c := h.keep (hb.block g hB)

/-- Some chunks have been drawn. -/
def DrewC (most : Nat) (w : World) (g : Nat) (A : Option Addr) (n c : Nat) (e : Ending) (w' : World) : Prop :=
  ∃ A1 c1, ∃ ds : List (List UInt8), ds.length ≤ most ∧ (∀ d ∈ ds, d.length ≤ 8) ∧ e = .returned (.slice A1 ds.length c1) ∧ Chunks w' w.heap.size w'.heap.size A1 ds.length c1 ds ∧ CurAt w' g A n c ∧ Turned g (g + 1) w w'

set_option maxRecDepth 100000 in
set_option maxHeartbeats 1000000 in
theorem l02Chunks_any {most : Nat} (hs : Seen w hi 1 A n (bs.map B)) (hh : hi ≤ g) (hn : n ≤ 16777216) (hmost : most ≤ 4000) (hc : CurAt w g A n c) :
    Calls Try.prog 31 #[.pointer (some ⟨g, 0, none⟩), .int .i64 (most : Int)] w (DrewC most w g A n c) := by
  obtain ⟨i0, hi0, hz0, hz1, hz2⟩ := info_parts chunk_info
  have hgs := hc.lt
  have hmade := Own.made (size := 1) (e := 32) w #[] 0 0 (by simp only [maxLen]; omega) (by simp) (Nat.zero_le _)
  have hb0 : Below w.heap.size w (w.alloc (.cells #[] 32)) := (Below.refl _ _).alloc (Nat.le_refl _) _
  go_enter Try.func31, Try.ntmps31
  go_wp2_with fail
  refine (l01Below_any (N := most + 1) (hs.below hb0 (by omega)) hh hn (by omega) (hc.later hb0 hgs)).mono ?_
  rintro e w1 ⟨N, hN, rfl, hc1, ht1⟩
  have hNm : N ≤ most := by omega
  have z1 := ht1.size
  rw [World.size_alloc] at z1
  have hmade1 := hmade.turned ht1 (.inr (by omega))
  have hT1 : Turned g (g + 1) w w1 := ⟨ht1.os, ht1.tape, ht1.output, by omega, fun k hk ho => (ht1.block k (by simp; omega) ho).trans (hb0.block k hk)⟩
  clear ht1 hmade
  go_wp2_with fail
  go_loopw [5, 6] (fun v i wr => ∃ A2 c2 k, ∃ ds : List (List UInt8), ds.length + k = N ∧ (∀ d ∈ ds, d.length ≤ 8) ∧ v = .slice A2 ds.length c2 ∧ i = .int .i64 ((k : Nat) : Int) ∧ Chunks wr w.heap.size wr.heap.size A2 ds.length c2 ds ∧ CurAt wr g A n c ∧ Turned g (g + 1) w wr) (fun _ i _ => (intOf i).toNat)
  case atStart =>
    refine ⟨_, _, N, [], by simp, by simp, rfl, rfl, ?_, hc1, hT1⟩
    exact ⟨rfl, [], hmade1.wider (Nat.le_refl _) (by omega), fun i d hd => by simp at hd, fun i g hg => by simp at hg, fun i j g _ hg => by simp at hg⟩
  case round =>
    clear hmade1 hT1 hc1 hc
    obtain ⟨A2, c2, k, ds, hk, h8, rfl, rfl, hch, hcr, htr⟩ := hrel
    have H8 := Lib.hid h8
    have HK := Lib.hid hk
    have hkN : ds.length ≤ N := by omega
    have hkN2 : k ≤ N := by omega
    clear h8 hk
    have zr := htr.size
    by_cases hlt : 0 < k
    · go_wp2_with fail
      refine (l01Bytes_any (most := 8) (hs.turned htr hh (by omega)) hh hn (by omega) hcr).mono ?_
      rintro e w3 ⟨A3, n3, c3, d, hd8, rfl, own3, hc3, ht3⟩
      have z3 := ht3.size
      have hch3 := hch.turned ht3 (.inr (by omega))
      obtain ⟨hl, vs, hrow, hel, hap, hpw⟩ := hch3
      have HE := Lib.hid hel
      have HA := Lib.hid hap
      have HP := Lib.hid hpw
      have HD := Lib.hid (show d.length ≤ 8 by have a := own3.len; simp at a; omega)
      clear hel hap hpw hl hch hcr
      go_wp2_with (at_builtin; refine wpList_append_kin rfl (.tmp 16) (.tmp 20) _ rfl w.heap.size _ 32 i0 _ 1 24 Try.underlying23 hi0 hz0 hz1 hz2 rfl (by omega) A2 ds.length c2 _ rfl (hrow.alloc _) _ _ 1 1 _ rfl (Seen.one _ _ _) (by simp [Value.oneCell']) (by simp only [maxLen]; omega) (by omega) (by simp; omega) ?_; intro A5 c5 w5 own5 hb5 hk5 hA5)
      rw [World.size_alloc] at hk5 hA5
      go_roundw
      case rel =>
        have z5 := hb5.size
        rw [World.size_alloc] at z5
        have hbb : Below w.heap.size w3 w5 := ((Below.refl _ _).alloc (by omega) _).trans hb5
        refine ⟨A5, c5, k - 1, ds ++ [d], by have := HK.out; simp; omega, ?_, by simp, by go_num, ?_, hc3.keep (hbb.block g hgs), (htr.trans ht3).then_below hbb (Nat.le_refl _)⟩
        · intro x hx
          rcases List.mem_append.1 hx with h | h
          · exact H8.out x h
          · have : x = d := by simpa using h
            subst this
            exact HD.out
        · rw [List.length_append, List.length_singleton]
          refine chunks_pushed (w2 := w3.alloc (.cells #[.slice A3 n3 c3] 32)) (hi0 := wr.heap.size) rfl (fun i x hx => let ⟨Ai, ni, ci, e, o⟩ := HE.out i x hx; ⟨Ai, ni, ci, e, o.alloc _⟩) (hrow.alloc _) HA.out HP.out ((own3.alloc _).wider (Nat.le_refl _) (by simp)) (by simp; omega) zr own5 (by rw [World.size_alloc]; exact hk5) (by rw [World.size_alloc]; exact hA5) (by simp; omega)
      case measure => simp [intOf]; omega
    · have hk0 : k = 0 := by omega
      subst hk0
      go_wp2_with fail
      go_ret
      exact ⟨A2, c2, ds, by have := HK.out; omega, H8.out, rfl, hch, hcr, htr⟩

theorem MakeChunks_any (hs : Seen w hi 1 A n (bs.map B)) (hhi : hi ≤ w.heap.size) (hn : n ≤ 16777216) :
    Calls Try.prog 9 #[.slice A n c] w fun e w' => ∃ A1 c1, ∃ ds : List (List UInt8), ds.length ≤ 5 ∧ (∀ d ∈ ds, d.length ≤ 8) ∧ e = .returned (.slice A1 ds.length c1) ∧ Chunks w' w.heap.size w'.heap.size A1 ds.length c1 ds ∧ Below w.heap.size w w' := by
  go_enter Try.func9, Try.ntmps9
  go_wp2_with fail
  refine (l01New_any hs hn).mono ?_
  rintro e w1 ⟨rfl, hc1, hb1, z1⟩
  have Z1 := Lib.hid z1
  clear z1
  go_wp2_with fail
  refine (l02Chunks_any (most := 5) (hs.below hb1 hhi) hhi hn (by omega) hc1).mono ?_
  rintro e w2 ⟨A2, c2, ds, hm, h8, rfl, ch2, hc2, ht2⟩
  have H8 := Lib.hid h8
  clear h8
  go_wp2_with fail
  go_ret
  exact ⟨A2, c2, ds, hm, H8.out, rfl, ch2.wider hb1.size (Nat.le_refl _), hb1.trans (ht2.below (Nat.le_refl _) hb1.size)⟩

set_option maxRecDepth 100000 in
theorem MakeNum_any {N : Nat} (hs : Seen w hi 1 A n (bs.map B)) (hhi : hi ≤ w.heap.size) (hn : n ≤ 16777216) (hN : N ≤ 4294967296) :
    Calls Try.prog 13 #[.slice A n c, .int .i64 (N : Int)] w fun e w' => ∃ x : Nat, (x < N ∨ x = 0) ∧ e = .returned (.int .i64 (x : Int)) ∧ Below w.heap.size w w' := by
  go_enter Try.func13, Try.ntmps13
  go_wp2_with fail
  refine (l01New_any hs hn).mono ?_
  rintro e w1 ⟨rfl, ⟨i, h, hi1, hb⟩, hb1, z1⟩
  have Z1 := Lib.hid z1
  clear z1
  have z := hb1.size
  have c2 := cell_of_cells (j := 2) hb rfl
  have f2 := free_of_cells hb 2
  have HB := Lib.hid hb
  clear hb
  have ht : ∀ u, Turned w.heap.size (w.heap.size + 1) w1 (w1.setCell ⟨w.heap.size, 2, none⟩ u) := fun u => (Turned.refl _ _ _).setCell (by simp) (by simp) u
  go_wp2_with fail
  refine (l01Below_any (N := N) ((hs.below hb1 hhi).turned (ht _) hhi (by omega)) hhi hn hN ⟨i, _, hi1, cells_setCell HB.out⟩).mono ?_
  rintro e w2 ⟨x, hx, rfl, _, ht2⟩
  have hbb : Below w.heap.size w w2 := hb1.trans (((ht _).trans ht2).below (Nat.le_refl _) z)
  clear ht2 c2 f2
  have HX := Lib.hid hx
  clear hx
  go_wp2_with fail
  go_ret
  exact ⟨x, HX.out, rfl, hbb⟩
end

end Go.Proofs.Ytbogonfamflpdaa
