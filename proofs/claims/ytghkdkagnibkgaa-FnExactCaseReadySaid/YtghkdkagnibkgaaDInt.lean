
/- Rows of ints: the contracts of the laws' helpers over them: szIntS, toIntS, eqIntS. -/

import Derived.Test.YtghkdkagnibkgaaProg

import Derived.Test.YtghkdkagnibkgaaBase

import Derived.Deep.QuietTactic

import Derived.BigQuiet

import Derived.Deep.RegionWith

import Derived.Handy

namespace Go.Proofs.Ytghkdkagnibkgaa

open Go.RowKit

theorem int_info : (Try.prog.info? 3).map (fun i => (i.zero, i.size, i.bytes)) = some (some (.int .i64 0), 1, 8) := by kernel_rfl

theorem szIntS_any {w : World} {A : Option Addr} {n c l : Nat} (hl : l ≤ 1048576) (hn : n ≤ maxLen) :
    Calls Try.prog 36 #[.slice A n c, .int .i64 (l : Int)] w (SzPost w l n) := by
  unfold maxLen at hn
  by_cases h : n ≤ l
  · have hs : Hid ((l : Int) - (n : Int) = ((l - n : Nat) : Int)) := Lib.hid (by omega)
    go_enter Try.func36, Try.ntmps36
    go_wp2
    go_ret
    exact ⟨Below.refl _ _, .inl ⟨h, by rw [hs.out]; rfl⟩⟩
  · have h' : l < n := by omega
    go_enter Try.func36, Try.ntmps36
    go_wp2
    go_ret
    exact ⟨Below.refl _ _, .inr ⟨h', rfl⟩⟩

set_option maxHeartbeats 400000 in
theorem eqIntS_same {A A' : Option Addr} {n c c' hi hi' : Nat} {xs : List Int} {w : World} (h : SeenR Lay.int w hi A n xs) (h' : SeenR Lay.int w hi' A' n xs) (hn : n ≤ 1048580) :
    Calls Try.prog 47 #[.slice A n c, .slice A' n c'] w (SaysTrue w) := by
  go_enter Try.func47, Try.ntmps47
  go_wp2
  go_loopw [5] (fun i wr => ∃ k m : Nat, k ≤ n ∧ i = .int .i64 k ∧ wr = w.drewN m) (fun i _ => n - (intOf i).toNat)
  case atStart => exact ⟨0, 0, Nat.zero_le _, rfl, rfl⟩
  case round =>
    obtain ⟨k, m, hk, rfl, rfl⟩ := hrel
    by_cases hlt : k < n
    · obtain ⟨hx, g, o, vs, rfl, hg, ⟨rfl, hw⟩, hc⟩ := h.at_ hlt
      obtain ⟨hx', g', o', vs', rfl, hg', ⟨rfl, hw'⟩, hc'⟩ := h'.at_ hlt
      have c0 := hc 0 _ rfl
      have c0' := hc' 0 _ rfl
      simp only [Lay.int, Lay.flat, Nat.mul_one, Nat.add_zero] at c0 c0'
      clear hc hc'
      generalize xs[k] = x at *
      clear hw hw'
      go_wp2
      go_quiet (fail)
      go_wp2
      go_roundw
      case rel => exact ⟨k + 1, _, by omega, by go_num, rfl⟩
      case measure => simp [intOf]; omega
    · go_wp2
      go_ret
      exact ⟨rfl, below_drawn (Below.refl _ _) _⟩

set_option maxRecDepth 100000 in
set_option maxHeartbeats 1000000 in
theorem toIntS_any {w : World} {A : Option Addr} {n c hi : Nat} {xs : List Int} (h : SeenR Lay.int w hi A n xs) (hhi : hi ≤ w.heap.size) (hn : n ≤ 1048576) :
    Calls Try.prog 41 #[.slice A n c] w (MadeR Lay.int 3 w n xs) := by
  obtain ⟨i0, hi0, hz0, hz1, hz2⟩ := info_parts int_info
  have hmk := fun W : World => run_make (P := Try.prog) W 45 3 i0 _ Try.underlying45 hi0 hz0 .i64 .i64 n n (by omega) (by omega) (by rw [hz2]; omega) (by omega)
  simp only [hz1, Int.toNat_natCast, Nat.mul_one] at hmk
  have HL := Lib.hid h.1
  clear hi0 hz0 hz1 hz2
  go_enter Try.func41, Try.ntmps41
  go_wp2
  clear hmk
  go_loopw [4] (fun i wr => ∃ k : Nat, k ≤ n ∧ i = .int .i64 k ∧ Part Lay.int 3 wr w.heap.size n xs k wr.heap.size ∧ Below w.heap.size w wr) (fun i _ => n - (intOf i).toNat)
  case atStart =>
    refine ⟨0, Nat.zero_le _, rfl, ?_, (Below.refl _ _).alloc (Nat.le_refl _) _⟩
    have hm := Own.made (size := 1) (e := 3) w (madeCells #[.int .i64 0] n) n n (by simp only [maxLen]; omega) (by simp [size_madeCells]) (Nat.le_refl _)
    exact Part.start HL.out hm (by simp)
  case round =>
    obtain ⟨k, hk, rfl, hpart, hb⟩ := hrel
    have z := hb.size
    by_cases hlt : k < n
    · obtain ⟨hx, g, o, vs, rfl, hg, ⟨rfl, hw⟩, hcell⟩ := (h.below hb hhi).at_ hlt
      have hc := hcell 0 _ rfl
      have hdk := Lib.hid (List.getElem?_eq_getElem hx)
      obtain ⟨⟨v, hold⟩, hfz⟩ := hpart.room hlt 0 (by decide)
      have hp2 := hpart.step hdk.out (us := [.int .i64 xs[k]]) rfl ⟨rfl, hw⟩ (F := fun _ => False) (fun g hg => hg.elim)
      simp only [Lay.int, Lay.flat, Nat.mul_one, Nat.add_zero] at hold hfz hc
      clear hcell hpart
      generalize xs[k] = x at *
      clear hw
      go_wp2
      go_roundw
      case rel => exact ⟨k + 1, by omega, by go_num, by simpa [putCells, Lay.int, Lay.flat] using hp2, hb.setCell (by simp) _⟩
      case measure => simp [intOf]; omega
    · go_wp2_with fail
      go_ret
      obtain rfl : k = n := by omega
      exact ⟨_, _, rfl, hpart.done, hb⟩
end Go.Proofs.Ytghkdkagnibkgaa
