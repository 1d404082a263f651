
/- Contracts of the model's draws: a cursor over the bytes of a draw, a byte, a number below another, some bytes. What is drawn is left open, but for its bounds. -/

import Derived.Test.YtalbbhnfdbacdaaBaseP

import Derived.WalkLawsBesides

namespace Go.Proofs.Ytalbbhnfdbacdaa

open Go.RowKit

theorem and_mask (y : Int) (m : Nat) (hm : m < 4294967296) : ∃ x : Nat, x ≤ m ∧ bits .and .i64 y (m : Int) = (x : Int) := by
  refine ⟨(BitVec.ofInt 64 y &&& BitVec.ofInt 64 (m : Int)).toNat, ?_, ?_⟩
  · rw [BitVec.toNat_and, BitVec.ofInt_natCast, BitVec.toNat_ofNat, Nat.mod_eq_of_lt (a := m) (by omega)]
    exact Nat.and_le_right
  · have h : (BitVec.ofInt 64 y &&& BitVec.ofInt 64 (m : Int)).toNat ≤ m := by
      rw [BitVec.toNat_and, BitVec.ofInt_natCast, BitVec.toNat_ofNat, Nat.mod_eq_of_lt (a := m) (by omega)]
      exact Nat.and_le_right
    show IntKind.i64.wrap ((BitVec.ofInt 64 y &&& BitVec.ofInt 64 (m : Int)).toNat : Int) = _
    rw [IntKind.wrap_i64]
    omega

/-- The block of a cursor over the bytes at A. -/
def CurAt (w : World) (g : Nat) (A : Option Addr) (n c : Nat) : Prop :=
  ∃ (i : Nat) (h : Int), i ≤ n ∧ w.heap[g]? = some (.cells #[.slice A n c, .int .i64 (i : Int), .int .i64 h] 45 (0, 0))

theorem cell_of_cells {w : World} {g j : Nat} {cur : Array Value} {t : TypeId} {v : Value} (h : w.heap[g]? = some (.cells cur t (0, 0))) (hj : cur[j]? = some v) : w.cell? ⟨g, j, none⟩ = some v := by simp [World.cell?, h, hj]
theorem free_of_cells {w : World} {g : Nat} {cur : Array Value} {t : TypeId} (h : w.heap[g]? = some (.cells cur t (0, 0))) (j : Nat) : w.frozen? ⟨g, j, none⟩ = false := by simp [World.frozen?, h]
theorem cells_setCell {w : World} {g j : Nat} {cur : Array Value} {u : Value} {t : TypeId} (h : w.heap[g]? = some (.cells cur t (0, 0))) : (w.setCell ⟨g, j, none⟩ u).heap[g]? = some (.cells (cur.setIfInBounds j u) t (0, 0)) := by
  have hlt := lt_of_block h
  have h' : w.heap[g] = .cells cur t (0, 0) := by simpa [Array.getElem?_eq_getElem hlt] using h
  show (w.heap.modify g _)[g]? = _
  rw [Array.getElem?_eq_getElem (by simpa using hlt), Array.getElem_modify_self, h']
  rfl
theorem Turned.drawn {lo hi : Nat} {w w' : World} (h : Turned lo hi w w') (m : Nat) : Turned lo hi w (w'.drewN m) := ⟨h.os, h.tape, h.output, h.size, h.block⟩
theorem Turned.then_below {lo hi b : Nat} {w w' w'' : World} (h : Turned lo hi w w') (hb : Below b w' w'') (hB : w.heap.size ≤ b) : Turned lo hi w w'' :=
  ⟨hb.os.trans h.os, hb.tape.trans h.tape, hb.output.trans h.output, Nat.le_trans h.size hb.size, fun k hk ho => (hb.block k (by omega)).trans (h.block k hk ho)⟩
theorem CurAt.lt {w : World} {g n c : Nat} {A : Option Addr} (h : CurAt w g A n c) : g < w.heap.size := let ⟨_, _, _, hh⟩ := h; lt_of_block hh
theorem CurAt.keep {w w' : World} {g n c : Nat} {A : Option Addr} (h : CurAt w g A n c) (hk : w'.heap[g]? = w.heap[g]?) : CurAt w' g A n c := let ⟨i, x, hi, hh⟩ := h; ⟨i, x, hi, hk.trans hh⟩

/-- A number has been drawn for which P holds; only the cursor's block has turned. -/
def Drew (P : Nat → Prop) (w : World) (g : Nat) (A : Option Addr) (n c : Nat) (e : Ending) (w' : World) : Prop :=
  ∃ x : Nat, P x ∧ e = .returned (.int .i64 (x : Int)) ∧ CurAt w' g A n c ∧ Turned g (g + 1) w w'

theorem drew_end (Y : Int) {w W : World} {g n c : Nat} {A : Option Addr} (hc : CurAt W g A n c) (ht : Turned g (g + 1) w W) : Drew (· ≤ 255) w g A n c (.returned (.int .i64 (bits .and .i64 Y 255))) W := by
  obtain ⟨x, hx, e⟩ := and_mask Y 255 (by omega)
  exact ⟨x, hx, by rw [← e]; rfl, hc, ht⟩

section

variable {A : Option Addr} {n c hi g : Nat} {bs : List UInt8} {w : World}

set_option maxRecDepth 100000 in
set_option maxHeartbeats 400000 in
theorem l01Byte_any (hs : Seen w hi 1 A n (bs.map B)) (hh : hi ≤ g) (hn : n ≤ 16777216) (hc : CurAt w g A n c) :
    Calls Try.prog 38 #[.pointer (some ⟨g, 0, none⟩)] w (Drew (· ≤ 255) w g A n c) := by
  obtain ⟨i, h, hi0, hb⟩ := hc
  have c2 := cell_of_cells (j := 2) hb rfl
  have f2 := free_of_cells hb 2
  have HB := Lib.hid hb
  clear hb
  go_enter Try.func38, Try.ntmps38
  go_wp2_with fail
  clear c2 f2
  have hs1 := hs.turned ((Turned.refl g (g + 1) w).setCell (p := ⟨g, 2, none⟩) (by simp) (by simp) (.int .i64 (wrap64 (wrap64 (h * 6364136223846793005) + 1442695040888963407)))) hh (by have := lt_of_block HB.out; omega)
  have ht1 := (Turned.refl g (g + 1) w).setCell (p := ⟨g, 2, none⟩) (by simp) (by simp) (.int .i64 (wrap64 (wrap64 (h * 6364136223846793005) + 1442695040888963407)))
  have hb1 := cells_setCell (j := 2) (u := .int .i64 (wrap64 (wrap64 (h * 6364136223846793005) + 1442695040888963407))) HB.out
  generalize wrap64 (wrap64 (h * 6364136223846793005) + 1442695040888963407) = H at *
  replace hb1 : (w.setCell ⟨g, 2, none⟩ (.int .i64 H)).heap[g]? = some (.cells #[.slice A n c, .int .i64 (i : Int), .int .i64 H] 45 (0, 0)) := hb1
  generalize w.setCell ⟨g, 2, none⟩ (.int .i64 H) = W1 at *
  clear HB hs
  have c0 := cell_of_cells (j := 0) hb1 rfl
  have c1 := cell_of_cells (j := 1) hb1 rfl
  have c2 := cell_of_cells (j := 2) hb1 rfl
  have f1 := free_of_cells hb1 1
  have HB := Lib.hid hb1
  clear hb1
  by_cases hlt : i < n
  · obtain ⟨g1, o1, u, rfl, hg1, hu, hcu⟩ := hs1.at_ (j := i) (by omega)
    have hx : ∃ b : UInt8, u = B b := by
      have := List.mem_of_getElem? hu
      obtain ⟨b, _, e⟩ := List.mem_map.1 this
      exact ⟨b, e.symm⟩
    obtain ⟨b, rfl⟩ := hx
    clear hu
    have hi1 : (i : Int) < (n : Int) := by omega
    have hi2 : (0 : Int) ≤ (i : Int) := by omega
    go_quiet (fail)
    go_wp2_with fail
    go_quiet (fail)
    go_wp2_with fail
    go_quiet (fail)
    go_wp2_with fail
    go_ret
    refine drew_end _ ?_ ((ht1.drawn _).setCell (by simp) (by simp) _)
    exact ⟨i + 1, H, by omega, by rw [show ((i + 1 : Nat) : Int) = (i : Int) + 1 by omega]; exact cells_setCell (w := W1.drewN _) HB.out⟩
  · have hge : n ≤ i := by omega
    go_quiet (fail)
    go_wp2_with fail
    go_quiet (fail)
    go_wp2_with fail
    go_ret
    exact drew_end _ ⟨i, H, hi0, HB.out⟩ ((ht1.drawn _).drawn _)

set_option maxRecDepth 100000 in
set_option maxHeartbeats 400000 in
theorem l01Below_any {N : Nat} (hs : Seen w hi 1 A n (bs.map B)) (hh : hi ≤ g) (hn : n ≤ 16777216) (hN : N ≤ 4294967296) (hc : CurAt w g A n c) :
    Calls Try.prog 23 #[.pointer (some ⟨g, 0, none⟩), .int .i64 (N : Int)] w (Drew (fun x => x < N ∨ x = 0) w g A n c) := by
  have hgs := hc.lt
  by_cases h0 : N = 0
  · subst h0
    go_enter Try.func23, Try.ntmps23
    go_wp2_with fail
    go_ret
    exact ⟨0, .inr rfl, rfl, hc, Turned.refl _ _ _⟩
  have hN1 : 1 ≤ N := by omega
  clear h0
  by_cases h1 : N ≤ 256
  · go_enter Try.func23, Try.ntmps23
    go_wp2_with fail
    refine (l01Byte_any hs hh hn hc).mono ?_
    rintro e w1 ⟨x, hx, rfl, hc1, ht1⟩
    go_wp2_with fail
    go_ret
    exact ⟨x % N, .inl (Nat.mod_lt _ hN1), by go_num, hc1, ht1⟩
  · go_enter Try.func23, Try.ntmps23
    go_wp2_with fail
    refine (l01Byte_any hs hh hn hc).mono ?_
    rintro e w1 ⟨x1, hx1, rfl, hc1, ht1⟩
    have z1 := ht1.size
    go_wp2_with fail
    refine (l01Byte_any (hs.turned ht1 hh (by omega)) hh hn hc1).mono ?_
    rintro e w2 ⟨x2, hx2, rfl, hc2, ht2⟩
    have ht12 := ht1.trans ht2
    have z2 := ht12.size
    clear ht1 ht2
    go_wp2_with fail
    refine (l01Byte_any (hs.turned ht12 hh (by omega)) hh hn hc2).mono ?_
    rintro e w3 ⟨x3, hx3, rfl, hc3, ht3⟩
    have ht13 := ht12.trans ht3
    have z3 := ht13.size
    clear ht12 ht3
    go_wp2_with fail
    refine (l01Byte_any (hs.turned ht13 hh (by omega)) hh hn hc3).mono ?_
    rintro e w4 ⟨x4, hx4, rfl, hc4, ht4⟩
    have ht14 := ht13.trans ht4
    clear ht13 ht4
    go_wp2_with fail
    go_ret
    exact ⟨(x1 * 16777216 + x2 * 65536 + x3 * 256 + x4) % N, .inl (Nat.mod_lt _ hN1), by go_num, hc4, ht14⟩

/-- Some bytes have been drawn, at most so many, in memory of their own; of what was there only the cursor's block has turned. -/
def DrewB (most : Nat) (w : World) (g : Nat) (A : Option Addr) (n c : Nat) (e : Ending) (w' : World) : Prop :=
  ∃ A1 m c1, ∃ ds : List UInt8, m ≤ most ∧ e = .returned (.slice A1 m c1) ∧ Own w' w.heap.size w'.heap.size 5 1 A1 m c1 (ds.map B) ∧ CurAt w' g A n c ∧ Turned g (g + 1) w w'

theorem B_any (x : Nat) : ∃ b : UInt8, Value.int .u8 ((x : Int) % 256) = B b := ⟨UInt8.ofNat x, by simp only [B, UInt8.toNat_ofNat']; congr 1⟩
theorem B_low {x : Nat} (h : x ≤ 255) : ∃ b : UInt8, Value.int .u8 (x : Int) = B b := ⟨UInt8.ofNat x, by simp only [B, UInt8.toNat_ofNat']; rw [Nat.mod_eq_of_lt (by omega)]⟩

set_option maxRecDepth 100000 in
set_option maxHeartbeats 400000 in
theorem l01New_any (hs : Seen w hi 1 A n (bs.map B)) (hn : n ≤ 16777216) :
    Calls Try.prog 22 #[.slice A n c] w fun e w' => e = .returned (.pointer (some ⟨w.heap.size, 0, none⟩)) ∧ CurAt w' w.heap.size A n c ∧ Below w.heap.size w w' ∧ w'.heap.size = w.heap.size + 1 := by
  have hlen := Lib.hid (show bs.length = n by simpa using hs.1)
  go_enter Try.func22, Try.ntmps22
  go_wp2_with fail
  go_loop [3, 4] (fun h i => ∃ k H : Nat, k ≤ n ∧ i = .int .i64 (k : Int) ∧ h = .int .i64 (H : Int) ∧ H ≤ 1073741823) (fun _ i => n - (intOf i).toNat)
  case atStart => exact ⟨0, 538233 + n, Nat.zero_le _, rfl, by go_num, by omega⟩
  case round =>
    obtain ⟨k, H, hk, rfl, rfl, hH⟩ := hrel
    by_cases hlt : k < n ∧ k < 4000
    · obtain ⟨h1, h2⟩ := hlt
      have hkb : k < bs.length := by rw [hlen.out]; exact h1
      obtain ⟨g, o, u, rfl, hg, hu, hc⟩ := hs.at_ (j := k) (by omega)
      have hx : u = B bs[k] := by simpa [List.getElem?_eq_getElem hkb] using hu.symm
      subst hx
      generalize bs[k] = x at *
      clear hu
      have hx256 : x.toNat < 256 := x.toNat_lt
      obtain ⟨X, hX, hand⟩ := and_mask ((H : Int) * 163 + (x.toNat : Int) + 7) 1073741823 (by omega)
      replace hand : bits .and .i64 ((H : Int) * 163 + (x.toNat : Int) + 7) 1073741823 = (X : Int) := hand
      go_wp2_with fail
      go_round
      case rel => exact ⟨k + 1, X, by omega, by go_num, rfl, hX⟩
      case measure => simp [intOf]; omega
    · by_cases h1 : k < n
      · have h2 : 4000 ≤ k := by omega
        clear hlt
        go_wp2_with fail
        go_ret
        exact ⟨rfl, ⟨0, H, Nat.zero_le _, heap_alloc_new w _⟩, (Below.refl _ _).alloc (Nat.le_refl _) _, by simp⟩
      · have h1' : n ≤ k := by omega
        clear hlt
        go_wp2_with fail
        go_ret
        exact ⟨rfl, ⟨0, H, Nat.zero_le _, heap_alloc_new w _⟩, (Below.refl _ _).alloc (Nat.le_refl _) _, by simp⟩
end

end Go.Proofs.Ytalbbhnfdbacdaa
