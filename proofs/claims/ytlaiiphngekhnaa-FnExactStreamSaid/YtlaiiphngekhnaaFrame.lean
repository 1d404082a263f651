
/- Contracts of FrameBytes, the program's and the model's. -/

import Derived.Test.YtlaiiphngekhnaaByte

import Derived.Test.YtlaiiphngekhnaaCrc

import Derived.Test.YtlaiiphngekhnaaFrameMath

namespace Go.Proofs.Ytlaiiphngekhnaa

open Go.RowKit

/-- The call answers a slice of n bytes in a block from lo on, and turns nothing below lo. -/
def Put (w : World) (lo : Nat) (bs : List UInt8) (n : Nat) (en : Ending) (w' : World) : Prop :=
  ∃ A c, en = .returned (.slice A n c) ∧ Own w' lo w'.heap.size 5 1 A n c (bs.map B) ∧ Below lo w w'

theorem high_step {x k j : Nat} (h : j < k) : high (k - j) x = UInt8.ofNat (x / 256 ^ (k - 1 - j)) :: high (k - (j + 1)) x := by
  rw [show k - j = (k - 1 - j) + 1 by omega, show k - (j + 1) = k - 1 - j by omega, high]
theorem pow8 (m : Nat) : (2 : Int) ^ (8 * m) = ((256 ^ m : Nat) : Int) := by
  rw [Int.pow_mul, Int.natCast_pow]; rfl
theorem B_high (x m : Nat) : Value.int .u8 ((x : Int) / 2 ^ (8 * m) % 256) = B (UInt8.ofNat (x / 256 ^ m)) := by
  simp only [B, UInt8.toNat_ofNat', pow8]
  congr 1

set_option maxRecDepth 100000 in
set_option maxHeartbeats 400000 in
theorem putHigh_any {A : Option Addr} {L c lo hi x k : Nat} {bs : List UInt8} {w : World} (h : Own w lo hi 5 1 A L c (bs.map B)) (hlo : lo ≤ w.heap.size) (hhi : hi ≤ w.heap.size) (hL : L ≤ 16777216) (_hx : x ≤ 4294967295) (hk : k ≤ 4) :
    Calls Try.prog 32 #[.slice A L c, .int .i64 (x : Int), .int .i64 (k : Int)] w (Put w lo (bs ++ high k x) (L + k)) := by
  obtain ⟨i0, hi0, hz0, hz1, hz2⟩ := info_parts u8_info
  go_enter Try.func32, Try.ntmps32
  go_wp2_with fail
  go_loopw [0, 7, 9] (fun v _ i wr => ∃ A2 c2 j ds, j ≤ k ∧ v = .slice A2 (L + j) c2 ∧ i = .int .i64 ((j : Nat) : Int) ∧ ds ++ high (k - j) x = high k x ∧ Own wr lo wr.heap.size 5 1 A2 (L + j) c2 ((bs ++ ds).map B) ∧ Below lo w wr) (fun _ _ i _ => k - (intOf i).toNat)
  case atStart => exact ⟨A, c, 0, [], Nat.zero_le _, rfl, rfl, by simp, by simpa using h.wider (Nat.le_refl _) hhi, Below.refl _ _⟩
  case round =>
    obtain ⟨A2, c2, j, ds, hj, rfl, rfl, he, hown, hb⟩ := hrel
    have hbs := hb.size
    have hE := Lib.hid he
    clear he
    by_cases hlt : j < k
    · have hrow := Lib.hid (high_step (x := x) hlt)
      go_wp2_with (at_builtin; refine wpList_append_seen rfl (.tmp 12) (.tmp 21) _ rfl lo _ 5 i0 _ 1 1 Try.underlying24 hi0 hz0 hz1 hz2 rfl (by omega) A2 (L + j) c2 _ rfl (hown.alloc _) _ _ 1 1 _ rfl (Seen.one _ _ _) (by simp [Value.oneCell']) (by simp only [maxLen]; omega) (by omega) (by simp; omega) ?_; intro A3 c3 w3 hown3 hb3)
      go_roundw
      case rel =>
        refine ⟨A3, c3, j + 1, ds ++ [UInt8.ofNat (x / 256 ^ (k - 1 - j))], by omega, rfl, by go_num, ?_, ?_, hb.trans (((Below.refl _ _).alloc (by omega) _).trans hb3)⟩
        · rw [← hE.out, hrow.out, List.append_assoc]; rfl
        · rw [← List.append_assoc, List.map_append (l₂ := [_]), List.map_singleton, ← B_high]
          exact hown3
      case measure => simp [intOf]; omega
    · go_wp2_with fail
      go_ret
      have hjk : j = k := by omega
      subst hjk
      refine ⟨A2, c2, rfl, ?_, hb⟩
      have := hE.out
      rw [Nat.sub_self, high, List.append_nil] at this
      rw [← this]
      exact hown

theorem B_byte (Y : Nat) : Value.int .u8 ((Y : Int) % 256) = B (UInt8.ofNat Y) := by
  simp only [B, UInt8.toNat_ofNat']
  congr 1

set_option maxRecDepth 100000 in
set_option maxHeartbeats 400000 in
theorem l02Put_any {A : Option Addr} {L c lo hi x k : Nat} {bs : List UInt8} {w : World} (h : Own w lo hi 5 1 A L c (bs.map B)) (hlo : lo ≤ w.heap.size) (hhi : hi ≤ w.heap.size) (hL : L ≤ 16777216) (hx : x ≤ 4294967295) (hk : k ≤ 4) :
    Calls Try.prog 29 #[.slice A L c, .int .i64 (x : Int), .int .i64 (k : Int)] w (Put w lo (bs ++ high k x) (L + k)) := by
  obtain ⟨i0, hi0, hz0, hz1, hz2⟩ := info_parts u8_info
  go_enter Try.func29, Try.ntmps29
  go_wp2_with fail
  go_loopw [0, 7, 8, 9] (fun v i _ _ wr => ∃ A2 c2 j ds, j ≤ k ∧ v = .slice A2 (L + j) c2 ∧ i = .int .i64 ((k : Int) - 1 - ((j : Nat) : Int)) ∧ ds ++ high (k - j) x = high k x ∧ Own wr lo wr.heap.size 5 1 A2 (L + j) c2 ((bs ++ ds).map B) ∧ Below lo w wr) (fun _ i _ _ _ => (intOf i + 1).toNat)
  case atStart => exact ⟨A, c, 0, [], Nat.zero_le _, rfl, by simp, by simp, by simpa using h.wider (Nat.le_refl _) hhi, Below.refl _ _⟩
  case round =>
    obtain ⟨A2, c2, j, ds, hj, rfl, rfl, he, hown, hb⟩ := hrel
    have hbs := hb.size
    have hE := Lib.hid he
    clear he
    by_cases hlt : j < k
    · have hrow := Lib.hid (high_step (x := x) hlt)
      obtain ⟨wo, rfl⟩ : ∃ wo : World, wo = wr := ⟨_, rfl⟩
      go_wp2_with fail
      go_loop [8, 9] (fun y i => ∃ q : Nat, q ≤ k - 1 - j ∧ i = .int .i64 (q : Int) ∧ y = .int .i64 ((x / 256 ^ q : Nat) : Int)) (fun _ i => k - (intOf i).toNat)
      case atStart => exact ⟨0, Nat.zero_le _, rfl, by simp⟩
      case round =>
        obtain ⟨q, hq, rfl, rfl⟩ := hrel
        have hY : x / 256 ^ q ≤ 4294967295 := Nat.le_trans (Nat.div_le_self _ _) hx
        by_cases hql : q < k - 1 - j
        · have hst := Lib.hid (show x / 256 ^ (q + 1) = x / 256 ^ q / 256 by rw [Nat.pow_succ, Nat.div_div_eq_div_mul])
          generalize x / 256 ^ q = Y at *
          go_wp2_with fail
          go_round
          case rel => exact ⟨q + 1, by omega, by go_num, by rw [hst.out]; go_num⟩
          case measure => simp [intOf]; omega
        · obtain rfl : q = k - 1 - j := by omega
          generalize hYe : x / 256 ^ (k - 1 - j) = Y at *
          have HY := Lib.hid hYe
          clear hYe
          go_wp2_with (at_builtin; refine wpList_append_seen rfl (.tmp 24) (.tmp 28) _ rfl lo _ 5 i0 _ 1 1 Try.underlying24 hi0 hz0 hz1 hz2 rfl (by omega) A2 (L + j) c2 _ rfl (hown.alloc _) _ _ 1 1 _ rfl (Seen.one _ _ _) (by simp [Value.oneCell']) (by simp only [maxLen]; omega) (by omega) (by simp; omega) ?_; intro A3 c3 w3 hown3 hb3)
          go_roundw
          case rel =>
            refine ⟨A3, c3, j + 1, ds ++ [UInt8.ofNat Y], by omega, rfl, by go_num, ?_, ?_, hb.trans (((Below.refl _ _).alloc (by omega) _).trans hb3)⟩
            · rw [← hE.out, hrow.out, List.append_assoc]; rfl
            · rw [← List.append_assoc, List.map_append (l₂ := [_]), List.map_singleton, ← B_byte]
              exact hown3
          case measure => simp [intOf]; omega
    · go_wp2_with fail
      go_ret
      have hjk : j = k := by omega
      subst hjk
      refine ⟨A2, c2, rfl, ?_, hb⟩
      have := hE.out
      rw [Nat.sub_self, high, List.append_nil] at this
      rw [← this]
      exact hown

theorem frameBytes_yes {s : Nat} {d : List UInt8} (hs : s ≤ 100000) (hd : d.length ≤ 4000) : frameBytes (s : Int) d = (frame s d, true) := by
  rw [frameBytes, if_pos ⟨by omega, by omega, hd⟩, Int.toNat_natCast]
theorem frameBytes_len (seq : Int) (d : List UInt8) : (frameBytes seq d).1.length ≤ 4015 := by
  unfold frameBytes
  split
  · rename_i h
    show (frame _ d).length ≤ _
    rw [frame_length]; omega
  · simp
theorem frameBytes_no {seq : Int} {d : List UInt8} (h : ¬ (0 ≤ seq ∧ seq ≤ 100000 ∧ d.length ≤ 4000)) : frameBytes seq d = ([], false) := by rw [frameBytes, if_neg h]

set_option maxRecDepth 100000 in
set_option maxHeartbeats 400000 in
theorem implFrameBytes_any {A : Option Addr} {m c hi : Nat} {d : List UInt8} {w : World} (seq : Int) (h : Seen w hi 1 A m (d.map B)) (hhi : hi ≤ w.heap.size) (hm : m ≤ 16777216) :
    Calls Try.prog 22 #[.int .i64 seq, .slice A m c] w (MadeB2 w (frameBytes seq d)) := by
  have hlen : d.length = m := by simpa using h.1
  have HL := Lib.hid hlen
  by_cases hn : 0 ≤ seq ∧ seq ≤ 100000 ∧ m ≤ 4000
  · obtain ⟨h0, h1, h2⟩ := hn
    obtain ⟨s, rfl⟩ := Int.eq_ofNat_of_zero_le h0
    have hput := Lib.hid (frameBytes_yes (s := s) (d := d) (by omega) (by omega))
    have hfr := Lib.hid (show frame s d = head s m ++ high 4 (crc (head s m)) ++ high 4 (crc d) ++ d by rw [← hlen]; simp [frame])
    have hc1 := crc_lt (head s m)
    have hc2 := crc_lt d
    clear hlen
    obtain ⟨i0, hi0, hz0, hz1, hz2⟩ := info_parts u8_info
    have hmk : ∀ W : World, (Instr.makeSlice 24 (.int .i64 0) (.int .i64 (15 + (m : Int)))).run Try.prog W = .ok (.slice (some ⟨W.heap.size, 0, none⟩) 0 (15 + m)) (W.alloc (.cells (madeCells #[.int .u8 0] (15 + m)) 5)) := fun W => by
      have := run_make (P := Try.prog) W 24 5 i0 _ Try.underlying24 hi0 hz0 .i64 .i64 0 (15 + (m : Int)) (by omega) (by omega) (by rw [hz2]; omega) (by omega)
      rw [hz1, show (15 + (m : Int)).toNat = 15 + m from by omega, Nat.mul_one] at this
      exact this
    have hmade := Own.made (size := 1) (e := 5) w (madeCells #[.int .u8 0] (15 + m)) 0 (15 + m) (by simp only [maxLen]; omega) (by simp [size_madeCells]) (Nat.zero_le _)
    have hone := Seen.one (w.alloc (.cells (madeCells #[.int .u8 0] (15 + m)) 5)) (.int .u8 82) 5
    rw [World.size_alloc] at hone
    go_enter Try.func22, Try.ntmps22
    go_wp2_with (at_builtin; refine wpList_append_seen rfl (.tmp 22) (.tmp 23) _ rfl w.heap.size _ 5 i0 _ 1 1 Try.underlying24 hi0 hz0 hz1 hz2 rfl (by omega) _ 0 (15 + m) _ rfl (hmade.alloc _) _ _ 1 1 _ rfl hone (by simp [Value.oneCell']) (by simp only [maxLen]; omega) (by omega) (by simp <;> omega) ?_; intro A1 c1 w1 own1 hb1)
    clear hmk hmade hone
    rw [Nat.zero_add, Nat.zero_mul, List.take_zero, List.nil_append] at own1
    replace own1 : Own w1 w.heap.size w1.heap.size 5 1 A1 1 c1 ([82].map B) := own1
    have hB1 : Below w.heap.size w w1 := (((Below.refl _ _).alloc (Nat.le_refl _) _).alloc (by simp) _).trans hb1
    clear hb1
    have z1 := hB1.size
    go_wp2_with fail
    refine (putHigh_any (x := s) (k := 3) own1 z1 (Nat.le_refl _) (by omega) (by omega) (by omega)).mono ?_
    rintro e w2 ⟨A2, c2, rfl, own2, hb2⟩
    have hB2 := hB1.trans hb2
    have z2 := hB2.size
    clear own1 hB1 hb2
    go_wp2_with fail
    refine (putHigh_any (x := m) (k := 3) own2 z2 (Nat.le_refl _) (by omega) (by omega) (by omega)).mono ?_
    rintro e w3 ⟨A3, c3, rfl, own3, hb3⟩
    replace own3 : Own w3 w.heap.size w3.heap.size 5 1 A3 (1 + 3 + 3) c3 ((head s m).map B) := own3
    have hB3 := hB2.trans hb3
    have z3 := hB3.size
    clear own2 hB2 hb3
    go_wp2_with fail
    refine (implCrc_any own3.seen (Nat.le_refl _) (by omega)).mono ?_
    rintro e w4 ⟨rfl, hb4⟩
    have own4 := own3.below hb4 (Nat.le_refl _)
    have hB4 := hB3.trans (hb4.mono z3)
    have z4 := hB4.size
    have y4 := hb4.size
    clear own3 hB3 hb4
    go_wp2_with fail
    refine (putHigh_any (x := crc (head s m)) (k := 4) own4 z4 y4 (by omega) (by omega) (by omega)).mono ?_
    rintro e w5 ⟨A5, c5, rfl, own5, hb5⟩
    have hB5 := hB4.trans hb5
    have z5 := hB5.size
    clear own4 hB4 hb5
    go_wp2_with fail
    refine (implCrc_any (h.below hB5 hhi) (by omega) (by omega)).mono ?_
    rintro e w6 ⟨rfl, hb6⟩
    have own6 := own5.below hb6 (Nat.le_refl _)
    have hB6 := hB5.trans (hb6.mono z5)
    have z6 := hB6.size
    have y6 := hb6.size
    clear own5 hB5 hb6
    go_wp2_with fail
    refine (putHigh_any (x := crc d) (k := 4) own6 z6 y6 (by omega) (by omega) (by omega)).mono ?_
    rintro e w7 ⟨A7, c7, rfl, own7, hb7⟩
    have hB7 := hB6.trans hb7
    have z7 := hB7.size
    have hs7 := h.below hB7 hhi
    clear own6 hB6 hb7
    go_wp2_with (at_builtin; refine wpList_append_seen rfl (.tmp 40) (.tmp 41) _ rfl w.heap.size _ 5 i0 _ 1 1 Try.underlying24 hi0 hz0 hz1 hz2 rfl (by omega) A7 _ c7 _ rfl own7 hi A m c _ rfl hs7 (oneCell_B d) (by simp only [maxLen]; omega) (by omega) (by omega) ?_; intro A8 c8 w8 own8 hb8)
    go_ret2
    refine ⟨A8, 1 + 3 + 3 + 4 + 4 + m, c8, by rw [hput.out]; rfl, ?_, hB7.trans hb8⟩
    rw [hput.out]
    show Own _ _ _ _ _ _ _ _ ((frame s d).map B)
    rw [hfr.out, List.map_append (l₂ := d)]
    exact own8
  · have hput := Lib.hid (frameBytes_no (seq := seq) (d := d) (by rw [hlen]; exact hn))
    clear hlen
    by_cases h0 : seq < 0
    · clear hn
      go_enter Try.func22, Try.ntmps22
      go_wp2_with fail
      go_ret2
      exact ⟨none, 0, 0, by rw [hput.out]; rfl, by rw [hput.out]; exact Own.nil_ _ _ _ _ _, Below.refl _ _⟩
    · by_cases h1 : 100000 < seq
      · clear hn
        go_enter Try.func22, Try.ntmps22
        go_wp2_with fail
        go_ret2
        exact ⟨none, 0, 0, by rw [hput.out]; rfl, by rw [hput.out]; exact Own.nil_ _ _ _ _ _, Below.refl _ _⟩
      · have h2 : 4000 < m := by omega
        clear hn
        go_enter Try.func22, Try.ntmps22
        go_wp2_with fail
        go_ret2
        exact ⟨none, 0, 0, by rw [hput.out]; rfl, by rw [hput.out]; exact Own.nil_ _ _ _ _ _, Below.refl _ _⟩

set_option maxRecDepth 100000 in
set_option maxHeartbeats 400000 in
theorem specFrameBytes_any {A : Option Addr} {m c hi : Nat} {d : List UInt8} {w : World} (seq : Int) (h : Seen w hi 1 A m (d.map B)) (hhi : hi ≤ w.heap.size) (hm : m ≤ 16777216) :
    Calls Try.prog 20 #[.int .i64 seq, .slice A m c] w (MadeB2 w (frameBytes seq d)) := by
  have hlen : d.length = m := by simpa using h.1
  have HL := Lib.hid hlen
  by_cases hn : 0 ≤ seq ∧ seq ≤ 100000 ∧ m ≤ 4000
  · obtain ⟨h0, h1, h2⟩ := hn
    obtain ⟨s, rfl⟩ := Int.eq_ofNat_of_zero_le h0
    have hput := Lib.hid (frameBytes_yes (s := s) (d := d) (by omega) (by omega))
    have hfr := Lib.hid (show frame s d = head s m ++ high 4 (crc (head s m)) ++ high 4 (crc d) ++ d by rw [← hlen]; simp [frame])
    have hc1 := crc_lt (head s m)
    have hc2 := crc_lt d
    clear hlen
    obtain ⟨i0, hi0, hz0, hz1, hz2⟩ := info_parts u8_info
    have own0 := Own.made (size := 1) (e := 5) w #[.int .u8 82] 1 1 (by simp only [maxLen]; omega) (by simp) (Nat.le_refl _)
    have hB1 : Below w.heap.size w (w.alloc (.cells #[.int .u8 82] 5)) := (Below.refl _ _).alloc (Nat.le_refl _) _
    have own1 : Own (w.alloc (.cells #[.int .u8 82] 5)) w.heap.size (w.alloc (.cells #[.int .u8 82] 5)).heap.size 5 1 (some ⟨w.heap.size, 0, none⟩) 1 1 ([82].map B) := own0.wider (Nat.le_refl _) (by simp)
    clear own0
    go_enter Try.func20, Try.ntmps20
    have z1 := hB1.size
    go_wp2_with fail
    refine (l02Put_any (x := s) (k := 3) own1 z1 (Nat.le_refl _) (by omega) (by omega) (by omega)).mono ?_
    rintro e w2 ⟨A2, c2, rfl, own2, hb2⟩
    have hB2 := hB1.trans hb2
    have z2 := hB2.size
    clear own1 hB1 hb2
    go_wp2_with fail
    refine (l02Put_any (x := m) (k := 3) own2 z2 (Nat.le_refl _) (by omega) (by omega) (by omega)).mono ?_
    rintro e w3 ⟨A3, c3, rfl, own3, hb3⟩
    replace own3 : Own w3 w.heap.size w3.heap.size 5 1 A3 (1 + 3 + 3) c3 ((head s m).map B) := own3
    have hB3 := hB2.trans hb3
    have z3 := hB3.size
    clear own2 hB2 hb3
    go_wp2_with fail
    refine (specCrc_any own3.seen (by omega)).mono ?_
    rintro e w4 ⟨rfl, rfl⟩
    have own4 := own3
    have hB4 := hB3
    have z4 := z3
    have y4 := Nat.le_refl w3.heap.size
    clear own3 hB3
    go_wp2_with fail
    refine (l02Put_any (x := crc (head s m)) (k := 4) own4 z4 y4 (by omega) (by omega) (by omega)).mono ?_
    rintro e w5 ⟨A5, c5, rfl, own5, hb5⟩
    have hB5 := hB4.trans hb5
    have z5 := hB5.size
    clear own4 hB4 hb5
    go_wp2_with fail
    refine (specCrc_any (h.below hB5 hhi) (by omega)).mono ?_
    rintro e w6 ⟨rfl, rfl⟩
    have own6 := own5
    have hB6 := hB5
    have z6 := z5
    have y6 := Nat.le_refl w5.heap.size
    clear own5 hB5
    go_wp2_with fail
    refine (l02Put_any (x := crc d) (k := 4) own6 z6 y6 (by omega) (by omega) (by omega)).mono ?_
    rintro e w7 ⟨A7, c7, rfl, own7, hb7⟩
    have hB7 := hB6.trans hb7
    have z7 := hB7.size
    have hs7 := h.below hB7 hhi
    clear own6 hB6 hb7
    go_wp2_with (at_builtin; refine wpList_append_seen rfl (.tmp 32) (.tmp 33) _ rfl w.heap.size _ 5 i0 _ 1 1 Try.underlying24 hi0 hz0 hz1 hz2 rfl (by omega) A7 _ c7 _ rfl own7 hi A m c _ rfl hs7 (oneCell_B d) (by simp only [maxLen]; omega) (by omega) (by omega) ?_; intro A8 c8 w8 own8 hb8)
    go_ret2
    refine ⟨A8, 1 + 3 + 3 + 4 + 4 + m, c8, by rw [hput.out]; rfl, ?_, hB7.trans hb8⟩
    rw [hput.out]
    show Own _ _ _ _ _ _ _ _ ((frame s d).map B)
    rw [hfr.out, List.map_append (l₂ := d)]
    exact own8
  · have hput := Lib.hid (frameBytes_no (seq := seq) (d := d) (by rw [hlen]; exact hn))
    clear hlen
    by_cases h0 : seq < 0
    · clear hn
      go_enter Try.func20, Try.ntmps20
      go_wp2_with fail
      go_ret2
      exact ⟨none, 0, 0, by rw [hput.out]; rfl, by rw [hput.out]; exact Own.nil_ _ _ _ _ _, Below.refl _ _⟩
    · by_cases h1 : 100000 < seq
      · clear hn
        go_enter Try.func20, Try.ntmps20
        go_wp2_with fail
        go_ret2
        exact ⟨none, 0, 0, by rw [hput.out]; rfl, by rw [hput.out]; exact Own.nil_ _ _ _ _ _, Below.refl _ _⟩
      · have h2 : 4000 < m := by omega
        clear hn
        go_enter Try.func20, Try.ntmps20
        go_wp2_with fail
        go_ret2
        exact ⟨none, 0, 0, by rw [hput.out]; rfl, by rw [hput.out]; exact Own.nil_ _ _ _ _ _, Below.refl _ _⟩
end Go.Proofs.Ytlaiiphngekhnaa
