
/- Contracts of PutVar, the program's and the model's: both append the digits of a number. -/

import Derived.Test.YtikcoplihfoiiaaDoorByte

import Derived.Test.YtikcoplihfoiiaaDoorNum

import Derived.Test.YtikcoplihfoiiaaDoorVarMath

namespace Go.Proofs.YtikcoplihfoiiaaDoor

open Go.RowKit

theorem B_small {R : Nat} (h : R < 128) : Value.int .u8 (R : Int) = B (UInt8.ofNat R) := by
  simp only [B, UInt8.toNat_ofNat']
  rw [Nat.mod_eq_of_lt (by omega)]
theorem B_mid (R : Nat) : Value.int .u8 ((R : Int) % 128 + 128) = B (UInt8.ofNat (R % 128 + 128)) := by
  simp only [B, UInt8.toNat_ofNat']
  congr 1
  omega
theorem or128 : ∀ x : Fin 256, (x.val ||| 128) = x.val % 128 + 128 := by decide +kernel
theorem B_big (R : Nat) : Value.int .u8 (bits .or .u8 ((R : Int) % 256) 128) = B (UInt8.ofNat (R % 128 + 128)) := by
  have h1 : ((R : Int) % 256) = ((R % 256 : Nat) : Int) := by omega
  have h2 : bits .or .u8 ((R % 256 : Nat) : Int) ((128 : Nat) : Int) = (((R % 256) ||| 128 : Nat) : Int) := u8_or_nat _ _ (by omega) (by omega)
  have h3 := or128 ⟨R % 256, Nat.mod_lt _ (by omega)⟩
  simp only [B, UInt8.toNat_ofNat']
  rw [h1, show (128 : Int) = ((128 : Nat) : Int) from rfl, h2]
  simp only at h3
  rw [h3]
  congr 1
  omega

set_option maxRecDepth 100000 in
set_option maxHeartbeats 400000 in
theorem implPutVar_any {A : Option Addr} {m c hi : Nat} {bs : List UInt8} {w : World} (n : Int) (h : Seen w hi 1 A m (bs.map B)) (hhi : hi ≤ w.heap.size) (hm : m ≤ 16777216) :
    Calls Tryd.prog 56 #[.slice A m c, .int .i64 n] w (MadeB2 w (putVar bs n)) := by
  by_cases hn : 0 ≤ n ∧ n ≤ 4294967295
  · obtain ⟨h0, h1⟩ := hn
    have hput : Hid (putVar bs n = (bs ++ digits n.toNat, true)) := by show putVar bs n = _; rw [putVar, if_pos ⟨h0, h1⟩]
    obtain ⟨i0, hi0, hz0, hz1, hz2⟩ := info_parts u8_info
    have hmk : ∀ W : World, (Instr.makeSlice 66 (.int .i64 0) (.int .i64 ((m : Int) + 5))).run Tryd.prog W = .ok (.slice (some ⟨W.heap.size, 0, none⟩) 0 (m + 5)) (W.alloc (.cells (madeCells #[.int .u8 0] (m + 5)) 5)) := fun W => by
      have := run_make (P := Tryd.prog) W 66 5 i0 _ Tryd.underlying66 hi0 hz0 .i64 .i64 0 ((m : Int) + 5) (by omega) (by omega) (by rw [hz2]; omega) (by omega)
      rw [hz1, show ((m : Int) + 5).toNat = m + 5 from by omega, Nat.mul_one] at this
      exact this
    have hmade := Own.made (size := 1) (e := 5) w (madeCells #[.int .u8 0] (m + 5)) 0 (m + 5) (by simp only [maxLen]; omega) (by simp [size_madeCells]) (Nat.zero_le _)
    have hlen := Lib.hid h.len
    have hdl := digits_length n.toNat 4 (by omega)
    go_enter Tryd.func56, Tryd.ntmps56
    go_wp2_with (first
      | (go_at_call 72; refine (isNum_yes _ _ h0 h1).mono ?_; rintro e w' ⟨rfl, rfl⟩)
      | (at_builtin; refine wpList_append_seen rfl (.tmp 15) (.tmp 16) _ rfl w.heap.size _ 5 i0 _ 1 1 Tryd.underlying66 hi0 hz0 hz1 hz2 rfl (by omega) _ 0 (m + 5) _ rfl hmade hi A m c _ rfl (h.below ((Below.refl _ _).alloc (Nat.le_refl _) _) hhi) (oneCell_B bs) (by simp only [maxLen]; omega) (by omega) (by simp) ?_; intro A1 c1 w1 hown1 hb1))
    clear hmk hmade
    rw [Nat.zero_add, Nat.zero_mul, List.take_zero, List.nil_append] at hown1
    have hb : Below w.heap.size w w1 := ((Below.refl _ _).alloc (Nat.le_refl _) _).trans hb1
    clear hb1
    go_loopw [6, 7] (fun v r wr => ∃ A2 L c2 R ds, v = .slice A2 L c2 ∧ r = .int .u32 ((R : Nat) : Int) ∧ R ≤ 4294967295 ∧ L ≤ m + ds.length ∧ ds.length + (digits R).length ≤ 5 ∧ ds ++ digits R = digits n.toNat ∧ Own wr w.heap.size wr.heap.size 5 1 A2 L c2 ((bs ++ ds).map B) ∧ Below w.heap.size w wr) (fun _ r _ => (intOf r).toNat)
    case atStart => exact ⟨A1, m, c1, n.toNat, [], rfl, by rw [Int.toNat_of_nonneg h0], by omega, by simp, by simpa using hdl, by simp, by simpa using hown1, hb⟩
    case round =>
      clear hown1 hb hdl
      obtain ⟨A2, L, c2, R, ds, rfl, rfl, hR, hL, hd, he, hown, hb⟩ := hrel
      have hbs := hb.size
      have hE := Lib.hid he
      clear he
      by_cases hlt : R < 128
      · go_wp2_with (at_builtin; refine wpList_append_seen rfl (.tmp 30) (.tmp 33) _ rfl w.heap.size _ 5 i0 _ 1 1 Tryd.underlying66 hi0 hz0 hz1 hz2 rfl (by omega) A2 L c2 _ rfl (hown.alloc _) _ _ 1 1 _ rfl (Seen.one _ _ _) (by simp [Value.oneCell']) (by simp only [maxLen]; omega) (by omega) (by simp; omega) ?_; intro A3 c3 w3 hown3 hb3)
        go_ret2
        refine ⟨A3, L + 1, c3, by rw [hput.out]; rfl, ?_, hb.trans (((Below.refl _ _).alloc (by omega) _).trans hb3)⟩
        rw [hput.out]
        show Own _ _ _ _ _ _ _ _ ((bs ++ digits n.toNat).map B)
        rw [← hE.out, digits_small hlt, ← List.append_assoc, List.map_append (l₂ := [_]), List.map_singleton, ← B_small hlt]
        exact hown3
      · go_wp2_with (at_builtin; refine wpList_append_seen rfl (.tmp 22) (.tmp 26) _ rfl w.heap.size _ 5 i0 _ 1 1 Tryd.underlying66 hi0 hz0 hz1 hz2 rfl (by omega) A2 L c2 _ rfl (hown.alloc _) _ _ 1 1 _ rfl (Seen.one _ _ _) (by simp [Value.oneCell']) (by simp only [maxLen]; omega) (by omega) (by simp; omega) ?_; intro A3 c3 w3 hown3 hb3)
        go_roundw
        case rel =>
          have hdb := digits_big hlt
          have hx := B_big R
          refine ⟨A3, L + 1, c3, R / 128, ds ++ [UInt8.ofNat (R % 128 + 128)], rfl, by go_num, by omega, by simp; omega, ?_, ?_, ?_, hb.trans (((Below.refl _ _).alloc (by omega) _).trans hb3)⟩
          · rw [hdb] at hd
            simp at hd ⊢
            omega
          · rw [← hE.out, hdb]; simp
          · rw [← List.append_assoc, List.map_append (l₂ := [_]), List.map_singleton, ← hx]
            exact hown3
        case measure => simp [intOf]; omega
  · have hput : Hid (putVar bs n = ([], false)) := by show putVar bs n = _; rw [putVar, if_neg hn]
    go_enter Tryd.func56, Tryd.ntmps56
    go_wp2_with (go_at_call 72; refine (isNum_no _ _ hn).mono ?_; rintro e w' ⟨rfl, rfl⟩)
    go_ret2
    exact ⟨none, 0, 0, by rw [hput.out]; rfl, by rw [hput.out]; exact Own.nil_ _ _ _ _ _, Below.refl _ _⟩

set_option maxRecDepth 100000 in
set_option maxHeartbeats 400000 in
theorem specPutVar_any {A : Option Addr} {m c hi : Nat} {bs : List UInt8} {w : World} (n : Int) (h : Seen w hi 1 A m (bs.map B)) (hhi : hi ≤ w.heap.size) (hm : m ≤ 16777216) :
    Calls Tryd.prog 55 #[.slice A m c, .int .i64 n] w (MadeB2 w (putVar bs n)) := by
  by_cases hn : 0 ≤ n ∧ n ≤ 4294967295
  · obtain ⟨h0, h1⟩ := hn
    have hput : Hid (putVar bs n = (bs ++ digits n.toNat, true)) := by show putVar bs n = _; rw [putVar, if_pos ⟨h0, h1⟩]
    obtain ⟨i0, hi0, hz0, hz1, hz2⟩ := info_parts u8_info
    have hmade := Own.made (size := 1) (e := 5) w #[] 0 0 (by simp only [maxLen]; omega) (by simp) (Nat.zero_le _)
    have hlen := Lib.hid h.len
    have hdl := digits_length n.toNat 4 (by omega)
    go_enter Tryd.func55, Tryd.ntmps55
    go_wp2_with (first
      | (go_at_call 71; refine (l01Num_yes _ _ h0 h1).mono ?_; rintro e w' ⟨rfl, rfl⟩)
      | (at_builtin; refine wpList_append_seen rfl (.tmp 10) (.tmp 11) _ rfl w.heap.size _ 5 i0 _ 1 1 Tryd.underlying66 hi0 hz0 hz1 hz2 rfl (by omega) _ 0 0 _ rfl hmade hi A m c _ rfl (h.below ((Below.refl _ _).alloc (Nat.le_refl _) _) hhi) (oneCell_B bs) (by simp only [maxLen]; omega) (by omega) (by simp) ?_; intro A1 c1 w1 hown1 hb1))
    clear hmade
    rw [Nat.zero_add, Nat.zero_mul, List.take_zero, List.nil_append] at hown1
    have hb : Below w.heap.size w w1 := ((Below.refl _ _).alloc (Nat.le_refl _) _).trans hb1
    clear hb1
    go_loopw [6, 1] (fun v r wr => ∃ A2 L c2 R ds, v = .slice A2 L c2 ∧ r = .int .i64 ((R : Nat) : Int) ∧ R ≤ 4294967295 ∧ L ≤ m + ds.length ∧ ds.length + (digits R).length ≤ 5 ∧ ds ++ digits R = digits n.toNat ∧ Own wr w.heap.size wr.heap.size 5 1 A2 L c2 ((bs ++ ds).map B) ∧ Below w.heap.size w wr) (fun _ r _ => (intOf r).toNat)
    case atStart => exact ⟨A1, m, c1, n.toNat, [], rfl, by rw [Int.toNat_of_nonneg h0], by omega, by simp, by simpa using hdl, by simp, by simpa using hown1, hb⟩
    case round =>
      clear hown1 hb hdl
      obtain ⟨A2, L, c2, R, ds, rfl, rfl, hR, hL, hd, he, hown, hb⟩ := hrel
      have hbs := hb.size
      have hE := Lib.hid he
      clear he
      by_cases hlt : R < 128
      · go_wp2_with (at_builtin; refine wpList_append_seen rfl (.tmp 24) (.tmp 27) _ rfl w.heap.size _ 5 i0 _ 1 1 Tryd.underlying66 hi0 hz0 hz1 hz2 rfl (by omega) A2 L c2 _ rfl (hown.alloc _) _ _ 1 1 _ rfl (Seen.one _ _ _) (by simp [Value.oneCell']) (by simp only [maxLen]; omega) (by omega) (by simp; omega) ?_; intro A3 c3 w3 hown3 hb3)
        go_ret2
        refine ⟨A3, L + 1, c3, by rw [hput.out]; rfl, ?_, hb.trans (((Below.refl _ _).alloc (by omega) _).trans hb3)⟩
        rw [hput.out]
        show Own _ _ _ _ _ _ _ _ ((bs ++ digits n.toNat).map B)
        rw [← hE.out, digits_small hlt, ← List.append_assoc, List.map_append (l₂ := [_]), List.map_singleton, ← B_small hlt]
        exact hown3
      · go_wp2_with (at_builtin; refine wpList_append_seen rfl (.tmp 15) (.tmp 20) _ rfl w.heap.size _ 5 i0 _ 1 1 Tryd.underlying66 hi0 hz0 hz1 hz2 rfl (by omega) A2 L c2 _ rfl (hown.alloc _) _ _ 1 1 _ rfl (Seen.one _ _ _) (by simp [Value.oneCell']) (by simp only [maxLen]; omega) (by omega) (by simp; omega) ?_; intro A3 c3 w3 hown3 hb3)
        go_roundw
        case rel =>
          have hdb := digits_big hlt
          refine ⟨A3, L + 1, c3, R / 128, ds ++ [UInt8.ofNat (R % 128 + 128)], rfl, by go_num, by omega, by simp; omega, ?_, ?_, ?_, hb.trans (((Below.refl _ _).alloc (by omega) _).trans hb3)⟩
          · rw [hdb] at hd
            simp at hd ⊢
            omega
          · rw [← hE.out, hdb]; simp
          · rw [← List.append_assoc, List.map_append (l₂ := [_]), List.map_singleton, ← B_mid]
            exact hown3
        case measure => simp [intOf]; omega
  · have hput : Hid (putVar bs n = ([], false)) := by show putVar bs n = _; rw [putVar, if_neg hn]
    go_enter Tryd.func55, Tryd.ntmps55
    go_wp2_with (go_at_call 71; refine (l01Num_no _ _ hn).mono ?_; rintro e w' ⟨rfl, rfl⟩)
    go_ret2
    exact ⟨none, 0, 0, by rw [hput.out]; rfl, by rw [hput.out]; exact Own.nil_ _ _ _ _ _, Below.refl _ _⟩
end Go.Proofs.YtikcoplihfoiiaaDoor
