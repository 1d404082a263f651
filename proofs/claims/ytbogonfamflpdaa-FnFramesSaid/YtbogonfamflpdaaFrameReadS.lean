/- The contract of the model's FrameRead. -/
import Derived.Test.YtbogonfamflpdaaFrameReadC
namespace Go.Proofs.Ytbogonfamflpdaa
open Go.RowKit

theorem still_quiet {P : Program} {f : FuncId} {args : Array Value} {w : World} {n : Nat} {v : Value} (h : Calls P f args (w.drewN n) fun e w' => e = .returned v ∧ w.drewN n = w') :
    Calls P f args (w.drewN n) fun e w'' => e = .returned v ∧ ∃ m, w'' = w.drewN m := h.mono fun _ _ h => ⟨h.1, n, h.2.symm⟩

theorem Seen.drawn {w : World} {hi n size : Nat} {A : Option Addr} {xs : List Value} (h : Seen w hi size A n xs) (m : Nat) : Seen (w.drewN m) hi size A n xs := h

theorem part_succ {bs : List UInt8} {q j : Nat} (h : q + j < bs.length) : num (part bs q (j + 1)) = num (part bs q j) * 256 + bs[q + j].toNat := by
  have h2 : j < (bs.drop q).length := by rw [List.length_drop]; omega
  have := num_take_succ h2
  rw [List.getElem_drop] at this
  exact this
theorem part_lt (bs : List UInt8) (q : Nat) {j : Nat} (h : j ≤ 4) : num (part bs q j) < 4294967296 := num_take_lt _ h

section
variable {A : Option Addr} {n c hi : Nat} {bs : List UInt8} {w : World}
set_option maxRecDepth 100000 in
theorem l02Get_any {q k : Nat} (h : Seen w hi 1 A n (bs.map B)) (hk : k ≤ 4) (hq : q + k ≤ n) (hm : n ≤ 16777216) :
    Calls Try.prog 38 #[.slice A n c, .int .i64 (q : Int), .int .i64 (k : Int)] w fun e w' => e = .returned (.int .i64 ((num (part bs q k) : Nat) : Int)) ∧ w = w' := by
  have hlen := Lib.hid (show bs.length = n by simpa using h.1)
  go_enter Try.func38, Try.ntmps38
  go_wp2_with fail
  go_loop [7, 8] (fun x i => ∃ j : Nat, j ≤ k ∧ i = .int .i64 ((q + j : Nat) : Int) ∧ x = .int .i64 ((num (part bs q j) : Nat) : Int)) (fun _ i => q + k - (intOf i).toNat)
  case atStart => exact ⟨0, Nat.zero_le _, rfl, by simp [part, num, numFrom]⟩
  case round =>
    obtain ⟨j, hj, rfl, rfl⟩ := hrel
    have hN := part_lt bs q (show j ≤ 4 by omega)
    by_cases hlt : j < k
    · have hkb : q + j < bs.length := by rw [hlen.out]; omega
      obtain ⟨g, o, u, rfl, hg, hu, hc⟩ := h.at_ (j := q + j) (by omega)
      have hx : u = B bs[q + j] := by simpa [List.getElem?_eq_getElem hkb] using hu.symm
      subst hx
      have hst := Lib.hid (part_succ hkb)
      generalize bs[q + j] = x at *
      clear hu
      generalize num (part bs q j) = N at *
      have hx256 : x.toNat < 256 := x.toNat_lt
      go_wp2_with fail
      go_round
      case rel => exact ⟨j + 1, by omega, by go_num, by rw [hst.out]; go_num⟩
      case measure => simp [intOf]; omega
    · go_wp2_with fail
      go_ret
      have : j = k := by omega
      subst this
      exact ⟨rfl, rfl⟩

theorem nothing_end {k : Int} {q} (hq : q = (0, [], 0, k)) {W : World} (hb : Below w.heap.size w W) :
    FreadPost w q (.returned (.tuple #[.int .i64 0, .slice none 0 0, .int .i64 0, .int .i64 k])) W := by
  subst hq
  exact ⟨none, 0, 0, rfl, Own.nil_ _ _ _ _ _, hb⟩

set_option maxRecDepth 100000 in
theorem specRead_out (p : Int) (hn : bs.length = n) (hp : p < 0 ∨ (n : Int) < p) :
    Calls Try.prog 20 #[.slice A n c, .int .i64 p] w (FreadPost w (fread bs p)) := by
  have hq := Lib.hid (fread_out (b := bs) (p := p) (by rw [hn]; exact hp))
  by_cases h0 : p < 0
  · clear hp
    go_enter Try.func20, Try.ntmps20
    go_wp2_with fail
    refine bodyPost_ret (v := .tuple #[.int .i64 0, .slice none 0 0, .int .i64 0, .int .i64 1]) (by simp [results, Try.results20, go_sem]) rfl ?_
    exact nothing_end hq.out (Below.refl _ _)
  · have hp' : (n : Int) < p := by omega
    clear hp
    go_enter Try.func20, Try.ntmps20
    go_wp2_with fail
    refine bodyPost_ret (v := .tuple #[.int .i64 0, .slice none 0 0, .int .i64 0, .int .i64 1]) (by simp [results, Try.results20, go_sem]) rfl ?_
    exact nothing_end hq.out (Below.refl _ _)

set_option maxRecDepth 100000 in
theorem specRead_short {p : Nat} (hn : bs.length = n) (hm : n ≤ 16777216) (hp : p ≤ n) (hr : n - p < 11) :
    Calls Try.prog 20 #[.slice A n c, .int .i64 (p : Int)] w (FreadPost w (fread bs p)) := by
  have hq := Lib.hid (fread_no (b := bs) (p := p) (by omega) (rd_2 (by simp; omega)) (by omega))
  clear hn
  go_enter Try.func20, Try.ntmps20
  go_wp2_with fail
  refine bodyPost_ret (v := .tuple #[.int .i64 0, .slice none 0 0, .int .i64 0, .int .i64 2]) (by simp [results, Try.results20, go_sem]) rfl ?_
  exact nothing_end (k := 2) hq.out (Below.refl _ _)

set_option maxRecDepth 100000 in
set_option maxHeartbeats 400000 in
theorem specRead_mark {p : Nat} (h : Seen w hi 1 A n (bs.map B)) (hc : n ≤ c) (hm : n ≤ 16777216) (hp : p ≤ n) (hr : 11 ≤ n - p) (hx : (bs.drop p).head? ≠ some 82) :
    Calls Try.prog 20 #[.slice A n c, .int .i64 (p : Int)] w (FreadPost w (fread bs p)) := by
  have hlen : bs.length = n := by simpa using h.1
  have P1 : part (bs.drop p) 1 3 = part bs (p + 1) 3 := by simp [part]
  have P4 : part (bs.drop p) 4 3 = part bs (p + 4) 3 := by simp [part]
  have P7 : part (bs.drop p) 7 4 = part bs (p + 7) 4 := by simp [part]
  have P0 : part (bs.drop p) 0 7 = part bs p 7 := by simp [part]
  have b1 := part_lt bs (p + 1) (show 3 ≤ 4 by omega)
  have b4 := part_lt bs (p + 4) (show 3 ≤ 4 by omega)
  have s7 : Seen w hi 1 (cutA A p c) 7 ((part bs p 7).map B) := by simpa [part] using h.cut (l := p) (m := 7) (by omega) hc
  have k7 : ∀ W, (Instr.slice 22 (.slice A n c) (some (.int .i64 (p : Int))) (some (.int .i64 ((p : Int) + 7))) none).run Try.prog W = .ok (.slice (cutA A p c) 7 (c - p)) W := fun W => by
    have := run_cut_lh Try.underlying22 u8_size W A n c (p : Int) ((p : Int) + 7) (by omega) (by omega) (by omega)
    rwa [Int.toNat_natCast, show ((p : Int) + 7).toNat - p = 7 by omega] at this
  obtain ⟨g, o, u, rfl, hgh, hu, hc0⟩ := h.at_ (j := p) (by omega)
  have hh : (bs.drop p).head? = some (bs[p]'(by omega)) := by rw [List.head?_drop, List.getElem?_eq_getElem]
  have hxx : u = B (bs[p]'(by omega)) := by simpa [List.getElem?_eq_getElem (show p < bs.length by omega)] using hu.symm
  subst hxx
  have hq := Lib.hid (fread_no (b := bs) (p := p) (by omega) (rd_3 (by simp; omega) (.inl hx)) (by omega))
  rw [hh] at hx
  generalize bs[p]'(by omega) = x at *
  have hne : ((x.toNat : Int) == 82) = false := by
    rw [beq_eq_false_iff_ne]
    intro e
    have e2 : x.toNat = (82 : UInt8).toNat := by have : (82 : UInt8).toNat = 82 := rfl; omega
    exact hx (by rw [UInt8.toNat_inj.1 e2])
  have hne2 : ((x.toNat : Int) != 82) = true := by rw [bne, hne]; rfl
  clear hx hh hu hlen P1 P4 P7 P0 k7 s7
  go_enter Try.func20, Try.ntmps20
  go_wp2_with fail
  refine (l02Get_any (q := p + 1) (k := 3) h (by omega) (by omega) hm).mono ?_
  rintro e w' ⟨rfl, rfl⟩
  go_wp2_with fail
  refine (l02Get_any (q := p + 4) (k := 3) h (by omega) (by omega) hm).mono ?_
  rintro e w' ⟨rfl, rfl⟩
  go_wp2_with fail
  go_quiet (fail)
  go_wp2_with fail
  refine bodyPost_ret (v := .tuple #[.int .i64 0, .slice none 0 0, .int .i64 0, .int .i64 3]) (by simp [results, Try.results20, go_sem]) rfl ?_
  exact nothing_end (k := 3) hq.out (below_drawn (Below.refl _ _) _)

set_option maxRecDepth 100000 in
set_option maxHeartbeats 400000 in
theorem specRead_sum {p : Nat} (h : Seen w hi 1 A n (bs.map B)) (hc : n ≤ c) (hm : n ≤ 16777216) (hp : p ≤ n) (hr : 11 ≤ n - p) (hx : (bs.drop p).head? = some 82) (hs : num (part (bs.drop p) 7 4) ≠ crc (part (bs.drop p) 0 7)) :
    Calls Try.prog 20 #[.slice A n c, .int .i64 (p : Int)] w (FreadPost w (fread bs p)) := by
  have hlen : bs.length = n := by simpa using h.1
  have P1 : part (bs.drop p) 1 3 = part bs (p + 1) 3 := by simp [part]
  have P4 : part (bs.drop p) 4 3 = part bs (p + 4) 3 := by simp [part]
  have P7 : part (bs.drop p) 7 4 = part bs (p + 7) 4 := by simp [part]
  have P0 : part (bs.drop p) 0 7 = part bs p 7 := by simp [part]
  have b1 := part_lt bs (p + 1) (show 3 ≤ 4 by omega)
  have b4 := part_lt bs (p + 4) (show 3 ≤ 4 by omega)
  have s7 : Seen w hi 1 (cutA A p c) 7 ((part bs p 7).map B) := by simpa [part] using h.cut (l := p) (m := 7) (by omega) hc
  have k7 : ∀ W, (Instr.slice 22 (.slice A n c) (some (.int .i64 (p : Int))) (some (.int .i64 ((p : Int) + 7))) none).run Try.prog W = .ok (.slice (cutA A p c) 7 (c - p)) W := fun W => by
    have := run_cut_lh Try.underlying22 u8_size W A n c (p : Int) ((p : Int) + 7) (by omega) (by omega) (by omega)
    rwa [Int.toNat_natCast, show ((p : Int) + 7).toNat - p = 7 by omega] at this
  obtain ⟨g, o, u, rfl, hgh, hu, hc0⟩ := h.at_ (j := p) (by omega)
  have hh : (bs.drop p).head? = some (bs[p]'(by omega)) := by rw [List.head?_drop, List.getElem?_eq_getElem]
  have hxx : u = B (bs[p]'(by omega)) := by simpa [List.getElem?_eq_getElem (show p < bs.length by omega)] using hu.symm
  subst hxx
  have hq := Lib.hid (fread_no (b := bs) (p := p) (by omega) (rd_3 (by simp; omega) (.inr (.inl hs))) (by omega))
  have hx0 : bs[p]'(by omega) = 82 := by rw [hh] at hx; exact Option.some.inj hx
  rw [hx0] at hc0
  rw [P7, P0] at hs
  have hne : ((num (part bs (p + 7) 4) : Int) == (crc (part bs p 7) : Int)) = false := by rw [beq_eq_false_iff_ne]; omega
  have hne2 : ((num (part bs (p + 7) 4) : Int) != (crc (part bs p 7) : Int)) = true := bne_cast hs
  clear hx hx0 hh hu hlen P1 P4 P7 P0 hs
  go_enter Try.func20, Try.ntmps20
  go_wp2_with fail
  refine (l02Get_any (q := p + 1) (k := 3) h (by omega) (by omega) hm).mono ?_
  rintro e w' ⟨rfl, rfl⟩
  go_wp2_with fail
  refine (l02Get_any (q := p + 4) (k := 3) h (by omega) (by omega) hm).mono ?_
  rintro e w' ⟨rfl, rfl⟩
  go_wp2_with fail
  have v7 : IntKind.i64.wrap ((p : Int) + 7) = (p : Int) + 7 := IntWalk.i64_in _ (by omega)
  go_quiet ((first
    | (go_at_call 38; exact still_quiet (l02Get_any (q := p + 7) (k := 4) (h.drawn _) (by omega) (by omega) hm))
    | (go_at_call 35; exact still_quiet (specCrc_any (s7.drawn _) (by omega)))))
  go_wp2_with fail
  refine bodyPost_ret (v := .tuple #[.int .i64 0, .slice none 0 0, .int .i64 0, .int .i64 3]) (by simp [results, Try.results20, go_sem]) rfl ?_
  exact nothing_end (k := 3) hq.out (below_drawn (Below.refl _ _) _)

set_option maxRecDepth 100000 in
set_option maxHeartbeats 400000 in
theorem specRead_seq {p : Nat} (h : Seen w hi 1 A n (bs.map B)) (hc : n ≤ c) (hm : n ≤ 16777216) (hp : p ≤ n) (hr : 11 ≤ n - p) (hx : (bs.drop p).head? = some 82) (hs : num (part (bs.drop p) 7 4) = crc (part (bs.drop p) 0 7)) (hg : 100000 < num (part (bs.drop p) 1 3)) :
    Calls Try.prog 20 #[.slice A n c, .int .i64 (p : Int)] w (FreadPost w (fread bs p)) := by
  have hlen : bs.length = n := by simpa using h.1
  have P1 : part (bs.drop p) 1 3 = part bs (p + 1) 3 := by simp [part]
  have P4 : part (bs.drop p) 4 3 = part bs (p + 4) 3 := by simp [part]
  have P7 : part (bs.drop p) 7 4 = part bs (p + 7) 4 := by simp [part]
  have P0 : part (bs.drop p) 0 7 = part bs p 7 := by simp [part]
  have b1 := part_lt bs (p + 1) (show 3 ≤ 4 by omega)
  have b4 := part_lt bs (p + 4) (show 3 ≤ 4 by omega)
  have s7 : Seen w hi 1 (cutA A p c) 7 ((part bs p 7).map B) := by simpa [part] using h.cut (l := p) (m := 7) (by omega) hc
  have k7 : ∀ W, (Instr.slice 22 (.slice A n c) (some (.int .i64 (p : Int))) (some (.int .i64 ((p : Int) + 7))) none).run Try.prog W = .ok (.slice (cutA A p c) 7 (c - p)) W := fun W => by
    have := run_cut_lh Try.underlying22 u8_size W A n c (p : Int) ((p : Int) + 7) (by omega) (by omega) (by omega)
    rwa [Int.toNat_natCast, show ((p : Int) + 7).toNat - p = 7 by omega] at this
  obtain ⟨g, o, u, rfl, hgh, hu, hc0⟩ := h.at_ (j := p) (by omega)
  have hh : (bs.drop p).head? = some (bs[p]'(by omega)) := by rw [List.head?_drop, List.getElem?_eq_getElem]
  have hxx : u = B (bs[p]'(by omega)) := by simpa [List.getElem?_eq_getElem (show p < bs.length by omega)] using hu.symm
  subst hxx
  have hq := Lib.hid (fread_no (b := bs) (p := p) (by omega) (rd_3 (by simp; omega) (.inr (.inr (.inl hg)))) (by omega))
  have hx0 : bs[p]'(by omega) = 82 := by rw [hh] at hx; exact Option.some.inj hx
  rw [hx0] at hc0
  rw [P7, P0] at hs
  have hne : ((num (part bs (p + 7) 4) : Int) == (crc (part bs p 7) : Int)) = true := by rw [hs]; simp
  have hne2 : ((num (part bs (p + 7) 4) : Int) != (crc (part bs p 7) : Int)) = false := bne_same hs
  rw [P1] at hg
  have hd : decide ((100000 : Int) < (num (part bs (p + 1) 3) : Int)) = true := by simp; omega
  clear hx hx0 hh hu hlen P1 P4 P7 P0 hs
  go_enter Try.func20, Try.ntmps20
  go_wp2_with fail
  refine (l02Get_any (q := p + 1) (k := 3) h (by omega) (by omega) hm).mono ?_
  rintro e w' ⟨rfl, rfl⟩
  go_wp2_with fail
  refine (l02Get_any (q := p + 4) (k := 3) h (by omega) (by omega) hm).mono ?_
  rintro e w' ⟨rfl, rfl⟩
  go_wp2_with fail
  have v7 : IntKind.i64.wrap ((p : Int) + 7) = (p : Int) + 7 := IntWalk.i64_in _ (by omega)
  go_quiet ((first
    | (go_at_call 38; exact still_quiet (l02Get_any (q := p + 7) (k := 4) (h.drawn _) (by omega) (by omega) hm))
    | (go_at_call 35; exact still_quiet (specCrc_any (s7.drawn _) (by omega)))))
  go_wp2_with fail
  refine bodyPost_ret (v := .tuple #[.int .i64 0, .slice none 0 0, .int .i64 0, .int .i64 3]) (by simp [results, Try.results20, go_sem]) rfl ?_
  exact nothing_end (k := 3) hq.out (below_drawn (Below.refl _ _) _)

set_option maxRecDepth 100000 in
set_option maxHeartbeats 400000 in
theorem specRead_size {p : Nat} (h : Seen w hi 1 A n (bs.map B)) (hc : n ≤ c) (hm : n ≤ 16777216) (hp : p ≤ n) (hr : 11 ≤ n - p) (hx : (bs.drop p).head? = some 82) (hs : num (part (bs.drop p) 7 4) = crc (part (bs.drop p) 0 7)) (hg1 : num (part (bs.drop p) 1 3) ≤ 100000) (hg : 4000 < num (part (bs.drop p) 4 3)) :
    Calls Try.prog 20 #[.slice A n c, .int .i64 (p : Int)] w (FreadPost w (fread bs p)) := by
  have hlen : bs.length = n := by simpa using h.1
  have P1 : part (bs.drop p) 1 3 = part bs (p + 1) 3 := by simp [part]
  have P4 : part (bs.drop p) 4 3 = part bs (p + 4) 3 := by simp [part]
  have P7 : part (bs.drop p) 7 4 = part bs (p + 7) 4 := by simp [part]
  have P0 : part (bs.drop p) 0 7 = part bs p 7 := by simp [part]
  have b1 := part_lt bs (p + 1) (show 3 ≤ 4 by omega)
  have b4 := part_lt bs (p + 4) (show 3 ≤ 4 by omega)
  have s7 : Seen w hi 1 (cutA A p c) 7 ((part bs p 7).map B) := by simpa [part] using h.cut (l := p) (m := 7) (by omega) hc
  have k7 : ∀ W, (Instr.slice 22 (.slice A n c) (some (.int .i64 (p : Int))) (some (.int .i64 ((p : Int) + 7))) none).run Try.prog W = .ok (.slice (cutA A p c) 7 (c - p)) W := fun W => by
    have := run_cut_lh Try.underlying22 u8_size W A n c (p : Int) ((p : Int) + 7) (by omega) (by omega) (by omega)
    rwa [Int.toNat_natCast, show ((p : Int) + 7).toNat - p = 7 by omega] at this
  obtain ⟨g, o, u, rfl, hgh, hu, hc0⟩ := h.at_ (j := p) (by omega)
  have hh : (bs.drop p).head? = some (bs[p]'(by omega)) := by rw [List.head?_drop, List.getElem?_eq_getElem]
  have hxx : u = B (bs[p]'(by omega)) := by simpa [List.getElem?_eq_getElem (show p < bs.length by omega)] using hu.symm
  subst hxx
  have hq := Lib.hid (fread_no (b := bs) (p := p) (by omega) (rd_3 (by simp; omega) (.inr (.inr (.inr hg)))) (by omega))
  have hx0 : bs[p]'(by omega) = 82 := by rw [hh] at hx; exact Option.some.inj hx
  rw [hx0] at hc0
  rw [P7, P0] at hs
  have hne : ((num (part bs (p + 7) 4) : Int) == (crc (part bs p 7) : Int)) = true := by rw [hs]; simp
  have hne2 : ((num (part bs (p + 7) 4) : Int) != (crc (part bs p 7) : Int)) = false := bne_same hs
  rw [P1] at hg1
  rw [P4] at hg
  have hd1 : decide ((100000 : Int) < (num (part bs (p + 1) 3) : Int)) = false := by simp; omega
  have hd : decide ((4000 : Int) < (num (part bs (p + 4) 3) : Int)) = true := by simp; omega
  clear hx hx0 hh hu hlen P1 P4 P7 P0 hs
  go_enter Try.func20, Try.ntmps20
  go_wp2_with fail
  refine (l02Get_any (q := p + 1) (k := 3) h (by omega) (by omega) hm).mono ?_
  rintro e w' ⟨rfl, rfl⟩
  go_wp2_with fail
  refine (l02Get_any (q := p + 4) (k := 3) h (by omega) (by omega) hm).mono ?_
  rintro e w' ⟨rfl, rfl⟩
  go_wp2_with fail
  have v7 : IntKind.i64.wrap ((p : Int) + 7) = (p : Int) + 7 := IntWalk.i64_in _ (by omega)
  go_quiet ((first
    | (go_at_call 38; exact still_quiet (l02Get_any (q := p + 7) (k := 4) (h.drawn _) (by omega) (by omega) hm))
    | (go_at_call 35; exact still_quiet (specCrc_any (s7.drawn _) (by omega)))))
  go_wp2_with fail
  refine bodyPost_ret (v := .tuple #[.int .i64 0, .slice none 0 0, .int .i64 0, .int .i64 3]) (by simp [results, Try.results20, go_sem]) rfl ?_
  exact nothing_end (k := 3) hq.out (below_drawn (Below.refl _ _) _)

set_option maxRecDepth 100000 in
set_option maxHeartbeats 400000 in
theorem specRead_cut {p : Nat} (h : Seen w hi 1 A n (bs.map B)) (hc : n ≤ c) (hm : n ≤ 16777216) (hp : p ≤ n) (hr : 11 ≤ n - p) (hx : (bs.drop p).head? = some 82) (hs : num (part (bs.drop p) 7 4) = crc (part (bs.drop p) 0 7)) (hg1 : num (part (bs.drop p) 1 3) ≤ 100000) (hg : num (part (bs.drop p) 4 3) ≤ 4000) (hk : n - p < 15 + num (part (bs.drop p) 4 3)) :
    Calls Try.prog 20 #[.slice A n c, .int .i64 (p : Int)] w (FreadPost w (fread bs p)) := by
  have hlen : bs.length = n := by simpa using h.1
  have P1 : part (bs.drop p) 1 3 = part bs (p + 1) 3 := by simp [part]
  have P4 : part (bs.drop p) 4 3 = part bs (p + 4) 3 := by simp [part]
  have P7 : part (bs.drop p) 7 4 = part bs (p + 7) 4 := by simp [part]
  have P0 : part (bs.drop p) 0 7 = part bs p 7 := by simp [part]
  have b1 := part_lt bs (p + 1) (show 3 ≤ 4 by omega)
  have b4 := part_lt bs (p + 4) (show 3 ≤ 4 by omega)
  have s7 : Seen w hi 1 (cutA A p c) 7 ((part bs p 7).map B) := by simpa [part] using h.cut (l := p) (m := 7) (by omega) hc
  have k7 : ∀ W, (Instr.slice 22 (.slice A n c) (some (.int .i64 (p : Int))) (some (.int .i64 ((p : Int) + 7))) none).run Try.prog W = .ok (.slice (cutA A p c) 7 (c - p)) W := fun W => by
    have := run_cut_lh Try.underlying22 u8_size W A n c (p : Int) ((p : Int) + 7) (by omega) (by omega) (by omega)
    rwa [Int.toNat_natCast, show ((p : Int) + 7).toNat - p = 7 by omega] at this
  obtain ⟨g, o, u, rfl, hgh, hu, hc0⟩ := h.at_ (j := p) (by omega)
  have hh : (bs.drop p).head? = some (bs[p]'(by omega)) := by rw [List.head?_drop, List.getElem?_eq_getElem]
  have hxx : u = B (bs[p]'(by omega)) := by simpa [List.getElem?_eq_getElem (show p < bs.length by omega)] using hu.symm
  subst hxx
  have hq := Lib.hid (fread_no (b := bs) (p := p) (by omega) (rd_4 (by simp; omega) (by rintro (h | h | h | h); exact h hx; exact h hs; omega; omega) (by simp; omega)) (by omega))
  have hx0 : bs[p]'(by omega) = 82 := by rw [hh] at hx; exact Option.some.inj hx
  rw [hx0] at hc0
  rw [P7, P0] at hs
  have hne : ((num (part bs (p + 7) 4) : Int) == (crc (part bs p 7) : Int)) = true := by rw [hs]; simp
  have hne2 : ((num (part bs (p + 7) 4) : Int) != (crc (part bs p 7) : Int)) = false := bne_same hs
  rw [P1] at hg1
  rw [P4] at hg hk
  have hd1 : decide ((100000 : Int) < (num (part bs (p + 1) 3) : Int)) = false := by simp; omega
  have hd : decide ((4000 : Int) < (num (part bs (p + 4) 3) : Int)) = false := by simp; omega
  clear hx hx0 hh hu hlen P1 P4 P7 P0 hs
  go_enter Try.func20, Try.ntmps20
  go_wp2_with fail
  refine (l02Get_any (q := p + 1) (k := 3) h (by omega) (by omega) hm).mono ?_
  rintro e w' ⟨rfl, rfl⟩
  go_wp2_with fail
  refine (l02Get_any (q := p + 4) (k := 3) h (by omega) (by omega) hm).mono ?_
  rintro e w' ⟨rfl, rfl⟩
  go_wp2_with fail
  have v7 : IntKind.i64.wrap ((p : Int) + 7) = (p : Int) + 7 := IntWalk.i64_in _ (by omega)
  go_quiet ((first
    | (go_at_call 38; exact still_quiet (l02Get_any (q := p + 7) (k := 4) (h.drawn _) (by omega) (by omega) hm))
    | (go_at_call 35; exact still_quiet (specCrc_any (s7.drawn _) (by omega)))))
  go_wp2_with fail
  refine bodyPost_ret (v := .tuple #[.int .i64 0, .slice none 0 0, .int .i64 0, .int .i64 4]) (by simp [results, Try.results20, go_sem]) rfl ?_
  exact nothing_end (k := 4) hq.out (below_drawn (Below.refl _ _) _)

set_option maxRecDepth 100000 in
set_option maxHeartbeats 400000 in
theorem specRead_right {p : Nat} (h : Seen w hi 1 A n (bs.map B)) (hc : n ≤ c) (hm : n ≤ 16777216) (hp : p ≤ n) (hr : 11 ≤ n - p) (hx : (bs.drop p).head? = some 82) (hs : num (part (bs.drop p) 7 4) = crc (part (bs.drop p) 0 7)) (hg1 : num (part (bs.drop p) 1 3) ≤ 100000) (hg : num (part (bs.drop p) 4 3) ≤ 4000) (hhi : hi ≤ w.heap.size) (hk : 15 + num (part (bs.drop p) 4 3) ≤ n - p) :
    Calls Try.prog 20 #[.slice A n c, .int .i64 (p : Int)] w (FreadPost w (fread bs p)) := by
  have hlen : bs.length = n := by simpa using h.1
  have P1 : part (bs.drop p) 1 3 = part bs (p + 1) 3 := by simp [part]
  have P4 : part (bs.drop p) 4 3 = part bs (p + 4) 3 := by simp [part]
  have P7 : part (bs.drop p) 7 4 = part bs (p + 7) 4 := by simp [part]
  have P0 : part (bs.drop p) 0 7 = part bs p 7 := by simp [part]
  have b1 := part_lt bs (p + 1) (show 3 ≤ 4 by omega)
  have b4 := part_lt bs (p + 4) (show 3 ≤ 4 by omega)
  have s7 : Seen w hi 1 (cutA A p c) 7 ((part bs p 7).map B) := by simpa [part] using h.cut (l := p) (m := 7) (by omega) hc
  have k7 : ∀ W, (Instr.slice 22 (.slice A n c) (some (.int .i64 (p : Int))) (some (.int .i64 ((p : Int) + 7))) none).run Try.prog W = .ok (.slice (cutA A p c) 7 (c - p)) W := fun W => by
    have := run_cut_lh Try.underlying22 u8_size W A n c (p : Int) ((p : Int) + 7) (by omega) (by omega) (by omega)
    rwa [Int.toNat_natCast, show ((p : Int) + 7).toNat - p = 7 by omega] at this
  obtain ⟨g, o, u, rfl, hgh, hu, hc0⟩ := h.at_ (j := p) (by omega)
  have hh : (bs.drop p).head? = some (bs[p]'(by omega)) := by rw [List.head?_drop, List.getElem?_eq_getElem]
  have hxx : u = B (bs[p]'(by omega)) := by simpa [List.getElem?_eq_getElem (show p < bs.length by omega)] using hu.symm
  subst hxx
  have hq5 := Lib.hid (fun h5 => fread_no (b := bs) (p := p) (by omega) (rd_5 (by simp; omega) (by rintro (h | h | h | h); exact h hx; exact h hs; omega; omega) (by simp; omega) h5) (by omega))
  have hq0 := Lib.hid (fun h5 => fread_yes (b := bs) (p := p) (by omega) (rd_0 (by simp; omega) (by rintro (h | h | h | h); exact h hx; exact h hs; omega; omega) (by simp; omega) h5))
  have HL := Lib.hid (show (part (bs.drop p) 15 (num (part (bs.drop p) 4 3))).length = num (part (bs.drop p) 4 3) by rw [part_length, List.length_drop]; omega)
  have H11 := Lib.hid (show part (bs.drop p) 11 4 = part bs (p + 11) 4 by simp [part])
  have H15 := Lib.hid (show part (bs.drop p) 15 (num (part (bs.drop p) 4 3)) = part bs (p + 15) (num (part bs (p + 4) 3)) by rw [P4]; simp [part])
  have H1 := Lib.hid P1
  have H4 := Lib.hid P4
  have hx0 : bs[p]'(by omega) = 82 := by rw [hh] at hx; exact Option.some.inj hx
  rw [hx0] at hc0
  rw [P7, P0] at hs
  have hne : ((num (part bs (p + 7) 4) : Int) == (crc (part bs p 7) : Int)) = true := by rw [hs]; simp
  have hne2 : ((num (part bs (p + 7) 4) : Int) != (crc (part bs p 7) : Int)) = false := bne_same hs
  rw [P1] at hg1
  rw [P4] at hg hk
  have hd1 : decide ((100000 : Int) < (num (part bs (p + 1) 3) : Int)) = false := by simp; omega
  have hd : decide ((4000 : Int) < (num (part bs (p + 4) 3) : Int)) = false := by simp; omega
  obtain ⟨i0, hi0, hz0, hz1, hz2⟩ := info_parts u8_info
  have s15 : Seen w hi 1 (cutA (some ⟨g, o, none⟩) (p + 15) c) (num (part bs (p + 4) 3)) ((part bs (p + 15) (num (part bs (p + 4) 3))).map B) := by
    have := h.cut (l := p + 15) (m := num (part bs (p + 4) 3)) (c := c) (by omega) hc
    rwa [← List.map_drop, ← List.map_take] at this
  have k15 : ∀ W, (Instr.slice 22 (.slice (some ⟨g, o, none⟩) n c) (some (.int .i64 ((p : Int) + 15))) (some (.int .i64 ((p : Int) + 15 + (num (part bs (p + 4) 3) : Int)))) none).run Try.prog W = .ok (.slice (cutA (some ⟨g, o, none⟩) (p + 15) c) (num (part bs (p + 4) 3)) (c - (p + 15))) W := fun W => by
    have := run_cut_lh Try.underlying22 u8_size W (some ⟨g, o, none⟩) n c ((p : Int) + 15) ((p : Int) + 15 + (num (part bs (p + 4) 3) : Int)) (by omega) (by omega) (by omega)
    rwa [show ((p : Int) + 15).toNat = p + 15 by omega, show ((p : Int) + 15 + (num (part bs (p + 4) 3) : Int)).toNat - (p + 15) = num (part bs (p + 4) 3) by omega] at this
  clear hx hx0 hh hu hlen P1 P4 P7 P0 hs
  go_enter Try.func20, Try.ntmps20
  go_wp2_with fail
  refine (l02Get_any (q := p + 1) (k := 3) h (by omega) (by omega) hm).mono ?_
  rintro e w' ⟨rfl, rfl⟩
  go_wp2_with fail
  refine (l02Get_any (q := p + 4) (k := 3) h (by omega) (by omega) hm).mono ?_
  rintro e w' ⟨rfl, rfl⟩
  go_wp2_with fail
  have v7 : IntKind.i64.wrap ((p : Int) + 7) = (p : Int) + 7 := IntWalk.i64_in _ (by omega)
  go_quiet ((first
    | (go_at_call 38; exact still_quiet (l02Get_any (q := p + 7) (k := 4) (h.drawn _) (by omega) (by omega) hm))
    | (go_at_call 35; exact still_quiet (specCrc_any (s7.drawn _) (by omega)))))
  go_wp2_with (at_builtin; refine wpList_append_seen rfl (.tmp 65) (.tmp 73) _ rfl w.heap.size _ 5 i0 _ 1 1 Try.underlying22 hi0 hz0 hz1 hz2 rfl (by omega) _ 0 0 [] rfl (Own.made _ #[] 0 0 (by simp only [maxLen]; omega) (by simp) (Nat.zero_le _)) hi _ (num (part bs (p + 4) 3)) (c - (p + 15)) _ rfl (s15.below ((below_drawn (Below.refl _ _) _).alloc (Nat.le_refl _) _) hhi) (oneCell_B _) (by simp only [maxLen]; omega) (by omega) (by simp) ?_; intro A1 c1 w1 own1 hb1')
  have hb1 : Below w.heap.size w w1 := ((below_drawn (Below.refl _ _) _).alloc (Nat.le_refl _) _).trans hb1'
  have z1 := hb1.size
  clear hb1' k15 k7 s7 s15 hne hne2 hd hd1
  rw [Nat.zero_add, List.nil_append] at own1
  have h' := h.below hb1 hhi
  go_wp2_with fail
  refine (l02Get_any (q := p + 11) (k := 4) h' (by omega) (by omega) hm).mono ?_
  rintro e w' ⟨rfl, rfl⟩
  go_wp2_with fail
  refine (specCrc_any own1.seen (by omega)).mono ?_
  rintro e w' ⟨rfl, rfl⟩
  by_cases h5 : num (part bs (p + 11) 4) = crc (part bs (p + 15) (num (part bs (p + 4) 3)))
  · have HQ := Lib.hid (hq0.out (by rw [H11.out, H15.out]; exact h5))
    have hb5 : ((num (part bs (p + 11) 4) : Int) != (crc (part bs (p + 15) (num (part bs (p + 4) 3))) : Int)) = false := bne_same h5
    clear h5
    go_wp2_with fail
    refine bodyPost_ret (v := .tuple #[.int .i64 (num (part bs (p + 1) 3) : Int), .slice A1 (num (part bs (p + 4) 3)) c1, .int .i64 ((p : Int) + 15 + (num (part bs (p + 4) 3) : Int)), .int .i64 0]) (by simp [results, Try.results20, go_sem]) rfl ?_
    rw [HQ.out]
    refine ⟨A1, _, c1, by rw [HL.out, H1.out, H4.out], ?_, hb1⟩
    rw [H15.out]
    exact own1
  · have HQ := Lib.hid (hq5.out (by rw [H11.out, H15.out]; exact h5))
    have hb5 : ((num (part bs (p + 11) 4) : Int) != (crc (part bs (p + 15) (num (part bs (p + 4) 3))) : Int)) = true := bne_cast h5
    clear h5
    go_wp2_with fail
    refine bodyPost_ret (v := .tuple #[.int .i64 0, .slice none 0 0, .int .i64 0, .int .i64 5]) (by simp [results, Try.results20, go_sem]) rfl ?_
    exact nothing_end (k := 5) HQ.out hb1

theorem specFrameRead_any (p : Int) (h : Seen w hi 1 A n (bs.map B)) (hhi : hi ≤ w.heap.size) (hc : n ≤ c) (hm : n ≤ 16777216) :
    Calls Try.prog 20 #[.slice A n c, .int .i64 p] w (FreadPost w (fread bs p)) := by
  have hlen : bs.length = n := by simpa using h.1
  by_cases hp : p < 0 ∨ (n : Int) < p
  · exact specRead_out p hlen hp
  obtain ⟨q, rfl⟩ := Int.eq_ofNat_of_zero_le (show 0 ≤ p by omega)
  have hq : q ≤ n := by omega
  by_cases hr : n - q < 11
  · exact specRead_short hlen hm hq hr
  by_cases hx : (bs.drop q).head? = some 82
  · by_cases hs : num (part (bs.drop q) 7 4) = crc (part (bs.drop q) 0 7)
    · by_cases hg1 : 100000 < num (part (bs.drop q) 1 3)
      · exact specRead_seq h hc hm hq (by omega) hx hs hg1
      · by_cases hg : 4000 < num (part (bs.drop q) 4 3)
        · exact specRead_size h hc hm hq (by omega) hx hs (by omega) hg
        · by_cases hd : n - q < 15 + num (part (bs.drop q) 4 3)
          · exact specRead_cut h hc hm hq (by omega) hx hs (by omega) (by omega) hd
          · exact specRead_right h hc hm hq (by omega) hx hs (by omega) (by omega) hhi (by omega)
    · exact specRead_sum h hc hm hq (by omega) hx hs
  · exact specRead_mark h hc hm hq (by omega) hx
end
end Go.Proofs.Ytbogonfamflpdaa
