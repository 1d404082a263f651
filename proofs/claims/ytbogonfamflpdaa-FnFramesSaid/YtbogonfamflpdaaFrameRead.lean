/- Contracts of the program's FrameRead: its readers give up by a panic, which is recovered and becomes a code. -/
import Derived.Test.YtbogonfamflpdaaCut
import Derived.Test.YtbogonfamflpdaaFrame
import Derived.Recover
import Derived.WalkLawsBesides
import Derived.RegionCalls
import Derived.Deep.RegionWith
namespace Go.Proofs.Ytbogonfamflpdaa
open Go.RowKit

theorem or_i64 (a b : Nat) (ha : a < 1099511627776) (hb : b < 256) : bits .or .i64 ((a : Int) * 256) (b : Int) = ((a * 256 + b : Nat) : Int) := by
  have hx : (a * 256) ||| b = a * 256 + b := by
    have := Nat.shiftLeft_add_eq_or_of_lt (i := 8) hb a
    rw [Nat.shiftLeft_eq] at this
    exact this.symm
  rw [show ((a : Int) * 256) = ((a * 256 : Nat) : Int) by omega]
  show IntKind.i64.wrap ((BitVec.ofInt 64 ((a * 256 : Nat) : Int) ||| BitVec.ofInt 64 (b : Int)).toNat : Int) = _
  rw [BitVec.toNat_or, BitVec.ofInt_natCast, BitVec.ofInt_natCast, BitVec.toNat_ofNat, BitVec.toNat_ofNat, Nat.mod_eq_of_lt (by omega), Nat.mod_eq_of_lt (by omega), hx, IntKind.wrap_i64]
  omega

theorem num_take_succ {bs : List UInt8} {k : Nat} (h : k < bs.length) : num (bs.take (k + 1)) = num (bs.take k) * 256 + bs[k].toNat := by
  rw [List.take_succ_eq_append_getElem h, num, numFrom_snoc]; rfl
theorem num_take_lt (bs : List UInt8) {k : Nat} (h : k ≤ 4) : num (bs.take k) < 4294967296 := by
  have h1 := num_lt (bs.take k)
  have h2 : 256 ^ (bs.take k).length ≤ 256 ^ 4 := Nat.pow_le_pow_right (by omega) (by rw [List.length_take]; omega)
  omega

set_option maxRecDepth 100000 in
theorem getHigh_any {A : Option Addr} {n c hi : Nat} {bs : List UInt8} {w : World} (h : Seen w hi 1 A n (bs.map B)) (hn : n ≤ 4) :
    Calls Try.prog 50 #[.slice A n c] w fun e w' => e = .returned (.int .i64 ((num bs : Nat) : Int)) ∧ w = w' := by
  have hlen := Lib.hid (show bs.length = n by simpa using h.1)
  go_enter Try.func50, Try.ntmps50
  go_wp2_with fail
  go_loop [3, 5, 8] (fun x _ i => ∃ k : Nat, k ≤ n ∧ i = .int .i64 k ∧ x = .int .i64 ((num (bs.take k) : Nat) : Int)) (fun _ _ i => n - (intOf i).toNat)
  case atStart => exact ⟨0, Nat.zero_le _, rfl, rfl⟩
  case round =>
    obtain ⟨k, hk, rfl, rfl⟩ := hrel
    have hN := num_take_lt bs (show k ≤ 4 by omega)
    by_cases hlt : k < n
    · have hkb : k < bs.length := by rw [hlen.out]; exact hlt
      obtain ⟨g, o, u, rfl, hg, hu, hc⟩ := h.at_ (j := k) (by omega)
      have hx : u = B bs[k] := by simpa [List.getElem?_eq_getElem hkb] using hu.symm
      subst hx
      have hst := Lib.hid (num_take_succ hkb)
      generalize bs[k] = x at *
      clear hu
      generalize num (bs.take k) = N at *
      have hx256 : x.toNat < 256 := x.toNat_lt
      have hor := or_i64 N x.toNat (by omega) hx256
      go_wp2_with fail
      go_round
      case rel => exact ⟨k + 1, by omega, by go_num, by rw [hst.out]; go_num⟩
      case measure => simp [intOf]; omega
    · go_wp2_with fail
      go_ret
      have : k = n := by omega
      subst this
      rw [List.take_of_length_le (by rw [hlen.out]; exact Nat.le_refl _)]
      exact ⟨rfl, rfl⟩

abbrev Fault (k : Int) : Ending := .panicked [{ v := .iface 50 (.int .i64 k), recovered := false }]

theorem giveUp_no {b : Bool} (hb : b = false) (k : Int) (w : World) : Calls Try.prog 41 #[.bool b, .int .i64 k] w fun e w' => e = .returned (.tuple #[]) ∧ w = w' := by
  subst hb
  go_enter Try.func41, Try.ntmps41
  go_wp2
  go_end0
  exact ⟨rfl, rfl⟩
theorem giveUp_yes {b : Bool} (hb : b = true) (k : Int) (w : World) : Calls Try.prog 41 #[.bool b, .int .i64 k] w fun e w' => e = Fault k ∧ w = w' := by
  subst hb
  go_enter Try.func41, Try.ntmps41
  go_wp2
  exact ⟨rfl, rfl, rfl⟩

theorem bne_cast {a b : Nat} (h : a ≠ b) : ((a : Int) != (b : Int)) = true := by
  rw [bne_iff_ne]; omega
theorem bne_same {a b : Nat} (h : a = b) : ((a : Int) != (b : Int)) = false := by subst h; simp

theorem readHead_short {A : Option Addr} {n c : Nat} {w : World} (hn : n < 11) :
    Calls Try.prog 42 #[.slice A n c] w fun e w' => e = Fault 2 ∧ w = w' := by
  go_enter Try.func42, Try.ntmps42
  go_wp2_with fail
  refine (giveUp_yes (by simp; omega) 2 _).mono ?_
  rintro e w' ⟨rfl, rfl⟩
  go_wp2_with fail
  exact ⟨rfl, rfl, rfl⟩

section
variable {A : Option Addr} {n c hi : Nat} {r : List UInt8} {w : World}
set_option maxRecDepth 100000 in
theorem readHead_mark (h : Seen w hi 1 A n (r.map B)) (hn : 11 ≤ n) (hb : r.head? ≠ some 82) :
    Calls Try.prog 42 #[.slice A n c] w fun e w' => e = Fault 3 ∧ w = w' := by
  obtain ⟨g, o, u, rfl, hg, hu, hc⟩ := h.at_ (j := 0) (by omega)
  rw [Nat.add_zero] at hc
  cases r with
  | nil => simp at hu
  | cons x r =>
    have hx : u = B x := by simpa using hu.symm
    subst hx
    have hne : ((x.toNat : Int) == 82) = false := by
      rw [beq_eq_false_iff_ne]
      intro e
      have e2 : x.toNat = (82 : UInt8).toNat := by have : (82 : UInt8).toNat = 82 := rfl; omega
      exact hb (by rw [UInt8.toNat_inj.1 e2]; rfl)
    have hne' := Lib.hid (show ¬ (x.toNat : Int) = 82 by simpa using hne)
    clear hb hu h
    go_enter Try.func42, Try.ntmps42
    go_wp2_with fail
    refine (giveUp_no (by simp; omega) 2 _).mono ?_
    rintro e w' ⟨rfl, rfl⟩
    go_wp2_with fail
    refine (giveUp_yes (by simpa using hne'.out) 3 _).mono ?_
    rintro e w' ⟨rfl, rfl⟩
    go_wp2_with fail
    exact ⟨rfl, rfl, rfl⟩

set_option maxRecDepth 100000 in
theorem readHead_sum (h : Seen w hi 1 A n (r.map B)) (hhi : hi ≤ w.heap.size) (hc : n ≤ c) (hn : 11 ≤ n) (hb : r.head? = some 82) (hs : num (part r 7 4) ≠ crc (part r 0 7)) :
    Calls Try.prog 42 #[.slice A n c] w fun e w' => e = Fault 3 ∧ Below w.heap.size w w' := by
  have s7 : Seen w hi 1 (cutA A 7 c) 4 ((part r 7 4).map B) := by simpa [part] using h.cut (l := 7) (m := 4) (by omega) hc
  have s0 : Seen w hi 1 (cutA A 0 c) 7 ((part r 0 7).map B) := by simpa [part] using h.cut (l := 0) (m := 7) (by omega) hc
  have k7 : ∀ W, (Instr.slice 22 (.slice A n c) (some (.int .i64 7)) (some (.int .i64 11)) none).run Try.prog W = .ok (.slice (cutA A 7 c) 4 (c - 7)) W := fun W => run_cut_lh Try.underlying22 u8_size W A n c 7 11 (by omega) (by omega) (by omega)
  have k0 : ∀ W, (Instr.slice 22 (.slice A n c) none (some (.int .i64 7)) none).run Try.prog W = .ok (.slice (cutA A 0 c) 7 c) W := fun W => run_cut_h Try.underlying22 u8_size W A n c 7 (by omega) (by omega)
  obtain ⟨g, o, u, rfl, hg, hu, hc0⟩ := h.at_ (j := 0) (by omega)
  rw [Nat.add_zero] at hc0
  have hx : u = B 82 := by
    cases r with
    | nil => simp at hu
    | cons x r =>
      have : x = 82 := by simpa using hb
      subst this
      simpa using hu.symm
  subst hx
  clear hu
  have HS := Lib.hid hs
  clear hs h
  go_enter Try.func42, Try.ntmps42
  go_wp2_with fail
  refine (giveUp_no (by simp; omega) 2 _).mono ?_
  rintro e w' ⟨rfl, rfl⟩
  go_wp2_with fail
  refine (giveUp_no (by rfl) 3 _).mono ?_
  rintro e w' ⟨rfl, rfl⟩
  go_wp2_with fail
  have HG := Lib.hid (fun (W : World) (hb : Below w.heap.size w W) => getHigh_any (c := c - 7) (s7.below hb hhi) (by omega))
  have HC := Lib.hid (fun (W : World) (hb : Below w.heap.size w W) => implCrc_any (c := c) (s0.below hb hhi) (by have := hb.size; omega) (by omega))
  have hb0 : Below w.heap.size w w.drew := (Below.refl _ _).drew
  refine wp_region_any (by kernel_rfl) ?_
  try (change wpAny _ _ _ _ _ _ _ (World.drew _))
  refine wpAny_take (i := 0) (v := .slice (some ⟨g, o, none⟩) n c) rfl (by kernel_rfl) (by kernel_rfl) (by kernel_rfl) (fun _ _ _ h => h) (Or.inl ⟨by rfl, fun _ => by go_simp⟩) ?_
  refine wpAny_take (i := 1) (v := .slice (cutA (some ⟨g, o, none⟩) 7 c) 4 (c - 7)) rfl (by kernel_rfl) (by kernel_rfl) (by kernel_rfl) (fun _ _ _ h => h) (Or.inl ⟨by rfl, fun _ => by go_simp⟩) ?_
  refine wpAny_take (i := 3) (v := .slice (some ⟨g, o, none⟩) n c) rfl (by kernel_rfl) (by kernel_rfl) (by kernel_rfl) (fun _ _ _ h => h) (Or.inl ⟨by rfl, fun _ => by go_simp⟩) ?_
  refine wpAny_take (i := 4) (v := .slice (cutA (some ⟨g, o, none⟩) 0 c) 7 c) rfl (by kernel_rfl) (by kernel_rfl) (by kernel_rfl) (fun _ _ _ h => h) (Or.inl ⟨by rfl, fun _ => by go_simp⟩) ?_
  refine wpAny_ready (rs := [2]) (by kernel_rfl) (by simp) ?_
  refine AllReady.cons rfl (fun K hK => ?_) AllReady.nil
  go_simp
  refine (HG.out _ hb0).mono ?_
  rintro e w' ⟨rfl, rfl⟩
  refine hK _ _ ?_
  clear hK K
  refine wpAny_ready (rs := [5]) (by kernel_rfl) (by simp) ?_
  refine AllReady.cons rfl (fun K hK => ?_) AllReady.nil
  go_simp
  refine (HC.out _ hb0).mono ?_
  rintro e w1 ⟨rfl, hb1⟩
  have hb2 := hb0.trans (hb1.mono (by simp))
  refine hK _ _ ?_
  clear hK K
  refine wpAny_take (i := 6) (v := .bool (((num (part r 7 4) : Nat) : Int) != ((crc (part r 0 7) : Nat) : Int))) rfl (by kernel_rfl) (by kernel_rfl) (by kernel_rfl) (fun _ _ _ h => h) (Or.inl ⟨by rfl, fun _ => by go_simp⟩) ?_
  refine wpAny_ready (rs := [7]) (by kernel_rfl) (by simp) ?_
  refine AllReady.cons rfl (fun K hK => ?_) AllReady.nil
  go_simp
  refine (giveUp_yes (bne_cast HS.out) 3 _).mono ?_
  rintro e w' ⟨rfl, rfl⟩
  exact ⟨rfl, rfl, hb2⟩

/-- How readHead ends behind a right sum. -/
def HeadPost (w : World) (r : List UInt8) (e : Ending) (w' : World) : Prop :=
  e = (if 100000 < num (part r 1 3) ∨ 4000 < num (part r 4 3) then Fault 3 else .returned (.tuple #[.int .i64 ((num (part r 1 3) : Nat) : Int), .int .i64 ((num (part r 4 3) : Nat) : Int)])) ∧ Below w.heap.size w w'

set_option maxRecDepth 100000 in
set_option maxHeartbeats 400000 in
theorem readHead_right (h : Seen w hi 1 A n (r.map B)) (hhi : hi ≤ w.heap.size) (hc : n ≤ c) (hn : 11 ≤ n) (hb : r.head? = some 82) (hs : num (part r 7 4) = crc (part r 0 7)) :
    Calls Try.prog 42 #[.slice A n c] w (HeadPost w r) := by
  have s7 : Seen w hi 1 (cutA A 7 c) 4 ((part r 7 4).map B) := by simpa [part] using h.cut (l := 7) (m := 4) (by omega) hc
  have s0 : Seen w hi 1 (cutA A 0 c) 7 ((part r 0 7).map B) := by simpa [part] using h.cut (l := 0) (m := 7) (by omega) hc
  have k7 : ∀ W, (Instr.slice 22 (.slice A n c) (some (.int .i64 7)) (some (.int .i64 11)) none).run Try.prog W = .ok (.slice (cutA A 7 c) 4 (c - 7)) W := fun W => run_cut_lh Try.underlying22 u8_size W A n c 7 11 (by omega) (by omega) (by omega)
  have k0 : ∀ W, (Instr.slice 22 (.slice A n c) none (some (.int .i64 7)) none).run Try.prog W = .ok (.slice (cutA A 0 c) 7 c) W := fun W => run_cut_h Try.underlying22 u8_size W A n c 7 (by omega) (by omega)
  obtain ⟨g, o, u, rfl, hg, hu, hc0⟩ := h.at_ (j := 0) (by omega)
  rw [Nat.add_zero] at hc0
  have hx : u = B 82 := by
    cases r with
    | nil => simp at hu
    | cons x r =>
      have : x = 82 := by simpa using hb
      subst this
      simpa using hu.symm
  subst hx
  clear hu
  have s1 : Seen w hi 1 (cutA (some ⟨g, o, none⟩) 1 c) 3 ((part r 1 3).map B) := by simpa [part] using h.cut (l := 1) (m := 3) (by omega) hc
  have s4 : Seen w hi 1 (cutA (some ⟨g, o, none⟩) 4 c) 3 ((part r 4 3).map B) := by simpa [part] using h.cut (l := 4) (m := 3) (by omega) hc
  have k1 : ∀ W, (Instr.slice 22 (.slice (some ⟨g, o, none⟩) n c) (some (.int .i64 1)) (some (.int .i64 4)) none).run Try.prog W = .ok (.slice (cutA (some ⟨g, o, none⟩) 1 c) 3 (c - 1)) W := fun W => run_cut_lh Try.underlying22 u8_size W (some ⟨g, o, none⟩) n c 1 4 (by omega) (by omega) (by omega)
  have k4 : ∀ W, (Instr.slice 22 (.slice (some ⟨g, o, none⟩) n c) (some (.int .i64 4)) (some (.int .i64 7)) none).run Try.prog W = .ok (.slice (cutA (some ⟨g, o, none⟩) 4 c) 3 (c - 4)) W := fun W => run_cut_lh Try.underlying22 u8_size W (some ⟨g, o, none⟩) n c 4 7 (by omega) (by omega) (by omega)
  have HS := Lib.hid hs
  clear hs h
  go_enter Try.func42, Try.ntmps42
  go_wp2_with fail
  refine (giveUp_no (by simp; omega) 2 _).mono ?_
  rintro e w' ⟨rfl, rfl⟩
  go_wp2_with fail
  refine (giveUp_no (by rfl) 3 _).mono ?_
  rintro e w' ⟨rfl, rfl⟩
  go_wp2_with fail
  have HG := Lib.hid (fun (W : World) (hb : Below w.heap.size w W) => getHigh_any (c := c - 7) (s7.below hb hhi) (by omega))
  have HC := Lib.hid (fun (W : World) (hb : Below w.heap.size w W) => implCrc_any (c := c) (s0.below hb hhi) (by have := hb.size; omega) (by omega))
  have hb0 : Below w.heap.size w w.drew := (Below.refl _ _).drew
  clear s7 s0
  go_region_with (first
    | (go_at_call 50; refine (HG.out _ hb0).mono ?_; rintro e w' ⟨rfl, rfl⟩)
    | (go_at_call 37; refine (HC.out _ hb0).mono ?_; rintro e w1 ⟨rfl, hb1⟩; have hb2 := hb0.trans (hb1.mono (by simp)))
    | (go_at_call 41; refine (giveUp_no (bne_same HS.out) 3 _).mono ?_; rintro e w' ⟨rfl, rfl⟩))
  clear HG HC HS k7 k0 hb0 hb1 hc0 hb
  go_wp2_with fail
  have H1 := Lib.hid (fun (W : World) (hb : Below w.heap.size w W) => getHigh_any (c := c - 1) (s1.below hb hhi) (by omega))
  have H4 := Lib.hid (fun (W : World) (hb : Below w.heap.size w W) => getHigh_any (c := c - 4) (s4.below hb hhi) (by omega))
  clear s1 s4
  have hb3 : Below w.heap.size w w1.drew := hb2.drew
  go_region_with (first
    | (go_at_call 50; (with_reducible refine (H1.out _ hb3).mono ?_); rintro e w' ⟨rfl, rfl⟩)
    | (go_at_call 50; (with_reducible refine (H4.out _ hb3).mono ?_); rintro e w' ⟨rfl, rfl⟩))
  clear H1 H4 k1 k4 hb2
  by_cases h1 : 100000 < num (part r 1 3)
  · have hd := Lib.hid (show (if 100000 < num (part r 1 3) ∨ 4000 < num (part r 4 3) then Fault 3 else .returned (.tuple #[.int .i64 ((num (part r 1 3) : Nat) : Int), .int .i64 ((num (part r 4 3) : Nat) : Int)])) = Fault 3 from if_pos (.inl h1))
    have hp : Hid (HeadPost w r (Fault 3) w1.drew) := ⟨hd.out.symm, hb3⟩
    generalize num (part r 1 3) = N1 at *
    go_wp2_with fail
    refine (giveUp_yes rfl 3 _).mono ?_
    rintro e w' ⟨rfl, rfl⟩
    go_wp2_with fail
    exact ⟨rfl, hp.out⟩
  · by_cases h4 : 4000 < num (part r 4 3)
    · have hd := Lib.hid (show (if 100000 < num (part r 1 3) ∨ 4000 < num (part r 4 3) then Fault 3 else .returned (.tuple #[.int .i64 ((num (part r 1 3) : Nat) : Int), .int .i64 ((num (part r 4 3) : Nat) : Int)])) = Fault 3 from if_pos (.inr h4))
      have hp : Hid (HeadPost w r (Fault 3) w1.drew) := ⟨hd.out.symm, hb3⟩
      generalize num (part r 1 3) = N1 at *
      generalize num (part r 4 3) = N4 at *
      go_wp2_with fail
      refine (giveUp_yes (by simp; omega) 3 _).mono ?_
      rintro e w' ⟨rfl, rfl⟩
      go_wp2_with fail
      exact ⟨rfl, hp.out⟩
    · have hd := Lib.hid (show (if 100000 < num (part r 1 3) ∨ 4000 < num (part r 4 3) then Fault 3 else .returned (.tuple #[.int .i64 ((num (part r 1 3) : Nat) : Int), .int .i64 ((num (part r 4 3) : Nat) : Int)])) = _ from if_neg (by omega))
      have hp : Hid (HeadPost w r _ w1.drew) := ⟨hd.out.symm, hb3⟩
      clear hd
      generalize num (part r 1 3) = N1 at *
      generalize num (part r 4 3) = N4 at *
      go_wp2_with fail
      refine (giveUp_no (by simp; omega) 3 _).mono ?_
      rintro e w' ⟨rfl, rfl⟩
      go_wp2_with fail
      go_ret2
      exact hp.out
end
end Go.Proofs.Ytbogonfamflpdaa
