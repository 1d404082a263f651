
/- What FnChan asks of channels, as mathematics. -/

import Derived.Test.YtgdmcdblhpdlmaaChanMake

import Derived.Test.YtgdmcdblhpdlmaaChanLawY

import Derived.Test.YtgdmcdblhpdlmaaChanLawZ

namespace Go.Proofs.Ytgdmcdblhpdlmaa
set_option linter.unusedSimpArgs false
set_option linter.unusedVariables false
open Go.RowKit

theorem recv_ok {x : DChan} (hok : chanOkB x = true) : chanOkB (recvX x).1 = true := by
  have hok0 := hok
  obtain ⟨h1, h2, h3, h4, h5⟩ := ok_parts hok
  obtain ⟨cap, buf, sends, recvs, cl⟩ := x
  simp only at *
  cases sends with
  | nil =>
    cases buf with
    | nil => exact hok0
    | cons b bs =>
      unfold vainB givesB at h2
      simp at h2
      simp only [List.all_cons, Bool.and_eq_true] at h3
      refine ok_of (x := ⟨cap, bs, [], recvs, cl⟩) (by simp at h1 ⊢; omega) ?_ h3.2 rfl h5
      unfold vainB
      rw [h2]
      simp
  | cons s ss =>
    obtain ⟨d, ds, hdd⟩ : ∃ d ds, buf ++ [s.fVal] = d :: ds := by cases buf <;> simp
    have hlen : buf.length = ds.length := by have := congrArg List.length hdd; simpa using this
    unfold vainB at h2
    simp only [Bool.or_eq_false_iff, Bool.and_eq_false_iff, decide_eq_false_iff_not] at h2
    have ht : takesB buf.length recvs.length cap cl = false := by
      rcases h2.1 with h | h
      · simp at h
      · exact h
    simp only [List.all_cons, Bool.and_eq_true] at h4
    have hv : (d :: ds).all okV = true := by
      rw [← hdd, List.all_append, h3]
      have h6 := h4.1
      unfold okW at h6
      simp only [Bool.and_eq_true] at h6
      simp [h6.2]
    simp only [List.all_cons, Bool.and_eq_true] at hv
    have ht2 := ht
    unfold takesB at ht2
    simp only [Bool.or_eq_false_iff, decide_eq_false_iff_not] at ht2
    have hr0 : recvs.length = 0 := by omega
    obtain rfl := List.length_eq_zero_iff.1 hr0
    show chanOkB (recvX ⟨cap, buf, s :: ss, [], cl⟩).1 = true
    have hx : (recvX ⟨cap, buf, s :: ss, [], cl⟩).1 = ⟨cap, ds, ss, [], cl⟩ := by simp only [recvX, hdd]
    rw [hx]
    refine ok_of (x := ⟨cap, ds, ss, [], cl⟩) (by simp only; omega) ?_ hv.2 h4.2 rfl
    unfold vainB
    simp only
    rw [← hlen, ht]
    simp
/-- Where there were values, the first of them is taken. -/
theorem recv_first {x : DChan} {b : Int} {bs : List Int} (h : x.fBuf = b :: bs) : (recvX x).2.1 = b ∧ (recvX x).2.2.1 = true := by
  obtain ⟨cap, buf, sends, recvs, cl⟩ := x
  simp only at h
  subst h
  cases sends <;> exact ⟨rfl, rfl⟩
theorem send_told {x : DChan} (hok : chanOkB x = true) : 0 ≤ (sendX x 7).2.fG ∨ ((sendX x 7).2.fG < 0 ∧ ∃ pre, (sendX x 7).1.fBuf = pre ++ [7]) := by
  obtain ⟨h1, h2, h3, h4, h5⟩ := ok_parts hok
  obtain ⟨cap, buf, sends, recvs, cl⟩ := x
  cases recvs with
  | nil => exact .inr ⟨show (-1 : Int) < 0 by decide, buf, rfl⟩
  | cons r rs =>
    left
    simp only [List.all_cons, Bool.and_eq_true] at h5
    have h6 := h5.1
    unfold okR okW at h6
    simp only [Bool.and_eq_true, decide_eq_true_eq] at h6
    exact h6.1.1.1
theorem close_ok {x : DChan} (hok : chanOkB x = true) : chanOkB ⟨x.fCap, x.fBuf, [], [], true⟩ = true := by
  obtain ⟨h1, h2, h3, h4, h5⟩ := ok_parts hok
  exact ok_of (x := ⟨x.fCap, x.fBuf, [], [], true⟩) h1 (by simp [vainB]) h3 rfl rfl
theorem see_buf {w : World} {hi : Nat} {x : DChan} {q : Int} {A1 A2 A3 : Option Addr} {n1 c1 n2 c2 n3 c3 : Nat} {b : Bool} (h : layChan.see w hi x [.int .i64 q, .slice A1 n1 c1, .slice A2 n2 c2, .slice A3 n3 c3, .bool b]) : SeenR Lay.int w hi A1 n1 x.fBuf := by
  obtain ⟨_, _, _, _, _, _, _, _, _, heq, -, ⟨-, -, sB⟩, -, -⟩ := seeChan h
  simp only [List.cons.injEq, Value.slice.injEq, and_true] at heq
  obtain ⟨-, ⟨rfl, rfl, rfl⟩, -⟩ := heq
  exact sB

set_option maxRecDepth 100000 in
set_option maxHeartbeats 1000000 in
theorem sameInts_any {w : World} {hi hi' n c c' : Nat} {A A' : Option Addr} {xs : List Int} (h : SeenR Lay.int w hi A n xs) (h' : SeenR Lay.int w hi' A' n xs) (hn : n ≤ 1048576) :
    Calls Try.prog 20 #[.slice A n c, .slice A' n c'] w (SaysTrue w) := by
  have HL := Lib.hid h.1
  go_enter Try.func20, Try.ntmps20
  go_wp2_with fail
  go_loopw [13] (fun i wr => ∃ k m : Nat, k ≤ n ∧ i = .int .i64 (k : Int) ∧ wr = w.drewN m) (fun i _ => n - (intOf i).toNat)
  case atStart => exact ⟨0, 0, Nat.zero_le _, rfl, rfl⟩
  case round =>
    obtain ⟨k, m, hk, rfl, rfl⟩ := hrel
    by_cases hlt : k < n
    · obtain ⟨hx, g, o, vs, rfl, hg, ⟨rfl, hw⟩, hcell⟩ := h.at_ hlt
      obtain ⟨hx', g', o', vs', rfl, hg', ⟨rfl, hw'⟩, hcell'⟩ := h'.at_ hlt
      have cc := hcell 0 _ rfl
      have dd := hcell' 0 _ rfl
      simp only [show Lay.int.size = 1 from rfl, Nat.add_zero, Nat.mul_one] at cc dd
      generalize xs[k] = x at *
      have hi0 : (0 : Int) ≤ (k : Int) := by omega
      have hi1 : (k : Int) < (n : Int) := by omega
      clear hcell hcell'
      go_wp2_with fail
      go_quiet (fail)
      go_wp2_with fail
      go_roundw
      case rel => exact ⟨k + 1, _, by omega, by go_num, rfl⟩
      case measure => simp [intOf]; omega
    · go_wp2_with fail
      go_ret
      exact ⟨rfl, below_drawn (Below.refl _ _) _⟩
end Go.Proofs.Ytgdmcdblhpdlmaa
