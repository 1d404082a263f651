/- Contracts of Scan and Whole, the program's and the model's. -/
import Derived.Test.YtbogonfamflpdaaFrameReadS
import Derived.Test.YtbogonfamflpdaaChunk
namespace Go.Proofs.Ytbogonfamflpdaa
open Go.RowKit

/-- Scan has answered q: the chunks lie in memory of their own. -/
def ScanPost (w : World) (q : List (List UInt8) × Nat × Nat) (e : Ending) (w' : World) : Prop :=
  ∃ A c, e = .returned (.tuple #[.slice A q.1.length c, .int .i64 (q.2.1 : Int), .int .i64 (q.2.2 : Int)]) ∧ Chunks w' w.heap.size w'.heap.size A q.1.length c q.1 ∧ Below w.heap.size w w'

/-- How far a scan has come: the chunks ds lie ahead of the place q. -/
def ScanAt (bs : List UInt8) (q : Nat) (ds : List (List UInt8)) : Prop :=
  scanR bs 0 = (ds ++ (scanR (bs.drop q) ds.length).1, q + (scanR (bs.drop q) ds.length).2.1, (scanR (bs.drop q) ds.length).2.2)
theorem ScanAt.start (bs : List UInt8) : ScanAt bs 0 [] := by simp [ScanAt]
theorem ScanAt.done {bs : List UInt8} {q : Nat} {ds : List (List UInt8)} (h : ScanAt bs q ds) (hq : bs.length ≤ q) : scanR bs 0 = (ds, q, 0) := by
  rw [ScanAt, List.drop_of_length_le hq, scanR_nil] at h
  simpa using h
theorem ScanAt.next {bs : List UInt8} {q : Nat} {ds : List (List UInt8)} {d : List UInt8} (h : ScanAt bs q ds) (hr : rd (bs.drop q) = (0, ds.length, d)) : ScanAt bs (q + 15 + d.length) (ds ++ [d]) := by
  rw [ScanAt, scanR_step hr, List.drop_drop] at h
  rw [ScanAt, h, List.length_append, List.length_singleton, show q + 15 + d.length = q + (15 + d.length) by omega]
  simp [Nat.add_assoc]
/-- What is told of the place at which a scan stops. -/
def tail (ended : Bool) (k : Nat) : Nat := if ended then 0 else if k = 2 ∨ k = 4 then 1 else 2
theorem ScanAt.stop {bs : List UInt8} {q : Nat} {ds : List (List UInt8)} (h : ScanAt bs q ds) (hr : ¬ ((rd (bs.drop q)).1 = 0 ∧ (rd (bs.drop q)).2.1 = ds.length)) (hq : q ≤ bs.length) :
    scanR bs 0 = (ds, q, tail (q == bs.length) (rd (bs.drop q)).1) := by
  by_cases he : q = bs.length
  · rw [h.done (by omega), tail, if_pos (by simpa using he)]
  · have hne : bs.drop q ≠ [] := by
      intro e
      have := congrArg List.length e
      rw [List.length_drop] at this
      simp at this; omega
    rw [tail, if_neg (by simpa using he)]
    rw [ScanAt] at h
    by_cases h2 : (rd (bs.drop q)).1 = 2 ∨ (rd (bs.drop q)).1 = 4
    · rw [scanR_torn hne h2] at h
      rw [h, if_pos h2]; simp
    · rw [scanR_bent hne h2 (by omega)] at h
      rw [h, if_neg h2]; simp
theorem rd_room {r d : List UInt8} {s : Nat} (h : rd r = (0, s, d)) : 15 + d.length ≤ r.length := by
  unfold rd at h
  split at h
  · cases h
  split at h
  · cases h
  split at h
  · cases h
  split at h
  · cases h
  · rename_i h1 h2 h3 h4
    injection h with _ h
    injection h with _ h
    rw [← h, part_length]
    omega
theorem rd_code_lt (r : List UInt8) : (rd r).1 ≤ 5 := by
  unfold rd
  repeat' split
  all_goals simp
theorem beq_cast {a b c : Nat} (h : b = c) : (a == b) = ((a : Int) == (c : Int)) := by
  subst h
  rw [Bool.eq_iff_iff]
  simp [Int.natCast_inj]
/-- What FrameRead answers where a scan stops: a code, or a wrong number. -/
theorem fread_stop {bs : List UInt8} {q : Nat} {n : Nat} (hr : ¬ ((rd (bs.drop q)).1 = 0 ∧ (rd (bs.drop q)).2.1 = n)) (hq : q ≤ bs.length) :
    (fread bs q).2.2.2 = ((rd (bs.drop q)).1 : Nat) ∧ ((rd (bs.drop q)).1 = 0 → (fread bs q).1 ≠ (n : Int)) := by
  rw [fread, if_neg (by omega), Int.toNat_natCast]
  by_cases h : (rd (bs.drop q)).1 = 0
  · rw [if_pos h]
    refine ⟨by simp [h], fun _ => ?_⟩
    show ((rd (bs.drop q)).2.1 : Int) ≠ _
    omega
  · rw [if_neg h]
    exact ⟨rfl, fun h' => (h h').elim⟩

theorem tailState_any (ended : Bool) (k : Nat) (w : World) :
    Calls Try.prog 32 #[.bool ended, .int .i64 (k : Int)] w fun e w' => e = .returned (.int .i64 (tail ended k : Nat)) ∧ w = w' := by
  cases ended with
  | true =>
    go_enter Try.func32, Try.ntmps32
    go_wp2
    go_ret
    exact ⟨rfl, rfl⟩
  | false =>
    by_cases h2 : k = 2
    · subst h2
      go_enter Try.func32, Try.ntmps32
      go_wp2
      go_ret
      exact ⟨rfl, rfl⟩
    · by_cases h4 : k = 4
      · subst h4
        go_enter Try.func32, Try.ntmps32
        go_wp2
        go_ret
        exact ⟨rfl, rfl⟩
      · have e2 : ((k : Int) == 2) = false := by rw [beq_eq_false_iff_ne]; omega
        have e4 : ((k : Int) == 4) = false := by rw [beq_eq_false_iff_ne]; omega
        have ht := Lib.hid (show tail false k = 2 by rw [tail, if_neg (by simp), if_neg (by omega)])
        clear h2 h4
        go_enter Try.func32, Try.ntmps32
        go_wp2
        go_ret
        exact ⟨by rw [ht.out]; rfl, rfl⟩

set_option maxRecDepth 100000 in
set_option maxHeartbeats 1000000 in
theorem implScan_any {A : Option Addr} {n c hi : Nat} {bs : List UInt8} {w : World} (h : Seen w hi 1 A n (bs.map B)) (hhi : hi ≤ w.heap.size) (hc : n ≤ c) (hm : n ≤ 16777216) :
    Calls Try.prog 11 #[.slice A n c] w (ScanPost w (scanR bs 0)) := by
  have hlen := Lib.hid (show bs.length = n by simpa using h.1)
  obtain ⟨i0, hi0, hz0, hz1, hz2⟩ := info_parts chunk_info
  go_enter Try.func11, Try.ntmps11
  go_wp2_with fail
  go_loopw [5, 6, 7, 8, 9, 10] (fun v p _ _ _ _ wr => ∃ A2 c2 q ds, v = .slice A2 ds.length c2 ∧ p = .int .i64 ((q : Nat) : Int) ∧ q ≤ n ∧ ds.length ≤ q ∧ Chunks wr w.heap.size wr.heap.size A2 ds.length c2 ds ∧ Below w.heap.size w wr ∧ ScanAt bs q ds) (fun _ p _ _ _ _ _ => n - (intOf p).toNat)
  case atStart => exact ⟨none, 0, 0, [], rfl, rfl, Nat.zero_le _, Nat.le_refl _, Chunks.nil_ _ _ _, Below.refl _ _, ScanAt.start bs⟩
  case round =>
    obtain ⟨A2, c2, q, ds, rfl, rfl, hq, hdq, hch, hb, hat⟩ := hrel
    have HAT := Lib.hid hat
    clear hat
    have z := hb.size
    have hs := h.below hb hhi
    go_wp2_with fail
    refine (implFrameRead_any (q : Int) hs (by omega) hc hm).mono ?_
    rintro e w1 ⟨A3, n3, c3, rfl, own3, hb3⟩
    have z3 := hb3.size
    have hch1 := hch.below hb3 (Nat.le_refl _)
    clear hch hs
    have hB3 := hb.trans (hb3.mono z)
    by_cases hgo : (rd (bs.drop q)).1 = 0 ∧ (rd (bs.drop q)).2.1 = ds.length
    · obtain ⟨d, hrd⟩ : ∃ d, rd (bs.drop q) = (0, ds.length, d) := ⟨(rd (bs.drop q)).2.2, by rw [← hgo.1, ← hgo.2]⟩
      have HF := Lib.hid (fread_yes (b := bs) (p := q) (by rw [hlen.out]; exact hq) hrd)
      have hnext := Lib.hid (HAT.out.next hrd)
      have hroom := rd_room hrd
      rw [List.length_drop, hlen.out] at hroom
      clear hgo hrd
      rw [HF.out] at own3 ⊢
      obtain ⟨hl, vs, hrow, hel, hap, hpw⟩ := hch1
      have HE := Lib.hid hel
      have HA := Lib.hid hap
      have HP := Lib.hid hpw
      clear hel hap hpw hl
      go_wp2_with (at_builtin; refine wpList_append_kin rfl (.tmp 35) (.tmp 38) _ rfl w.heap.size _ 32 i0 _ 1 24 Try.underlying23 hi0 hz0 hz1 hz2 rfl (by omega) A2 ds.length c2 _ rfl (hrow.alloc _) _ _ 1 1 _ rfl (Seen.one _ _ _) (by simp [Value.oneCell']) (by simp only [maxLen]; omega) (by omega) (by simp; omega) ?_; intro A5 c5 w5 own5 hb5 hk5 hA5)
      rw [World.size_alloc] at hk5 hA5
      go_roundw
      case rel =>
        have z5 := hb5.size
        rw [World.size_alloc] at z5
        refine ⟨A5, c5, q + 15 + d.length, ds ++ [d], by simp, by go_num, by omega, by simp; omega, ?_, hB3.trans (((Below.refl _ _).alloc (by omega) _).trans hb5), hnext.out⟩
        rw [List.length_append, List.length_singleton]
        refine chunks_pushed (w2 := w1.alloc (.cells #[.slice A3 n3 c3] 32)) (hi0 := wr.heap.size) rfl (fun i x hx => let ⟨Ai, ni, ci, e, o⟩ := HE.out i x hx; ⟨Ai, ni, ci, e, o.alloc _⟩) (hrow.alloc _) HA.out HP.out ((own3.alloc _).wider (Nat.le_refl _) (by simp)) (by simp; omega) z own5 (by rw [World.size_alloc]; exact hk5) (by rw [World.size_alloc]; exact hA5) (by simp; omega)
      case measure => simp [intOf]; omega
    · have hout := Lib.hid (HAT.out.stop hgo (by rw [hlen.out]; exact hq))
      have hcode := Lib.hid (fread_stop hgo (by rw [hlen.out]; exact hq))
      have hk5 := rd_code_lt (bs.drop q)
      obtain ⟨hK, hS⟩ := hcode.out
      have HS := Lib.hid hS
      clear hcode own3 hS
      generalize (fread bs (q : Int)).1 = S at *
      generalize (fread bs (q : Int)).2.2.1 = X at *
      generalize (fread bs (q : Int)).2.2.2 = K at *
      generalize (rd (bs.drop q)).1 = k at *
      clear hgo
      subst hK
      by_cases hk0 : k = 0
      · subst hk0
        have hne : (S == (ds.length : Int)) = false := by rw [beq_eq_false_iff_ne]; exact HS.out rfl
        have hne2 : (S != (ds.length : Int)) = true := by rw [bne, hne]; rfl
        go_wp2_with fail
        refine (tailState_any _ 0 _).mono ?_
        rintro e w' ⟨rfl, rfl⟩
        go_wp2_with fail
        go_ret3
        refine ⟨A2, c2, ?_, ?_, hB3⟩
        · rw [hout.out]
          rw [beq_cast hlen.out]
          rfl
        · rw [hout.out]; exact hch1.wider (Nat.le_refl _) z3
      · have e0 : ((k : Int) == 0) = false := by rw [beq_eq_false_iff_ne]; omega
        have e1 : ((k : Int) != 0) = true := by rw [bne, e0]; rfl
        clear hk0
        go_wp2_with fail
        refine (tailState_any _ k _).mono ?_
        rintro e w' ⟨rfl, rfl⟩
        go_wp2_with fail
        go_ret3
        refine ⟨A2, c2, ?_, ?_, hB3⟩
        · rw [hout.out]
          rw [beq_cast hlen.out]
          rfl
        · rw [hout.out]; exact hch1.wider (Nat.le_refl _) z3

set_option maxRecDepth 100000 in
set_option maxHeartbeats 1000000 in
theorem specScan_any {A : Option Addr} {n c hi : Nat} {bs : List UInt8} {w : World} (h : Seen w hi 1 A n (bs.map B)) (hhi : hi ≤ w.heap.size) (hc : n ≤ c) (hm : n ≤ 16777216) :
    Calls Try.prog 27 #[.slice A n c] w (ScanPost w (scanR bs 0)) := by
  have hlen := Lib.hid (show bs.length = n by simpa using h.1)
  obtain ⟨i0, hi0, hz0, hz1, hz2⟩ := info_parts chunk_info
  have hmade := Own.made (size := 1) (e := 32) w #[] 0 0 (by simp only [maxLen]; omega) (by simp) (Nat.zero_le _)
  go_enter Try.func27, Try.ntmps27
  go_wp2_with fail
  go_loopw [5, 6, 7, 8, 9, 10] (fun v p _ _ _ _ wr => ∃ A2 c2 q ds, v = .slice A2 ds.length c2 ∧ p = .int .i64 ((q : Nat) : Int) ∧ q ≤ n ∧ ds.length ≤ q ∧ Chunks wr w.heap.size wr.heap.size A2 ds.length c2 ds ∧ Below w.heap.size w wr ∧ ScanAt bs q ds) (fun _ p _ _ _ _ _ => n - (intOf p).toNat)
  case atStart =>
    refine ⟨_, _, 0, [], rfl, rfl, Nat.zero_le _, Nat.le_refl _, ?_, (Below.refl _ _).alloc (Nat.le_refl _) _, ScanAt.start bs⟩
    exact ⟨rfl, [], hmade.wider (Nat.le_refl _) (by simp), fun i d hd => by simp at hd, fun i g hg => by simp at hg, fun i j g _ hg => by simp at hg⟩
  case round =>
    obtain ⟨A2, c2, q, ds, rfl, rfl, hq, hdq, hch, hb, hat⟩ := hrel
    have HAT := Lib.hid hat
    clear hat
    have z := hb.size
    have hs := h.below hb hhi
    clear hmade
    by_cases hlt : q < n
    case neg =>
      obtain rfl : q = n := by omega
      go_wp2_with fail
      go_ret3
      exact ⟨A2, c2, by rw [HAT.out.done (by rw [hlen.out]; exact Nat.le_refl _)]; rfl, by rw [HAT.out.done (by rw [hlen.out]; exact Nat.le_refl _)]; exact hch, hb⟩
    · go_wp2_with fail
      refine (specFrameRead_any (q : Int) hs (by omega) hc hm).mono ?_
      rintro e w1 ⟨A3, n3, c3, rfl, own3, hb3⟩
      have z3 := hb3.size
      have hch1 := hch.below hb3 (Nat.le_refl _)
      clear hch hs
      have hB3 := hb.trans (hb3.mono z)
      by_cases hgo : (rd (bs.drop q)).1 = 0 ∧ (rd (bs.drop q)).2.1 = ds.length
      · obtain ⟨d, hrd⟩ : ∃ d, rd (bs.drop q) = (0, ds.length, d) := ⟨(rd (bs.drop q)).2.2, by rw [← hgo.1, ← hgo.2]⟩
        have HF := Lib.hid (fread_yes (b := bs) (p := q) (by rw [hlen.out]; exact hq) hrd)
        have hnext := Lib.hid (HAT.out.next hrd)
        have hroom := rd_room hrd
        rw [List.length_drop, hlen.out] at hroom
        clear hgo hrd
        rw [HF.out] at own3 ⊢
        obtain ⟨hl, vs, hrow, hel, hap, hpw⟩ := hch1
        have HE := Lib.hid hel
        have HA := Lib.hid hap
        have HP := Lib.hid hpw
        clear hel hap hpw hl
        go_wp2_with (at_builtin; refine wpList_append_kin rfl (.tmp 42) (.tmp 45) _ rfl w.heap.size _ 32 i0 _ 1 24 Try.underlying23 hi0 hz0 hz1 hz2 rfl (by omega) A2 ds.length c2 _ rfl (hrow.alloc _) _ _ 1 1 _ rfl (Seen.one _ _ _) (by simp [Value.oneCell']) (by simp only [maxLen]; omega) (by omega) (by simp; omega) ?_; intro A5 c5 w5 own5 hb5 hk5 hA5)
        rw [World.size_alloc] at hk5 hA5
        go_roundw
        case rel =>
          have z5 := hb5.size
          rw [World.size_alloc] at z5
          refine ⟨A5, c5, q + 15 + d.length, ds ++ [d], by simp, by go_num, by omega, by simp; omega, ?_, hB3.trans (((Below.refl _ _).alloc (by omega) _).trans hb5), hnext.out⟩
          rw [List.length_append, List.length_singleton]
          refine chunks_pushed (w2 := w1.alloc (.cells #[.slice A3 n3 c3] 32)) (hi0 := wr.heap.size) rfl (fun i x hx => let ⟨Ai, ni, ci, e, o⟩ := HE.out i x hx; ⟨Ai, ni, ci, e, o.alloc _⟩) (hrow.alloc _) HA.out HP.out ((own3.alloc _).wider (Nat.le_refl _) (by simp)) (by simp; omega) z own5 (by rw [World.size_alloc]; exact hk5) (by rw [World.size_alloc]; exact hA5) (by simp; omega)
        case measure => simp [intOf]; omega
      · have hout := Lib.hid (HAT.out.stop hgo (by rw [hlen.out]; exact hq))
        have hcode := Lib.hid (fread_stop hgo (by rw [hlen.out]; exact hq))
        have hk5 := rd_code_lt (bs.drop q)
        obtain ⟨hK, hS⟩ := hcode.out
        have HS := Lib.hid hS
        have hends := Lib.hid (show (q == bs.length) = false by rw [hlen.out, beq_eq_false_iff_ne]; omega)
        clear hcode own3 hS
        generalize (fread bs (q : Int)).1 = S at *
        generalize (fread bs (q : Int)).2.2.1 = X at *
        generalize (fread bs (q : Int)).2.2.2 = K at *
        generalize (rd (bs.drop q)).1 = k at *
        clear hgo
        subst hK
        have HO := Lib.hid (hout.out.trans (by rw [hends.out]))
        by_cases hk0 : k = 0
        · subst hk0
          have hne : (S == (ds.length : Int)) = false := by rw [beq_eq_false_iff_ne]; exact HS.out rfl
          have hne2 : (S != (ds.length : Int)) = true := by rw [bne, hne]; rfl
          go_wp2_with fail
          go_ret3
          refine ⟨A2, c2, ?_, ?_, hB3⟩
          · rw [HO.out]
            rfl
          · rw [HO.out]; exact hch1.wider (Nat.le_refl _) z3
        · by_cases hk2 : k = 2
          · subst hk2
            clear hk0
            go_wp2_with fail
            go_ret3
            refine ⟨A2, c2, ?_, ?_, hB3⟩
            · rw [HO.out]
              rfl
            · rw [HO.out]; exact hch1.wider (Nat.le_refl _) z3
          · by_cases hk4 : k = 4
            · subst hk4
              clear hk0 hk2
              go_wp2_with fail
              go_ret3
              refine ⟨A2, c2, ?_, ?_, hB3⟩
              · rw [HO.out]
                rfl
              · rw [HO.out]; exact hch1.wider (Nat.le_refl _) z3
            · have e0 : ((k : Int) == 0) = false := by rw [beq_eq_false_iff_ne]; omega
              have e1 : ((k : Int) != 0) = true := by rw [bne, e0]; rfl
              have e2 : ((k : Int) == 2) = false := by rw [beq_eq_false_iff_ne]; omega
              have e4 : ((k : Int) == 4) = false := by rw [beq_eq_false_iff_ne]; omega
              have ht := Lib.hid (show tail false k = 2 by rw [tail, if_neg (by simp), if_neg (by omega)])
              have HO2 := Lib.hid (HO.out.trans (by rw [ht.out]))
              clear hk0 hk2 hk4
              go_wp2_with fail
              go_ret3
              refine ⟨A2, c2, ?_, ?_, hB3⟩
              · rw [HO2.out]
                rfl
              · rw [HO2.out]; exact hch1.wider (Nat.le_refl _) z3
end Go.Proofs.Ytbogonfamflpdaa
