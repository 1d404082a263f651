
/- Contracts of Stream, the program's and the model's. -/

import Derived.Test.YtlaiiphngekhnaaFrame

import Derived.Test.YtlaiiphngekhnaaChunk

namespace Go.Proofs.Ytlaiiphngekhnaa

open Go.RowKit

theorem room_take_le (ds : List (List UInt8)) (k : Nat) : room (ds.take k) ≤ room ds := by
  have : room (ds.take k ++ ds.drop k) = room (ds.take k) + room (ds.drop k) := by simp [room, -List.take_append_drop]
  rw [List.take_append_drop] at this
  omega
theorem room_snoc (ds : List (List UInt8)) (d : List UInt8) : room (ds ++ [d]) = room ds + (15 + d.length) := by simp [room]
theorem room_ge {ds : List (List UInt8)} {d : List UInt8} (h : d ∈ ds) : d.length + 15 ≤ room ds := by
  induction ds with
  | nil => cases h
  | cons e ds ih =>
    simp only [room, List.map_cons, List.sum_cons]
    rcases List.mem_cons.1 h with h | h
    · subst h; omega
    · have := ih h; simp only [room] at this; omega
theorem take_snoc_get {ds : List (List UInt8)} {i : Nat} {d : List UInt8} (h : ds[i]? = some d) : ds.take (i + 1) = ds.take i ++ [d] := by
  obtain ⟨hi, e⟩ := List.getElem?_eq_some_iff.1 h
  rw [List.take_succ_eq_append_getElem hi, e]
instance fitDec (k : Nat) (ds : List (List UInt8)) : Decidable (Fit k ds) := inferInstanceAs (Decidable (k + ds.length ≤ 100001 ∧ ∀ d ∈ ds, d.length ≤ 4000))
/-- What Stream answers. -/
def streamB (ds : List (List UInt8)) : List UInt8 × Bool := if Fit 0 ds then (stream 0 ds, true) else ([], false)
theorem streamB_no {ds : List (List UInt8)} {d : List UInt8} (hd : d ∈ ds) (h : 100001 < ds.length ∨ 4000 < d.length) : streamB ds = ([], false) := by
  rw [streamB, if_neg]
  intro hf
  rcases h with h | h
  · have := hf.1; omega
  · have := hf.2 d hd; omega

set_option maxRecDepth 100000 in
set_option maxHeartbeats 1000000 in
theorem implStream_any {A : Option Addr} {n c hi : Nat} {ds : List (List UInt8)} {w : World} (h : SeenC w hi A n ds) (hhi : hi ≤ w.heap.size) (hm : n + room ds ≤ 16777216) :
    Calls Try.prog 9 #[.slice A n c] w (MadeB2 w (streamB ds)) := by
  obtain ⟨hl, vs, hrow, hel⟩ := h
  have HL := Lib.hid hl
  have HE := Lib.hid hel
  clear hl hel
  obtain ⟨i0, hi0, hz0, hz1, hz2⟩ := info_parts u8_info
  go_enter Try.func9, Try.ntmps9
  go_wp2_with fail
  go_loopw [4, 5, 6, 7, 8, 11] (fun v _ _ _ _ i wr => ∃ A2 L c2 k, v = .slice A2 L c2 ∧ i = .int .i64 ((k : Nat) : Int) ∧ k ≤ n ∧ L = room (ds.take k) ∧ Own wr w.heap.size wr.heap.size 5 1 A2 L c2 ((stream 0 (ds.take k)).map B) ∧ Below w.heap.size w wr ∧ Fit 0 (ds.take k)) (fun _ _ _ _ _ i _ => n - (intOf i).toNat)
  case atStart => exact ⟨none, 0, 0, 0, rfl, rfl, Nat.zero_le _, rfl, Own.nil_ _ _ _ _ _, Below.refl _ _, by simp [Fit]⟩
  case round =>
    obtain ⟨A2, L, c2, k, rfl, rfl, hk, hL, hown, hb, hfit⟩ := hrel
    have HF := Lib.hid hfit
    have hLb : L ≤ room ds := by rw [hL]; exact room_take_le ds k
    have HLL := Lib.hid hL
    clear hfit hL
    have z := hb.size
    by_cases hlt : k < n
    · have hkd : k < ds.length := by rw [HL.out]; exact hlt
      have hd := Lib.hid (List.getElem?_eq_getElem hkd)
      have hdm := Lib.hid (List.getElem_mem hkd)
      obtain ⟨Ai, ni, ci, e, _, si⟩ := HE.out k _ hd.out
      have hni : ni + 15 ≤ room ds := by have a := room_ge hdm.out; have b := si.len; simp at b; omega
      have hdl := Lib.hid (show (ds[k]).length = ni by have b := si.len; simpa using b)
      obtain ⟨g, o, u, hA, hg, hu, hc⟩ := (hrow.below hb hhi).at_ (j := k) (by omega)
      rw [e] at hu
      injection hu with hu
      subst hu hA
      clear e
      have si' := si.below (hb.trans ((Below.refl w.heap.size wr).alloc z (.cells #[.slice Ai ni ci] 40))) hhi
      clear si
      generalize ds[k] = d at *
      go_wp2_with fail
      refine (implFrameBytes_any (k : Int) si' (by simp; omega) (by omega)).mono ?_
      by_cases hok : k ≤ 100000 ∧ ni ≤ 4000
      · rw [frameBytes_yes hok.1 (by rw [hdl.out]; exact hok.2)]
        rintro e w1 ⟨A3, n3, c3, rfl, own3, hb3⟩
        have z3 := hb3.size
        rw [World.size_alloc] at hb3 z3
        have hn3 : n3 = 15 + ni := by have a := own3.len; rw [List.length_map, frame_length, hdl.out] at a; exact a.symm
        have H3 := Lib.hid hn3
        have hn3' : n3 ≤ 15 + ni := by omega
        clear hn3
        have hown1 := hown.below (((Below.refl _ _).alloc (Nat.le_refl _) _).trans (hb3.mono (by omega))) (Nat.le_refl _)
        have hbb : Below w.heap.size w w1 := (hb.alloc z _).trans (hb3.mono (by omega))
        go_wp2_with (at_builtin; refine wpList_append_seen rfl (.tmp 25) (.tmp 26) _ rfl w.heap.size _ 5 i0 _ 1 1 Try.underlying24 hi0 hz0 hz1 hz2 rfl (by omega) A2 L c2 _ rfl hown1 _ A3 n3 c3 _ rfl own3.seen (oneCell_B _) (by simp only [maxLen]; omega) (by omega) (by omega) ?_; intro A5 c5 w5 own5 hb5)
        go_roundw
        case rel =>
          have hsn := take_snoc_get hd.out
          refine ⟨A5, L + n3, c5, k + 1, rfl, by go_num, by omega, ?_, ?_, hbb.trans hb5, ?_⟩
          · rw [hsn, room_snoc, H3.out, hdl.out, ← HLL.out]
          · rw [hsn, stream_snoc, List.length_take, show 0 + min k ds.length = k by omega, List.map_append]
            exact own5
          · rw [hsn]
            exact ⟨by simp; omega, fun x hx => by
              rcases List.mem_append.1 hx with h | h
              · exact HF.out.2 x h
              · have : x = d := by simpa using h
                subst this
                rw [hdl.out]; exact hok.2⟩
        case measure => simp [intOf]; omega
      · have hno := Lib.hid (frameBytes_no (seq := (k : Int)) (d := d) (by rw [hdl.out]; omega))
        have hbad := Lib.hid (streamB_no (ds := ds) (d := d) hdm.out (by rw [HL.out, hdl.out]; omega) )
        rw [hno.out]
        rintro e w1 ⟨A3, n3, c3, rfl, own3, hb3⟩
        go_wp2_with fail
        go_ret2
        refine ⟨none, 0, 0, by rw [hbad.out]; rfl, by rw [hbad.out]; exact Own.nil_ _ _ _ _ _, (hb.alloc z _).trans (hb3.mono (by simp; omega))⟩
    · go_wp2_with fail
      go_ret2
      have hk' : k = n := by omega
      have htk : ds.take k = ds := List.take_of_length_le (by rw [HL.out]; omega)
      rw [htk] at hown
      have hfit := HF.out
      rw [htk] at hfit
      refine ⟨A2, L, c2, by rw [streamB, if_pos hfit]; rfl, by rw [streamB, if_pos hfit]; exact hown, hb⟩

set_option maxRecDepth 100000 in
set_option maxHeartbeats 1000000 in
theorem specStream_any {A : Option Addr} {n c hi : Nat} {ds : List (List UInt8)} {w : World} (h : SeenC w hi A n ds) (hhi : hi ≤ w.heap.size) (hm : n + room ds ≤ 16777216) :
    Calls Try.prog 7 #[.slice A n c] w (MadeB2 w (streamB ds)) := by
  obtain ⟨hl, vs, hrow, hel⟩ := h
  have HL := Lib.hid hl
  have HE := Lib.hid hel
  clear hl hel
  obtain ⟨i0, hi0, hz0, hz1, hz2⟩ := info_parts u8_info
  have hmade := Own.made (size := 1) (e := 5) w #[] 0 0 (by simp only [maxLen]; omega) (by simp) (Nat.zero_le _)
  go_enter Try.func7, Try.ntmps7
  go_wp2_with fail
  go_loopw [4, 5, 6, 7, 8, 12] (fun v _ _ _ _ i wr => ∃ A2 L c2 k, v = .slice A2 L c2 ∧ i = .int .i64 ((k : Nat) : Int) ∧ k ≤ n ∧ L = room (ds.take k) ∧ Own wr w.heap.size wr.heap.size 5 1 A2 L c2 ((stream 0 (ds.take k)).map B) ∧ Below w.heap.size w wr ∧ Fit 0 (ds.take k)) (fun _ _ _ _ _ i _ => n - (intOf i).toNat)
  case atStart => exact ⟨_, 0, 0, 0, rfl, rfl, Nat.zero_le _, rfl, hmade.wider (Nat.le_refl _) (by simp), (Below.refl _ _).alloc (Nat.le_refl _) _, by simp [Fit]⟩
  case round =>
    clear hmade
    obtain ⟨A2, L, c2, k, rfl, rfl, hk, hL, hown, hb, hfit⟩ := hrel
    have HF := Lib.hid hfit
    have hLb : L ≤ room ds := by rw [hL]; exact room_take_le ds k
    have HLL := Lib.hid hL
    clear hfit hL
    have z := hb.size
    by_cases hlt : k < n
    · have hkd : k < ds.length := by rw [HL.out]; exact hlt
      have hd := Lib.hid (List.getElem?_eq_getElem hkd)
      have hdm := Lib.hid (List.getElem_mem hkd)
      obtain ⟨Ai, ni, ci, e, _, si⟩ := HE.out k _ hd.out
      have hni : ni + 15 ≤ room ds := by have a := room_ge hdm.out; have b := si.len; simp at b; omega
      have hdl := Lib.hid (show (ds[k]).length = ni by have b := si.len; simpa using b)
      obtain ⟨g, o, u, hA, hg, hu, hc⟩ := (hrow.below hb hhi).at_ (j := k) (by omega)
      rw [e] at hu
      injection hu with hu
      subst hu hA
      clear e
      have si' := si.below (hb.trans ((Below.refl w.heap.size wr).alloc z (.cells #[.slice Ai ni ci] 40))) hhi
      clear si
      generalize ds[k] = d at *
      go_wp2_with fail
      refine (specFrameBytes_any (k : Int) si' (by simp; omega) (by omega)).mono ?_
      by_cases hok : k ≤ 100000 ∧ ni ≤ 4000
      · rw [frameBytes_yes hok.1 (by rw [hdl.out]; exact hok.2)]
        rintro e w1 ⟨A3, n3, c3, rfl, own3, hb3⟩
        have z3 := hb3.size
        rw [World.size_alloc] at hb3 z3
        have hn3 : n3 = 15 + ni := by have a := own3.len; rw [List.length_map, frame_length, hdl.out] at a; exact a.symm
        have H3 := Lib.hid hn3
        have hn3' : n3 ≤ 15 + ni := by omega
        clear hn3
        have hown1 := hown.below (((Below.refl _ _).alloc (Nat.le_refl _) _).trans (hb3.mono (by omega))) (Nat.le_refl _)
        have hbb : Below w.heap.size w w1 := (hb.alloc z _).trans (hb3.mono (by omega))
        go_wp2_with (at_builtin; refine wpList_append_seen rfl (.tmp 26) (.tmp 27) _ rfl w.heap.size _ 5 i0 _ 1 1 Try.underlying24 hi0 hz0 hz1 hz2 rfl (by omega) A2 L c2 _ rfl hown1 _ A3 n3 c3 _ rfl own3.seen (oneCell_B _) (by simp only [maxLen]; omega) (by omega) (by omega) ?_; intro A5 c5 w5 own5 hb5)
        go_roundw
        case rel =>
          have hsn := take_snoc_get hd.out
          refine ⟨A5, L + n3, c5, k + 1, rfl, by go_num, by omega, ?_, ?_, hbb.trans hb5, ?_⟩
          · rw [hsn, room_snoc, H3.out, hdl.out, ← HLL.out]
          · rw [hsn, stream_snoc, List.length_take, show 0 + min k ds.length = k by omega, List.map_append]
            exact own5
          · rw [hsn]
            exact ⟨by simp; omega, fun x hx => by
              rcases List.mem_append.1 hx with h | h
              · exact HF.out.2 x h
              · have : x = d := by simpa using h
                subst this
                rw [hdl.out]; exact hok.2⟩
        case measure => simp [intOf]; omega
      · have hno := Lib.hid (frameBytes_no (seq := (k : Int)) (d := d) (by rw [hdl.out]; omega))
        have hbad := Lib.hid (streamB_no (ds := ds) (d := d) hdm.out (by rw [HL.out, hdl.out]; omega) )
        rw [hno.out]
        rintro e w1 ⟨A3, n3, c3, rfl, own3, hb3⟩
        go_wp2_with fail
        go_ret2
        refine ⟨none, 0, 0, by rw [hbad.out]; rfl, by rw [hbad.out]; exact Own.nil_ _ _ _ _ _, (hb.alloc z _).trans (hb3.mono (by simp; omega))⟩
    · go_wp2_with fail
      go_ret2
      have hk' : k = n := by omega
      have htk : ds.take k = ds := List.take_of_length_le (by rw [HL.out]; omega)
      rw [htk] at hown
      have hfit := HF.out
      rw [htk] at hfit
      refine ⟨A2, L, c2, by rw [streamB, if_pos hfit]; rfl, by rw [streamB, if_pos hfit]; exact hown, hb⟩
end Go.Proofs.Ytlaiiphngekhnaa
