
/- The model's MakeChan: a channel that is right. -/

import Derived.Test.YtgdmcdblhpdlmaaChanDraw

namespace Go.Proofs.Ytgdmcdblhpdlmaa
set_option linter.unusedSimpArgs false
set_option linter.unusedVariables false
open Go.RowKit

/-- A channel that is right has been made, in memory of its own. -/
def MadeChan (w : World) (e : Ending) (w' : World) : Prop :=
  ∃ (x : DChan) (vs : List Value), chanOkB x = true ∧ szChan x ≤ 16 ∧ e = .returned (.agg vs.toArray) ∧ layChan.own w' (fun b => w.heap.size ≤ b ∧ b < w'.heap.size) x vs ∧ Below w.heap.size w w'

set_option maxRecDepth 100000 in
set_option maxHeartbeats 4000000 in
theorem makeChan_any {A : Option Addr} {n c hi : Nat} {bs : List UInt8} {w : World} (hs : Seen w hi 1 A n (bs.map B)) (hh : hi ≤ w.heap.size) (hn : n ≤ 16777216) :
    Calls Try.prog 12 #[.slice A n c] w (MadeChan w) := by
  have hb0 : Below w.heap.size w (w.alloc (.cells #[.int .i64 0, .slice none 0 0, .slice none 0 0, .slice none 0 0, .bool false] 26)) := (Below.refl _ _).alloc (Nat.le_refl _) _
  have hs0 := hs.below hb0 hh
  have HR0 := Lib.hid (box_new w #[.int .i64 0, .slice none 0 0, .slice none 0 0, .slice none 0 0, .bool false] 26)
  have HZ0 := Lib.hid (show (w.alloc (.cells #[.int .i64 0, .slice none 0 0, .slice none 0 0, .slice none 0 0, .bool false] 26)).heap.size = w.heap.size + 1 by simp)
  have HB0 := Lib.hid hb0
  clear hb0 hs
  go_enter Try.func12, Try.ntmps12
  go_upto_region 1 with (fail)
  generalize w.alloc (.cells #[.int .i64 0, .slice none 0 0, .slice none 0 0, .slice none 0 0, .bool false] 26) = w0 at *
  go_wp2_with fail
  refine (l01New_any hs0 hn).mono ?_
  rintro e w1 ⟨rfl, hc1, hb1, hz1⟩
  have hzz := HZ0.out
  have hs1 := hs0.below hb1 (by omega)
  have HR1 := Lib.hid (box_keep HR0.out hb1 (by omega))
  have HB1 := Lib.hid (HB0.out.trans (hb1.mono (by omega)))
  have HZ1 := Lib.hid hz1
  have hzz1 : w.heap.size + 2 ≤ w1.heap.size := by omega
  have hdr := l06Draw_any hs1 (by omega) hn hc1
  clear hb1 hs0 hc1 hs1 hz1 hzz
  go_wp2_with fail
  refine hdr.mono ?_
  rintro e w2 ⟨x, vs, hok, hsz, rfl, hown, ht⟩
  have hz2 := ht.size
  have hzz := HZ0.out
  have see2 := layChan.seen (hi := w2.heap.size) hown fun b hb => hb.2
  obtain ⟨A1, n1, c1, A2, n2, c2, A3, n3, c3, rfl, -⟩ := seeChan see2
  have HR2 := Lib.hid (box_turned HR1.out ht (.inl (by omega)))
  have HB2 := Lib.hid (HB1.out.trans (ht.below (B := w.heap.size) (by omega) (by omega)))
  have hal : Below w2.heap.size w2 (w2.alloc (.cells #[.int .i64 x.fCap, .slice A1 n1 c1, .slice A2 n2 c2, .slice A3 n3 c3, .bool x.fClosed] 26)) := (Below.refl _ _).alloc (Nat.le_refl _) _
  have HX3 := Lib.hid (box_new w2 #[.int .i64 x.fCap, .slice A1 n1 c1, .slice A2 n2 c2, .slice A3 n3 c3, .bool x.fClosed] 26)
  have HR3 := Lib.hid (box_keep HR2.out hal (by omega))
  have HB3 := Lib.hid (HB2.out.trans (hal.mono (by omega)))
  have HO3 := Lib.hid (layChan.stay (w' := w2.alloc (.cells #[.int .i64 x.fCap, .slice A1 n1 c1, .slice A2 n2 c2, .slice A3 n3 c3, .bool x.fClosed] 26)) hown (fun b hb hlt => hal.block b hlt) hal.size)
  have hz3 : w2.heap.size + 1 ≤ (w2.alloc (.cells #[.int .i64 x.fCap, .slice A1 n1 c1, .slice A2 n2 c2, .slice A3 n3 c3, .bool x.fClosed] 26)).heap.size := by simp
  clear hal hown see2 ht hdr hzz
  go_upto_region 3 with (fail)
  generalize w2.alloc (.cells #[.int .i64 x.fCap, .slice A1 n1 c1, .slice A2 n2 c2, .slice A3 n3 c3, .bool x.fClosed] 26) = w3 at *
  have e0 := box_cell (j := 0) HX3.out rfl
  have e1 := box_cell (j := 1) HX3.out rfl
  have e2 := box_cell (j := 2) HX3.out rfl
  have e3 := box_cell (j := 3) HX3.out rfl
  have e4 := box_cell (j := 4) HX3.out rfl
  have r0 := box_cell (j := 0) HR3.out rfl
  have r1 := box_cell (j := 1) HR3.out rfl
  have r2 := box_cell (j := 2) HR3.out rfl
  have r3 := box_cell (j := 3) HR3.out rfl
  have r4 := box_cell (j := 4) HR3.out rfl
  have f0 := box_free HR3.out 0
  have f1 := box_free HR3.out 1
  have f2 := box_free HR3.out 2
  have f3 := box_free HR3.out 3
  have f4 := box_free HR3.out 4
  go_wp2_with fail
  have hfin := (box_set (j := 4) (u := .bool x.fClosed) (box_set (j := 3) (u := .slice A3 n3 c3) (box_set (j := 2) (u := .slice A2 n2 c2) (box_set (j := 1) (u := .slice A1 n1 c1) (box_set (j := 0) (u := .int .i64 x.fCap) HR3.out)))))
  have z0 := box_cell (j := 0) hfin rfl
  have z1 := box_cell (j := 1) hfin rfl
  have z2 := box_cell (j := 2) hfin rfl
  have z3 := box_cell (j := 3) hfin rfl
  have z4 := box_cell (j := 4) hfin rfl
  have hBF : Below w.heap.size w (((((w3.setCell ⟨w.heap.size, 0, none⟩ (.int .i64 x.fCap)).setCell ⟨w.heap.size, 1, none⟩ (.slice A1 n1 c1)).setCell ⟨w.heap.size, 2, none⟩ (.slice A2 n2 c2)).setCell ⟨w.heap.size, 3, none⟩ (.slice A3 n3 c3)).setCell ⟨w.heap.size, 4, none⟩ (.bool x.fClosed)) := below_set (below_set (below_set (below_set (below_set HB3.out (Nat.le_refl _) _) (Nat.le_refl _) _) (Nat.le_refl _) _) (Nat.le_refl _) _) (Nat.le_refl _) _
  have hkF : ∀ k, k ≠ w.heap.size → (((((w3.setCell ⟨w.heap.size, 0, none⟩ (.int .i64 x.fCap)).setCell ⟨w.heap.size, 1, none⟩ (.slice A1 n1 c1)).setCell ⟨w.heap.size, 2, none⟩ (.slice A2 n2 c2)).setCell ⟨w.heap.size, 3, none⟩ (.slice A3 n3 c3)).setCell ⟨w.heap.size, 4, none⟩ (.bool x.fClosed)).heap[k]? = w3.heap[k]? := fun k hk => ((((Below.heap_setCell _ _ _ k (by simpa using hk)).trans (Below.heap_setCell _ _ _ k (by simpa using hk))).trans (Below.heap_setCell _ _ _ k (by simpa using hk))).trans (Below.heap_setCell _ _ _ k (by simpa using hk))).trans (Below.heap_setCell _ _ _ k (by simpa using hk))
  have hzF : (((((w3.setCell ⟨w.heap.size, 0, none⟩ (.int .i64 x.fCap)).setCell ⟨w.heap.size, 1, none⟩ (.slice A1 n1 c1)).setCell ⟨w.heap.size, 2, none⟩ (.slice A2 n2 c2)).setCell ⟨w.heap.size, 3, none⟩ (.slice A3 n3 c3)).setCell ⟨w.heap.size, 4, none⟩ (.bool x.fClosed)).heap.size = w3.heap.size := by simp [World.setCell]
  generalize (((((w3.setCell ⟨w.heap.size, 0, none⟩ (.int .i64 x.fCap)).setCell ⟨w.heap.size, 1, none⟩ (.slice A1 n1 c1)).setCell ⟨w.heap.size, 2, none⟩ (.slice A2 n2 c2)).setCell ⟨w.heap.size, 3, none⟩ (.slice A3 n3 c3)).setCell ⟨w.heap.size, 4, none⟩ (.bool x.fClosed)) = WF at *
  refine bodyPost_ret (v := .agg #[.int .i64 x.fCap, .slice A1 n1 c1, .slice A2 n2 c2, .slice A3 n3 c3, .bool x.fClosed]) (by simp [results, Try.results12, go_sem, z0, z1, z2, z3, z4]) rfl ?_
  exact ⟨x, _, hok, hsz, rfl, layChan.wide (layChan.stay (w' := WF) HO3.out (fun b hb hlt => hkF b (by omega)) (by omega)) (fun b hb => by omega), hBF⟩

/-! What is sent and received leaves a channel right. -/

theorem send_code {x : DChan} (hok : chanOkB x = true) : sendC x 7 = if x.fClosed then 2 else if takesB x.fBuf.length x.fRecvs.length x.fCap x.fClosed then 0 else 3 := by
  unfold sendC
  rw [hok, okV_yes (by omega)]
  cases x.fClosed <;> cases takesB x.fBuf.length x.fRecvs.length x.fCap _ <;> rfl
theorem recv_code {x : DChan} (hok : chanOkB x = true) : recvC x = if givesB x.fBuf.length x.fSends.length x.fClosed then 0 else 3 := by
  unfold recvC
  rw [hok]
  cases givesB x.fBuf.length x.fSends.length x.fClosed <;> rfl
theorem ok_parts {x : DChan} (h : chanOkB x = true) : (0 ≤ x.fCap ∧ x.fCap ≤ 4 ∧ (x.fBuf.length : Int) ≤ x.fCap) ∧ vainB x.fBuf.length x.fSends.length x.fRecvs.length x.fCap x.fClosed = false ∧ x.fBuf.all okV = true ∧ x.fSends.all okW = true ∧ x.fRecvs.all okR = true := by
  unfold chanOkB at h
  simp only [Bool.and_eq_true, Bool.not_eq_true'] at h
  exact ⟨of_decide_eq_true h.1, h.2.1, h.2.2.1, h.2.2.2.1, h.2.2.2.2⟩
theorem ok_of {x : DChan} (h1 : 0 ≤ x.fCap ∧ x.fCap ≤ 4 ∧ (x.fBuf.length : Int) ≤ x.fCap) (h2 : vainB x.fBuf.length x.fSends.length x.fRecvs.length x.fCap x.fClosed = false) (h3 : x.fBuf.all okV = true) (h4 : x.fSends.all okW = true) (h5 : x.fRecvs.all okR = true) : chanOkB x = true := by
  unfold chanOkB rangeB
  rw [decide_eq_true h1, h2, h3, h4, h5]
  rfl
theorem send_ok {x : DChan} (hok : chanOkB x = true) (hc : x.fClosed = false) (ht : takesB x.fBuf.length x.fRecvs.length x.fCap x.fClosed = true) : chanOkB (sendX x 7).1 = true := by
  obtain ⟨h1, h2, h3, h4, h5⟩ := ok_parts hok
  obtain ⟨cap, buf, sends, recvs, cl⟩ := x
  simp only at *
  subst hc
  unfold vainB at h2
  rw [ht] at h2
  simp only [Bool.and_true, Bool.or_eq_false_iff, decide_eq_false_iff_not, Bool.and_eq_false_iff] at h2
  have hs0 : sends.length = 0 := by omega
  obtain rfl := List.length_eq_zero_iff.1 hs0
  cases recvs with
  | nil =>
    unfold takesB at ht
    simp at ht
    refine ok_of (x := ⟨cap, buf ++ [7], [], [], false⟩) (by simp; omega) (by simp [vainB]) ?_ rfl rfl
    rw [List.all_append, h3]
    rfl
  | cons r rs =>
    have hb0 : buf.length = 0 := by
      rcases h2.2 with h | h
      · simp at h
      · unfold givesB at h
        simp at h
        rw [h]; rfl
    obtain rfl := List.length_eq_zero_iff.1 hb0
    refine ok_of (x := ⟨cap, [], [], rs, false⟩) (by simpa using h1) (by simp [vainB, givesB]) rfl rfl ?_
    simp only [List.all_cons, Bool.and_eq_true] at h5
    exact h5.2
end Go.Proofs.Ytgdmcdblhpdlmaa
