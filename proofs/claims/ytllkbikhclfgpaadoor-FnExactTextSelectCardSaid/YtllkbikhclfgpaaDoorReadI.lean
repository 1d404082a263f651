
/- The contracts of readNum, readField, readOp, readFields of the program. -/

import Derived.Test.YtllkbikhclfgpaaDoorReadTabs

import Derived.Test.YtllkbikhclfgpaaDoorReadMath

import Derived.Test.YtllkbikhclfgpaaDoorTextNum

import Derived.Test.YtllkbikhclfgpaaDoorIsOp

import Derived.Test.YtllkbikhclfgpaaDoorOps

import Derived.Test.YtllkbikhclfgpaaDoorCaseShapeI

/-! The contracts of the program's readNum, readField, readOp, readFields. -/

namespace Go.Proofs.YtllkbikhclfgpaaDoor
set_option linter.unusedSimpArgs false
set_option linter.unusedVariables false
open Go.RowKit

theorem implTextNum_tabs (s : ByteArray) (w : World) (hs : s.size ≤ 1048576) (hT : TabsR w) : Calls Tryd.prog 77 #[.string s] w fun e w' => e = intBool (textNum s.data.toList) ∧ Below w.heap.size w w' := by
  obtain ⟨h1, ⟨a, h2⟩, ⟨b, h3⟩, _⟩ := hT
  exact implTextNum_any s w hs h1.1 h2 h3

set_option maxHeartbeats 1000000 in
theorem readNum_yes (s : ByteArray) (w : World) (hs : s.size ≤ 1048576) (hT : TabsR w) (h : (textNum s.data.toList).2 = true) :
    Calls Tryd.prog 71 #[.string s] w fun e w' => e = .returned (.tuple #[.int .i64 (textNum s.data.toList).1, .nilIface]) ∧ Below w.heap.size w w' := by
  have HC := Lib.hid (implTextNum_tabs s w hs hT)
  generalize textNum s.data.toList = r at *
  obtain ⟨z, b⟩ := r
  simp only at h
  subst h
  clear hT
  go_enter Tryd.func71, Tryd.ntmps71
  go_wp2_with fail
  refine HC.out.mono ?_
  rintro e w1 ⟨rfl, hb1⟩
  go_wp2_with fail
  go_ret2
  exact ⟨rfl, hb1⟩
set_option maxHeartbeats 1000000 in
theorem readNum_no (s : ByteArray) (w : World) (hs : s.size ≤ 1048576) (hT : TabsR w) (h : (textNum s.data.toList).2 = false) :
    Calls Tryd.prog 71 #[.string s] w fun e w' => e = .returned (.tuple #[.int .i64 0, faultV]) ∧ Below w.heap.size w w' := by
  have HC := Lib.hid (implTextNum_tabs s w hs hT)
  generalize textNum s.data.toList = r at *
  obtain ⟨z, b⟩ := r
  simp only at h
  subst h
  clear hT
  go_enter Tryd.func71, Tryd.ntmps71
  go_wp2_with fail
  refine HC.out.mono ?_
  rintro e w1 ⟨rfl, hb1⟩
  go_wp2_with fail
  go_ret2
  exact ⟨rfl, hb1⟩

/-- A number and whether it was told. -/
def NumPost (w : World) (r : Int × Bool) (e : Ending) (w' : World) : Prop := (if r.2 then e = .returned (.tuple #[.int .i64 r.1, .nilIface]) else e = .returned (.tuple #[.int .i64 0, faultV])) ∧ Below w.heap.size w w'
theorem readNum_any (s : ByteArray) (w : World) (hs : s.size ≤ 1048576) (hT : TabsR w) : Calls Tryd.prog 71 #[.string s] w (NumPost w (textNum s.data.toList)) := by
  unfold NumPost
  cases hb : (textNum s.data.toList).2
  · simpa using readNum_no s w hs hT hb
  · simpa using readNum_yes s w hs hT hb

set_option maxHeartbeats 1000000 in
theorem readField_any (nm : Int) (s : ByteArray) (w : World) (hs : s.size ≤ 1048576) (hT : TabsR w) :
    Calls Tryd.prog 66 #[.int .i64 nm, .string s] w (NumPost w (readF nm s.data.toList)) := by
  have plain : (nm == 4 && s.data.toList == nilW) = false → ∀ b : Bool, b = (nm == 4) → Calls Tryd.prog 66 #[.int .i64 nm, .string s] w (NumPost w (readF nm s.data.toList)) := by
    intro hf b hb
    rw [show readF nm s.data.toList = textNum s.data.toList by rw [readF, if_neg (by rw [hf]; simp)]]
    have HY := Lib.hid (fun h => readNum_yes s w hs hT h)
    have HN := Lib.hid (fun h => readNum_no s w hs hT h)
    unfold NumPost
    generalize textNum s.data.toList = r at *
    obtain ⟨z, ok⟩ := r
    clear hT
    cases b
    · have h4 : (nm == 4) = false := hb.symm
      clear hf hb
      cases ok
      · have HX := Lib.hid (HN.out rfl)
        clear HY HN
        go_enter Tryd.func66, Tryd.ntmps66
        go_wp2_with fail
        refine HX.out.mono ?_
        rintro e w1 ⟨rfl, hb1⟩
        go_wp2_with fail
        go_ret2
        exact ⟨rfl, hb1⟩
      · have HX := Lib.hid (HY.out rfl)
        clear HY HN
        go_enter Tryd.func66, Tryd.ntmps66
        go_wp2_with fail
        refine HX.out.mono ?_
        rintro e w1 ⟨rfl, hb1⟩
        go_wp2_with fail
        go_ret2
        exact ⟨rfl, hb1⟩
    · have hn : (s.toList == [110, 105, 108]) = false := by
        rw [← hb] at hf
        simpa [nilW, toList_data] using hf
      have h4 : (nm == 4) = true := hb.symm
      clear hf hb
      cases ok
      · have HX := Lib.hid (HN.out rfl)
        clear HY HN
        go_enter Tryd.func66, Tryd.ntmps66
        go_wp2_with fail
        refine HX.out.mono ?_
        rintro e w1 ⟨rfl, hb1⟩
        go_wp2_with fail
        go_ret2
        exact ⟨rfl, hb1⟩
      · have HX := Lib.hid (HY.out rfl)
        clear HY HN
        go_enter Tryd.func66, Tryd.ntmps66
        go_wp2_with fail
        refine HX.out.mono ?_
        rintro e w1 ⟨rfl, hb1⟩
        go_wp2_with fail
        go_ret2
        exact ⟨rfl, hb1⟩
  cases hb : (nm == 4 && s.data.toList == nilW)
  · exact plain hb (nm == 4) rfl
  · rw [show readF nm s.data.toList = (-1, true) by rw [readF, if_pos hb]]
    simp only [Bool.and_eq_true] at hb
    have h1 := hb.1
    have hn : (s.toList == [110, 105, 108]) = true := by rw [toList_data]; exact hb.2
    unfold NumPost
    clear hb hT plain
    go_enter Tryd.func66, Tryd.ntmps66
    go_wp2_with fail
    go_ret2
    exact ⟨rfl, Below.refl _ _⟩

/-- What readOp answers of a word. -/
def OpPost (w : World) (q : Int) (e : Ending) (w' : World) : Prop := (if q = 0 then e = .returned (.tuple #[.int .i64 0, faultV]) else e = .returned (.tuple #[.int .i64 q, .nilIface])) ∧ Below w.heap.size w w'

set_option maxRecDepth 100000 in
set_option maxHeartbeats 2000000 in
theorem readOp_any (s : ByteArray) (w : World) (hC : OpCells w) : Calls Tryd.prog 53 #[.string s] w (OpPost w (opOf s.data.toList)) := by
  have HC := Lib.hid hC
  clear hC
  go_enter Tryd.func53, Tryd.ntmps53
  go_wp2_with fail
  go_loop [4] (fun i => ∃ k : Nat, i = .int .i64 ((k : Int) + 1) ∧ k ≤ 15 ∧ Hid (opTo s.data.toList k = 0)) (fun i => 17 - (intOf i).toNat)
  case atStart => exact ⟨0, rfl, Nat.zero_le _, Lib.hid (opTo_zero _)⟩
  case round =>
    obtain ⟨k, rfl, hk, HZ⟩ := hrel
    have HI := Lib.hid (fun W : World => isOp_any ((k : Int) + 1) W)
    have HO := Lib.hid (implOpWord_any ((k : Int) + 1) w HC.out)
    by_cases hlt : k < 15
    · rw [inB_yes (by omega)] at HI
      have hmiss := Lib.hid (fun h => opTo_miss (w := s.data.toList) (k := k) hlt h)
      have hhit := Lib.hid (fun h : opWord ((k : Int) + 1) = s.data.toList => (opWord_words (op := (k : Int) + 1) (by omega)).2.1)
      cases tw : (opWord ((k : Int) + 1) == s.toList)
      · have hno := Lib.hid (hmiss.out (by rw [toList_data] at tw; simpa using tw))
        clear hmiss hhit
        go_wp2_with fail
        refine (HI.out _).mono ?_
        rintro e w1 ⟨rfl, rfl⟩
        go_wp2_with fail
        refine HO.out.mono ?_
        rintro e w1 ⟨rfl, rfl⟩
        go_wp2_with fail
        go_round
        case rel => exact ⟨k + 1, by go_num, by omega, Lib.hid (by rw [hno.out]; exact HZ.out)⟩
        case measure => simp [intOf]; omega
      · have hq : opWord ((k : Int) + 1) = s.data.toList := by rw [toList_data] at tw; simpa using tw
        have hy : opOf s.data.toList = (k : Int) + 1 := by rw [← hq]; exact hhit.out hq
        have HY := Lib.hid hy
        clear hmiss hhit hq hy
        go_wp2_with fail
        refine (HI.out _).mono ?_
        rintro e w1 ⟨rfl, rfl⟩
        go_wp2_with fail
        refine HO.out.mono ?_
        rintro e w1 ⟨rfl, rfl⟩
        go_wp2_with fail
        go_ret2
        unfold OpPost
        rw [HY.out, if_neg (by omega)]
        exact ⟨rfl, Below.refl _ _⟩
    · obtain rfl : k = 15 := by omega
      rw [inB_no (by omega)] at HI
      have HY := Lib.hid (show opOf s.data.toList = 0 by rw [← opTo_end]; exact HZ.out)
      go_wp2_with fail
      refine (HI.out _).mono ?_
      rintro e w1 ⟨rfl, rfl⟩
      go_wp2_with fail
      go_ret2
      unfold OpPost
      rw [HY.out, if_pos rfl]
      exact ⟨rfl, Below.refl _ _⟩
end Go.Proofs.YtllkbikhclfgpaaDoor

/-! The contract of the program's readFields. -/

namespace Go.Proofs.YtllkbikhclfgpaaDoor
set_option linter.unusedSimpArgs false
set_option linter.unusedVariables false
open Go.RowKit

/-- What readFields answers. -/
def FieldsPost (w : World) (r : Option (List Int)) (e : Ending) (w' : World) : Prop :=
  Below w.heap.size w w' ∧ ((r = none ∧ e = .returned (.tuple #[.slice none 0 0, faultV])) ∨ ∃ vs A c, r = some vs ∧ e = .returned (.tuple #[.slice A (List.length vs) c, .nilIface]) ∧ Own w' w.heap.size w'.heap.size 3 1 A (List.length vs) c (vs.map (Value.int .i64)))

theorem valsR_next {ns : List Int} {ss : List (List UInt8)} {j : Nat} {nm : Int} {s : List UInt8} (h1 : ns[j]? = some nm) (h2 : ss[j]? = some s) : (valsR ns ss).take (j + 1) = (valsR ns ss).take j ++ [(readF nm s).1] := by
  rw [List.take_add_one, valsR, List.getElem?_zipWith, h1, h2]
  rfl

set_option maxRecDepth 100000 in
set_option maxHeartbeats 2000000 in
theorem readFields_any {w : World} {hi n1 n2 c1 c2 : Nat} {A1 A2 : Option Addr} {ns : List Int} {ss : List (List UInt8)} (h1 : SeenR Lay.int w hi A1 n1 ns) (h2 : Seen w hi 1 A2 n2 (ss.map Tx)) (hhi : hi ≤ w.heap.size) (hn : n1 ≤ 8) (hn2 : n2 ≤ 1048577) (hl : ∀ s ∈ ss, s.length ≤ 1048576) (hT : TabsR w) :
    Calls Tryd.prog 54 #[.slice A1 n1 c1, .slice A2 n2 c2] w (FieldsPost w (fieldsR ns ss)) := by
  obtain ⟨i0, hi0, hz0, hz1, hz2⟩ := info_parts info_int
  have l1 := h1.1
  have l2 : ss.length = n2 := by have := h2.1; simpa using this
  have HT := Lib.hid hT
  clear hT
  by_cases hne : n2 = n1
  · subst hne
    have HL1 := Lib.hid l1
    have HL2 := Lib.hid l2
    have HOK := Lib.hid (fieldsR_ok ns ss (by rw [l1, l2]))
    have HBAD := Lib.hid (fieldsR_bad ns ss)
    have HLS := Lib.hid hl
    have hvl : (valsR ns ss).length = n2 := by simp [valsR, l1, l2]
    have HVL := Lib.hid hvl
    clear l1 l2 hl hvl
    go_enter Tryd.func54, Tryd.ntmps54
    go_wp2_with fail
    go_loopw [6, 20] (fun v i wr => ∃ A c j done, v = .slice A (List.length done) c ∧ i = .int .i64 ((j : Nat) : Int) ∧ j ≤ n2 ∧ Hid (done = (valsR ns ss).take j) ∧ Hid (∀ (j' : Nat) nm s, j' < j → ns[j']? = some nm → ss[j']? = some s → (readF nm s).2 = true) ∧ Own wr w.heap.size wr.heap.size 3 1 A (List.length done) c (done.map (Value.int .i64)) ∧ Below w.heap.size w wr) (fun _ i _ => n2 - (intOf i).toNat)
    case atStart => exact ⟨none, 0, 0, [], rfl, rfl, Nat.zero_le _, Lib.hid rfl, Lib.hid fun _ _ _ h => absurd h (Nat.not_lt_zero _), Own.nil_ _ _ _ _ _, Below.refl _ _⟩
    case round =>
      obtain ⟨A, c, j, done, rfl, rfl, hj, HD, HG, hown, hb⟩ := hrel
      have z := hb.size
      have hdl : done.length = j := by rw [HD.out, List.length_take, HVL.out]; omega
      have hdl8 : done.length ≤ 8 := by omega
      clear hdl
      by_cases hlt : j < n2
      · obtain ⟨hx1, g1, o1, us1, rfl, hg1, ⟨rfl, -⟩, hc1⟩ := (h1.below hb hhi).at_ hlt
        obtain ⟨g2, o2, u, rfl, hg2, hu, cc2⟩ := (h2.below hb hhi).at_ (j := j) (by rw [Nat.mul_one]; exact hlt)
        rw [List.getElem?_map] at hu
        obtain ⟨s, hs, rfl⟩ := Option.map_eq_some_iff.1 hu
        have cc1 := hc1 0 _ rfl
        simp only [show (Lay.int).size = 1 from rfl, ← Nat.add_assoc, Nat.add_zero, Nat.mul_one] at cc1
        have hnx := Lib.hid (List.getElem?_eq_getElem hx1)
        have hsx := Lib.hid hs
        have hsl : (⟨s.toArray⟩ : ByteArray).size ≤ 1048576 := by rw [size_list]; exact HLS.out s (List.mem_of_getElem? hs)
        clear hc1 hs hu
        generalize ns[j] = nm at *
        have hnext := Lib.hid (valsR_next hnx.out hsx.out)
        have HC := Lib.hid (show Calls Tryd.prog 66 #[.int .i64 nm, Tx s] wr (NumPost wr (readF nm s)) from readField_any nm ⟨s.toArray⟩ wr hsl (HT.out.below hb (Nat.le_refl _)))
        have HG2 := Lib.hid (fun h : (readF nm s).2 = true => show ∀ (j' : Nat) nm s, j' < j + 1 → ns[j']? = some nm → ss[j']? = some s → (readF nm s).2 = true from fun j' nm' s' hj' a b => by
          by_cases h' : j' < j
          · exact HG.out j' nm' s' h' a b
          · obtain rfl : j' = j := by omega
            rw [hnx.out] at a
            rw [hsx.out] at b
            injection a with a
            injection b with b
            rw [← a, ← b]
            exact h)
        have HB2 := Lib.hid (HBAD.out j nm s hnx.out hsx.out)
        unfold NumPost at HC
        generalize readF nm s = r at *
        obtain ⟨v, ok⟩ := r
        cases ok
        · have hfin := Lib.hid (HB2.out rfl)
          have HCX := Lib.hid (show Calls Tryd.prog 66 #[.int .i64 nm, Tx s] wr fun e w' => e = .returned (.tuple #[.int .i64 0, faultV]) ∧ Below wr.heap.size wr w' from HC.out)
          clear HC HB2 HG2
          go_wp2_with fail
          refine HCX.out.mono ?_
          rintro e w5 ⟨rfl, hb5⟩
          have hW5 := hb.trans (hb5.mono z)
          go_wp2_with fail
          go_ret2
          exact ⟨hW5, .inl ⟨hfin.out, rfl⟩⟩
        · have HCX := Lib.hid (show Calls Tryd.prog 66 #[.int .i64 nm, Tx s] wr fun e w' => e = .returned (.tuple #[.int .i64 v, .nilIface]) ∧ Below wr.heap.size wr w' from HC.out)
          have HGX := Lib.hid (HG2.out rfl)
          clear HC HB2 HG2
          go_wp2_with fail
          refine HCX.out.mono ?_
          rintro e w5 ⟨rfl, hb5⟩
          have hown1 := (hown.below hb5 (Nat.le_refl _)).alloc (.cells #[.int .i64 v] 3)
          have hW5 : Below w.heap.size w (w5.alloc (.cells #[.int .i64 v] 3)) := (hb.trans (hb5.mono z)).alloc (Nat.le_trans z hb5.size) _
          have z5 : w.heap.size ≤ (w5.alloc (.cells #[.int .i64 v] 3)).heap.size := hW5.size
          clear hb5
          go_wp2_with (at_builtin; refine wpList_append_seen rfl (.tmp 37) (.tmp 39) _ rfl w.heap.size _ 3 i0 _ 1 8 Tryd.underlying49 hi0 hz0 hz1 hz2 rfl (by omega) A done.length c _ rfl hown1 _ _ 1 1 _ rfl (Seen.one w5 (.int .i64 v) 3) (by simp [Value.oneCell']) (by simp only [maxLen]; omega) (by omega) z5 ?_; intro A5 c5 w6 own5 hb6)
          go_roundw
          case rel => exact ⟨A5, c5, j + 1, done ++ [v], by simp, by go_num, by omega, Lib.hid (by rw [hnext.out, ← HD.out]), HGX, by simpa using own5, hW5.trans hb6⟩
          case measure => simp [intOf]; omega
      · obtain rfl : n2 = j := by omega
        have hd : done = valsR ns ss := by rw [HD.out]; exact List.take_of_length_le (by rw [HVL.out]; exact Nat.le_refl _)
        have hfin := Lib.hid (show fieldsR ns ss = some done by
          rw [hd]
          exact HOK.out fun j' nm s a b => HG.out j' nm s (by rw [← HL1.out]; exact (List.getElem?_eq_some_iff.1 a).1) a b)
        have HO := Lib.hid hown
        clear hd hown
        go_wp2_with fail
        go_ret2
        exact ⟨hb, .inr ⟨done, A, c, hfin.out, rfl, HO.out⟩⟩
  · have hfin := Lib.hid (fieldsR_len ns ss (by rw [l1, l2]; exact hne))
    have hne1 : ((n2 : Int) == (n1 : Int)) = false := by simpa using fun h : (n2 : Int) = n1 => hne (by omega)
    have hne2 : ((n2 : Int) != (n1 : Int)) = true := by simpa using fun h : (n2 : Int) = n1 => hne (by omega)
    clear l1 l2 hl
    go_enter Tryd.func54, Tryd.ntmps54
    go_wp2_with fail
    go_ret2
    exact ⟨Below.refl _ _, .inl ⟨hfin.out, rfl⟩⟩
end Go.Proofs.YtllkbikhclfgpaaDoor
