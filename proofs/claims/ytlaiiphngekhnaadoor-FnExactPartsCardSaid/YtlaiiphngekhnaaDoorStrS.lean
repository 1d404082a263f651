
/- Contracts of the laws' helpers over slices of texts: comparing (eqStringS), marking (markText, markStringS), asking for the marks (heldStringS). -/

import Derived.Test.YtlaiiphngekhnaaDoorConv

import Derived.Test.YtlaiiphngekhnaaDoorTextMath

import Derived.Deep.QuietTactic

import Derived.BigQuiet

import Derived.WalkSpells

import Derived.RegionCalls

import Derived.Deep.RegionWith

namespace Go.Proofs.YtlaiiphngekhnaaDoor

open Go.RowKit

/-- A text as a value. -/
abbrev T (l : List UInt8) : Value := .string ⟨l.toArray⟩

theorem str_info : (Tryd.prog.info? 9).map (fun i => (i.zero, i.size, i.bytes)) = some (some (.string ByteArray.empty), 1, 16) := by kernel_rfl

/-- The mark of k, for k from 1 on. -/
def markT (k : Nat) : List UInt8 := 109 :: Lib.decDigits k
def digs (k : Nat) : List UInt8 := if k = 0 then [] else Lib.decDigits k
theorem digs_step {k : Nat} (h : 0 < k) : digs k = digs (k / 10) ++ [UInt8.ofNat (48 + k % 10)] := by
  unfold digs
  rw [if_neg (by omega)]
  by_cases h10 : k < 10
  · rw [if_pos (by omega), Lib.decDigits, dif_pos h10, Nat.mod_eq_of_lt h10]; rfl
  · rw [if_neg (by omega), Lib.decDigits, dif_neg h10]
theorem digs_len (k : Nat) (h : k ≤ 4294967295) : (digs k).length ≤ 10 := by
  unfold digs
  split
  · simp
  · exact decDigits_short k h

set_option maxRecDepth 100000 in
set_option maxHeartbeats 400000 in
theorem markText_any (k : Nat) (w : World) (h0 : 0 < k) (h1 : k ≤ 4294967295) :
    Calls Tryd.prog 19 #[.int .i64 (k : Int)] w fun e w' => e = .returned (T (markT k)) ∧ Below w.heap.size w w' := by
  have hdl := digs_len k h1
  go_enter Tryd.func19, Tryd.ntmps19
  go_wp2_with fail
  go_loopw [0, 3] (fun q v wr => ∃ (K : Nat) (ts : List UInt8), q = .int .i64 (K : Int) ∧ v = T ts ∧ K ≤ 4294967295 ∧ ts.length ≤ 10 ∧ digs K ++ ts = digs k ∧ Below w.heap.size w wr) (fun q _ _ => (intOf q).toNat)
  case atStart => exact ⟨k, [], rfl, rfl, h1, by simp, by simp, Below.refl _ _⟩
  case round =>
    obtain ⟨K, ts, rfl, rfl, hK, hts, he, hb⟩ := hrel
    have hE := Lib.hid he
    clear he
    by_cases hK0 : 0 < K
    · have hst := Lib.hid (digs_step hK0)
      have hcv : ∀ (W : World) (g : Nat), W.cell? ⟨g, 0, none⟩ = some (.int .u8 (48 + (K : Int) % 10)) → (convert 38 9 (.slice (some ⟨g, 0, none⟩) 1 1)).run Tryd.prog W = .ok (.string ⟨#[UInt8.ofNat (48 + (K : Int) % 10).toNat]⟩) W := fun W g h => conv_one h
      go_wp2_with fail
      go_roundw
      case rel =>
        have hx : UInt8.ofNat (48 + K % 10) = 48 + UInt8.ofNat (K % 10) := by simp
        have hlen : (digs K ++ ts).length ≤ 10 := by rw [hE.out]; exact hdl
        rw [hst.out, List.append_assoc] at hlen
        simp only [List.length_append, List.length_cons] at hlen
        refine ⟨K / 10, (48 + UInt8.ofNat (K % 10)) :: ts, by go_num, congrArg Value.string (ByteArray.mk_append_mk [48 + UInt8.ofNat (K % 10)] ts), by omega, ?_, ?_, hb.alloc hb.size _⟩
        · simp at hlen ⊢; omega
        · rw [← hE.out, hst.out, hx, List.append_assoc]; rfl
      case measure => simp [intOf]; omega
    · have hK0' : K = 0 := by omega
      subst hK0'
      go_wp2_with fail
      go_ret
      refine ⟨?_, hb⟩
      have hts' : ts = Lib.decDigits k := by
        have := hE.out
        simpa [digs, show ¬ k = 0 from by omega] using this
      show Ending.returned (.string (⟨[109].toArray⟩ ++ ⟨ts.toArray⟩)) = _
      rw [ByteArray.mk_append_mk, hts']
      rfl

theorem eqStringS_same {A A' : Option Addr} {n c c' hi hi' : Nat} {ss : List (List UInt8)} {w : World} (h : Seen w hi 1 A n (ss.map T)) (h' : Seen w hi' 1 A' n (ss.map T)) (hn : n ≤ 2097152) :
    Calls Tryd.prog 9 #[.slice A n c, .slice A' n c'] w fun e w' => e = .returned (.bool true) ∧ Below w.heap.size w w' := by
  have hlen0 : ss.length = n := by simpa using h.1
  have hlen : Hid (ss.length = n) := hlen0
  clear hlen0
  go_enter Tryd.func9, Tryd.ntmps9
  go_wp2
  go_loopw [5] (fun i wr => ∃ k m : Nat, k ≤ n ∧ i = .int .i64 k ∧ wr = w.drewN m) (fun i _ => n - (intOf i).toNat)
  case atStart => exact ⟨0, 0, Nat.zero_le _, rfl, rfl⟩
  case round =>
    obtain ⟨k, m, hk, rfl, rfl⟩ := hrel
    by_cases hlt : k < n
    · have hkb : k < ss.length := by rw [hlen.out]; exact hlt
      obtain ⟨g, o, u, rfl, hg, hu, hc⟩ := h.at_ (j := k) (by omega)
      obtain ⟨g', o', u', rfl, hg', hu', hc'⟩ := h'.at_ (j := k) (by omega)
      have hx : u = T ss[k] := by simpa [List.getElem?_eq_getElem hkb] using hu.symm
      have hx' : u' = T ss[k] := by simpa [List.getElem?_eq_getElem hkb] using hu'.symm
      subst hx hx'
      generalize ss[k] = x at *
      clear hu hu'
      go_wp2
      go_quiet (fail)
      go_wp2
      go_roundw
      case rel => exact ⟨k + 1, _, by omega, by go_num, rfl⟩
      case measure => simp [intOf]; omega
    · go_wp2
      go_ret
      exact ⟨rfl, below_drawn (Below.refl _ _) _⟩

def marksT (k n : Nat) : List (List UInt8) := (List.range n).map fun i => markT (k + i)
theorem marksT_length (k n : Nat) : (marksT k n).length = n := by simp [marksT]
theorem marksT_get (k n i : Nat) (h : i < n) : (marksT k n)[i]? = some (markT (k + i)) := by simp [marksT, h]
theorem marksT_row {ss : List (List UInt8)} {k n i : Nat} (hl : ss.length = n) (hi : i < n) :
    ((((marksT k i) ++ ss.drop i).map T).set i (T (markT (k + i)))) = ((marksT k (i + 1)) ++ ss.drop (i + 1)).map T := by
  apply List.ext_getElem?
  intro j
  simp only [marksT, List.getElem?_set, List.getElem?_map, List.getElem?_append, List.length_map, List.length_append, List.length_range, List.length_drop, List.getElem?_drop]
  rcases Nat.lt_trichotomy j i with h | h | h
  · simp [show ¬ i = j from by omega, h, show j < i + 1 from by omega]
  · subst h
    simp [show j < j + (ss.length - j) from by omega]
  · simp [show ¬ i = j from by omega, show ¬ j < i from by omega, show ¬ j < i + 1 from by omega, show i + (j - i) = j from by omega, show i + 1 + (j - (i + 1)) = j from by omega]

def MarkedT (w : World) (lo hi : Nat) (A : Option Addr) (n c k : Nat) (en : Ending) (w' : World) : Prop :=
  en = .returned (.int .i64 ((k + n : Nat) : Int)) ∧ Own w' lo hi 9 1 A n c ((marksT k n).map T) ∧ Turned lo hi w w'

set_option maxHeartbeats 400000 in
theorem markStringS_any {A : Option Addr} {n c k lo hi : Nat} {ss : List (List UInt8)} {w : World} (h : Own w lo hi 9 1 A n c (ss.map T)) (hhi : hi ≤ w.heap.size) (hn : n ≤ 2097152) (hk0 : 0 < k) (hk : k ≤ 2097152) :
    Calls Tryd.prog 10 #[.slice A n c, .int .i64 k] w (MarkedT w lo hi A n c k) := by
  have hlen0 : ss.length = n := by simpa using h.1.1
  have hlen : Hid (ss.length = n) := hlen0
  clear hlen0
  go_enter Tryd.func10, Tryd.ntmps10
  go_wp2_with fail
  go_loopw [1, 5] (fun q i wr => ∃ j : Nat, j ≤ n ∧ i = .int .i64 j ∧ q = .int .i64 ((k + j : Nat) : Int) ∧ Own wr lo hi 9 1 A n c ((marksT k j ++ ss.drop j).map T) ∧ Turned lo hi w wr) (fun _ i _ => n - (intOf i).toNat)
  case atStart => exact ⟨0, Nat.zero_le _, rfl, by simp, by simpa [marksT] using h, Turned.refl _ _ _⟩
  case round =>
    obtain ⟨j, hj, rfl, rfl, hown, ht⟩ := hrel
    have hts := ht.size
    by_cases hlt : j < n
    · obtain ⟨g, rfl, hg1, hg2, hg3⟩ := hown.form (by omega)
      have hjb : j < ss.length := by rw [hlen.out]; exact hlt
      have hrow := Lib.hid (marksT_row (k := k) hlen.out hlt)
      go_wp2_with fail
      refine (markText_any (k + j) _ (by omega) (by omega)).mono ?_
      rintro e w1 ⟨rfl, hb1⟩
      have hown1 := hown.below hb1 (by omega)
      have hold : w1.cell? ⟨g, j, none⟩ = some (T ss[j]) := hown1.cell (by simp [List.getElem?_append, marksT_length, List.getElem?_eq_getElem hjb])
      have hfz := hown1.free j
      generalize ss[j] = x at *
      go_wp2_with fail
      go_roundw
      case rel =>
        refine ⟨j + 1, by omega, by go_num, by go_num, ?_, (ht.trans (Turned.of_below hb1 _ _)).setCell hg1 hg2 _⟩
        rw [← hrow.out]
        exact hown1.set_ j _
      case measure => simp [intOf]; omega
    · go_wp2_with fail
      go_ret
      have hjn : j = n := by omega
      subst hjn
      refine ⟨rfl, ?_, ht⟩
      have hl := hlen.out
      simpa [List.drop_of_length_le (show ss.length ≤ j from by omega)] using hown

set_option maxHeartbeats 400000 in
theorem heldStringS_any {A : Option Addr} {n c k hi : Nat} {w : World} (h : Seen w hi 1 A n ((marksT k n).map T)) (hhi : hi ≤ w.heap.size) (hn : n ≤ 2097152) (hk0 : 0 < k) (hk : k ≤ 2097152) :
    Calls Tryd.prog 11 #[.slice A n c, .int .i64 k] w fun e w' => e = .returned (.int .i64 ((k + n : Nat) : Int)) ∧ Below w.heap.size w w' := by
  go_enter Tryd.func11, Tryd.ntmps11
  go_wp2_with fail
  go_loopw [1, 5] (fun q i wr => ∃ j : Nat, j ≤ n ∧ i = .int .i64 j ∧ q = .int .i64 ((k + j : Nat) : Int) ∧ Below w.heap.size w wr) (fun _ i _ => n - (intOf i).toNat)
  case atStart => exact ⟨0, Nat.zero_le _, rfl, by simp, Below.refl _ _⟩
  case round =>
    obtain ⟨j, hj, rfl, rfl, hb⟩ := hrel
    have hbs := hb.size
    by_cases hlt : j < n
    · obtain ⟨g, o, u, rfl, hg, hu, hc⟩ := (h.below hb hhi).at_ (j := j) (by omega)
      have hx : u = T (markT (k + j)) := by simpa [marksT_get k n j hlt] using hu.symm
      subst hx
      clear hu
      have hi0 : (0 : Int) ≤ (j : Int) := by omega
      have hi1 : (j : Int) < (n : Int) := by omega
      have HM := Lib.hid (fun W : World => markText_any (k + j) W (by omega) (by omega))
      go_wp2_with fail
      go_region_with (go_at_call 19; refine (HM.out _).mono ?_; rintro e w1 ⟨rfl, hb1⟩; have hc1 := (hb1.cell (p := ⟨g, o + j, none⟩) (show g < wr.heap.size by omega)).trans hc)
      all_goals
        have hbb : Below w.heap.size w w1 := hb.drew.trans (hb1.mono hbs)
        clear hb1 HM hc hc1
        go_wp2_with fail
        go_roundw
        case rel => exact ⟨j + 1, by omega, by go_num, by go_num, hbb⟩
        case measure => simp [intOf]; omega
    · go_wp2_with fail
      go_ret
      have hjn : j = n := by omega
      subst hjn
      exact ⟨rfl, hb⟩
end Go.Proofs.YtlaiiphngekhnaaDoor
