
/- The contract of the program's wordsText: an instruction's word and its fields behind marks. -/

import Derived.Test.YtgfkadhojlddpaaGreatDoorFieldTextI

import Derived.Test.YtgfkadhojlddpaaGreatDoorLineI

import Derived.Test.YtgfkadhojlddpaaGreatDoorOps

import Derived.Test.YtgfkadhojlddpaaGreatDoorLaid

import Derived.Test.YtgfkadhojlddpaaGreatDoorBase

namespace Go.Proofs.YtgfkadhojlddpaaGreatDoor
set_option linter.unusedSimpArgs false
set_option linter.unusedVariables false
open Go.RowKit

theorem joinTail_len {L : Nat} {mark : UInt8} : ∀ fs : List (List UInt8), (∀ f ∈ fs, f.length ≤ L) → (Lib.joinTail [mark] fs).length ≤ (L + 1) * fs.length
  | [], _ => by simp [joinTail_nil]
  | x :: l, h => by
    have h1 := h x (List.mem_cons_self)
    have h2 := joinTail_len (mark := mark) l fun f hf => h f (List.mem_cons_of_mem _ hf)
    rw [joinTail_cons, List.length_append, List.length_cons, List.length_cons, Nat.mul_add]
    omega
/-- The fields' texts. -/
def fieldsT (ns vs : List Int) : List (List UInt8) := List.zipWith fieldT ns vs
theorem fieldsT_len (ns vs : List Int) : ∀ f ∈ fieldsT ns vs, f.length ≤ 10 := by
  intro f hf
  obtain ⟨i, hi, rfl⟩ := List.getElem_of_mem hf
  simp only [fieldsT, List.getElem_zipWith]
  exact fieldT_len _ _
theorem fieldsT_at {ns vs : List Int} {j : Nat} (h1 : j < ns.length) (h2 : j < vs.length) : (fieldsT ns vs)[j]? = some (fieldT ns[j] vs[j]) := by
  rw [List.getElem?_eq_getElem (by simp [fieldsT]; omega)]
  simp [fieldsT]

abbrev Tabs (W : World) : Prop := PowTab W ∧ OpCells W
theorem Tabs.below {W W' : World} {B : Nat} (h : Tabs W) (hb : Below B W W') (hB : W.heap.size ≤ B) : Tabs W' := ⟨tab_below h.1 hb hB, opCells_below h.2 (hb.mono hB)⟩

set_option maxRecDepth 100000 in
set_option maxHeartbeats 2000000 in
theorem wordsText_any {w : World} {op : Int} {mark : UInt8} {hi n n2 c1 c2 : Nat} {A1 A2 : Option Addr} {ns vs : List Int} (h1 : SeenR Lay.int w hi A1 n ns) (h2 : SeenR Lay.int w hi A2 n2 vs) (hle : n ≤ n2) (hhi : hi ≤ w.heap.size) (hn : n ≤ 8) (hT : Tabs w) :
    Calls Tryz.prog 94 #[.int .i64 op, .slice A1 n c1, .slice A2 n2 c2, Tx [mark]] w fun e w' => e = .returned (Tx (wordsT (opWord op) mark (fieldsT ns vs))) ∧ Below w.heap.size w w' := by
  obtain ⟨i0, hi0, hz0, hz1, hz2⟩ := info_parts str_info'
  have HT := Lib.hid hT
  have HAT := Lib.hid (fun j (hj : j < n) => fieldsT_at (ns := ns) (vs := vs) (j := j) (Nat.lt_of_lt_of_eq hj h1.1.symm) (Nat.lt_of_lt_of_eq (Nat.lt_of_lt_of_le hj hle) h2.1.symm))
  have hfl : (fieldsT ns vs).length = n := by simp [fieldsT, h1.1, h2.1]; omega
  have HFL := Lib.hid hfl
  have HLEN := Lib.hid (fieldsT_len ns vs)
  have hwl := opWord_len op
  clear hT hfl
  have hB0 : ∀ x : Value, Below w.heap.size w (w.alloc (.cells #[x] 9)) := fun x => (Below.refl _ _).alloc (Nat.le_refl _) _
  go_enter Tryz.func94, Tryz.ntmps94
  go_wp2_with fail
  refine (implOpWord_any op _ HT.out.2).mono ?_
  rintro e w1 ⟨rfl, rfl⟩
  go_wp2_with fail
  go_loopw [9, 17] (fun v i wr => ∃ A c j, v = .slice A (j + 1) c ∧ i = .int .i64 ((j : Nat) : Int) ∧ j ≤ n ∧ Own wr w.heap.size wr.heap.size 9 1 A (j + 1) c ((opWord op :: (fieldsT ns vs).take j).map Tx) ∧ Below w.heap.size w wr) (fun _ i _ => n - (intOf i).toNat)
  case atStart => exact ⟨_, 1, 0, rfl, rfl, Nat.zero_le _, by simpa using (Own.made (size := 1) (e := 9) w #[Tx (opWord op)] 1 1 (by decide) rfl (Nat.le_refl _)).wider (Nat.le_refl _) (by simp), hB0 _⟩
  case round =>
    obtain ⟨A, c, j, rfl, rfl, hj, hown, hb⟩ := hrel
    have z := hb.size
    by_cases hlt : j < n
    · obtain ⟨hx1, g1, o1, us1, rfl, hg1, ⟨rfl, -⟩, hc1⟩ := (h1.below hb hhi).at_ hlt
      obtain ⟨hx2, g2, o2, us2, rfl, hg2, ⟨rfl, -⟩, hc2⟩ := (h2.below hb hhi).at_ (show j < n2 by omega)
      have cc1 := hc1 0 _ rfl
      have cc2 := hc2 0 _ rfl
      simp only [show (Lay.int).size = 1 from rfl, ← Nat.add_assoc, Nat.add_zero, Nat.mul_one] at cc1 cc2
      have hj2 : j < n2 := by omega
      have HA := HAT.out j hlt
      have HTr := Lib.hid (HT.out.below hb (Nat.le_refl _))
      have hnext := Lib.hid (show (opWord op :: (fieldsT ns vs).take (j + 1)).map Tx = (opWord op :: (fieldsT ns vs).take j).map Tx ++ [Tx (fieldT ns[j] vs[j])] by
        rw [List.take_add_one, HA]
        simp)
      clear hc1 hc2 HA
      generalize ns[j] = x1 at *
      generalize vs[j] = x2 at *
      go_wp2_with fail
      refine (fieldText_any x1 x2 _ HTr.out.1).mono ?_
      rintro e w5 ⟨rfl, hb5⟩
      have hown1 := (hown.below hb5 (Nat.le_refl _)).alloc (.cells #[Tx (fieldT x1 x2)] 9)
      have hW5 : Below w.heap.size w (w5.alloc (.cells #[Tx (fieldT x1 x2)] 9)) := (hb.trans (hb5.mono z)).alloc (Nat.le_trans z hb5.size) _
      have z5 : w.heap.size ≤ (w5.alloc (.cells #[Tx (fieldT x1 x2)] 9)).heap.size := hW5.size
      clear hb5
      go_wp2_with (at_builtin; refine wpList_append_seen rfl (.tmp 22) (.tmp 29) _ rfl w.heap.size _ 9 i0 _ 1 16 Tryz.underlying74 hi0 hz0 hz1 hz2 rfl (by omega) A (j + 1) c _ rfl hown1 _ _ 1 1 _ rfl (Seen.one w5 (Tx (fieldT x1 x2)) 9) (by simp [Value.oneCell']) (by simp only [maxLen]; omega) (by omega) z5 ?_; intro A5 c5 w6 own5 hb6)
      go_roundw
      case rel => exact ⟨A5, c5, j + 1, rfl, by go_num, by omega, by rw [hnext.out]; exact own5, hW5.trans hb6⟩
      case measure => simp [intOf]; omega
    · obtain rfl : j = n := by omega
      have htake : (fieldsT ns vs).take j = fieldsT ns vs := List.take_of_length_le (by rw [HFL.out]; exact Nat.le_refl _)
      rw [htake] at hown
      have HS := Lib.hid (hown.seen)
      have hcap := hown.cap
      clear htake
      have hjl : (Lib.join (opWord op :: fieldsT ns vs) [mark]).length ≤ 140737488355328 := by
        have := joinTail_len (mark := mark) _ HLEN.out
        rw [HFL.out] at this
        rw [Lib.join_cons, List.length_append]
        omega
      have HJ := Lib.hid hjl
      clear hjl
      have hfin := Lib.hid (show wordsT (opWord op) mark (fieldsT ns vs) = lineT (opWord op :: fieldsT ns vs) [mark] from rfl)
      go_wp2_with fail
      refine (lineOf_any HS.out (Nat.le_refl _) hcap (by omega) HJ.out).mono ?_
      rintro e w7 ⟨rfl, hb7⟩
      go_wp2_with fail
      go_ret
      exact ⟨by rw [hfin.out]; rfl, hb.trans (hb7.mono z)⟩
end Go.Proofs.YtgfkadhojlddpaaGreatDoor
