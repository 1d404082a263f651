/- For every code the promise on mutexes holds: a mutex stays right, and goes to those that wait in their order. No condition but that of the statement. -/
import Derived.Test.YtalbbhnfdbacdaaRows
import Derived.WalkKit
import Derived.Test.YtalbbhnfdbacdaaMutFacts
import Derived.ProofKit
import Derived.OpenShut
import Derived.ShutString
import Derived.ChangeOld
import Derived.Below
namespace Go.Proofs.Ytalbbhnfdbacdaa.fnLock
open Go.ChangeShapes Go.WideShapes Go.ChangeAt Go.RowKit
open Go.ChangeMaps (open_string shut_string)
set_option linter.unusedVariables false
set_option linter.unusedSimpArgs false

theorem own : ownKnob Try.prog.godebug = none := by kernel_rfl
theorem laidOut : laidOutB Try.prog = true := by kernel_rfl

def IsRow (k : IntKind) (w : World) (a : Option Addr) (len cap : Nat) (zs : List Int) : Prop :=
  (a = none ∧ len = 0 ∧ cap = 0 ∧ zs = []) ∨
  ∃ x, a = some x ∧ len ≤ cap ∧ cap ≤ maxLen ∧ zs.length = cap ∧ (∀ i, i < zs.length → w.cell? (x.add i) = some (.int k (zs.getD i 0))) ∧ ∀ n ∈ zs, (Lit.int k n).wf = true

set_option maxRecDepth 100000 in
set_option maxHeartbeats 60000000 in
theorem walk (a0 : Option Addr) (len0 cap0 : Nat) (z0 : List Int) (w : World) (w0 : IsRow .u8 w a0 len0 cap0 z0) :
    Calls Try.prog 3 #[.slice a0 len0 cap0] w fun e w' => e = .returned (.bool true) ∧ Below w.heap.size w w' := by
  by_cases hbig : len0 ≤ 1048576
  · obtain ⟨bs, hs⟩ := seen_of_ints w0
    clear w0
    go_enter Try.func3, Try.ntmps3
    go_wp2_with fail
    refine (implMutexNew_any _).mono ?_
    rintro e w1 ⟨rfl, hb1⟩
    have hz1 := hb1.size
    have hs1 := hs.below hb1 (Nat.le_refl _)
    have HM := Lib.hid (show HeldM (w1.alloc (.cells #[.int .i64 (-1), .slice none 0 0] 25)) w.heap.size w1.heap.size newM none 0 from HeldM.boxed (w := w) (w' := w1) (y := newM) (A := none) (c := 0) (by decide) (by decide) ((TailR.of (ownR_nil _ _ _)).wide fun g hg => hg.elim))
    have hal : Below w1.heap.size w1 (w1.alloc (.cells #[.int .i64 (-1), .slice none 0 0] 25)) := (Below.refl _ _).alloc (Nat.le_refl _) _
    have hs2 := hs1.below hal (by omega)
    have HW := Lib.hid (show Below w.heap.size w (w1.alloc (.cells #[.int .i64 (-1), .slice none 0 0] 25)) from hb1.trans (hal.mono hz1))
    have HZ := Lib.hid (show (w1.alloc (.cells #[.int .i64 (-1), .slice none 0 0] 25)).heap.size = w1.heap.size + 1 by simp)
    clear hal hb1 hs1 hs
    go_wp2_with fail
    refine (makeNum_any hs2 (by have := HZ.out; omega) (by omega)).mono ?_
    rintro e w3 ⟨r, hr, rfl, hb3⟩
    have HB3 := Lib.hid (show Below w.heap.size w w3 from HW.out.trans (hb3.mono (by have := HZ.out; omega)))
    have HM3 := Lib.hid (show HeldM w3 w.heap.size w1.heap.size newM none 0 from HM.out.keep hb3)
    clear hb3 hs2 HM HW HZ
    generalize hBn : w.heap.size = B0 at *
    generalize w1.heap.size = b at *
    go_wp2_with fail
    go_loopw [5] (fun i wr => ∃ (k : Nat) (A : Option Addr) (c : Nat), k ≤ r + 2 ∧ i = .int .i64 (k : Int) ∧ HeldM wr B0 b (lockSt k) A c ∧ Below B0 w wr) (fun i _ => (r + 2) - (intOf i).toNat)
    case atStart => exact ⟨0, none, 0, Nat.zero_le _, rfl, HM3.out, HB3.out⟩
    case round =>
      obtain ⟨k, A, c, hk, rfl, hH, hBw⟩ := hrel
      have hz0 := hBw.size
      have hbl := lt_of_block hH.1
      by_cases hlt : k < r + 2
      · obtain ⟨e1, e2, e3⟩ := lock_step k (by omega)
        have e4 := sz_lock (k + 1) (by omega)
        have HO := Lib.hid (fun (W : World) (hW : HeldM W B0 b (lockSt k) A c) => lockHeld hW e3 (g := (k : Int)) (wf_mark (z := (k : Int)) (by omega) (by omega)))
        rw [e1] at HO
        have p0 := box_cell (j := 0) hH.1 rfl
        have p1 := box_cell (j := 1) hH.1 rfl
        have HH := Lib.hid hH
        have HB := Lib.hid hBw
        have HE := Lib.hid e2
        clear hH hBw e1 e2 e3
        generalize hye : lockSt (k + 1) = y' at *
        have HYE := Lib.hid hye
        clear hye
        generalize lockSt k = y at *
        go_wp2_with fail
        refine (HO.out _ HH.out).mono ?_
        rintro e w4 ⟨A4, c4, rfl, hw4, hc4, ht4, hb4⟩
        have hz4 := hb4.size
        have hbn := HeldM.boxed hw4 hc4 ht4
        have hal : Below w4.heap.size w4 (w4.alloc (.cells #[.int .i64 y'.fOwner, .slice A4 y'.fWait.length c4] 25)) := (Below.refl _ _).alloc (Nat.le_refl _) _
        have hzn : (w4.alloc (.cells #[.int .i64 y'.fOwner, .slice A4 y'.fWait.length c4] 25)).heap.size = w4.heap.size + 1 := by simp
        have hmn := HH.out.keep (hb4.trans (hal.mono hz4))
        replace HB := Lib.hid (HB.out.trans ((hb4.trans (hal.mono hz4)).mono (by omega)))
        have HX := Lib.hid hbn
        have HY := Lib.hid hmn
        have HZ := Lib.hid hzn
        have q0 := box_cell (j := 0) hbn.1 rfl
        have q1 := box_cell (j := 1) hbn.1 rfl
        clear hbn hal hmn hzn hb4 ht4 p0 p1 HH HO
        have HO := Lib.hid (fun (W : World) (hW : HeldM W wr.heap.size w4.heap.size y' A4 c4) => okHeld hW e4)
        rw [HE.out] at HO
        clear HE
        rcases (show k = 0 ∨ 0 < k by omega) with h0 | h0
        · subst h0
          go_wp2_with fail
          refine (HO.out _ HX.out).mono ?_
          rintro e w5 ⟨rfl, hb5⟩
          have hz5 := hb5.size
          have hX5 := HX.out.keep hb5
          have hY5 := HY.out.keep hb5
          have HB5 := Lib.hid (HB.out.trans (hb5.mono (by have := HZ.out; omega)))
          have q0 := box_cell (j := 0) hX5.1 rfl
          have q1 := box_cell (j := 1) hX5.1 rfl
          have p0 := box_cell (j := 0) hY5.1 rfl
          have p1 := box_cell (j := 1) hY5.1 rfl
          have f0 := box_free hY5.1 0
          have f1 := box_free hY5.1 1
          have HX5 := Lib.hid hX5
          have HY5 := Lib.hid hY5
          clear hb5 hX5 hY5 HX HY HO
          go_wp2_with fail
          go_roundw
          case rel => exact ⟨1, A4, c4, by omega, by go_num, by rw [HYE.out]; exact HeldM.over HY5.out HX5.out (by omega) (by omega), HeldM.overB HB5.out (by omega)⟩
          case measure => simp [intOf] <;> omega
        · have hk1 : ¬ (k : Int) = 0 := by omega
          have hk2 : ((k : Int) == 0) = false := by simpa using hk1
          simp only [hk2] at *
          go_wp2_with fail
          refine (HO.out _ HX.out).mono ?_
          rintro e w5 ⟨rfl, hb5⟩
          have hz5 := hb5.size
          have hX5 := HX.out.keep hb5
          have hY5 := HY.out.keep hb5
          have HB5 := Lib.hid (HB.out.trans (hb5.mono (by have := HZ.out; omega)))
          have q0 := box_cell (j := 0) hX5.1 rfl
          have q1 := box_cell (j := 1) hX5.1 rfl
          have p0 := box_cell (j := 0) hY5.1 rfl
          have p1 := box_cell (j := 1) hY5.1 rfl
          have f0 := box_free hY5.1 0
          have f1 := box_free hY5.1 1
          have HX5 := Lib.hid hX5
          have HY5 := Lib.hid hY5
          clear hb5 hX5 hY5 HX HY HO
          go_wp2_with fail
          go_roundw
          case rel => exact ⟨k + 1, A4, c4, by omega, by go_num, by rw [HYE.out]; exact HeldM.over HY5.out HX5.out (by omega) (by omega), HeldM.overB HB5.out (by omega)⟩
          case measure => simp [intOf] <;> omega
      · have hkr : k = r + 2 := by omega
        subst hkr
        obtain ⟨e1, e2, e3⟩ := self_no (n := r + 2) (by omega) (by omega)
        have hbz := back_zero (n := r + 2) (by omega) (by omega)
        have HO := Lib.hid (fun (W : World) (hW : HeldM W B0 b (lockSt (r + 2)) A c) => lockHeld hW e3 (g := 0) (by decide))
        have HP := Lib.hid (fun (W : World) (hW : HeldM W B0 b (lockSt (r + 2)) A c) => unlockHeld hW e3 (g := 1) (by decide))
        rw [e1] at HO
        rw [e2] at HP
        have p0 := box_cell (j := 0) hH.1 rfl
        have p1 := box_cell (j := 1) hH.1 rfl
        have HH := Lib.hid hH
        have HB := Lib.hid hBw
        have HE := Lib.hid hbz
        clear hH hBw e1 e2 e3 hbz
        generalize lockSt (r + 2) = y at *
        go_wp2_with fail
        refine (HO.out _ HH.out).mono ?_
        rintro e w4 ⟨A4, c4, rfl, hw4, hc4, ht4, hb4⟩
        clear p0 p1 hw4 ht4
        have hz4 := hb4.size
        have hal4 := hb4.trans (((Below.refl w4.heap.size w4).alloc (Nat.le_refl _) (.cells #[.int .i64 (lockR y 0).1.fOwner, .slice A4 (lockR y 0).1.fWait.length c4] 25)).mono hz4)
        have hzn4 : (w4.alloc (.cells #[.int .i64 (lockR y 0).1.fOwner, .slice A4 (lockR y 0).1.fWait.length c4] 25)).heap.size = w4.heap.size + 1 := by simp
        replace HB := Lib.hid (HB.out.trans (hal4.mono (by omega)))
        replace HH := Lib.hid (HH.out.keep hal4)
        have HZ4 := Lib.hid hzn4
        clear hb4 hal4 hzn4 HO
        have p0 := box_cell (j := 0) HH.out.1 rfl
        have p1 := box_cell (j := 1) HH.out.1 rfl
        go_wp2_with fail
        refine (HP.out _ HH.out).mono ?_
        rintro e w5 ⟨A5, c5, rfl, hw5, hc5, ht5, hb5⟩
        clear p0 p1 hw5 ht5
        have hz5 := hb5.size
        have hal5 := hb5.trans (((Below.refl w5.heap.size w5).alloc (Nat.le_refl _) (.cells #[.int .i64 (unlockR y 1).1.fOwner, .slice A5 (unlockR y 1).1.fWait.length c5] 25)).mono hz5)
        have hzn5 : (w5.alloc (.cells #[.int .i64 (unlockR y 1).1.fOwner, .slice A5 (unlockR y 1).1.fWait.length c5] 25)).heap.size = w5.heap.size + 1 := by simp
        replace HB := Lib.hid (HB.out.trans (hal5.mono (by have := HZ4.out; omega)))
        replace HH := Lib.hid (HH.out.keep hal5)
        have HZ5 := Lib.hid hzn5
        clear hb5 hal5 hzn5 HP
        go_wp2_with fail
        generalize (w5.alloc (.cells #[.int .i64 (unlockR y 1).1.fOwner, .slice A5 (unlockR y 1).1.fWait.length c5] 25)) = w6 at *
        have HH6 := Lib.hid (show HeldM w6 B0 b (backSt (r + 2) 0) A c by rw [HE.out]; exact HH.out)
        have hw6 : w.heap.size ≤ w6.heap.size := HB.out.size
        clear HH HE HZ4 HZ5 hc4 hc5 hz4 hz5 hz0 hbl hlt hk
        generalize hn : r + 2 = n at *
        go_loopw [15] (fun i wr => ∃ (k : Nat) (A : Option Addr) (c : Nat), k ≤ n ∧ i = .int .i64 (k : Int) ∧ HeldM wr B0 b (backSt n k) A c ∧ Below B0 w wr) (fun i _ => n - (intOf i).toNat)
        case atStart => exact ⟨0, _, _, Nat.zero_le _, rfl, HH6.out, HB.out⟩
        case round =>
          obtain ⟨k, A6, c6, hk, rfl, hH, hBw⟩ := hrel
          have hz0 := hBw.size
          have hbl := lt_of_block hH.1
          by_cases hlt : k < n
          · obtain ⟨e1, e2, e3⟩ := back_step (n := n) (by omega) (by omega) hlt
            have e4 := sz_back n (k + 1) (by omega)
            have HO := Lib.hid (fun (W : World) (hW : HeldM W B0 b (backSt n k) A6 c6) => unlockHeld hW e3 (g := (k : Int)) (wf_mark (z := (k : Int)) (by omega) (by omega)))
            rw [e1] at HO
            have p0 := box_cell (j := 0) hH.1 rfl
            have p1 := box_cell (j := 1) hH.1 rfl
            have HH := Lib.hid hH
            have HC := Lib.hid hBw
            have HE := Lib.hid e2
            clear hH hBw e1 e2 e3
            generalize hye : backSt n (k + 1) = y' at *
            have HYE := Lib.hid hye
            clear hye
            generalize backSt n k = y2 at *
            rcases (show (k : Int) = (n : Int) - 1 ∨ ¬ (k : Int) = (n : Int) - 1 by omega) with hl | hl
            · rw [if_pos hl] at HO
              have hl' : 2 + (r : Int) - 1 = (k : Int) := by omega
              have HL := Lib.hid hl
              clear hl
              go_wp2_with fail
              refine (HO.out _ HH.out).mono ?_
              rintro e w7 ⟨A7, c7, rfl, hw7, hc7, ht7, hb7⟩
              have hz7 := hb7.size
              have hbn := HeldM.boxed hw7 hc7 ht7
              have hal : Below w7.heap.size w7 (w7.alloc (.cells #[.int .i64 y'.fOwner, .slice A7 y'.fWait.length c7] 25)) := (Below.refl _ _).alloc (Nat.le_refl _) _
              have hzn : (w7.alloc (.cells #[.int .i64 y'.fOwner, .slice A7 y'.fWait.length c7] 25)).heap.size = w7.heap.size + 1 := by simp
              have hmn := HH.out.keep (hb7.trans (hal.mono hz7))
              replace HC := Lib.hid (HC.out.trans ((hb7.trans (hal.mono hz7)).mono (by omega)))
              have HX := Lib.hid hbn
              have HY := Lib.hid hmn
              have HZ := Lib.hid hzn
              have q0 := box_cell (j := 0) hbn.1 rfl
              have q1 := box_cell (j := 1) hbn.1 rfl
              clear hbn hal hmn hzn hb7 ht7 p0 p1 HH HO
              have HO := Lib.hid (fun (W : World) (hW : HeldM W wr.heap.size w7.heap.size y' A7 c7) => okHeld hW e4)
              rw [HE.out] at HO
              clear HE
              go_wp2_with fail
              refine (HO.out _ HX.out).mono ?_
              rintro e w8 ⟨rfl, hb8⟩
              have hz8 := hb8.size
              have hX8 := HX.out.keep hb8
              have hY8 := HY.out.keep hb8
              have HB8 := Lib.hid (HC.out.trans (hb8.mono (by have := HZ.out; omega)))
              have q0 := box_cell (j := 0) hX8.1 rfl
              have q1 := box_cell (j := 1) hX8.1 rfl
              have p0 := box_cell (j := 0) hY8.1 rfl
              have p1 := box_cell (j := 1) hY8.1 rfl
              have f0 := box_free hY8.1 0
              have f1 := box_free hY8.1 1
              have HX8 := Lib.hid hX8
              have HY8 := Lib.hid hY8
              clear hb8 hX8 hY8 HX HY
              go_wp2_with fail
              go_roundw
              case rel => exact ⟨k + 1, A7, c7, by omega, by go_num, by rw [HYE.out]; exact HeldM.over HY8.out HX8.out (by omega) (by omega), HeldM.overB HB8.out (by omega)⟩
              case measure => simp [intOf] <;> omega
            · rw [if_neg hl] at HO
              go_wp2_with fail
              refine (HO.out _ HH.out).mono ?_
              rintro e w7 ⟨A7, c7, rfl, hw7, hc7, ht7, hb7⟩
              have hz7 := hb7.size
              have hbn := HeldM.boxed hw7 hc7 ht7
              have hal : Below w7.heap.size w7 (w7.alloc (.cells #[.int .i64 y'.fOwner, .slice A7 y'.fWait.length c7] 25)) := (Below.refl _ _).alloc (Nat.le_refl _) _
              have hzn : (w7.alloc (.cells #[.int .i64 y'.fOwner, .slice A7 y'.fWait.length c7] 25)).heap.size = w7.heap.size + 1 := by simp
              have hmn := HH.out.keep (hb7.trans (hal.mono hz7))
              replace HC := Lib.hid (HC.out.trans ((hb7.trans (hal.mono hz7)).mono (by omega)))
              have HX := Lib.hid hbn
              have HY := Lib.hid hmn
              have HZ := Lib.hid hzn
              have q0 := box_cell (j := 0) hbn.1 rfl
              have q1 := box_cell (j := 1) hbn.1 rfl
              clear hbn hal hmn hzn hb7 ht7 p0 p1 HH HO
              have HO := Lib.hid (fun (W : World) (hW : HeldM W wr.heap.size w7.heap.size y' A7 c7) => okHeld hW e4)
              rw [HE.out] at HO
              clear HE
              go_wp2_with fail
              refine (HO.out _ HX.out).mono ?_
              rintro e w8 ⟨rfl, hb8⟩
              have hz8 := hb8.size
              have hX8 := HX.out.keep hb8
              have hY8 := HY.out.keep hb8
              have HB8 := Lib.hid (HC.out.trans (hb8.mono (by have := HZ.out; omega)))
              have q0 := box_cell (j := 0) hX8.1 rfl
              have q1 := box_cell (j := 1) hX8.1 rfl
              have p0 := box_cell (j := 0) hY8.1 rfl
              have p1 := box_cell (j := 1) hY8.1 rfl
              have f0 := box_free hY8.1 0
              have f1 := box_free hY8.1 1
              have HX8 := Lib.hid hX8
              have HY8 := Lib.hid hY8
              clear hb8 hX8 hY8 HX HY
              go_wp2_with fail
              go_roundw
              case rel => exact ⟨k + 1, A7, c7, by omega, by go_num, by rw [HYE.out]; exact HeldM.over HY8.out HX8.out (by omega) (by omega), HeldM.overB HB8.out (by omega)⟩
              case measure => simp [intOf] <;> omega
          · have hkn : k = n := by omega
            subst hkn
            rw [back_end] at hH
            have p0 := box_cell (j := 0) hH.1 rfl
            have p1 := box_cell (j := 1) hH.1 rfl
            simp only [newM, List.length_nil] at p0 p1
            have HC := Lib.hid hBw
            clear hH hBw
            go_wp2_with fail
            go_ret
            exact ⟨rfl, by rw [hBn]; exact HC.out⟩
  · go_enter Try.func3, Try.ntmps3
    go_wp2_with fail
    go_ret
    exact ⟨rfl, Below.refl _ _⟩

set_option maxRecDepth 100000 in
theorem lifted (os : Os) (started : os.Started) (H : Type) (enc : TypeId × Value → H) :
    ReturnsInHanded {} Try.checked os 3 .any (Rows.fnLockSpec.pre6 enc Try.prog Try.f3 Rows.fnLockRow.domain false) (Rows.fnLockSpec.post enc Try.prog Try.f3 false true false false) := by
  refine returnsInHanded_of_change (C := Try.checked) own started (by kernel_rfl) Try.func3
    (ChangeSpec.witness6 (enc := enc) (C := Try.checked) false ⟨#[], #[.slice none 0 0], []⟩ 8 (by kernel_rfl) (by kernel_rfl) (by kernel_rfl) (by kernel_rfl)) ?_
  intro W base args ds gs before hval0 hW hcnd _
  have hval : ∀ (j : Nat) t v, Try.f3.params[j]? = some t → args[j]? = some v → Value.okWide Try.prog W .any base t v := hval0
  have hW' := hW
  obtain ⟨p, q, hA0, hV, rfl, hfz, hnd⟩ := hW
  have hA : DataW.TrodAll enc Try.prog W 0 (fun _ => true) true Try.f3.params.toList args.toList ds p := hA0
  rw [Try.params3] at hA hval
  obtain ⟨v0, vs0, d0, ds0, p0, q0, hargs, rfl, rfl, h0, r0⟩ := trodAll_cons hA
  obtain ⟨rfl, rfl, rfl⟩ := trodAll_nil r0
  obtain rfl : args = #[v0] := by cases args; simp_all
  obtain ⟨rfl, rfl⟩ := trodVars_none hV
  obtain ⟨a0, len0, cap0, rfl⟩ := okWide_slice Try.underlying22 (hval 0 22 v0 rfl rfl)
  have k0 := h0
  have lt0 : ∀ x ∈ p0, x.block < W.heap.size := by obtain ⟨m, hm⟩ := k0; exact DataW.trod_lt m _ _ _ hm
  obtain ⟨z0, w0⟩ : ∃ zs, IsRow .u8 W a0 len0 cap0 zs := by
    obtain ⟨fuel, hf⟩ := h0
    rcases open_ints Try.underlying22 Try.underlying5 (by kernel_rfl) hf with ⟨hcs, _⟩ | ⟨x, l, c, zs, hcs, _, hl, hm, hz, _, hcell, hwz⟩
    · simp [Value.cells] at hcs
      obtain ⟨rfl, rfl, rfl⟩ := hcs
      exact ⟨[], .inl ⟨rfl, rfl, rfl, rfl⟩⟩
    · simp [Value.cells] at hcs
      obtain ⟨rfl, rfl, rfl⟩ := hcs
      exact ⟨zs, .inr ⟨_, rfl, hl, hm, by simpa using hz, hcell, hwz⟩⟩
  clear hA0 hval0
  refine (walk a0 len0 cap0 z0 W w0).mono fun e W' ⟨he, bel⟩ => ?_
  subst he
  exact ⟨_, rfl, _, _, _, [], _, [], hW', trodAll_mk1 (shut_bool Try.underlying4 _), (trodAll_cons_mk (Below.trod laidOut (by kernel_rfl) (of_decide_eq_true (by kernel_rfl)) k0 bel lt0) trodAll_mk0), rfl, bel.frame _, fun h => by cases h⟩

theorem over : Rows.fnLockRow.holds Try.pinned (OpenSpec.ofChange Rows.fnLockSpec) :=
  OpenClaim.holds_of_wide 3 Try.f3 rfl rfl rfl rfl rfl rfl rfl ⟨rfl, rfl, rfl, rfl, rfl⟩ rfl rfl rfl rfl rfl (by kernel_rfl) Try.func3 (by kernel_rfl)
    (of_decide_eq_true (by kernel_rfl)) (by unfold Func.isWrapper; first | (rw [if_pos (by decide +kernel)]; kernel_rfl) | (rw [if_neg (by decide +kernel)]; exact ⟨rfl, rfl⟩))
    (fun os started H enc _ => lifted os started H enc)

theorem proved : Rows.FnLockSaid := over
#print axioms proved
end Go.Proofs.Ytalbbhnfdbacdaa.fnLock
