
/- The contract of the model's l05Case: the text of a case. -/

import Derived.Test.YtgfkadhojlddpaaGreatDoorInstrTextS

import Derived.Test.YtgfkadhojlddpaaGreatDoorBase

import Derived.Test.YtgfkadhojlddpaaGreatDoorGDProg

import Derived.Deep.RegionHeld3

namespace Go.Proofs.YtgfkadhojlddpaaGreatDoor
set_option linter.unusedSimpArgs false
set_option linter.unusedVariables false
open Go.RowKit

def sendC : List UInt8 := [115, 101, 110, 100, 58]
def recvC : List UInt8 := [114, 101, 99, 118, 58]
def caseOkT (x : DCase) : Bool := (numW true nilW x.fChan).2 && (isNumB x.fReg && (isNumB x.fOk && (isNumB x.fTo && !(x.fSend && (x.fOk != 0)))))
/-- The text of a case; empty where it can't be. -/
def caseText (x : DCase) : List UInt8 :=
  if caseOkT x then
    if x.fSend then sendC ++ (numW true nilW x.fChan).1 ++ [58] ++ numText x.fReg ++ [58] ++ numText x.fTo
    else recvC ++ (numW true nilW x.fChan).1 ++ [58] ++ numText x.fReg ++ [58] ++ numText x.fOk ++ [58] ++ numText x.fTo
  else []
theorem caseText_len (x : DCase) : (caseText x).length ≤ 48 := by
  have h1 := numW_len true x.fChan
  have h2 := numText_len x.fReg
  have h3 := numText_len x.fOk
  have h4 := numText_len x.fTo
  unfold caseText
  split
  · split <;> simp only [List.length_append, sendC, recvC, List.length_cons, List.length_nil] <;> omega
  · simp

theorem size_list (l : List UInt8) : (⟨l.toArray⟩ : ByteArray).size = l.length := by simp [ByteArray.size]
theorem size_lit5 (a b c d e : UInt8) : (⟨#[a, b, c, d, e]⟩ : ByteArray).size = 5 := rfl
theorem size_lit1 (a : UInt8) : (⟨#[a]⟩ : ByteArray).size = 1 := rfl

set_option maxRecDepth 100000 in
set_option maxHeartbeats 4000000 in
theorem l05Case_any (b : Bool) (ch reg ok to : Int) (w : World) :
    Calls Tryz.prog 139 #[.agg #[.bool b, .int .i64 ch, .int .i64 reg, .int .i64 ok, .int .i64 to]] w fun e w' => e = .returned (Tx (caseText ⟨b, ch, reg, ok, to⟩)) ∧ Below w.heap.size w w' := by
  have hl := w.heap.size.lt_succ_self
  have HB := box_new w #[.bool b, .int .i64 ch, .int .i64 reg, .int .i64 ok, .int .i64 to] 141
  have hW0 : Below w.heap.size w (w.alloc (.cells #[.bool b, .int .i64 ch, .int .i64 reg, .int .i64 ok, .int .i64 to] 141)) := (Below.refl _ _).alloc (Nat.le_refl _) _
  have zal : (w.alloc (.cells #[.bool b, .int .i64 ch, .int .i64 reg, .int .i64 ok, .int .i64 to] 141)).heap.size = w.heap.size + 1 := by simp
  have HX := Lib.hid (show caseText ⟨b, ch, reg, ok, to⟩ = if ((numW true nilW ch).2 && (isNumB reg && (isNumB ok && (isNumB to && !(b && (ok != 0)))))) then (if b then sendC ++ (numW true nilW ch).1 ++ [58] ++ numText reg ++ [58] ++ numText to else recvC ++ (numW true nilW ch).1 ++ [58] ++ numText reg ++ [58] ++ numText ok ++ [58] ++ numText to) else [] from rfl)
  have HNUM := Lib.hid (fun W : World => l05Num_any ch true nilW W)
  have hln := numW_len true ch
  have hlr := numText_len reg
  have hlo := numText_len ok
  have hlt := numText_len to
  generalize numW true nilW ch = r at *
  obtain ⟨cw, cb⟩ := r
  simp only at hln
  go_enter Tryz.func139, Tryz.ntmps139
  go_wp2_with fail
  refine (HNUM.out _).mono ?_
  rintro e w1 ⟨rfl, hb1⟩
  have HB1 := box_keep HB hb1 (by omega)
  have hW1 : Below w.heap.size w w1 := hW0.trans (hb1.mono (by omega))
  have c0 := box_cell (j := 0) HB1 rfl
  have c2 := box_cell (j := 2) HB1 rfl
  have c3 := box_cell (j := 3) HB1 rfl
  have c4 := box_cell (j := 4) HB1 rfl
  have hl1 := lt_of_block HB1
  clear HB hW0 zal hb1 HB1
  cases cb
  · have hfin := Lib.hid (show caseText ⟨b, ch, reg, ok, to⟩ = [] by rw [HX.out]; simp)
    go_wp2_with fail
    go_ret
    exact ⟨by rw [hfin.out]; rfl, hW1⟩
  cases br : isNumB reg
  · have hfin := Lib.hid (show caseText ⟨b, ch, reg, ok, to⟩ = [] by rw [HX.out, br]; simp)
    go_wp2_with fail
    refine (l01Num_is reg _).mono ?_
    rw [br]
    rintro e w2 ⟨rfl, rfl⟩
    go_wp2_with fail
    go_ret
    exact ⟨by rw [hfin.out]; rfl, hW1⟩
  cases bo : isNumB ok
  · have hfin := Lib.hid (show caseText ⟨b, ch, reg, ok, to⟩ = [] by rw [HX.out, bo]; simp)
    go_wp2_with fail
    refine (l01Num_is reg _).mono ?_
    rw [br]
    rintro e w2 ⟨rfl, rfl⟩
    go_wp2_with fail
    refine (l01Num_is ok _).mono ?_
    rw [bo]
    rintro e w2 ⟨rfl, rfl⟩
    go_wp2_with fail
    go_ret
    exact ⟨by rw [hfin.out]; rfl, hW1⟩
  cases bt : isNumB to
  · have hfin := Lib.hid (show caseText ⟨b, ch, reg, ok, to⟩ = [] by rw [HX.out, bt]; simp)
    go_wp2_with fail
    refine (l01Num_is reg _).mono ?_
    rw [br]
    rintro e w2 ⟨rfl, rfl⟩
    go_wp2_with fail
    refine (l01Num_is ok _).mono ?_
    rw [bo]
    rintro e w2 ⟨rfl, rfl⟩
    go_wp2_with fail
    refine (l01Num_is to _).mono ?_
    rw [bt]
    rintro e w2 ⟨rfl, rfl⟩
    go_wp2_with fail
    go_ret
    exact ⟨by rw [hfin.out]; rfl, hW1⟩
  have HY := Lib.hid (show caseText ⟨b, ch, reg, ok, to⟩ = if !(b && (ok != 0)) then (if b then sendC ++ cw ++ [58] ++ numText reg ++ [58] ++ numText to else recvC ++ cw ++ [58] ++ numText reg ++ [58] ++ numText ok ++ [58] ++ numText to) else [] by rw [HX.out, br, bo, bt]; rfl)
  go_wp2_with fail
  refine (l01Num_is reg _).mono ?_
  rw [br]
  rintro e w2 ⟨rfl, rfl⟩
  go_wp2_with fail
  refine (l01Num_is ok _).mono ?_
  rw [bo]
  rintro e w2 ⟨rfl, rfl⟩
  go_wp2_with fail
  refine (l01Num_is to _).mono ?_
  rw [bt]
  rintro e w2 ⟨rfl, rfl⟩
  clear HX br bo bt HNUM
  cases b
  · have hfin := Lib.hid (show caseText ⟨false, ch, reg, ok, to⟩ = recvC ++ cw ++ [58] ++ numText reg ++ [58] ++ numText ok ++ [58] ++ numText to by rw [HY.out]; rfl)
    clear HY
    go_wp2_with fail
    have hWd : Below w.heap.size w w1.drew := below_drawn hW1 1
    have k1 : ∀ W, (Op.stringOp .add (⟨#[114, 101, 99, 118, 58]⟩ : ByteArray) ⟨cw.toArray⟩).run Tryz.prog W = .ok (.string (⟨#[114, 101, 99, 118, 58]⟩ ++ ⟨cw.toArray⟩)) W := fun W => run_string_add_sum W _ _ (by simp only [ByteArray.size_append, size_list, size_lit5, size_lit1, List.length_cons, List.length_nil]; omega)
    have k2 : ∀ W, (Op.stringOp .add ((⟨#[114, 101, 99, 118, 58]⟩ ++ ⟨cw.toArray⟩) : ByteArray) ⟨#[58]⟩).run Tryz.prog W = .ok (.string ((⟨#[114, 101, 99, 118, 58]⟩ ++ ⟨cw.toArray⟩) ++ ⟨#[58]⟩)) W := fun W => run_string_add_sum W _ _ (by simp only [ByteArray.size_append, size_list, size_lit5, size_lit1, List.length_cons, List.length_nil]; omega)
    have k3 : ∀ W, (Op.stringOp .add (((⟨#[114, 101, 99, 118, 58]⟩ ++ ⟨cw.toArray⟩) ++ ⟨#[58]⟩) : ByteArray) ⟨(numText reg).toArray⟩).run Tryz.prog W = .ok (.string (((⟨#[114, 101, 99, 118, 58]⟩ ++ ⟨cw.toArray⟩) ++ ⟨#[58]⟩) ++ ⟨(numText reg).toArray⟩)) W := fun W => run_string_add_sum W _ _ (by simp only [ByteArray.size_append, size_list, size_lit5, size_lit1, List.length_cons, List.length_nil]; omega)
    have k4 : ∀ W, (Op.stringOp .add ((((⟨#[114, 101, 99, 118, 58]⟩ ++ ⟨cw.toArray⟩) ++ ⟨#[58]⟩) ++ ⟨(numText reg).toArray⟩) : ByteArray) ⟨#[58]⟩).run Tryz.prog W = .ok (.string ((((⟨#[114, 101, 99, 118, 58]⟩ ++ ⟨cw.toArray⟩) ++ ⟨#[58]⟩) ++ ⟨(numText reg).toArray⟩) ++ ⟨#[58]⟩)) W := fun W => run_string_add_sum W _ _ (by simp only [ByteArray.size_append, size_list, size_lit5, size_lit1, List.length_cons, List.length_nil]; omega)
    have k5 : ∀ W, (Op.stringOp .add (((((⟨#[114, 101, 99, 118, 58]⟩ ++ ⟨cw.toArray⟩) ++ ⟨#[58]⟩) ++ ⟨(numText reg).toArray⟩) ++ ⟨#[58]⟩) : ByteArray) ⟨(numText ok).toArray⟩).run Tryz.prog W = .ok (.string (((((⟨#[114, 101, 99, 118, 58]⟩ ++ ⟨cw.toArray⟩) ++ ⟨#[58]⟩) ++ ⟨(numText reg).toArray⟩) ++ ⟨#[58]⟩) ++ ⟨(numText ok).toArray⟩)) W := fun W => run_string_add_sum W _ _ (by simp only [ByteArray.size_append, size_list, size_lit5, size_lit1, List.length_cons, List.length_nil]; omega)
    have k6 : ∀ W, (Op.stringOp .add ((((((⟨#[114, 101, 99, 118, 58]⟩ ++ ⟨cw.toArray⟩) ++ ⟨#[58]⟩) ++ ⟨(numText reg).toArray⟩) ++ ⟨#[58]⟩) ++ ⟨(numText ok).toArray⟩) : ByteArray) ⟨#[58]⟩).run Tryz.prog W = .ok (.string ((((((⟨#[114, 101, 99, 118, 58]⟩ ++ ⟨cw.toArray⟩) ++ ⟨#[58]⟩) ++ ⟨(numText reg).toArray⟩) ++ ⟨#[58]⟩) ++ ⟨(numText ok).toArray⟩) ++ ⟨#[58]⟩)) W := fun W => run_string_add_sum W _ _ (by simp only [ByteArray.size_append, size_list, size_lit5, size_lit1, List.length_cons, List.length_nil]; omega)
    have k7 : ∀ W, (Op.stringOp .add (((((((⟨#[114, 101, 99, 118, 58]⟩ ++ ⟨cw.toArray⟩) ++ ⟨#[58]⟩) ++ ⟨(numText reg).toArray⟩) ++ ⟨#[58]⟩) ++ ⟨(numText ok).toArray⟩) ++ ⟨#[58]⟩) : ByteArray) ⟨(numText to).toArray⟩).run Tryz.prog W = .ok (.string (((((((⟨#[114, 101, 99, 118, 58]⟩ ++ ⟨cw.toArray⟩) ++ ⟨#[58]⟩) ++ ⟨(numText reg).toArray⟩) ++ ⟨#[58]⟩) ++ ⟨(numText ok).toArray⟩) ++ ⟨#[58]⟩) ++ ⟨(numText to).toArray⟩)) W := fun W => run_string_add_sum W _ _ (by simp only [ByteArray.size_append, size_list, size_lit5, size_lit1, List.length_cons, List.length_nil]; omega)
    go_region_held3 (fun W => W.cell? ⟨w.heap.size, 2, none⟩ = some (.int .i64 reg) ∧ W.cell? ⟨w.heap.size, 3, none⟩ = some (.int .i64 ok) ∧ W.cell? ⟨w.heap.size, 4, none⟩ = some (.int .i64 to))
      (first | go_keep | exact HK9)
      (first | (go_at_call 136; refine (specNumText_any _ _).mono ?_; rintro e w9 ⟨rfl, hb9⟩; have HK9 := cell_kept3 (g := w.heap.size) (j := 2) (v := .int .i64 reg) (g1 := w.heap.size) (j1 := 3) (v1 := .int .i64 ok) (g2 := w.heap.size) (j2 := 4) (v2 := .int .i64 to) hb9 (by assumption); have HW9 := grown_on (B := w.heap.size) (w := w) hb9 (by assumption) (Nat.le_refl _)))
    all_goals
      go_wp2_with fail
      go_ret
      exact ⟨by rw [hfin.out]; simp only [Tx_app]; rfl, HW9⟩
  · cases b0 : (ok != 0)
    · have hfin := Lib.hid (show caseText ⟨true, ch, reg, ok, to⟩ = sendC ++ cw ++ [58] ++ numText reg ++ [58] ++ numText to by rw [HY.out, b0]; rfl)
      clear HY
      go_wp2_with fail
      have hWd : Below w.heap.size w w1.drew := below_drawn hW1 1
      have k1 : ∀ W, (Op.stringOp .add (⟨#[115, 101, 110, 100, 58]⟩ : ByteArray) ⟨cw.toArray⟩).run Tryz.prog W = .ok (.string (⟨#[115, 101, 110, 100, 58]⟩ ++ ⟨cw.toArray⟩)) W := fun W => run_string_add_sum W _ _ (by simp only [ByteArray.size_append, size_list, size_lit5, size_lit1, List.length_cons, List.length_nil]; omega)
      have k2 : ∀ W, (Op.stringOp .add ((⟨#[115, 101, 110, 100, 58]⟩ ++ ⟨cw.toArray⟩) : ByteArray) ⟨#[58]⟩).run Tryz.prog W = .ok (.string ((⟨#[115, 101, 110, 100, 58]⟩ ++ ⟨cw.toArray⟩) ++ ⟨#[58]⟩)) W := fun W => run_string_add_sum W _ _ (by simp only [ByteArray.size_append, size_list, size_lit5, size_lit1, List.length_cons, List.length_nil]; omega)
      have k3 : ∀ W, (Op.stringOp .add (((⟨#[115, 101, 110, 100, 58]⟩ ++ ⟨cw.toArray⟩) ++ ⟨#[58]⟩) : ByteArray) ⟨(numText reg).toArray⟩).run Tryz.prog W = .ok (.string (((⟨#[115, 101, 110, 100, 58]⟩ ++ ⟨cw.toArray⟩) ++ ⟨#[58]⟩) ++ ⟨(numText reg).toArray⟩)) W := fun W => run_string_add_sum W _ _ (by simp only [ByteArray.size_append, size_list, size_lit5, size_lit1, List.length_cons, List.length_nil]; omega)
      have k4 : ∀ W, (Op.stringOp .add ((((⟨#[115, 101, 110, 100, 58]⟩ ++ ⟨cw.toArray⟩) ++ ⟨#[58]⟩) ++ ⟨(numText reg).toArray⟩) : ByteArray) ⟨#[58]⟩).run Tryz.prog W = .ok (.string ((((⟨#[115, 101, 110, 100, 58]⟩ ++ ⟨cw.toArray⟩) ++ ⟨#[58]⟩) ++ ⟨(numText reg).toArray⟩) ++ ⟨#[58]⟩)) W := fun W => run_string_add_sum W _ _ (by simp only [ByteArray.size_append, size_list, size_lit5, size_lit1, List.length_cons, List.length_nil]; omega)
      have k5 : ∀ W, (Op.stringOp .add (((((⟨#[115, 101, 110, 100, 58]⟩ ++ ⟨cw.toArray⟩) ++ ⟨#[58]⟩) ++ ⟨(numText reg).toArray⟩) ++ ⟨#[58]⟩) : ByteArray) ⟨(numText to).toArray⟩).run Tryz.prog W = .ok (.string (((((⟨#[115, 101, 110, 100, 58]⟩ ++ ⟨cw.toArray⟩) ++ ⟨#[58]⟩) ++ ⟨(numText reg).toArray⟩) ++ ⟨#[58]⟩) ++ ⟨(numText to).toArray⟩)) W := fun W => run_string_add_sum W _ _ (by simp only [ByteArray.size_append, size_list, size_lit5, size_lit1, List.length_cons, List.length_nil]; omega)
      go_region_held3 (fun W => W.cell? ⟨w.heap.size, 2, none⟩ = some (.int .i64 reg) ∧ W.cell? ⟨w.heap.size, 4, none⟩ = some (.int .i64 to))
        (first | go_keep | exact HK9)
        (first | (go_at_call 136; refine (specNumText_any _ _).mono ?_; rintro e w9 ⟨rfl, hb9⟩; have HK9 := cell_kept2 (g := w.heap.size) (j := 2) (v := .int .i64 reg) (g1 := w.heap.size) (j1 := 4) (v1 := .int .i64 to) hb9 (by assumption); have HW9 := grown_on (B := w.heap.size) (w := w) hb9 (by assumption) (Nat.le_refl _)))
      all_goals
        go_wp2_with fail
        go_ret
        exact ⟨by rw [hfin.out]; simp only [Tx_app]; rfl, HW9⟩
    · have hfin := Lib.hid (show caseText ⟨true, ch, reg, ok, to⟩ = [] by rw [HY.out, b0]; rfl)
      go_wp2_with fail
      go_ret
      exact ⟨by rw [hfin.out]; rfl, hW1⟩
end Go.Proofs.YtgfkadhojlddpaaGreatDoor
