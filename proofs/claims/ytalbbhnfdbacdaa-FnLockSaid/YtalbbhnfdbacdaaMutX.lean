
/- What Lock and Unlock answer, as pure functions; how the answer lies; slices.Contains. -/

import Derived.Test.YtalbbhnfdbacdaaMutOk

namespace Go.Proofs.Ytalbbhnfdbacdaa
set_option linter.unusedSimpArgs false
set_option linter.unusedVariables false
open Go.RowKit

def zeroM : DMutex := ⟨0, []⟩
theorem own_zeroM (w : World) (F : Nat → Prop) : layMutex.own w F zeroM [.int .i64 0, .slice none 0 0] :=
  ownMutex (x := zeroM) (by decide) (TailR.of (ownR_nil _ _ _)) (fun _ h => h.elim)
/-- What Lock answers. -/
def lockR (x : DMutex) (g : Int) : DMutex × Bool × Bool :=
  if mutOkB x && !decide (g < 0) && !x.fWait.contains g then
    if x.fOwner = g then (x, false, false) else if x.fOwner = -1 then (⟨g, x.fWait⟩, true, true) else (⟨x.fOwner, x.fWait ++ [g]⟩, false, true)
  else (zeroM, false, false)
/-- What Unlock answers. -/
def unlockR (x : DMutex) (g : Int) : DMutex × Int × Bool :=
  if mutOkB x && !decide (g < 0) && decide (x.fOwner = g) then (⟨x.fWait.headD (-1), x.fWait.tail⟩, x.fWait.headD (-1), true) else (zeroM, 0, false)

def MadeM (w : World) (r : DMutex) (u v : Value) (e : Ending) (w' : World) : Prop :=
  ∃ vs, e = .returned (.tuple #[.agg vs.toArray, u, v]) ∧ layMutex.own w' (fun g => w.heap.size ≤ g ∧ g < w'.heap.size) r vs ∧ Below w.heap.size w w'

/-- A mutex that is right and free has nobody waiting. -/
theorem free_none {o : Int} {ds : List Int} (h : mutOkB ⟨o, ds⟩ = true) (ho : o = -1) : ds = [] := by
  unfold mutOkB ownB at h
  simp only [Bool.and_eq_true, decide_eq_true_eq] at h
  exact List.length_eq_zero_iff.1 (h.1.2 ho)

set_option maxRecDepth 100000 in
set_option maxHeartbeats 2000000 in
theorem indexInt_any {w : World} {hi n c : Nat} {A : Option Addr} {g : Int} {ds : List Int} (h : SeenR Lay.int w hi A n ds) (hn : n ≤ maxLen) :
    Calls Try.prog 39 #[.slice A n c, .int .i64 g] w fun e w' => ∃ i : Int, e = .returned (.int .i64 i) ∧ (0 ≤ i ↔ ds.contains g = true) ∧ w' = w := by
  have HL := Lib.hid h.1
  unfold maxLen at hn
  obtain ⟨v, hv⟩ : ∃ v, v = ds.contains g := ⟨_, rfl⟩
  rw [← hv]
  have HV := Lib.hid hv
  clear hv
  go_enter Try.func39, Try.ntmps39
  go_wp2_with fail
  go_loop [8] (fun i => ∃ k : Nat, k ≤ n ∧ i = .int .i64 k ∧ (ds.take k).contains g = false) (fun i => n - (intOf i).toNat)
  case atStart => exact ⟨0, Nat.zero_le _, rfl, by simp⟩
  case round =>
    obtain ⟨k, hk, rfl, hall⟩ := hrel
    by_cases hlt : k < n
    · obtain ⟨hx, b, o, vs, rfl, hg, ⟨rfl, hw⟩, hcell⟩ := h.at_ hlt
      have HD := Lib.hid (List.getElem?_eq_getElem hx)
      generalize ds[k] = d at *
      have HA := Lib.hid hall
      have HT := Lib.hid (show (ds.take (k + 1)).contains g = ((ds.take k).contains g || decide (g = d)) by rw [List.take_add_one, HD.out]; simp)
      have cc0 := hcell 0 _ rfl
      simp only [show Lay.int.size = 1 from rfl, ← Nat.add_assoc, Nat.add_zero, Nat.mul_one] at cc0
      clear hcell hw hall h
      by_cases hq : g = d
      · have HM := Lib.hid (show v = true by rw [HV.out]; simpa using hq ▸ List.mem_of_getElem? HD.out)
        clear HV HD HT HA
        subst hq
        go_wp2_with fail
        go_ret
        exact ⟨(k : Int), by simp, by rw [HM.out]; simp, rfl⟩
      · go_wp2_with fail
        go_round
        case rel => exact ⟨k + 1, by omega, by go_num, by rw [HT.out, HA.out]; simp [hq]⟩
        case measure => simp [intOf]; omega
    · have HA := Lib.hid hall
      clear hall
      go_wp2_with fail
      go_ret
      obtain rfl : k = n := by omega
      have := HA.out
      rw [List.take_of_length_le (by rw [HL.out]; exact Nat.le_refl _)] at this
      rw [← HV.out] at this
      subst this
      exact ⟨-1, by simp, by simp, rfl⟩

set_option maxRecDepth 100000 in
set_option maxHeartbeats 2000000 in
theorem hasInt_any {w : World} {hi n c : Nat} {A : Option Addr} {g : Int} {ds : List Int} (h : SeenR Lay.int w hi A n ds) (hn : n ≤ maxLen) :
    Calls Try.prog 24 #[.slice A n c, .int .i64 g] w fun e w' => e = .returned (.bool (ds.contains g)) ∧ w' = w := by
  have HI := Lib.hid (indexInt_any (c := c) (g := g) h hn)
  generalize ds.contains g = v at HI ⊢
  go_enter Try.func24, Try.ntmps24
  go_wp2_with fail
  refine HI.out.mono ?_
  rintro e w1 ⟨i, rfl, hi, rfl⟩
  have HE := Lib.hid (show decide (i ≥ 0) = v by rw [Bool.eq_iff_iff, decide_eq_true_eq]; exact hi)
  clear hi
  go_wp2_with fail
  go_ret
  exact ⟨by have := HE.out; subst this; simp, rfl⟩
end Go.Proofs.Ytalbbhnfdbacdaa
