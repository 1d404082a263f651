
/- A region that draws its order: operations whose guard says no are skipped, many at once. No program is named here. -/

import Derived.Test.YtapbjnfopniicaaGreatDoorBase

import Derived.Deep.RegionWith

namespace Go.Proofs.YtapbjnfopniicaaGreatDoor

open Go

section

variable {P : Program} {md : Region.Mode} {ops : Array Oper} {Q : Exit → Act → World → Prop}

/-- These operations may be taken one behind the other, and all hang on operation j's yes. -/
def skipsB (md : Region.Mode) (ops : Array Oper) (j : Nat) : Array Bool → List (Nat × Nat) → Bool
  | _, [] => true
  | listed, (i, d) :: is => (match ops[i]?, ops[j]? with | some o, some oj => o.guard == some (j, true) && (o.dst == some d && (match oj.dst with | some dj => d != dj | none => true)) | _, _ => false) &&
      (Region.free md ops listed i && ((Region.ready md ops listed).contains i && skipsB md ops j (listed.setIfInBounds i true) is))

/-- What is listed behind them, and the frame. -/
def skipL : Array Bool → List (Nat × Nat) → Array Bool
  | listed, [] => listed
  | listed, (i, _) :: is => skipL (listed.setIfInBounds i true) is
def skipA : Act → List (Nat × Nat) → Act
  | a, [] => a
  | a, (_, d) :: is => skipA (a.put (some d) undef) is

theorem yielded_put {j d : Nat} {a : Act} {oj : Oper} (hj : ops[j]? = some oj) (hd : (match oj.dst with | some dj => d != dj | none => true) = true) : yielded ops (a.put (some d) undef).tmps j = yielded ops a.tmps j := by
  unfold yielded
  rw [hj]
  cases hdj : oj.dst with
  | none => simp [hdj]
  | some dj =>
    rw [hdj] at hd
    have hne : d ≠ dj := by simpa using hd
    simp [hdj, Act.put, Array.getElem?_setIfInBounds_ne hne]

theorem wpAny_skips {j : Nat} (hs : Region.noSelect ops = true) (hQ : ∀ (d : Nat) (v : Value) c a w, Q (.panic c) (a.put (some d) v) w → Q (.panic c) a w) : ∀ (is : List (Nat × Nat)) {fuel : Nat} {listed : Array Bool} {a : Act} {w : World},
    skipsB md ops j listed is = true → yielded ops a.tmps j = some false → wpAny P md ops Q fuel (skipL listed is) (skipA a is) w → wpAny P md ops Q (fuel + is.length) listed a w
  | [], _, _, _, _, _, _, h => h
  | (i, d) :: is, fuel, listed, a, w, hb, hy, h => by
    unfold skipsB at hb
    simp only [Bool.and_eq_true] at hb
    obtain ⟨h1, h2, h3, h4⟩ := hb
    cases ho : ops[i]? with
    | none => rw [ho] at h1; simp at h1
    | some o =>
      cases hj : ops[j]? with
      | none => rw [ho, hj] at h1; simp at h1
      | some oj =>
        rw [ho, hj] at h1
        simp only [Bool.and_eq_true, beq_iff_eq] at h1
        obtain ⟨hg, hdst, hd⟩ := h1
        have hw : Region.wanted o (yielded ops a.tmps) = false := by
          unfold Region.wanted
          rw [hg]
          simp [hy]
        have hrec := wpAny_skips hs hQ is h4 (by rw [yielded_put hj hd, hy]) h
        have ht := wpAny_take (i := i) (oi := o) (v := undef) ho hs h2 h3 (fun c a w => by rw [hdst]; exact hQ d undef c a w) (Or.inr ⟨hw, rfl⟩) (by rw [hdst]; exact hrec)
        exact ht
end

end Go.Proofs.YtapbjnfopniicaaGreatDoor
