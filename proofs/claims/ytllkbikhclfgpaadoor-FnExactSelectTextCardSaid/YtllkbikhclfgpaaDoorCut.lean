
/- Slices of slices: where a part of a row of bytes lies, and how it is read. -/

import Derived.Test.YtllkbikhclfgpaaDoorByte

namespace Go.Proofs.YtllkbikhclfgpaaDoor

open Go.RowKit

/-- The address of s[l:..] of a slice at A with capacity c. -/
def cutA (A : Option Addr) (l c : Nat) : Option Addr := if c = l then A else A.map (·.add l)

theorem Seen.cut {w : World} {hi n : Nat} {A : Option Addr} {xs : List Value} (h : Seen w hi 1 A n xs) {l m c : Nat} (hl : l + m ≤ n) (hc : n ≤ c) : Seen w hi 1 (cutA A l c) m ((xs.drop l).take m) := by
  have hlen : xs.length = n := by simpa using h.1
  refine ⟨by simp [hlen]; omega, ?_⟩
  by_cases hm : m = 0
  · left; simp [hm]
  · right
    rcases h.2 with h0 | ⟨g, o, rfl, hg, hcell⟩
    · rw [h0] at hlen; simp at hlen; omega
    · refine ⟨g, o + l, ?_, hg, fun j u hu => ?_⟩
      · rw [cutA, if_neg (by omega)]
        simp [add_plain]
      · rw [List.getElem?_take] at hu
        split at hu
        · rw [List.getElem?_drop] at hu
          have := hcell (l + j) u hu
          rw [show o + l + j = o + (l + j) by omega]
          exact this
        · cases hu

section

variable {P : Program} {t e : TypeId} (ht : P.underlying t = some (.slice e)) (hz : ∀ w, (Go.sizeOf e).run P w = .ok 1 w) (W : World) (A : Option Addr) (n c : Nat)
include ht hz
theorem run_cut_lh (l h : Int) (h0 : 0 ≤ l) (h1 : l ≤ h) (h2 : h ≤ c) :
    (Instr.slice t (.slice A n c) (some (.int .i64 l)) (some (.int .i64 h)) none).run P W = .ok (.slice (cutA A l.toNat c) (h.toNat - l.toNat) (c - l.toNat)) W := by
  have ht' : P.underlying t = some (.slice (P.elem t)) := by simp [Program.elem, ht]
  have he : P.elem t = e := by simp [Program.elem, ht]
  rw [run_slice_lh W t _ _ _ ht' .i64 .i64 _ _ h0 h1 h2, he, hz]
  simp [Result.andThen, sliced, cutA]
theorem run_cut_h (h : Int) (h1 : 0 ≤ h) (h2 : h ≤ c) :
    (Instr.slice t (.slice A n c) none (some (.int .i64 h)) none).run P W = .ok (.slice (cutA A 0 c) h.toNat c) W := by
  have ht' : P.underlying t = some (.slice (P.elem t)) := by simp [Program.elem, ht]
  have he : P.elem t = e := by simp [Program.elem, ht]
  rw [run_slice_h W t _ _ _ ht' .i64 _ h1 h2, he, hz]
  simp [Result.andThen, sliced, cutA]
theorem run_cut_l (l : Int) (h0 : 0 ≤ l) (h1 : l ≤ n) :
    (Instr.slice t (.slice A n c) (some (.int .i64 l)) none none).run P W = .ok (.slice (cutA A l.toNat c) (n - l.toNat) (c - l.toNat)) W := by
  have ht' : P.underlying t = some (.slice (P.elem t)) := by simp [Program.elem, ht]
  have he : P.elem t = e := by simp [Program.elem, ht]
  rw [run_slice_l W t _ _ _ ht' .i64 _ h0 h1, he, hz]
  simp [Result.andThen, sliced, cutA]
end

theorem u8_size : ∀ w, (Go.sizeOf 5).run Tryd.prog w = .ok 1 w := fun _ => by kernel_rfl
end Go.Proofs.YtllkbikhclfgpaaDoor
