
/- The words for one byte, conversions, cuts of slices and numbers over the seat's program. -/

import Derived.Test.YtapbjnfopniicaaGreatDoorProg

import Derived.Test.YtapbjnfopniicaaGreatDoorBase

import Derived.Deep.QuietTactic

import Derived.BigQuiet

import Derived.Lib.Hide

import Derived.OpenShut

/-! Bytes in memory: how a list of bytes lies in a slice, and how a slice of bytes becomes a text. -/

namespace Go.Proofs.YtapbjnfopniicaaGreatDoor

open Go.RowKit

abbrev B (b : UInt8) : Value := .int .u8 (b.toNat : Int)

theorem u8_info : (Tryz.prog.info? 5).map (fun i => (i.zero, i.size, i.bytes)) = some (some (.int .u8 0), 1, 1) := by kernel_rfl

/-- A slice of bytes that came in can be read as a list of bytes. -/
theorem seen_of_ints {w : World} {a : Option Addr} {len cap : Nat} {zs : List Int}
    (h : (a = none ∧ len = 0 ∧ cap = 0 ∧ zs = []) ∨
      ∃ x, a = some x ∧ len ≤ cap ∧ cap ≤ maxLen ∧ zs.length = cap ∧ (∀ i, i < zs.length → w.cell? (x.add i) = some (.int .u8 (zs.getD i 0))) ∧ ∀ n ∈ zs, (Lit.int .u8 n).wf = true) :
    ∃ bs : List UInt8, Seen w w.heap.size 1 a len (bs.map B) := by
  rcases h with ⟨rfl, rfl, rfl, rfl⟩ | ⟨x, rfl, hl, hm, hz, hc, hw⟩
  · exact ⟨[], Seen.nil_⟩
  · refine ⟨(zs.take len).map fun z => UInt8.ofNat z.toNat, by simp; omega, ?_⟩
    by_cases h0 : len = 0
    · left; simp [h0]
    · right
      obtain ⟨g, o, sp⟩ := x
      have hc0 := hc 0 (by omega)
      have hsp : sp = none := by simpa [Addr.add] using World.cell?_spot hc0
      subst hsp
      refine ⟨g, o, rfl, ?_, fun j u hu => ?_⟩
      · have := World.block_lt_of_cell? w _ hc0
        simpa [add_plain] using this
      · by_cases hj : j < len
        · have hjz : j < zs.length := by omega
          have hcj := hc j hjz
          rw [add_plain] at hcj
          rw [hcj, ← hu]
          have hwj := hw zs[j] (List.getElem_mem hjz)
          have hb : 0 ≤ zs[j] ∧ zs[j] < 256 := by
            have := bounds_u8 hwj
            omega
          simp only [List.getElem?_map, List.getElem?_take, if_pos hj, List.getElem?_eq_getElem hjz, List.getD_eq_getElem?_getD, Option.getD_some, Option.map_some, B, UInt8.toNat_ofNat']
          congr 2
          omega
        · exfalso
          rw [List.getElem?_eq_none (by simp; omega)] at hu
          cases hu

theorem oneCell_B (bs : List UInt8) : ∀ u ∈ bs.map B, u.oneCell' = true := by
  intro u hu
  obtain ⟨b, _, rfl⟩ := List.mem_map.1 hu
  rfl

/-- The call answers a slice of bytes in memory of its own and a bool, and turns nothing that was there. -/
def MadeB2 (w : World) (r : List UInt8 × Bool) (en : Ending) (w' : World) : Prop :=
  ∃ A n c, en = .returned (.tuple #[.slice A n c, .bool r.2]) ∧ Own w' w.heap.size w'.heap.size 5 1 A n c (r.1.map B) ∧ Below w.heap.size w w'

end Go.Proofs.YtapbjnfopniicaaGreatDoor

/-! One byte as a text. -/

namespace Go.Proofs.YtapbjnfopniicaaGreatDoor

open Go.RowKit

end Go.Proofs.YtapbjnfopniicaaGreatDoor

/-! Contracts of isNum and l01Num: whether an int is a number. -/

namespace Go.Proofs.YtapbjnfopniicaaGreatDoor

open Go.RowKit

end Go.Proofs.YtapbjnfopniicaaGreatDoor

/-! Slices of slices: where a part of a row of bytes lies, and how it is read. -/

namespace Go.Proofs.YtapbjnfopniicaaGreatDoor

open Go.RowKit

/-- The address of s[l:..] of a slice at A with capacity c. -/
def cutA (A : Option Addr) (l c : Nat) : Option Addr := if c = l then A else A.map (·.add l)

theorem Seen.cut {w : World} {hi n : Nat} {A : Option Addr} {xs : List Value} (h : Seen w hi 1 A n xs) {l m c : Nat} (hl : l + m ≤ n) (hc : n ≤ c) : Seen w hi 1 (cutA A l c) m ((xs.drop l).take m) := by
  have hlen : xs.length = n := by simpa using h.1
  refine ⟨by simp [hlen]; omega, ?_⟩
  by_cases hm : m = 0
  · left; simp [hm]
  · right
    rcases h.2 with h0 | ⟨g, o, rfl, hg, hcell⟩
    · rw [h0] at hlen; simp at hlen; omega
    · refine ⟨g, o + l, ?_, hg, fun j u hu => ?_⟩
      · rw [cutA, if_neg (by omega)]
        simp [add_plain]
      · rw [List.getElem?_take] at hu
        split at hu
        · rw [List.getElem?_drop] at hu
          have := hcell (l + j) u hu
          rw [show o + l + j = o + (l + j) by omega]
          exact this
        · cases hu

section

variable {P : Program} {t e : TypeId} (ht : P.underlying t = some (.slice e)) (hz : ∀ w, (Go.sizeOf e).run P w = .ok 1 w) (W : World) (A : Option Addr) (n c : Nat)
include ht hz
theorem run_cut_lh (l h : Int) (h0 : 0 ≤ l) (h1 : l ≤ h) (h2 : h ≤ c) :
    (Instr.slice t (.slice A n c) (some (.int .i64 l)) (some (.int .i64 h)) none).run P W = .ok (.slice (cutA A l.toNat c) (h.toNat - l.toNat) (c - l.toNat)) W := by
  have ht' : P.underlying t = some (.slice (P.elem t)) := by simp [Program.elem, ht]
  have he : P.elem t = e := by simp [Program.elem, ht]
  rw [run_slice_lh W t _ _ _ ht' .i64 .i64 _ _ h0 h1 h2, he, hz]
  simp [Result.andThen, sliced, cutA]
theorem run_cut_h (h : Int) (h1 : 0 ≤ h) (h2 : h ≤ c) :
    (Instr.slice t (.slice A n c) none (some (.int .i64 h)) none).run P W = .ok (.slice (cutA A 0 c) h.toNat c) W := by
  have ht' : P.underlying t = some (.slice (P.elem t)) := by simp [Program.elem, ht]
  have he : P.elem t = e := by simp [Program.elem, ht]
  rw [run_slice_h W t _ _ _ ht' .i64 _ h1 h2, he, hz]
  simp [Result.andThen, sliced, cutA]
theorem run_cut_l (l : Int) (h0 : 0 ≤ l) (h1 : l ≤ n) :
    (Instr.slice t (.slice A n c) (some (.int .i64 l)) none none).run P W = .ok (.slice (cutA A l.toNat c) (n - l.toNat) (c - l.toNat)) W := by
  have ht' : P.underlying t = some (.slice (P.elem t)) := by simp [Program.elem, ht]
  have he : P.elem t = e := by simp [Program.elem, ht]
  rw [run_slice_l W t _ _ _ ht' .i64 _ h0 h1, he, hz]
  simp [Result.andThen, sliced, cutA]
end

theorem u8_size : ∀ w, (Go.sizeOf 5).run Tryz.prog w = .ok 1 w := fun _ => by kernel_rfl
end Go.Proofs.YtapbjnfopniicaaGreatDoor
