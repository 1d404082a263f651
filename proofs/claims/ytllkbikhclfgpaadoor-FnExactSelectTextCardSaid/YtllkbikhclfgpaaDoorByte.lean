
/- Bytes in memory: how a list of bytes lies in a slice, and how a slice of bytes becomes a text. -/

import Derived.Test.YtllkbikhclfgpaaDoorProg

import Derived.Test.YtllkbikhclfgpaaDoorWords

import Derived.Deep.QuietTactic

import Derived.BigQuiet

import Derived.Lib.Hide

import Derived.OpenShut

namespace Go.Proofs.YtllkbikhclfgpaaDoor

open Go.RowKit

abbrev B (b : UInt8) : Value := .int .u8 (b.toNat : Int)

theorem u8_info : (Tryd.prog.info? 5).map (fun i => (i.zero, i.size, i.bytes)) = some (some (.int .u8 0), 1, 1) := by kernel_rfl

/-- A slice of bytes that came in can be read as a list of bytes. -/
theorem seen_of_ints {w : World} {a : Option Addr} {len cap : Nat} {zs : List Int}
    (h : (a = none ∧ len = 0 ∧ cap = 0 ∧ zs = []) ∨
      ∃ x, a = some x ∧ len ≤ cap ∧ cap ≤ maxLen ∧ zs.length = cap ∧ (∀ i, i < zs.length → w.cell? (x.add i) = some (.int .u8 (zs.getD i 0))) ∧ ∀ n ∈ zs, (Lit.int .u8 n).wf = true) :
    ∃ bs : List UInt8, Seen w w.heap.size 1 a len (bs.map B) := by
  rcases h with ⟨rfl, rfl, rfl, rfl⟩ | ⟨x, rfl, hl, hm, hz, hc, hw⟩
  · exact ⟨[], Seen.nil_⟩
  · refine ⟨(zs.take len).map fun z => UInt8.ofNat z.toNat, by simp; omega, ?_⟩
    by_cases h0 : len = 0
    · left; simp [h0]
    · right
      obtain ⟨g, o, sp⟩ := x
      have hc0 := hc 0 (by omega)
      have hsp : sp = none := by simpa [Addr.add] using World.cell?_spot hc0
      subst hsp
      refine ⟨g, o, rfl, ?_, fun j u hu => ?_⟩
      · have := World.block_lt_of_cell? w _ hc0
        simpa [add_plain] using this
      · by_cases hj : j < len
        · have hjz : j < zs.length := by omega
          have hcj := hc j hjz
          rw [add_plain] at hcj
          rw [hcj, ← hu]
          have hwj := hw zs[j] (List.getElem_mem hjz)
          have hb : 0 ≤ zs[j] ∧ zs[j] < 256 := by
            have := bounds_u8 hwj
            omega
          simp only [List.getElem?_map, List.getElem?_take, if_pos hj, List.getElem?_eq_getElem hjz, List.getD_eq_getElem?_getD, Option.getD_some, Option.map_some, B, UInt8.toNat_ofNat']
          congr 2
          omega
        · exfalso
          rw [List.getElem?_eq_none (by simp; omega)] at hu
          cases hu

theorem oneCell_B (bs : List UInt8) : ∀ u ∈ bs.map B, u.oneCell' = true := by
  intro u hu
  obtain ⟨b, _, rfl⟩ := List.mem_map.1 hu
  rfl

theorem conv_seen {w : World} {hi n c : Nat} {A : Option Addr} {bs : List UInt8} (h : Seen w hi 1 A n (bs.map B)) (nq : Nat) :
    (convert 92 9 (.slice A n c)).run Tryd.prog (w.drewN nq) = .ok (.string ⟨bs.toArray⟩) (w.drewN nq) := by
  have hl := h.len
  rcases A with _ | ad
  · have hb : bs = [] := by
      rcases h.2 with h0 | ⟨g, o, e, _⟩
      · simpa using h0
      · cases e
    subst hb
    exact run_convert_bytes_nil (P := Tryd.prog) _ 92 5 Tryd.underlying92 Tryd.underlying5 n c 9 Tryd.underlying9
  · have hload := run_loadCells_list (P := Tryd.prog) (w.drewN nq) ad (bs.map B) (fun j v hj => h.news rfl j v hj)
    rw [hl, show bs.map B = (bs.map fun b => (b.toNat : Int)).map (Value.int .u8) from by simp [Function.comp_def]] at hload
    rw [run_convert_bytes_string (P := Tryd.prog) _ 92 9 5 _ n c Tryd.underlying92 Tryd.underlying5 Tryd.underlying9, run_bytesToString _ _ _ _ _ hload, foldl_push_bytes]
    simp [ByteArray.empty, ByteArray.emptyWithCapacity, Function.comp_def]
    rfl

/-- The call answers a slice of bytes in memory of its own and a bool, and turns nothing that was there. -/
def MadeB2 (w : World) (r : List UInt8 × Bool) (en : Ending) (w' : World) : Prop :=
  ∃ A n c, en = .returned (.tuple #[.slice A n c, .bool r.2]) ∧ Own w' w.heap.size w'.heap.size 5 1 A n c (r.1.map B) ∧ Below w.heap.size w w'

end Go.Proofs.YtllkbikhclfgpaaDoor
