
/- A case that can be done at once. Mathematics alone. -/

import Derived.Test.YtghkdkagnibkgaaGDEng

import Derived.Test.YtghkdkagnibkgaaGDProg

import Derived.Test.YtghkdkagnibkgaaGChanI

namespace Go.Proofs.Ytghkdkagnibkgaa
set_option linter.unusedSimpArgs false
set_option linter.unusedVariables false
open Go.RowKit

def canB (e : DEng) (x : DCase) : Bool := decide (0 ≤ x.fChan) && (match e.fChans[x.fChan.toNat]? with | some c => if x.fSend then canSendB c else canRecvB c | none => false)
theorem canB_in {e : DEng} {x : DCase} {q : Nat} {c : DChan} (hx : x.fChan = q) (h : e.fChans[q]? = some c) : canB e x = if x.fSend then canSendB c else canRecvB c := by
  unfold canB
  rw [hx, Int.toNat_natCast, h, decide_eq_true (by omega), Bool.true_and]
theorem canB_out {e : DEng} {x : DCase} (h : ¬ (0 ≤ x.fChan ∧ x.fChan < e.fChans.length)) : canB e x = false := by
  unfold canB
  by_cases h0 : 0 ≤ x.fChan
  · rw [List.getElem?_eq_none (by omega), Bool.and_false]
  · rw [decide_eq_false h0, Bool.false_and]
/-- The places of those that are ready. -/
def rdyB (e : DEng) (cs : List DCase) (j : Nat) : Bool := match cs[j]? with | some c => canB e c | none => false
def rdyTo (e : DEng) (cs : List DCase) (k : Nat) : List Int := ((List.range k).filter (rdyB e cs)).map fun (j : Nat) => (j : Int)
def rdyL (e : DEng) (cs : List DCase) : List Int := rdyTo e cs cs.length
theorem rdyTo_step {e : DEng} {cs : List DCase} {k : Nat} {c : DCase} (h : cs[k]? = some c) : rdyTo e cs (k + 1) = rdyTo e cs k ++ if canB e c = true then [(k : Int)] else [] := by
  unfold rdyTo
  rw [List.range_succ, List.filter_append, List.map_append]
  congr 1
  cases hs : canB e c
  · simp [rdyB, h, hs]
  · simp [rdyB, h, hs]
theorem rdyTo_len (e : DEng) (cs : List DCase) (k : Nat) : (rdyTo e cs k).length ≤ k := by
  unfold rdyTo
  rw [List.length_map]
  exact Nat.le_trans (List.length_filter_le _ _) (by simp)
theorem rdyTo_mem {e : DEng} {cs : List DCase} {k : Nat} {z : Int} (h : z ∈ rdyTo e cs k) : 0 ≤ z ∧ z < k := by
  unfold rdyTo at h
  obtain ⟨j, hj, rfl⟩ := List.mem_map.1 h
  have := List.mem_range.1 (List.mem_filter.1 hj).1
  omega
end Go.Proofs.Ytghkdkagnibkgaa
