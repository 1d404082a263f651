
/- The text of an item, as the program writes it, as the model does. -/

import Derived.Test.YtakogbpjijbpeaaDoorItemTab

import Derived.Test.YtakogbpjijbpeaaDoorBase

import Derived.Lib.Join

namespace Go.Proofs.YtakogbpjijbpeaaDoor
set_option linter.unusedSimpArgs false
set_option linter.unusedVariables false
open Go.RowKit

def elseIW : List UInt8 := [101, 108, 115, 101]
def zeroIW : List UInt8 := [122, 101, 114, 111]
def valT (v : Int) : List UInt8 := if v = -1 then elseIW else numText v
/-- Words with a mark between them; empty if one of them is. -/
def lineT (ws : List (List UInt8)) (mark : List UInt8) : List UInt8 := if [] ∈ ws then [] else Lib.join ws mark
def partsT (s : List UInt8) (hb hv gz : Bool) (obj val : Int) : List (List UInt8) := s :: ((if hb then [numText obj] else []) ++ ((if hv then [valT val] else []) ++ (if gz then [zeroIW] else [])))
def itemT (x : DItem) : List UInt8 :=
  if itemOkB x then lineT (partsT (itWords.getD x.fKind.toNat []) (itObjs.getD x.fKind.toNat false) (decide (itHi.getD x.fKind.toNat 0 > 0)) (decide (x.fKind = 2) && !x.fOk) x.fObj x.fVal) [32] else []
theorem numTextI_len (z : Int) : (numText z).length ≤ 10 := by
  unfold numText
  split
  · exact decDigits_short _ (by omega)
  · simp
theorem valT_len (z : Int) : (valT z).length ≤ 10 := by
  unfold valT
  split
  · decide
  · exact numTextI_len z
theorem partsT_len {s : List UInt8} {hb hv gz : Bool} {obj val : Int} (hs : s.length ≤ 10) : ∀ p ∈ partsT s hb hv gz obj val, p.length ≤ 10 := by
  intro p hp
  unfold partsT at hp
  have h1 := numTextI_len obj
  have h2 := valT_len val
  rcases List.mem_cons.1 hp with rfl | hp
  · exact hs
  · cases hb <;> cases hv <;> cases gz <;> simp at hp <;> (try rcases hp with rfl | rfl | rfl) <;> (try rcases hp with rfl | rfl) <;> (try subst hp) <;> first | assumption | decide
theorem partsT_num {s : List UInt8} {hb hv gz : Bool} {obj val : Int} : (partsT s hb hv gz obj val).length ≤ 4 := by
  unfold partsT
  cases hb <;> cases hv <;> cases gz <;> simp
theorem joinI_len {L : Nat} {mark : UInt8} : ∀ fs : List (List UInt8), (∀ f ∈ fs, f.length ≤ L) → (Lib.joinTail [mark] fs).length ≤ (L + 1) * fs.length
  | [], _ => by simp [Lib.joinTail]
  | x :: l, h => by
    have h1 := h x (List.mem_cons_self)
    have h2 := joinI_len (mark := mark) l fun f hf => h f (List.mem_cons_of_mem _ hf)
    have h3 : Lib.joinTail [mark] (x :: l) = mark :: x ++ Lib.joinTail [mark] l := by simp [Lib.joinTail]
    rw [h3, List.length_append, List.length_cons, List.length_cons, Nat.mul_add]
    omega
end Go.Proofs.YtakogbpjijbpeaaDoor
