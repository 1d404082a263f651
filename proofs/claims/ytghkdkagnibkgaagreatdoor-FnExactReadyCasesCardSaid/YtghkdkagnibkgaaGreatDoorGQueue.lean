
/- Queue, MutM, ChanCopy, ChanX, merged for claims. -/

import Derived.Test.YtghkdkagnibkgaaGreatDoorGBase

import Derived.Deep.Cut

import Derived.BigQuiet

import Derived.Test.YtghkdkagnibkgaaGreatDoorGDEng

import Derived.Test.YtghkdkagnibkgaaGreatDoorGChanI

namespace Go.Proofs.YtghkdkagnibkgaaGreatDoor
set_option linter.unusedSimpArgs false
set_option linter.unusedVariables false
open Go.RowKit

/-- The function may be entered. -/
def Enters (f : Nat) : Prop := ∀ (args : Array Value) (w : World), Sem.run Tryz.prog (callFunc f args) w = .ok (.enter f args) w

theorem enters_of {f : Nat} {fn : Func} (h : Tryz.prog.funcs[f]? = some fn) (h1 : (fn.name == "runtime.NumGoroutine") = false) (h2 : fn.body.isNone = false) : Enters f := fun args w => by
  have h3 : ¬ fn.name = "runtime.NumGoroutine" := by simpa using h1
  have h4 : ¬ fn.body = none := fun h => by rw [h] at h2; simp at h2
  simp [callFunc, go_sem, h, h3, h4]

set_option maxRecDepth 100000 in
set_option maxHeartbeats 2000000 in
theorem countV_any {f : Nat} (hf : Enters f) {cap : Array Value} {p : Int → Bool} {w : World} {hi n c : Nat} {A : Option Addr} {ds : List Int} (h : SeenR Lay.int w hi A n ds) (hhi : hi ≤ w.heap.size) (hn : n ≤ maxLen)
    (hp : ∀ W d, Below w.heap.size w W → Calls Tryz.prog f (#[.int .i64 d] ++ cap) W fun e W' => e = .returned (.bool (p d)) ∧ Below W.heap.size W W') :
    Calls Tryz.prog 172 #[.slice A n c, .func (.func f) #[] cap] w fun e w' => e = .returned (.int .i64 (ds.countP p : Int)) ∧ Below w.heap.size w w' := by
  have HL := Lib.hid h.1
  unfold maxLen at hn
  go_enter Tryz.func172, Tryz.ntmps172
  go_wp2_with fail
  go_loopw [5, 10] (fun q i wr => ∃ k : Nat, k ≤ n ∧ i = .int .i64 k ∧ q = .int .i64 ((ds.take k).countP p : Int) ∧ Below w.heap.size w wr) (fun _ i _ => n - (intOf i).toNat)
  case atStart => exact ⟨0, Nat.zero_le _, rfl, by simp, Below.refl _ _⟩
  case round =>
    obtain ⟨k, hk, rfl, rfl, hb⟩ := hrel
    by_cases hlt : k < n
    · obtain ⟨hx, g, o, vs, rfl, hg, ⟨rfl, hw⟩, hcell⟩ := (h.below hb hhi).at_ hlt
      have HD := Lib.hid (List.getElem?_eq_getElem hx)
      have HC := Lib.hid (List.countP_le_length (p := p) (l := ds.take k))
      have HCn : (ds.take k).countP p ≤ k := by have := HC.out; rw [List.length_take] at this; omega
      have hz := hb.size
      have HP := Lib.hid hp
      generalize ds[k] = d at *
      have HT := Lib.hid (show (ds.take (k + 1)).countP p = (ds.take k).countP p + if p d then 1 else 0 by rw [List.take_add_one, HD.out, List.countP_append]; simp [List.countP_cons])
      generalize (ds.take k).countP p = m at *
      have cc0 := hcell 0 _ rfl
      simp only [show Lay.int.size = 1 from rfl, ← Nat.add_assoc, Nat.add_zero, Nat.mul_one] at cc0
      clear hcell hw hp h
      have HB := Lib.hid hb
      go_wp2_with fail
      rw [hf, Oper.upon_enter]
      refine (HP.out _ d HB.out).mono ?_
      rintro e w1 ⟨rfl, hb1⟩
      have HB1 := Lib.hid (HB.out.trans (hb1.mono (by omega)))
      clear hb1 cc0
      cases hq : p d
      · rw [hq] at HT
        go_wp2_with fail
        go_roundw
        case rel => exact ⟨k + 1, by omega, by go_num, by rw [HT.out]; simp, HB1.out⟩
        case measure => simp [intOf]; omega
      · rw [hq] at HT
        go_wp2_with fail
        go_roundw
        case rel => exact ⟨k + 1, by omega, by go_num, by rw [HT.out]; simp, HB1.out⟩
        case measure => simp [intOf]; omega
    · go_wp2_with fail
      go_ret
      obtain rfl : k = n := by omega
      rw [List.take_of_length_le (by rw [HL.out]; exact Nat.le_refl _)]
      exact ⟨rfl, hb⟩

set_option maxRecDepth 100000 in
set_option maxHeartbeats 1000000 in
theorem allV_any {f : Nat} (hf : Enters f) {cap : Array Value} {p : Int → Bool} {w : World} {hi n c : Nat} {A : Option Addr} {ds : List Int} (h : SeenR Lay.int w hi A n ds) (hhi : hi ≤ w.heap.size) (hn : n ≤ maxLen)
    (hp : ∀ W d, Below w.heap.size w W → Calls Tryz.prog f (#[.int .i64 d] ++ cap) W fun e W' => e = .returned (.bool (p d)) ∧ Below W.heap.size W W') :
    Calls Tryz.prog 154 #[.slice A n c, .func (.func f) #[] cap] w fun e w' => e = .returned (.bool (ds.all p)) ∧ Below w.heap.size w w' := by
  have HC := Lib.hid (countV_any (c := c) hf h hhi hn hp)
  have hl := h.1
  have hq : ds.all p = decide (ds.countP p = n) := by
    rw [← hl, Bool.eq_iff_iff, List.all_eq_true, decide_eq_true_eq, List.countP_eq_length]
  have HQ := Lib.hid hq
  generalize ds.countP p = m at *
  clear hq h hl hp
  go_enter Tryz.func154, Tryz.ntmps154
  go_wp2_with fail
  refine HC.out.mono ?_
  rintro e w1 ⟨rfl, hb⟩
  by_cases he : m = n
  · subst he
    go_wp2_with fail
    go_ret
    exact ⟨by rw [HQ.out]; simp, hb⟩
  · have he2 : ¬ (m : Int) = (n : Int) := by omega
    go_wp2_with fail
    go_ret
    exact ⟨by rw [HQ.out]; simp [he]; try omega, hb⟩

/-- Where q[1:] lies. -/
def restA (A : Option Addr) (s c : Nat) : Option Addr := if c = 1 then A else A.map (·.add s)

theorem int_size : ∀ w, (Go.sizeOf 3).run Tryz.prog w = .ok 1 w := fun _ => by kernel_rfl

theorem TailR.cut {α : Type} {L : Lay α} {w : World} {F : Nat → Prop} {e : TypeId} {A : Option Addr} {n c : Nat} {x : α} {xs : List α} (h : TailR L e w F A (n + 1) c (x :: xs)) : TailR L e w F (restA A L.size c) n (c - 1) xs := by
  refine h.rest fun hn => ?_
  have hc := h.2.1
  rw [restA, if_neg (by omega)]

/-- One behind a row of one's own. -/
def JoinedV (w : World) (A : Option Addr) (n : Nat) (xs : List Int) (v : Int) (e : Ending) (w' : World) : Prop :=
  ∃ A' c', e = .returned (.slice A' (n + 1) c') ∧ OwnR Lay.int 3 w' (fun g => blkA A' = some g) A' (n + 1) c' (xs ++ [v]) ∧ (blkA A' = blkA A ∨ ∃ g, blkA A' = some g ∧ w.heap.size ≤ g) ∧
    (∀ k, k < w.heap.size → blkA A ≠ some k → w'.heap[k]? = w.heap[k]?) ∧ Below 0 w w'

theorem OwnR.blk {α : Type} {L : Lay α} {e : TypeId} {w : World} {F : Nat → Prop} {A : Option Addr} {n c : Nat} {xs : List α} (h : OwnR L e w F A n c xs) (g : Nat) (hg : blkA A = some g) : F g := by
  obtain ⟨_, _, _, _, hA, _⟩ := h
  exact hA g hg

end Go.Proofs.YtghkdkagnibkgaaGreatDoor

namespace Go.Proofs.YtghkdkagnibkgaaGreatDoor
set_option linter.unusedSimpArgs false
set_option linter.unusedVariables false
open Go.RowKit

/-- The one at the place k may wait. -/
def okAtM (o : Int) (l : List Int) (k : Nat) : Bool := match l[k]? with
  | some d => decide (0 ≤ d) && !(o :: l.take k).contains d
  | none => false
theorem okAtM_of {o : Int} {l : List Int} {k : Nat} {d : Int} (h : l[k]? = some d) : okAtM o l k = (decide (0 ≤ d) && !(o :: l.take k).contains d) := by
  unfold okAtM
  rw [h]
def ownB (o : Int) (n : Nat) : Bool := decide (-1 ≤ o ∧ (o = -1 → n = 0))
def mutOkB (x : DMutex) : Bool := ownB x.fOwner x.fWait.length && (List.range x.fWait.length).all (okAtM x.fOwner x.fWait)

def newM : DMutex := ⟨-1, []⟩
end Go.Proofs.YtghkdkagnibkgaaGreatDoor

namespace Go.Proofs.YtghkdkagnibkgaaGreatDoor
set_option linter.unusedSimpArgs false
set_option linter.unusedVariables false
open Go.RowKit

/-- A copy of a channel: the same, its slices in blocks of their own. -/
def CopiedC (x : DChan) (w : World) (e : Ending) (w' : World) : Prop :=
  Below w.heap.size w w' ∧ ∃ A1 c1 A2 c2 A3 c3 F1 F2 F3, e = .returned (.agg #[.int .i64 x.fCap, .slice A1 x.fBuf.length c1, .slice A2 x.fSends.length c2, .slice A3 x.fRecvs.length c3, .bool x.fClosed]) ∧
    OwnR Lay.int 3 w' F1 A1 x.fBuf.length c1 x.fBuf ∧ OwnR layWaiter 166 w' F2 A2 x.fSends.length c2 x.fSends ∧ OwnR layWaiter 166 w' F3 A3 x.fRecvs.length c3 x.fRecvs ∧
    (∀ g, F1 g ∨ F2 g ∨ F3 g → w.heap.size ≤ g ∧ g < w'.heap.size) ∧ (∀ g, F1 g → ¬ F2 g) ∧ (∀ g, F1 g → ¬ F3 g) ∧ ∀ g, F2 g → ¬ F3 g

end Go.Proofs.YtghkdkagnibkgaaGreatDoor

namespace Go.Proofs.YtghkdkagnibkgaaGreatDoor
set_option linter.unusedSimpArgs false
set_option linter.unusedVariables false
open Go.RowKit

def zeroC : DChan := ⟨0, [], [], [], false⟩
def zeroW : DWaiter := ⟨0, 0, 0⟩
def noneW : DWaiter := ⟨-1, 0, 0⟩
def sendC (c : DChan) (v : Int) : Int := if !(chanOkB c && okV v) then 1 else if c.fClosed then 2 else if !takesB c.fBuf.length c.fRecvs.length c.fCap c.fClosed then 3 else 0
def recvC (c : DChan) : Int := if !chanOkB c then 1 else if !givesB c.fBuf.length c.fSends.length c.fClosed then 3 else 0
def sendX (c : DChan) (v : Int) : DChan × DWaiter :=
  match c.fRecvs with
  | [] => (⟨c.fCap, c.fBuf ++ [v], c.fSends, [], c.fClosed⟩, noneW)
  | r :: rs => (⟨c.fCap, c.fBuf, c.fSends, rs, c.fClosed⟩, r)
/-- What SendTo answers. -/
def sendR (c : DChan) (v : Int) : DChan × DWaiter × Int := if sendC c v = 0 then ((sendX c v).1, (sendX c v).2, 0) else (zeroC, zeroW, sendC c v)

def MadeC (w : World) (r : DChan × DWaiter × Int) (e : Ending) (w' : World) : Prop :=
  ∃ vs, e = .returned (.tuple #[.agg vs.toArray, .agg #[.int .i64 r.2.1.fG, .int .i64 r.2.1.fCase, .int .i64 r.2.1.fVal], .int .i64 r.2.2]) ∧ layChan.own w' (fun g => w.heap.size ≤ g ∧ g < w'.heap.size) r.1 vs ∧ Below w.heap.size w w'

end Go.Proofs.YtghkdkagnibkgaaGreatDoor
