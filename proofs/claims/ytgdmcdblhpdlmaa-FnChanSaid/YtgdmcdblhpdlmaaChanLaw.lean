/- For every code a channel stays right when values are sent into it and received from it; what is sent comes behind what it holds; a closed one gives what it holds and then nothing. No condition but that of the statement. -/
import Derived.Test.YtgdmcdblhpdlmaaRows
import Derived.WalkKit
import Derived.Test.YtgdmcdblhpdlmaaChanFacts
import Derived.ProofKit
import Derived.OpenShut
import Derived.ShutString
import Derived.ChangeOld
import Derived.Below
namespace Go.Proofs.Ytgdmcdblhpdlmaa.fnChan
open Go.ChangeShapes Go.WideShapes Go.ChangeAt Go.RowKit
set_option linter.unusedSimpArgs false
set_option linter.unusedVariables false
open Go.ChangeMaps (open_string shut_string)
set_option linter.unusedVariables false

theorem own : ownKnob Try.prog.godebug = none := by kernel_rfl
theorem laidOut : laidOutB Try.prog = true := by kernel_rfl

def IsRow (k : IntKind) (w : World) (a : Option Addr) (len cap : Nat) (zs : List Int) : Prop :=
  (a = none ∧ len = 0 ∧ cap = 0 ∧ zs = []) ∨
  ∃ x, a = some x ∧ len ≤ cap ∧ cap ≤ maxLen ∧ zs.length = cap ∧ (∀ i, i < zs.length → w.cell? (x.add i) = some (.int k (zs.getD i 0))) ∧ ∀ n ∈ zs, (Lit.int k n).wf = true

set_option maxHeartbeats 60000000 in
set_option maxRecDepth 100000 in
theorem walk (a0 : Option Addr) (len0 cap0 : Nat) (z0 : List Int) (w : World) (w0 : IsRow .u8 w a0 len0 cap0 z0) :
    Calls Try.prog 3 #[.slice a0 len0 cap0] w fun e w' => e = .returned (.bool true) ∧ Below w.heap.size w w' := by
  by_cases hbig : len0 ≤ 1048576
  · obtain ⟨bs, hs⟩ := seen_of_ints w0
    clear w0
    go_enter Try.func3, Try.ntmps3
    go_wp2_with fail
    refine (makeChan_any hs (Nat.le_refl _) (by omega)).mono ?_
    rintro e v1 ⟨x, u1, hok, hsz, rfl, own1, hb1⟩
    have hz1 := hb1.size
    have see1 := layChan.seen (hi := v1.heap.size) own1 fun g hg => hg.2
    obtain ⟨A1, n1, c1, A2, n2, c2, A3, n3, c3, rfl, -, ⟨hc1, hm1, s1⟩, ⟨hc2, hm2, s2⟩, ⟨hc3, hm3, s3⟩⟩ := seeChan see1
    have l1 := s1.1
    have l2 := s2.1
    have l3 := s3.1
    subst l1 l2 l3
    have hal : Below v1.heap.size v1 (v1.alloc (.cells #[.int .i64 x.fCap, .slice A1 x.fBuf.length c1, .slice A2 x.fSends.length c2, .slice A3 x.fRecvs.length c3, .bool x.fClosed] 26)) := (Below.refl _ _).alloc (Nat.le_refl _) _
    have hseeC : layChan.see (v1.alloc (.cells #[.int .i64 x.fCap, .slice A1 x.fBuf.length c1, .slice A2 x.fSends.length c2, .slice A3 x.fRecvs.length c3, .bool x.fClosed] 26)) v1.heap.size x [.int .i64 x.fCap, .slice A1 x.fBuf.length c1, .slice A2 x.fSends.length c2, .slice A3 x.fRecvs.length c3, .bool x.fClosed] := layChan.keep see1 fun k hk => hal.block k hk
    have hbxC := box_new v1 #[.int .i64 x.fCap, .slice A1 x.fBuf.length c1, .slice A2 x.fSends.length c2, .slice A3 x.fRecvs.length c3, .bool x.fClosed] 26
    have HB := Lib.hid (show Below w.heap.size w (v1.alloc (.cells #[.int .i64 x.fCap, .slice A1 x.fBuf.length c1, .slice A2 x.fSends.length c2, .slice A3 x.fRecvs.length c3, .bool x.fClosed] 26)) from hb1.trans (hal.mono hz1))
    have hzC : v1.heap.size + 1 ≤ (v1.alloc (.cells #[.int .i64 x.fCap, .slice A1 x.fBuf.length c1, .slice A2 x.fSends.length c2, .slice A3 x.fRecvs.length c3, .bool x.fClosed] 26)).heap.size := by simp
    clear hal own1 see1 hb1 s1 s2 s3 hs
    have pc0 := box_cell (j := 0) hbxC rfl
    have pc1 := box_cell (j := 1) hbxC rfl
    have pc2 := box_cell (j := 2) hbxC rfl
    have pc3 := box_cell (j := 3) hbxC rfl
    have pc4 := box_cell (j := 4) hbxC rfl
    go_wp2_with fail
    clear pc0 pc1 pc2 pc3 pc4
    generalize (v1.alloc (.cells #[.int .i64 x.fCap, .slice A1 x.fBuf.length c1, .slice A2 x.fSends.length c2, .slice A3 x.fRecvs.length c3, .bool x.fClosed] 26)) = vC at *
    have HKC := Lib.hid (fun (W : World) (hW : Below vC.heap.size vC W) => show layChan.see W v1.heap.size x [.int .i64 x.fCap, .slice A1 x.fBuf.length c1, .slice A2 x.fSends.length c2, .slice A3 x.fRecvs.length c3, .bool x.fClosed] ∧ W.heap[v1.heap.size]? = some (.cells #[.int .i64 x.fCap, .slice A1 x.fBuf.length c1, .slice A2 x.fSends.length c2, .slice A3 x.fRecvs.length c3, .bool x.fClosed] 26 (0, 0)) ∧ vC.heap.size ≤ W.heap.size from ⟨layChan.keep hseeC (fun k hk => hW.block k (by omega)), box_keep hbxC hW (by omega), hW.size⟩)
    have HC := Lib.hid (Below.refl vC.heap.size vC)
    clear hseeC hbxC
    have hsz2 : szChan x ≤ 1048576 := by omega
    have hsx := sendR_sz (v := 7) hsz2
    have hrx := recvR_sz hsz2
    have hcx := closeR_sz hsz2
    have HSI := Lib.hid (fun (W : World) (vs : List Value) (hi : Nat) (h : layChan.see W hi x vs) (hhi : hi ≤ W.heap.size) => implSendTo_law (v := 7) h hhi hsz2 (by decide))
    have HSS := Lib.hid (fun (W : World) (vs : List Value) (hi : Nat) (h : layChan.see W hi x vs) (hhi : hi ≤ W.heap.size) => specSendTo_law (v := 7) h hhi hsz2 (by decide))
    have HRI := Lib.hid (fun (W : World) (vs : List Value) (hi : Nat) (h : layChan.see W hi x vs) (hhi : hi ≤ W.heap.size) => implRecvFrom_law h hhi hsz2)
    have HCI := Lib.hid (fun (W : World) (vs : List Value) (hi : Nat) (h : layChan.see W hi x vs) (hhi : hi ≤ W.heap.size) => implCloseIt_law h hhi hsz2)
    have HCS := Lib.hid (fun (W : World) (vs : List Value) (hi : Nat) (h : layChan.see W hi x vs) (hhi : hi ≤ W.heap.size) => implCanSend_any h hhi)
    have HCR := Lib.hid (fun (W : World) (vs : List Value) (hi : Nat) (h : layChan.see W hi x vs) (hhi : hi ≤ W.heap.size) => implCanRecv_any h hhi)
    have hsc := send_code hok
    have hrc := recv_code hok
    have hso := fun h1 h2 => send_ok hok h1 h2
    have hst := send_told hok
    have hro := recv_ok hok
    have hclo := close_ok hok
    have hcs : canSendB x = takesB x.fBuf.length x.fRecvs.length x.fCap x.fClosed := by unfold canSendB; rw [hok]; rfl
    have hcr : canRecvB x = givesB x.fBuf.length x.fSends.length x.fClosed := by unfold canRecvB; rw [hok]; rfl
    rw [hcs] at HCS
    rw [hcr] at HCR
    have hct : x.fClosed = true → takesB x.fBuf.length x.fRecvs.length x.fCap x.fClosed = true ∧ givesB x.fBuf.length x.fSends.length x.fClosed = true := fun h => by rw [h]; exact ⟨rfl, by unfold givesB; simp⟩
    rcases (show x.fClosed = false ∨ x.fClosed = true by cases x.fClosed <;> simp) with hcl | hcl
    · skip
      rcases (show takesB x.fBuf.length x.fRecvs.length x.fCap x.fClosed = false ∨ takesB x.fBuf.length x.fRecvs.length x.fCap x.fClosed = true by cases takesB x.fBuf.length x.fRecvs.length x.fCap x.fClosed <;> simp) with htk | htk <;> rcases (show givesB x.fBuf.length x.fSends.length x.fClosed = false ∨ givesB x.fBuf.length x.fSends.length x.fClosed = true by cases givesB x.fBuf.length x.fSends.length x.fClosed <;> simp) with hgv | hgv
      · skip
        have hrv : sendR x 7 = (zeroC, zeroW, 3) := by unfold sendR; rw [hsc, htk, hcl]; rfl
        rw [hrv] at HSI HSS hsx
        have hrr : recvR x = (zeroC, 0, false, zeroW, 3) := by unfold recvR; rw [hrc, hgv]; rfl
        rw [hrr] at HRI hrx
        have hcv : closeR x = (⟨x.fCap, x.fBuf, [], [], true⟩, x.fRecvs, x.fSends, 0) := by unfold closeR; rw [hok, hcl]; rfl
        rw [hcv] at HCI hcx
        rw [htk] at HCS
        rw [hgv] at HCR
        have HCL := Lib.hid hcl
        clear hcl hct htk hgv hsc hrc hcs hcr hso
        refine (HSI.out _ _ _ (HKC.out _ HC.out).1 (by have := (HKC.out _ HC.out).2.2; omega)).mono ?_
        rintro e v2 ⟨uS, FS, rfl, ownS, hbdS, hbv2⟩
        have hzv2 := hbv2.size
        simp only at ownS
        replace HC := Lib.hid (HC.out.trans (hbv2.mono (by omega)))
        clear hbv2
        have seeS := layChan.seen (hi := v2.heap.size) ownS fun g hg => (hbdS g hg).2
        obtain ⟨SA1, Sn1, Sc1, SA2, Sn2, Sc2, SA3, Sn3, Sc3, rfl, -⟩ := seeChan seeS
        have hal : Below v2.heap.size v2 ((v2.alloc (.cells #[.int .i64 zeroC.fCap, .slice SA1 Sn1 Sc1, .slice SA2 Sn2 Sc2, .slice SA3 Sn3 Sc3, .bool zeroC.fClosed] 26)).alloc (.cells #[.int .i64 zeroW.fG, .int .i64 zeroW.fCase, .int .i64 zeroW.fVal] 29)) := by go_grown
        have hbx1 : ((v2.alloc (.cells #[.int .i64 zeroC.fCap, .slice SA1 Sn1 Sc1, .slice SA2 Sn2 Sc2, .slice SA3 Sn3 Sc3, .bool zeroC.fClosed] 26)).alloc (.cells #[.int .i64 zeroW.fG, .int .i64 zeroW.fCase, .int .i64 zeroW.fVal] 29)).heap[v2.heap.size]? = some (.cells #[.int .i64 zeroC.fCap, .slice SA1 Sn1 Sc1, .slice SA2 Sn2 Sc2, .slice SA3 Sn3 Sc3, .bool zeroC.fClosed] 26 (0, 0)) := box_keep (box_new v2 #[.int .i64 zeroC.fCap, .slice SA1 Sn1 Sc1, .slice SA2 Sn2 Sc2, .slice SA3 Sn3 Sc3, .bool zeroC.fClosed] 26) ((Below.refl _ _).alloc (Nat.le_refl _) _) (by simp)
        have hbx2 : ((v2.alloc (.cells #[.int .i64 zeroC.fCap, .slice SA1 Sn1 Sc1, .slice SA2 Sn2 Sc2, .slice SA3 Sn3 Sc3, .bool zeroC.fClosed] 26)).alloc (.cells #[.int .i64 zeroW.fG, .int .i64 zeroW.fCase, .int .i64 zeroW.fVal] 29)).heap[v2.heap.size + 1]? = some (.cells #[.int .i64 zeroW.fG, .int .i64 zeroW.fCase, .int .i64 zeroW.fVal] 29 (0, 0)) := by have := box_new (v2.alloc (.cells #[.int .i64 zeroC.fCap, .slice SA1 Sn1 Sc1, .slice SA2 Sn2 Sc2, .slice SA3 Sn3 Sc3, .bool zeroC.fClosed] 26)) #[.int .i64 zeroW.fG, .int .i64 zeroW.fCase, .int .i64 zeroW.fVal] 29; rw [World.size_alloc] at this; exact this
        have hseeS : layChan.see ((v2.alloc (.cells #[.int .i64 zeroC.fCap, .slice SA1 Sn1 Sc1, .slice SA2 Sn2 Sc2, .slice SA3 Sn3 Sc3, .bool zeroC.fClosed] 26)).alloc (.cells #[.int .i64 zeroW.fG, .int .i64 zeroW.fCase, .int .i64 zeroW.fVal] 29)) v2.heap.size zeroC [.int .i64 zeroC.fCap, .slice SA1 Sn1 Sc1, .slice SA2 Sn2 Sc2, .slice SA3 Sn3 Sc3, .bool zeroC.fClosed] := layChan.keep seeS fun k hk => hal.block k hk
        have hzS : v2.heap.size + 2 ≤ ((v2.alloc (.cells #[.int .i64 zeroC.fCap, .slice SA1 Sn1 Sc1, .slice SA2 Sn2 Sc2, .slice SA3 Sn3 Sc3, .bool zeroC.fClosed] 26)).alloc (.cells #[.int .i64 zeroW.fG, .int .i64 zeroW.fCase, .int .i64 zeroW.fVal] 29)).heap.size := by simp
        have a0_p0 := box_cell (j := 0) (HKC.out _ HC.out).2.1 rfl
        have a0_p1 := box_cell (j := 1) (HKC.out _ HC.out).2.1 rfl
        have a0_p2 := box_cell (j := 2) (HKC.out _ HC.out).2.1 rfl
        have a0_p3 := box_cell (j := 3) (HKC.out _ HC.out).2.1 rfl
        have a0_p4 := box_cell (j := 4) (HKC.out _ HC.out).2.1 rfl
        have hltc : v1.heap.size < v2.heap.size := by have := (HKC.out _ HC.out).2.2; omega
        replace HC := Lib.hid (HC.out.trans (hal.mono (by omega)))
        clear hal ownS seeS
        go_wp2_with fail
        clear a0_p0 a0_p1 a0_p2 a0_p3 a0_p4 hltc
        generalize ((v2.alloc (.cells #[.int .i64 zeroC.fCap, .slice SA1 Sn1 Sc1, .slice SA2 Sn2 Sc2, .slice SA3 Sn3 Sc3, .bool zeroC.fClosed] 26)).alloc (.cells #[.int .i64 zeroW.fG, .int .i64 zeroW.fCase, .int .i64 zeroW.fVal] 29)) = vS at *
        have HKS := Lib.hid (fun (W : World) (hW : Below vS.heap.size vS W) => show layChan.see W v2.heap.size zeroC [.int .i64 zeroC.fCap, .slice SA1 Sn1 Sc1, .slice SA2 Sn2 Sc2, .slice SA3 Sn3 Sc3, .bool zeroC.fClosed] ∧ W.heap[v2.heap.size]? = some (.cells #[.int .i64 zeroC.fCap, .slice SA1 Sn1 Sc1, .slice SA2 Sn2 Sc2, .slice SA3 Sn3 Sc3, .bool zeroC.fClosed] 26 (0, 0)) ∧ W.heap[v2.heap.size + 1]? = some (.cells #[.int .i64 zeroW.fG, .int .i64 zeroW.fCase, .int .i64 zeroW.fVal] 29 (0, 0)) ∧ vS.heap.size ≤ W.heap.size from ⟨layChan.keep hseeS (fun k hk => hW.block k (by omega)), box_keep hbx1 hW (by omega), box_keep hbx2 hW (by omega), hW.size⟩)
        have HS := Lib.hid (Below.refl vS.heap.size vS)
        clear hseeS hbx1 hbx2
        refine (HSS.out _ _ _ (HKC.out _ HC.out).1 (by have := (HKC.out _ HC.out).2.2; omega)).mono ?_
        rintro e v3 ⟨uT, FT, rfl, ownT, hbdT, hbv3⟩
        have hzv3 := hbv3.size
        simp only at ownT
        replace HC := Lib.hid (HC.out.trans (hbv3.mono (by omega)))
        replace HS := Lib.hid (HS.out.trans (hbv3.mono (by omega)))
        clear hbv3
        have seeT := layChan.seen (hi := v3.heap.size) ownT fun g hg => (hbdT g hg).2
        obtain ⟨TA1, Tn1, Tc1, TA2, Tn2, Tc2, TA3, Tn3, Tc3, rfl, -⟩ := seeChan seeT
        have hal : Below v3.heap.size v3 ((v3.alloc (.cells #[.int .i64 zeroC.fCap, .slice TA1 Tn1 Tc1, .slice TA2 Tn2 Tc2, .slice TA3 Tn3 Tc3, .bool zeroC.fClosed] 26)).alloc (.cells #[.int .i64 zeroW.fG, .int .i64 zeroW.fCase, .int .i64 zeroW.fVal] 29)) := by go_grown
        have a0_q0 := box_cell (j := 0) (HKC.out _ HC.out).2.1 rfl
        have a0_q1 := box_cell (j := 1) (HKC.out _ HC.out).2.1 rfl
        have a0_q2 := box_cell (j := 2) (HKC.out _ HC.out).2.1 rfl
        have a0_q3 := box_cell (j := 3) (HKC.out _ HC.out).2.1 rfl
        have a0_q4 := box_cell (j := 4) (HKC.out _ HC.out).2.1 rfl
        have hltc : v1.heap.size < v3.heap.size := by have := (HKC.out _ HC.out).2.2; omega
        replace HC := Lib.hid (HC.out.trans (hal.mono (by omega)))
        replace HS := Lib.hid (HS.out.trans (hal.mono (by omega)))
        clear hal ownT seeT
        have hzT : v3.heap.size + 2 ≤ ((v3.alloc (.cells #[.int .i64 zeroC.fCap, .slice TA1 Tn1 Tc1, .slice TA2 Tn2 Tc2, .slice TA3 Tn3 Tc3, .bool zeroC.fClosed] 26)).alloc (.cells #[.int .i64 zeroW.fG, .int .i64 zeroW.fCase, .int .i64 zeroW.fVal] 29)).heap.size := by simp
        go_wp2_with fail
        clear a0_q0 a0_q1 a0_q2 a0_q3 a0_q4 hltc
        generalize ((v3.alloc (.cells #[.int .i64 zeroC.fCap, .slice TA1 Tn1 Tc1, .slice TA2 Tn2 Tc2, .slice TA3 Tn3 Tc3, .bool zeroC.fClosed] 26)).alloc (.cells #[.int .i64 zeroW.fG, .int .i64 zeroW.fCase, .int .i64 zeroW.fVal] 29)) = vT at *
        refine (HCS.out _ _ _ (HKC.out _ HC.out).1 (by have := (HKC.out _ HC.out).2.2; omega)).mono ?_
        rintro e v4 ⟨rfl, hbv4⟩
        have hzv4 := hbv4.size
        replace HC := Lib.hid (HC.out.trans (hbv4.mono (by omega)))
        replace HS := Lib.hid (HS.out.trans (hbv4.mono (by omega)))
        clear hbv4
        have a0_r0 := box_cell (j := 0) (HKC.out _ HC.out).2.1 rfl
        have a0_r1 := box_cell (j := 1) (HKC.out _ HC.out).2.1 rfl
        have a0_r2 := box_cell (j := 2) (HKC.out _ HC.out).2.1 rfl
        have a0_r3 := box_cell (j := 3) (HKC.out _ HC.out).2.1 rfl
        have a0_r4 := box_cell (j := 4) (HKC.out _ HC.out).2.1 rfl
        rw [HCL.out] at a0_r4
        go_wp2_with fail
        clear a0_r0 a0_r1 a0_r2 a0_r3 a0_r4 
        refine (HRI.out _ _ _ (show layChan.see _ v1.heap.size x [.int .i64 x.fCap, .slice A1 x.fBuf.length c1, .slice A2 x.fSends.length c2, .slice A3 x.fRecvs.length c3, .bool false] from by have h := (HKC.out _ HC.out).1; rw [HCL.out] at h; exact h) (by have := (HKC.out _ HC.out).2.2; omega)).mono ?_
        rintro e v5 ⟨uR, FR, rfl, ownR, hbdR, hbv5⟩
        have hzv5 := hbv5.size
        replace HC := Lib.hid (HC.out.trans (hbv5.mono (by omega)))
        replace HS := Lib.hid (HS.out.trans (hbv5.mono (by omega)))
        clear hbv5
        simp only at ownR
        have seeR := layChan.seen (hi := v5.heap.size) ownR fun g hg => (hbdR g hg).2
        obtain ⟨RA1, Rn1, Rc1, RA2, Rn2, Rc2, RA3, Rn3, Rc3, rfl, -⟩ := seeChan seeR
        have hal : Below v5.heap.size v5 ((v5.alloc (.cells #[.int .i64 zeroC.fCap, .slice RA1 Rn1 Rc1, .slice RA2 Rn2 Rc2, .slice RA3 Rn3 Rc3, .bool zeroC.fClosed] 26)).alloc (.cells #[.int .i64 zeroW.fG, .int .i64 zeroW.fCase, .int .i64 zeroW.fVal] 29)) := by go_grown
        have hbxR : ((v5.alloc (.cells #[.int .i64 zeroC.fCap, .slice RA1 Rn1 Rc1, .slice RA2 Rn2 Rc2, .slice RA3 Rn3 Rc3, .bool zeroC.fClosed] 26)).alloc (.cells #[.int .i64 zeroW.fG, .int .i64 zeroW.fCase, .int .i64 zeroW.fVal] 29)).heap[v5.heap.size]? = some (.cells #[.int .i64 zeroC.fCap, .slice RA1 Rn1 Rc1, .slice RA2 Rn2 Rc2, .slice RA3 Rn3 Rc3, .bool zeroC.fClosed] 26 (0, 0)) := box_keep (box_new v5 #[.int .i64 zeroC.fCap, .slice RA1 Rn1 Rc1, .slice RA2 Rn2 Rc2, .slice RA3 Rn3 Rc3, .bool zeroC.fClosed] 26) ((Below.refl _ _).alloc (Nat.le_refl _) _) (by simp)
        have hseeR : layChan.see ((v5.alloc (.cells #[.int .i64 zeroC.fCap, .slice RA1 Rn1 Rc1, .slice RA2 Rn2 Rc2, .slice RA3 Rn3 Rc3, .bool zeroC.fClosed] 26)).alloc (.cells #[.int .i64 zeroW.fG, .int .i64 zeroW.fCase, .int .i64 zeroW.fVal] 29)) v5.heap.size zeroC [.int .i64 zeroC.fCap, .slice RA1 Rn1 Rc1, .slice RA2 Rn2 Rc2, .slice RA3 Rn3 Rc3, .bool zeroC.fClosed] := layChan.keep seeR fun k hk => hal.block k hk
        have hzR : v5.heap.size + 2 ≤ ((v5.alloc (.cells #[.int .i64 zeroC.fCap, .slice RA1 Rn1 Rc1, .slice RA2 Rn2 Rc2, .slice RA3 Rn3 Rc3, .bool zeroC.fClosed] 26)).alloc (.cells #[.int .i64 zeroW.fG, .int .i64 zeroW.fCase, .int .i64 zeroW.fVal] 29)).heap.size := by simp
        have a0_w0 := box_cell (j := 0) (HKC.out _ HC.out).2.1 rfl
        have a0_w1 := box_cell (j := 1) (HKC.out _ HC.out).2.1 rfl
        have a0_w2 := box_cell (j := 2) (HKC.out _ HC.out).2.1 rfl
        have a0_w3 := box_cell (j := 3) (HKC.out _ HC.out).2.1 rfl
        have a0_w4 := box_cell (j := 4) (HKC.out _ HC.out).2.1 rfl
        have hltc : v1.heap.size < v5.heap.size := by have := (HKC.out _ HC.out).2.2; omega
        replace HC := Lib.hid (HC.out.trans (hal.mono (by omega)))
        replace HS := Lib.hid (HS.out.trans (hal.mono (by omega)))
        clear hal ownR seeR
        go_wp2_with fail
        clear a0_w0 a0_w1 a0_w2 a0_w3 a0_w4 hltc
        generalize ((v5.alloc (.cells #[.int .i64 zeroC.fCap, .slice RA1 Rn1 Rc1, .slice RA2 Rn2 Rc2, .slice RA3 Rn3 Rc3, .bool zeroC.fClosed] 26)).alloc (.cells #[.int .i64 zeroW.fG, .int .i64 zeroW.fCase, .int .i64 zeroW.fVal] 29)) = vR at *
        have HKR := Lib.hid (fun (W : World) (hW : Below vR.heap.size vR W) => show layChan.see W v5.heap.size zeroC [.int .i64 zeroC.fCap, .slice RA1 Rn1 Rc1, .slice RA2 Rn2 Rc2, .slice RA3 Rn3 Rc3, .bool zeroC.fClosed] ∧ W.heap[v5.heap.size]? = some (.cells #[.int .i64 zeroC.fCap, .slice RA1 Rn1 Rc1, .slice RA2 Rn2 Rc2, .slice RA3 Rn3 Rc3, .bool zeroC.fClosed] 26 (0, 0)) ∧ vR.heap.size ≤ W.heap.size from ⟨layChan.keep hseeR (fun k hk => hW.block k (by omega)), box_keep hbxR hW (by omega), hW.size⟩)
        have HR := Lib.hid (Below.refl vR.heap.size vR)
        clear hseeR hbxR
        refine (HCR.out _ _ _ (HKC.out _ HC.out).1 (by have := (HKC.out _ HC.out).2.2; omega)).mono ?_
        rintro e v6 ⟨rfl, hbv6⟩
        have hzv6 := hbv6.size
        replace HC := Lib.hid (HC.out.trans (hbv6.mono (by omega)))
        replace HS := Lib.hid (HS.out.trans (hbv6.mono (by omega)))
        replace HR := Lib.hid (HR.out.trans (hbv6.mono (by omega)))
        clear hbv6
        have a0_y0 := box_cell (j := 0) (HKC.out _ HC.out).2.1 rfl
        have a0_y1 := box_cell (j := 1) (HKC.out _ HC.out).2.1 rfl
        have a0_y2 := box_cell (j := 2) (HKC.out _ HC.out).2.1 rfl
        have a0_y3 := box_cell (j := 3) (HKC.out _ HC.out).2.1 rfl
        have a0_y4 := box_cell (j := 4) (HKC.out _ HC.out).2.1 rfl
        go_wp2_with fail
        refine (HCI.out _ _ _ (HKC.out _ HC.out).1 (by have := (HKC.out _ HC.out).2.2; omega)).mono ?_
        rintro e v7 ⟨uZ, ZA, Zn, Zc, ZA2, Zn2, Zc2, FZ0, FZ1, FZ2, rfl, ownZ, oZ1, oZ2, hbdZ, -, -, -, -, -, hbv7⟩
        have hzv7 := hbv7.size
        replace HC := Lib.hid (HC.out.trans (hbv7.mono (by omega)))
        replace HS := Lib.hid (HS.out.trans (hbv7.mono (by omega)))
        replace HR := Lib.hid (HR.out.trans (hbv7.mono (by omega)))
        clear hbv7 a0_y0 a0_y1 a0_y2 a0_y3 a0_y4
        simp only at ownZ oZ1 oZ2
        have hlZ1 := oZ1.1
        have hlZ2 := oZ2.1
        subst hlZ1 hlZ2
        have seeZ := layChan.seen (hi := v7.heap.size) ownZ fun g hg => (hbdZ g hg).2
        obtain ⟨QA1, Qn1, Qc1, QA2, Qn2, Qc2, QA3, Qn3, Qc3, rfl, -, ⟨hq1, hq2, sQ⟩, -, -⟩ := seeChan seeZ
        have a0_v0 := box_cell (j := 0) (HKC.out _ HC.out).2.1 rfl
        have a0_v1 := box_cell (j := 1) (HKC.out _ HC.out).2.1 rfl
        have a0_v2 := box_cell (j := 2) (HKC.out _ HC.out).2.1 rfl
        have a0_v3 := box_cell (j := 3) (HKC.out _ HC.out).2.1 rfl
        have a0_v4 := box_cell (j := 4) (HKC.out _ HC.out).2.1 rfl
        have hltc : v1.heap.size < v7.heap.size := by have := (HKC.out _ HC.out).2.2; omega
        rw [HCL.out] at a0_v4
        have hal : Below v7.heap.size v7 (v7.alloc (.cells #[.int .i64 x.fCap, .slice QA1 Qn1 Qc1, .slice QA2 Qn2 Qc2, .slice QA3 Qn3 Qc3, .bool true] 26)) := (Below.refl _ _).alloc (Nat.le_refl _) _
        have hbxZ : (v7.alloc (.cells #[.int .i64 x.fCap, .slice QA1 Qn1 Qc1, .slice QA2 Qn2 Qc2, .slice QA3 Qn3 Qc3, .bool true] 26)).heap[v7.heap.size]? = some (.cells #[.int .i64 x.fCap, .slice QA1 Qn1 Qc1, .slice QA2 Qn2 Qc2, .slice QA3 Qn3 Qc3, .bool true] 26 (0, 0)) := box_new v7 #[.int .i64 x.fCap, .slice QA1 Qn1 Qc1, .slice QA2 Qn2 Qc2, .slice QA3 Qn3 Qc3, .bool true] 26
        replace HC := Lib.hid (HC.out.trans (hal.mono (by omega)))
        replace HS := Lib.hid (HS.out.trans (hal.mono (by omega)))
        replace HR := Lib.hid (HR.out.trans (hal.mono (by omega)))
        have hseeZ : layChan.see (v7.alloc (.cells #[.int .i64 x.fCap, .slice QA1 Qn1 Qc1, .slice QA2 Qn2 Qc2, .slice QA3 Qn3 Qc3, .bool true] 26)) v7.heap.size (⟨x.fCap, x.fBuf, [], [], true⟩ : DChan) [.int .i64 x.fCap, .slice QA1 Qn1 Qc1, .slice QA2 Qn2 Qc2, .slice QA3 Qn3 Qc3, .bool true] := layChan.keep seeZ fun k hk => hal.block k hk
        have hlQ := sQ.1
        have hsQ : SeenR Lay.int (v7.alloc (.cells #[.int .i64 x.fCap, .slice QA1 Qn1 Qc1, .slice QA2 Qn2 Qc2, .slice QA3 Qn3 Qc3, .bool true] 26)) v7.heap.size QA1 Qn1 x.fBuf := sQ.below hal (Nat.le_refl _)
        have qz0 := box_cell (j := 0) hbxZ rfl
        have qz1 := box_cell (j := 1) hbxZ rfl
        have qz2 := box_cell (j := 2) hbxZ rfl
        have qz3 := box_cell (j := 3) hbxZ rfl
        have qz4 := box_cell (j := 4) hbxZ rfl
        have hzZ : v7.heap.size + 1 ≤ (v7.alloc (.cells #[.int .i64 x.fCap, .slice QA1 Qn1 Qc1, .slice QA2 Qn2 Qc2, .slice QA3 Qn3 Qc3, .bool true] 26)).heap.size := by simp
        clear hal ownZ oZ1 oZ2 seeZ sQ
        go_wp2_with fail
        generalize (v7.alloc (.cells #[.int .i64 x.fCap, .slice QA1 Qn1 Qc1, .slice QA2 Qn2 Qc2, .slice QA3 Qn3 Qc3, .bool true] 26)) = vZ at *
        have HOZ := Lib.hid (implChanOk_any hseeZ (by omega))
        rw [hclo] at HOZ
        clear a0_v0 a0_v1 a0_v2 a0_v3 a0_v4 hltc qz0 qz1 qz2 qz3 qz4
        refine HOZ.out.mono ?_
        rintro e v8 ⟨rfl, hbz⟩
        have hzv8 := hbz.size
        replace HC := Lib.hid (HC.out.trans (hbz.mono (by omega)))
        replace HS := Lib.hid (HS.out.trans (hbz.mono (by omega)))
        replace HR := Lib.hid (HR.out.trans (hbz.mono (by omega)))
        have a0_o0 := box_cell (j := 0) (HKC.out _ HC.out).2.1 rfl
        have a0_o1 := box_cell (j := 1) (HKC.out _ HC.out).2.1 rfl
        have a0_o2 := box_cell (j := 2) (HKC.out _ HC.out).2.1 rfl
        have a0_o3 := box_cell (j := 3) (HKC.out _ HC.out).2.1 rfl
        have a0_o4 := box_cell (j := 4) (HKC.out _ HC.out).2.1 rfl
        have hx2 := box_keep hbxZ hbz (by omega)
        have qz0 := box_cell (j := 0) hx2 rfl
        have qz1 := box_cell (j := 1) hx2 rfl
        have qz2 := box_cell (j := 2) hx2 rfl
        have qz3 := box_cell (j := 3) hx2 rfl
        have qz4 := box_cell (j := 4) hx2 rfl
        have hsQ2 := hsQ.below hbz (by omega)
        have hsC2 : SeenR Lay.int v8 v1.heap.size _ x.fBuf.length x.fBuf := see_buf (HKC.out _ HC.out).1
        subst hlQ
        have HSM := Lib.hid (sameInts_any (c := Qc1) (c' := c1) hsQ2 hsC2 (by have := hsz; unfold szChan at this; omega))
        clear hbz hsQ hsQ2 hsC2
        go_wp2_with fail
        refine HSM.out.mono ?_
        rintro e vE ⟨rfl, hbE⟩
        replace HC := Lib.hid (HC.out.trans (hbE.mono (by omega)))
        replace HS := Lib.hid (HS.out.trans (hbE.mono (by omega)))
        replace HR := Lib.hid (HR.out.trans (hbE.mono (by omega)))
        go_wp2_with fail
        go_ret
        exact ⟨rfl, HB.out.trans (HC.out.mono (by omega))⟩
      · skip
        have hrv : sendR x 7 = (zeroC, zeroW, 3) := by unfold sendR; rw [hsc, htk, hcl]; rfl
        rw [hrv] at HSI HSS hsx
        have hrr : recvR x = ((recvX x).1, (recvX x).2.1, (recvX x).2.2.1, (recvX x).2.2.2, 0) := by unfold recvR; rw [hrc, hgv]; rfl
        have hrf : ∀ b bs, x.fBuf = b :: bs → (recvX x).2.1 = b ∧ (recvX x).2.2.1 = true := fun b bs h => recv_first h
        rw [hrr] at HRI hrx
        simp only at hrx
        generalize recvX x = rv at *
        obtain ⟨Y, yv, yo, yw⟩ := rv
        simp only at *
        have hcv : closeR x = (⟨x.fCap, x.fBuf, [], [], true⟩, x.fRecvs, x.fSends, 0) := by unfold closeR; rw [hok, hcl]; rfl
        rw [hcv] at HCI hcx
        rw [htk] at HCS
        rw [hgv] at HCR
        have HCL := Lib.hid hcl
        clear hcl hct htk hgv hsc hrc hcs hcr hso
        refine (HSI.out _ _ _ (HKC.out _ HC.out).1 (by have := (HKC.out _ HC.out).2.2; omega)).mono ?_
        rintro e v9 ⟨uS, FS, rfl, ownS, hbdS, hbv9⟩
        have hzv9 := hbv9.size
        simp only at ownS
        replace HC := Lib.hid (HC.out.trans (hbv9.mono (by omega)))
        clear hbv9
        have seeS := layChan.seen (hi := v9.heap.size) ownS fun g hg => (hbdS g hg).2
        obtain ⟨SA1, Sn1, Sc1, SA2, Sn2, Sc2, SA3, Sn3, Sc3, rfl, -⟩ := seeChan seeS
        have hal : Below v9.heap.size v9 ((v9.alloc (.cells #[.int .i64 zeroC.fCap, .slice SA1 Sn1 Sc1, .slice SA2 Sn2 Sc2, .slice SA3 Sn3 Sc3, .bool zeroC.fClosed] 26)).alloc (.cells #[.int .i64 zeroW.fG, .int .i64 zeroW.fCase, .int .i64 zeroW.fVal] 29)) := by go_grown
        have hbx1 : ((v9.alloc (.cells #[.int .i64 zeroC.fCap, .slice SA1 Sn1 Sc1, .slice SA2 Sn2 Sc2, .slice SA3 Sn3 Sc3, .bool zeroC.fClosed] 26)).alloc (.cells #[.int .i64 zeroW.fG, .int .i64 zeroW.fCase, .int .i64 zeroW.fVal] 29)).heap[v9.heap.size]? = some (.cells #[.int .i64 zeroC.fCap, .slice SA1 Sn1 Sc1, .slice SA2 Sn2 Sc2, .slice SA3 Sn3 Sc3, .bool zeroC.fClosed] 26 (0, 0)) := box_keep (box_new v9 #[.int .i64 zeroC.fCap, .slice SA1 Sn1 Sc1, .slice SA2 Sn2 Sc2, .slice SA3 Sn3 Sc3, .bool zeroC.fClosed] 26) ((Below.refl _ _).alloc (Nat.le_refl _) _) (by simp)
        have hbx2 : ((v9.alloc (.cells #[.int .i64 zeroC.fCap, .slice SA1 Sn1 Sc1, .slice SA2 Sn2 Sc2, .slice SA3 Sn3 Sc3, .bool zeroC.fClosed] 26)).alloc (.cells #[.int .i64 zeroW.fG, .int .i64 zeroW.fCase, .int .i64 zeroW.fVal] 29)).heap[v9.heap.size + 1]? = some (.cells #[.int .i64 zeroW.fG, .int .i64 zeroW.fCase, .int .i64 zeroW.fVal] 29 (0, 0)) := by have := box_new (v9.alloc (.cells #[.int .i64 zeroC.fCap, .slice SA1 Sn1 Sc1, .slice SA2 Sn2 Sc2, .slice SA3 Sn3 Sc3, .bool zeroC.fClosed] 26)) #[.int .i64 zeroW.fG, .int .i64 zeroW.fCase, .int .i64 zeroW.fVal] 29; rw [World.size_alloc] at this; exact this
        have hseeS : layChan.see ((v9.alloc (.cells #[.int .i64 zeroC.fCap, .slice SA1 Sn1 Sc1, .slice SA2 Sn2 Sc2, .slice SA3 Sn3 Sc3, .bool zeroC.fClosed] 26)).alloc (.cells #[.int .i64 zeroW.fG, .int .i64 zeroW.fCase, .int .i64 zeroW.fVal] 29)) v9.heap.size zeroC [.int .i64 zeroC.fCap, .slice SA1 Sn1 Sc1, .slice SA2 Sn2 Sc2, .slice SA3 Sn3 Sc3, .bool zeroC.fClosed] := layChan.keep seeS fun k hk => hal.block k hk
        have hzS : v9.heap.size + 2 ≤ ((v9.alloc (.cells #[.int .i64 zeroC.fCap, .slice SA1 Sn1 Sc1, .slice SA2 Sn2 Sc2, .slice SA3 Sn3 Sc3, .bool zeroC.fClosed] 26)).alloc (.cells #[.int .i64 zeroW.fG, .int .i64 zeroW.fCase, .int .i64 zeroW.fVal] 29)).heap.size := by simp
        have a1_p0 := box_cell (j := 0) (HKC.out _ HC.out).2.1 rfl
        have a1_p1 := box_cell (j := 1) (HKC.out _ HC.out).2.1 rfl
        have a1_p2 := box_cell (j := 2) (HKC.out _ HC.out).2.1 rfl
        have a1_p3 := box_cell (j := 3) (HKC.out _ HC.out).2.1 rfl
        have a1_p4 := box_cell (j := 4) (HKC.out _ HC.out).2.1 rfl
        have hltc : v1.heap.size < v9.heap.size := by have := (HKC.out _ HC.out).2.2; omega
        replace HC := Lib.hid (HC.out.trans (hal.mono (by omega)))
        clear hal ownS seeS
        go_wp2_with fail
        clear a1_p0 a1_p1 a1_p2 a1_p3 a1_p4 hltc
        generalize ((v9.alloc (.cells #[.int .i64 zeroC.fCap, .slice SA1 Sn1 Sc1, .slice SA2 Sn2 Sc2, .slice SA3 Sn3 Sc3, .bool zeroC.fClosed] 26)).alloc (.cells #[.int .i64 zeroW.fG, .int .i64 zeroW.fCase, .int .i64 zeroW.fVal] 29)) = vS at *
        have HKS := Lib.hid (fun (W : World) (hW : Below vS.heap.size vS W) => show layChan.see W v9.heap.size zeroC [.int .i64 zeroC.fCap, .slice SA1 Sn1 Sc1, .slice SA2 Sn2 Sc2, .slice SA3 Sn3 Sc3, .bool zeroC.fClosed] ∧ W.heap[v9.heap.size]? = some (.cells #[.int .i64 zeroC.fCap, .slice SA1 Sn1 Sc1, .slice SA2 Sn2 Sc2, .slice SA3 Sn3 Sc3, .bool zeroC.fClosed] 26 (0, 0)) ∧ W.heap[v9.heap.size + 1]? = some (.cells #[.int .i64 zeroW.fG, .int .i64 zeroW.fCase, .int .i64 zeroW.fVal] 29 (0, 0)) ∧ vS.heap.size ≤ W.heap.size from ⟨layChan.keep hseeS (fun k hk => hW.block k (by omega)), box_keep hbx1 hW (by omega), box_keep hbx2 hW (by omega), hW.size⟩)
        have HS := Lib.hid (Below.refl vS.heap.size vS)
        clear hseeS hbx1 hbx2
        refine (HSS.out _ _ _ (HKC.out _ HC.out).1 (by have := (HKC.out _ HC.out).2.2; omega)).mono ?_
        rintro e v10 ⟨uT, FT, rfl, ownT, hbdT, hbv10⟩
        have hzv10 := hbv10.size
        simp only at ownT
        replace HC := Lib.hid (HC.out.trans (hbv10.mono (by omega)))
        replace HS := Lib.hid (HS.out.trans (hbv10.mono (by omega)))
        clear hbv10
        have seeT := layChan.seen (hi := v10.heap.size) ownT fun g hg => (hbdT g hg).2
        obtain ⟨TA1, Tn1, Tc1, TA2, Tn2, Tc2, TA3, Tn3, Tc3, rfl, -⟩ := seeChan seeT
        have hal : Below v10.heap.size v10 ((v10.alloc (.cells #[.int .i64 zeroC.fCap, .slice TA1 Tn1 Tc1, .slice TA2 Tn2 Tc2, .slice TA3 Tn3 Tc3, .bool zeroC.fClosed] 26)).alloc (.cells #[.int .i64 zeroW.fG, .int .i64 zeroW.fCase, .int .i64 zeroW.fVal] 29)) := by go_grown
        have a1_q0 := box_cell (j := 0) (HKC.out _ HC.out).2.1 rfl
        have a1_q1 := box_cell (j := 1) (HKC.out _ HC.out).2.1 rfl
        have a1_q2 := box_cell (j := 2) (HKC.out _ HC.out).2.1 rfl
        have a1_q3 := box_cell (j := 3) (HKC.out _ HC.out).2.1 rfl
        have a1_q4 := box_cell (j := 4) (HKC.out _ HC.out).2.1 rfl
        have hltc : v1.heap.size < v10.heap.size := by have := (HKC.out _ HC.out).2.2; omega
        replace HC := Lib.hid (HC.out.trans (hal.mono (by omega)))
        replace HS := Lib.hid (HS.out.trans (hal.mono (by omega)))
        clear hal ownT seeT
        have hzT : v10.heap.size + 2 ≤ ((v10.alloc (.cells #[.int .i64 zeroC.fCap, .slice TA1 Tn1 Tc1, .slice TA2 Tn2 Tc2, .slice TA3 Tn3 Tc3, .bool zeroC.fClosed] 26)).alloc (.cells #[.int .i64 zeroW.fG, .int .i64 zeroW.fCase, .int .i64 zeroW.fVal] 29)).heap.size := by simp
        go_wp2_with fail
        clear a1_q0 a1_q1 a1_q2 a1_q3 a1_q4 hltc
        generalize ((v10.alloc (.cells #[.int .i64 zeroC.fCap, .slice TA1 Tn1 Tc1, .slice TA2 Tn2 Tc2, .slice TA3 Tn3 Tc3, .bool zeroC.fClosed] 26)).alloc (.cells #[.int .i64 zeroW.fG, .int .i64 zeroW.fCase, .int .i64 zeroW.fVal] 29)) = vT at *
        refine (HCS.out _ _ _ (HKC.out _ HC.out).1 (by have := (HKC.out _ HC.out).2.2; omega)).mono ?_
        rintro e v11 ⟨rfl, hbv11⟩
        have hzv11 := hbv11.size
        replace HC := Lib.hid (HC.out.trans (hbv11.mono (by omega)))
        replace HS := Lib.hid (HS.out.trans (hbv11.mono (by omega)))
        clear hbv11
        have a1_r0 := box_cell (j := 0) (HKC.out _ HC.out).2.1 rfl
        have a1_r1 := box_cell (j := 1) (HKC.out _ HC.out).2.1 rfl
        have a1_r2 := box_cell (j := 2) (HKC.out _ HC.out).2.1 rfl
        have a1_r3 := box_cell (j := 3) (HKC.out _ HC.out).2.1 rfl
        have a1_r4 := box_cell (j := 4) (HKC.out _ HC.out).2.1 rfl
        rw [HCL.out] at a1_r4
        go_wp2_with fail
        clear a1_r0 a1_r1 a1_r2 a1_r3 a1_r4 
        refine (HRI.out _ _ _ (show layChan.see _ v1.heap.size x [.int .i64 x.fCap, .slice A1 x.fBuf.length c1, .slice A2 x.fSends.length c2, .slice A3 x.fRecvs.length c3, .bool false] from by have h := (HKC.out _ HC.out).1; rw [HCL.out] at h; exact h) (by have := (HKC.out _ HC.out).2.2; omega)).mono ?_
        rintro e v12 ⟨uR, FR, rfl, ownR, hbdR, hbv12⟩
        have hzv12 := hbv12.size
        replace HC := Lib.hid (HC.out.trans (hbv12.mono (by omega)))
        replace HS := Lib.hid (HS.out.trans (hbv12.mono (by omega)))
        clear hbv12
        simp only at ownR
        have seeR := layChan.seen (hi := v12.heap.size) ownR fun g hg => (hbdR g hg).2
        obtain ⟨RA1, Rn1, Rc1, RA2, Rn2, Rc2, RA3, Rn3, Rc3, rfl, -⟩ := seeChan seeR
        have hal : Below v12.heap.size v12 ((v12.alloc (.cells #[.int .i64 Y.fCap, .slice RA1 Rn1 Rc1, .slice RA2 Rn2 Rc2, .slice RA3 Rn3 Rc3, .bool Y.fClosed] 26)).alloc (.cells #[.int .i64 yw.fG, .int .i64 yw.fCase, .int .i64 yw.fVal] 29)) := by go_grown
        have hbxR : ((v12.alloc (.cells #[.int .i64 Y.fCap, .slice RA1 Rn1 Rc1, .slice RA2 Rn2 Rc2, .slice RA3 Rn3 Rc3, .bool Y.fClosed] 26)).alloc (.cells #[.int .i64 yw.fG, .int .i64 yw.fCase, .int .i64 yw.fVal] 29)).heap[v12.heap.size]? = some (.cells #[.int .i64 Y.fCap, .slice RA1 Rn1 Rc1, .slice RA2 Rn2 Rc2, .slice RA3 Rn3 Rc3, .bool Y.fClosed] 26 (0, 0)) := box_keep (box_new v12 #[.int .i64 Y.fCap, .slice RA1 Rn1 Rc1, .slice RA2 Rn2 Rc2, .slice RA3 Rn3 Rc3, .bool Y.fClosed] 26) ((Below.refl _ _).alloc (Nat.le_refl _) _) (by simp)
        have hseeR : layChan.see ((v12.alloc (.cells #[.int .i64 Y.fCap, .slice RA1 Rn1 Rc1, .slice RA2 Rn2 Rc2, .slice RA3 Rn3 Rc3, .bool Y.fClosed] 26)).alloc (.cells #[.int .i64 yw.fG, .int .i64 yw.fCase, .int .i64 yw.fVal] 29)) v12.heap.size Y [.int .i64 Y.fCap, .slice RA1 Rn1 Rc1, .slice RA2 Rn2 Rc2, .slice RA3 Rn3 Rc3, .bool Y.fClosed] := layChan.keep seeR fun k hk => hal.block k hk
        have hzR : v12.heap.size + 2 ≤ ((v12.alloc (.cells #[.int .i64 Y.fCap, .slice RA1 Rn1 Rc1, .slice RA2 Rn2 Rc2, .slice RA3 Rn3 Rc3, .bool Y.fClosed] 26)).alloc (.cells #[.int .i64 yw.fG, .int .i64 yw.fCase, .int .i64 yw.fVal] 29)).heap.size := by simp
        have a1_w0 := box_cell (j := 0) (HKC.out _ HC.out).2.1 rfl
        have a1_w1 := box_cell (j := 1) (HKC.out _ HC.out).2.1 rfl
        have a1_w2 := box_cell (j := 2) (HKC.out _ HC.out).2.1 rfl
        have a1_w3 := box_cell (j := 3) (HKC.out _ HC.out).2.1 rfl
        have a1_w4 := box_cell (j := 4) (HKC.out _ HC.out).2.1 rfl
        have hltc : v1.heap.size < v12.heap.size := by have := (HKC.out _ HC.out).2.2; omega
        replace HC := Lib.hid (HC.out.trans (hal.mono (by omega)))
        replace HS := Lib.hid (HS.out.trans (hal.mono (by omega)))
        clear hal ownR seeR
        go_wp2_with fail
        clear a1_w0 a1_w1 a1_w2 a1_w3 a1_w4 hltc
        generalize ((v12.alloc (.cells #[.int .i64 Y.fCap, .slice RA1 Rn1 Rc1, .slice RA2 Rn2 Rc2, .slice RA3 Rn3 Rc3, .bool Y.fClosed] 26)).alloc (.cells #[.int .i64 yw.fG, .int .i64 yw.fCase, .int .i64 yw.fVal] 29)) = vR at *
        have HKR := Lib.hid (fun (W : World) (hW : Below vR.heap.size vR W) => show layChan.see W v12.heap.size Y [.int .i64 Y.fCap, .slice RA1 Rn1 Rc1, .slice RA2 Rn2 Rc2, .slice RA3 Rn3 Rc3, .bool Y.fClosed] ∧ W.heap[v12.heap.size]? = some (.cells #[.int .i64 Y.fCap, .slice RA1 Rn1 Rc1, .slice RA2 Rn2 Rc2, .slice RA3 Rn3 Rc3, .bool Y.fClosed] 26 (0, 0)) ∧ vR.heap.size ≤ W.heap.size from ⟨layChan.keep hseeR (fun k hk => hW.block k (by omega)), box_keep hbxR hW (by omega), hW.size⟩)
        have HR := Lib.hid (Below.refl vR.heap.size vR)
        clear hseeR hbxR
        refine (HCR.out _ _ _ (HKC.out _ HC.out).1 (by have := (HKC.out _ HC.out).2.2; omega)).mono ?_
        rintro e v13 ⟨rfl, hbv13⟩
        have hzv13 := hbv13.size
        replace HC := Lib.hid (HC.out.trans (hbv13.mono (by omega)))
        replace HS := Lib.hid (HS.out.trans (hbv13.mono (by omega)))
        replace HR := Lib.hid (HR.out.trans (hbv13.mono (by omega)))
        clear hbv13
        have a1_x0 := box_cell (j := 0) (HKR.out _ HR.out).2.1 rfl
        have a1_x1 := box_cell (j := 1) (HKR.out _ HR.out).2.1 rfl
        have a1_x2 := box_cell (j := 2) (HKR.out _ HR.out).2.1 rfl
        have a1_x3 := box_cell (j := 3) (HKR.out _ HR.out).2.1 rfl
        have a1_x4 := box_cell (j := 4) (HKR.out _ HR.out).2.1 rfl
        go_wp2_with fail
        have HOY := Lib.hid (implChanOk_any (HKR.out _ HR.out).1 (by have := (HKR.out _ HR.out).2.2; omega))
        rw [hro] at HOY
        refine (HOY.out).mono ?_
        rintro e v14 ⟨rfl, hbv14⟩
        have hzv14 := hbv14.size
        replace HC := Lib.hid (HC.out.trans (hbv14.mono (by omega)))
        replace HS := Lib.hid (HS.out.trans (hbv14.mono (by omega)))
        replace HR := Lib.hid (HR.out.trans (hbv14.mono (by omega)))
        clear hbv14
        clear a1_x0 a1_x1 a1_x2 a1_x3 a1_x4
        have a1_y0 := box_cell (j := 0) (HKC.out _ HC.out).2.1 rfl
        have a1_y1 := box_cell (j := 1) (HKC.out _ HC.out).2.1 rfl
        have a1_y2 := box_cell (j := 2) (HKC.out _ HC.out).2.1 rfl
        have a1_y3 := box_cell (j := 3) (HKC.out _ HC.out).2.1 rfl
        have a1_y4 := box_cell (j := 4) (HKC.out _ HC.out).2.1 rfl
        have hfirst : (yo = false) ∨ (yo = true ∧ x.fBuf = []) ∨ (yo = true ∧ ∃ bs, x.fBuf = yv :: bs) := by
          cases yo
          · exact .inl rfl
          · right
            rcases hxb : x.fBuf with _ | ⟨b, bs⟩
            · exact .inl ⟨rfl, rfl⟩
            · exact .inr ⟨rfl, bs, by rw [(hrf b bs hxb).1]⟩
        rcases hfirst with hyo | ⟨hyo, hxb⟩ | ⟨hyo, bs, hxb⟩
        · skip
          subst hyo
          go_wp2_with fail
          refine (HCI.out _ _ _ (HKC.out _ HC.out).1 (by have := (HKC.out _ HC.out).2.2; omega)).mono ?_
          rintro e v15 ⟨uZ, ZA, Zn, Zc, ZA2, Zn2, Zc2, FZ0, FZ1, FZ2, rfl, ownZ, oZ1, oZ2, hbdZ, -, -, -, -, -, hbv15⟩
          have hzv15 := hbv15.size
          replace HC := Lib.hid (HC.out.trans (hbv15.mono (by omega)))
          replace HS := Lib.hid (HS.out.trans (hbv15.mono (by omega)))
          replace HR := Lib.hid (HR.out.trans (hbv15.mono (by omega)))
          clear hbv15 a1_y0 a1_y1 a1_y2 a1_y3 a1_y4
          simp only at ownZ oZ1 oZ2
          have hlZ1 := oZ1.1
          have hlZ2 := oZ2.1
          subst hlZ1 hlZ2
          have seeZ := layChan.seen (hi := v15.heap.size) ownZ fun g hg => (hbdZ g hg).2
          obtain ⟨QA1, Qn1, Qc1, QA2, Qn2, Qc2, QA3, Qn3, Qc3, rfl, -, ⟨hq1, hq2, sQ⟩, -, -⟩ := seeChan seeZ
          have a1_v0 := box_cell (j := 0) (HKC.out _ HC.out).2.1 rfl
          have a1_v1 := box_cell (j := 1) (HKC.out _ HC.out).2.1 rfl
          have a1_v2 := box_cell (j := 2) (HKC.out _ HC.out).2.1 rfl
          have a1_v3 := box_cell (j := 3) (HKC.out _ HC.out).2.1 rfl
          have a1_v4 := box_cell (j := 4) (HKC.out _ HC.out).2.1 rfl
          have hltc : v1.heap.size < v15.heap.size := by have := (HKC.out _ HC.out).2.2; omega
          rw [HCL.out] at a1_v4
          have hal : Below v15.heap.size v15 (v15.alloc (.cells #[.int .i64 x.fCap, .slice QA1 Qn1 Qc1, .slice QA2 Qn2 Qc2, .slice QA3 Qn3 Qc3, .bool true] 26)) := (Below.refl _ _).alloc (Nat.le_refl _) _
          have hbxZ : (v15.alloc (.cells #[.int .i64 x.fCap, .slice QA1 Qn1 Qc1, .slice QA2 Qn2 Qc2, .slice QA3 Qn3 Qc3, .bool true] 26)).heap[v15.heap.size]? = some (.cells #[.int .i64 x.fCap, .slice QA1 Qn1 Qc1, .slice QA2 Qn2 Qc2, .slice QA3 Qn3 Qc3, .bool true] 26 (0, 0)) := box_new v15 #[.int .i64 x.fCap, .slice QA1 Qn1 Qc1, .slice QA2 Qn2 Qc2, .slice QA3 Qn3 Qc3, .bool true] 26
          replace HC := Lib.hid (HC.out.trans (hal.mono (by omega)))
          replace HS := Lib.hid (HS.out.trans (hal.mono (by omega)))
          replace HR := Lib.hid (HR.out.trans (hal.mono (by omega)))
          have hseeZ : layChan.see (v15.alloc (.cells #[.int .i64 x.fCap, .slice QA1 Qn1 Qc1, .slice QA2 Qn2 Qc2, .slice QA3 Qn3 Qc3, .bool true] 26)) v15.heap.size (⟨x.fCap, x.fBuf, [], [], true⟩ : DChan) [.int .i64 x.fCap, .slice QA1 Qn1 Qc1, .slice QA2 Qn2 Qc2, .slice QA3 Qn3 Qc3, .bool true] := layChan.keep seeZ fun k hk => hal.block k hk
          have hlQ := sQ.1
          have hsQ : SeenR Lay.int (v15.alloc (.cells #[.int .i64 x.fCap, .slice QA1 Qn1 Qc1, .slice QA2 Qn2 Qc2, .slice QA3 Qn3 Qc3, .bool true] 26)) v15.heap.size QA1 Qn1 x.fBuf := sQ.below hal (Nat.le_refl _)
          have qz0 := box_cell (j := 0) hbxZ rfl
          have qz1 := box_cell (j := 1) hbxZ rfl
          have qz2 := box_cell (j := 2) hbxZ rfl
          have qz3 := box_cell (j := 3) hbxZ rfl
          have qz4 := box_cell (j := 4) hbxZ rfl
          have hzZ : v15.heap.size + 1 ≤ (v15.alloc (.cells #[.int .i64 x.fCap, .slice QA1 Qn1 Qc1, .slice QA2 Qn2 Qc2, .slice QA3 Qn3 Qc3, .bool true] 26)).heap.size := by simp
          clear hal ownZ oZ1 oZ2 seeZ sQ
          go_wp2_with fail
          generalize (v15.alloc (.cells #[.int .i64 x.fCap, .slice QA1 Qn1 Qc1, .slice QA2 Qn2 Qc2, .slice QA3 Qn3 Qc3, .bool true] 26)) = vZ at *
          have HOZ := Lib.hid (implChanOk_any hseeZ (by omega))
          rw [hclo] at HOZ
          clear a1_v0 a1_v1 a1_v2 a1_v3 a1_v4 hltc qz0 qz1 qz2 qz3 qz4
          refine HOZ.out.mono ?_
          rintro e v16 ⟨rfl, hbz⟩
          have hzv16 := hbz.size
          replace HC := Lib.hid (HC.out.trans (hbz.mono (by omega)))
          replace HS := Lib.hid (HS.out.trans (hbz.mono (by omega)))
          replace HR := Lib.hid (HR.out.trans (hbz.mono (by omega)))
          have a1_o0 := box_cell (j := 0) (HKC.out _ HC.out).2.1 rfl
          have a1_o1 := box_cell (j := 1) (HKC.out _ HC.out).2.1 rfl
          have a1_o2 := box_cell (j := 2) (HKC.out _ HC.out).2.1 rfl
          have a1_o3 := box_cell (j := 3) (HKC.out _ HC.out).2.1 rfl
          have a1_o4 := box_cell (j := 4) (HKC.out _ HC.out).2.1 rfl
          have hx2 := box_keep hbxZ hbz (by omega)
          have qz0 := box_cell (j := 0) hx2 rfl
          have qz1 := box_cell (j := 1) hx2 rfl
          have qz2 := box_cell (j := 2) hx2 rfl
          have qz3 := box_cell (j := 3) hx2 rfl
          have qz4 := box_cell (j := 4) hx2 rfl
          have hsQ2 := hsQ.below hbz (by omega)
          have hsC2 : SeenR Lay.int v16 v1.heap.size _ x.fBuf.length x.fBuf := see_buf (HKC.out _ HC.out).1
          subst hlQ
          have HSM := Lib.hid (sameInts_any (c := Qc1) (c' := c1) hsQ2 hsC2 (by have := hsz; unfold szChan at this; omega))
          clear hbz hsQ hsQ2 hsC2
          go_wp2_with fail
          refine HSM.out.mono ?_
          rintro e vE ⟨rfl, hbE⟩
          replace HC := Lib.hid (HC.out.trans (hbE.mono (by omega)))
          replace HS := Lib.hid (HS.out.trans (hbE.mono (by omega)))
          replace HR := Lib.hid (HR.out.trans (hbE.mono (by omega)))
          go_wp2_with fail
          go_ret
          exact ⟨rfl, HB.out.trans (HC.out.mono (by omega))⟩
        · skip
          subst hyo
          have hl0 : x.fBuf.length = 0 := by rw [hxb]; rfl
          have hl0z : ¬ (0 : Int) < (x.fBuf.length : Int) := by omega
          clear hl0 hxb
          go_wp2_with fail
          refine (HCI.out _ _ _ (HKC.out _ HC.out).1 (by have := (HKC.out _ HC.out).2.2; omega)).mono ?_
          rintro e v17 ⟨uZ, ZA, Zn, Zc, ZA2, Zn2, Zc2, FZ0, FZ1, FZ2, rfl, ownZ, oZ1, oZ2, hbdZ, -, -, -, -, -, hbv17⟩
          have hzv17 := hbv17.size
          replace HC := Lib.hid (HC.out.trans (hbv17.mono (by omega)))
          replace HS := Lib.hid (HS.out.trans (hbv17.mono (by omega)))
          replace HR := Lib.hid (HR.out.trans (hbv17.mono (by omega)))
          clear hbv17 a1_y0 a1_y1 a1_y2 a1_y3 a1_y4
          simp only at ownZ oZ1 oZ2
          have hlZ1 := oZ1.1
          have hlZ2 := oZ2.1
          subst hlZ1 hlZ2
          have seeZ := layChan.seen (hi := v17.heap.size) ownZ fun g hg => (hbdZ g hg).2
          obtain ⟨QA1, Qn1, Qc1, QA2, Qn2, Qc2, QA3, Qn3, Qc3, rfl, -, ⟨hq1, hq2, sQ⟩, -, -⟩ := seeChan seeZ
          have a1_v0 := box_cell (j := 0) (HKC.out _ HC.out).2.1 rfl
          have a1_v1 := box_cell (j := 1) (HKC.out _ HC.out).2.1 rfl
          have a1_v2 := box_cell (j := 2) (HKC.out _ HC.out).2.1 rfl
          have a1_v3 := box_cell (j := 3) (HKC.out _ HC.out).2.1 rfl
          have a1_v4 := box_cell (j := 4) (HKC.out _ HC.out).2.1 rfl
          have hltc : v1.heap.size < v17.heap.size := by have := (HKC.out _ HC.out).2.2; omega
          rw [HCL.out] at a1_v4
          have hal : Below v17.heap.size v17 (v17.alloc (.cells #[.int .i64 x.fCap, .slice QA1 Qn1 Qc1, .slice QA2 Qn2 Qc2, .slice QA3 Qn3 Qc3, .bool true] 26)) := (Below.refl _ _).alloc (Nat.le_refl _) _
          have hbxZ : (v17.alloc (.cells #[.int .i64 x.fCap, .slice QA1 Qn1 Qc1, .slice QA2 Qn2 Qc2, .slice QA3 Qn3 Qc3, .bool true] 26)).heap[v17.heap.size]? = some (.cells #[.int .i64 x.fCap, .slice QA1 Qn1 Qc1, .slice QA2 Qn2 Qc2, .slice QA3 Qn3 Qc3, .bool true] 26 (0, 0)) := box_new v17 #[.int .i64 x.fCap, .slice QA1 Qn1 Qc1, .slice QA2 Qn2 Qc2, .slice QA3 Qn3 Qc3, .bool true] 26
          replace HC := Lib.hid (HC.out.trans (hal.mono (by omega)))
          replace HS := Lib.hid (HS.out.trans (hal.mono (by omega)))
          replace HR := Lib.hid (HR.out.trans (hal.mono (by omega)))
          have hseeZ : layChan.see (v17.alloc (.cells #[.int .i64 x.fCap, .slice QA1 Qn1 Qc1, .slice QA2 Qn2 Qc2, .slice QA3 Qn3 Qc3, .bool true] 26)) v17.heap.size (⟨x.fCap, x.fBuf, [], [], true⟩ : DChan) [.int .i64 x.fCap, .slice QA1 Qn1 Qc1, .slice QA2 Qn2 Qc2, .slice QA3 Qn3 Qc3, .bool true] := layChan.keep seeZ fun k hk => hal.block k hk
          have hlQ := sQ.1
          have hsQ : SeenR Lay.int (v17.alloc (.cells #[.int .i64 x.fCap, .slice QA1 Qn1 Qc1, .slice QA2 Qn2 Qc2, .slice QA3 Qn3 Qc3, .bool true] 26)) v17.heap.size QA1 Qn1 x.fBuf := sQ.below hal (Nat.le_refl _)
          have qz0 := box_cell (j := 0) hbxZ rfl
          have qz1 := box_cell (j := 1) hbxZ rfl
          have qz2 := box_cell (j := 2) hbxZ rfl
          have qz3 := box_cell (j := 3) hbxZ rfl
          have qz4 := box_cell (j := 4) hbxZ rfl
          have hzZ : v17.heap.size + 1 ≤ (v17.alloc (.cells #[.int .i64 x.fCap, .slice QA1 Qn1 Qc1, .slice QA2 Qn2 Qc2, .slice QA3 Qn3 Qc3, .bool true] 26)).heap.size := by simp
          clear hal ownZ oZ1 oZ2 seeZ sQ
          go_wp2_with fail
          generalize (v17.alloc (.cells #[.int .i64 x.fCap, .slice QA1 Qn1 Qc1, .slice QA2 Qn2 Qc2, .slice QA3 Qn3 Qc3, .bool true] 26)) = vZ at *
          have HOZ := Lib.hid (implChanOk_any hseeZ (by omega))
          rw [hclo] at HOZ
          clear a1_v0 a1_v1 a1_v2 a1_v3 a1_v4 hltc qz0 qz1 qz2 qz3 qz4
          refine HOZ.out.mono ?_
          rintro e v18 ⟨rfl, hbz⟩
          have hzv18 := hbz.size
          replace HC := Lib.hid (HC.out.trans (hbz.mono (by omega)))
          replace HS := Lib.hid (HS.out.trans (hbz.mono (by omega)))
          replace HR := Lib.hid (HR.out.trans (hbz.mono (by omega)))
          have a1_o0 := box_cell (j := 0) (HKC.out _ HC.out).2.1 rfl
          have a1_o1 := box_cell (j := 1) (HKC.out _ HC.out).2.1 rfl
          have a1_o2 := box_cell (j := 2) (HKC.out _ HC.out).2.1 rfl
          have a1_o3 := box_cell (j := 3) (HKC.out _ HC.out).2.1 rfl
          have a1_o4 := box_cell (j := 4) (HKC.out _ HC.out).2.1 rfl
          have hx2 := box_keep hbxZ hbz (by omega)
          have qz0 := box_cell (j := 0) hx2 rfl
          have qz1 := box_cell (j := 1) hx2 rfl
          have qz2 := box_cell (j := 2) hx2 rfl
          have qz3 := box_cell (j := 3) hx2 rfl
          have qz4 := box_cell (j := 4) hx2 rfl
          have hsQ2 := hsQ.below hbz (by omega)
          have hsC2 : SeenR Lay.int v18 v1.heap.size _ x.fBuf.length x.fBuf := see_buf (HKC.out _ HC.out).1
          subst hlQ
          have HSM := Lib.hid (sameInts_any (c := Qc1) (c' := c1) hsQ2 hsC2 (by have := hsz; unfold szChan at this; omega))
          clear hbz hsQ hsQ2 hsC2
          go_wp2_with fail
          refine HSM.out.mono ?_
          rintro e vE ⟨rfl, hbE⟩
          replace HC := Lib.hid (HC.out.trans (hbE.mono (by omega)))
          replace HS := Lib.hid (HS.out.trans (hbE.mono (by omega)))
          replace HR := Lib.hid (HR.out.trans (hbE.mono (by omega)))
          go_wp2_with fail
          go_ret
          exact ⟨rfl, HB.out.trans (HC.out.mono (by omega))⟩
        · skip
          subst hyo
          have hl0n : x.fBuf.length = bs.length + 1 := by rw [hxb]; rfl
          have hl0 : (0 : Int) < (x.fBuf.length : Int) := by omega
          clear hl0n
          have hsC := (HKC.out _ HC.out).1
          obtain ⟨_, _, _, _, _, _, _, _, _, heqC, -, ⟨-, -, sC⟩, -, -⟩ := seeChan hsC
          simp only [List.cons.injEq, Value.slice.injEq, and_true] at heqC
          obtain ⟨-, ⟨hq1, hq2, hq3⟩, -⟩ := heqC
          rw [← hq1, ← hq2, hxb] at sC
          obtain ⟨hx8, g8, o8, us8, hA8, hg8, ⟨rfl, hw8⟩, hcell8⟩ := sC.at_ (i := 0) (by simp)
          have c8 := hcell8 0 _ rfl
          simp only [show Lay.int.size = 1 from rfl, Nat.add_zero, Nat.mul_one, Nat.zero_mul, List.getElem_cons_zero] at c8
          subst hA8
          clear hcell8 sC hsC hq1 hq2 hq3 hxb
          go_wp2_with fail
          refine (HCI.out _ _ _ (HKC.out _ HC.out).1 (by have := (HKC.out _ HC.out).2.2; omega)).mono ?_
          rintro e v19 ⟨uZ, ZA, Zn, Zc, ZA2, Zn2, Zc2, FZ0, FZ1, FZ2, rfl, ownZ, oZ1, oZ2, hbdZ, -, -, -, -, -, hbv19⟩
          have hzv19 := hbv19.size
          replace HC := Lib.hid (HC.out.trans (hbv19.mono (by omega)))
          replace HS := Lib.hid (HS.out.trans (hbv19.mono (by omega)))
          replace HR := Lib.hid (HR.out.trans (hbv19.mono (by omega)))
          clear hbv19 a1_y0 a1_y1 a1_y2 a1_y3 a1_y4
          simp only at ownZ oZ1 oZ2
          have hlZ1 := oZ1.1
          have hlZ2 := oZ2.1
          subst hlZ1 hlZ2
          have seeZ := layChan.seen (hi := v19.heap.size) ownZ fun g hg => (hbdZ g hg).2
          obtain ⟨QA1, Qn1, Qc1, QA2, Qn2, Qc2, QA3, Qn3, Qc3, rfl, -, ⟨hq1, hq2, sQ⟩, -, -⟩ := seeChan seeZ
          have a1_v0 := box_cell (j := 0) (HKC.out _ HC.out).2.1 rfl
          have a1_v1 := box_cell (j := 1) (HKC.out _ HC.out).2.1 rfl
          have a1_v2 := box_cell (j := 2) (HKC.out _ HC.out).2.1 rfl
          have a1_v3 := box_cell (j := 3) (HKC.out _ HC.out).2.1 rfl
          have a1_v4 := box_cell (j := 4) (HKC.out _ HC.out).2.1 rfl
          have hltc : v1.heap.size < v19.heap.size := by have := (HKC.out _ HC.out).2.2; omega
          rw [HCL.out] at a1_v4
          have hal : Below v19.heap.size v19 (v19.alloc (.cells #[.int .i64 x.fCap, .slice QA1 Qn1 Qc1, .slice QA2 Qn2 Qc2, .slice QA3 Qn3 Qc3, .bool true] 26)) := (Below.refl _ _).alloc (Nat.le_refl _) _
          have hbxZ : (v19.alloc (.cells #[.int .i64 x.fCap, .slice QA1 Qn1 Qc1, .slice QA2 Qn2 Qc2, .slice QA3 Qn3 Qc3, .bool true] 26)).heap[v19.heap.size]? = some (.cells #[.int .i64 x.fCap, .slice QA1 Qn1 Qc1, .slice QA2 Qn2 Qc2, .slice QA3 Qn3 Qc3, .bool true] 26 (0, 0)) := box_new v19 #[.int .i64 x.fCap, .slice QA1 Qn1 Qc1, .slice QA2 Qn2 Qc2, .slice QA3 Qn3 Qc3, .bool true] 26
          replace HC := Lib.hid (HC.out.trans (hal.mono (by omega)))
          replace HS := Lib.hid (HS.out.trans (hal.mono (by omega)))
          replace HR := Lib.hid (HR.out.trans (hal.mono (by omega)))
          have hseeZ : layChan.see (v19.alloc (.cells #[.int .i64 x.fCap, .slice QA1 Qn1 Qc1, .slice QA2 Qn2 Qc2, .slice QA3 Qn3 Qc3, .bool true] 26)) v19.heap.size (⟨x.fCap, x.fBuf, [], [], true⟩ : DChan) [.int .i64 x.fCap, .slice QA1 Qn1 Qc1, .slice QA2 Qn2 Qc2, .slice QA3 Qn3 Qc3, .bool true] := layChan.keep seeZ fun k hk => hal.block k hk
          have hlQ := sQ.1
          have hsQ : SeenR Lay.int (v19.alloc (.cells #[.int .i64 x.fCap, .slice QA1 Qn1 Qc1, .slice QA2 Qn2 Qc2, .slice QA3 Qn3 Qc3, .bool true] 26)) v19.heap.size QA1 Qn1 x.fBuf := sQ.below hal (Nat.le_refl _)
          have qz0 := box_cell (j := 0) hbxZ rfl
          have qz1 := box_cell (j := 1) hbxZ rfl
          have qz2 := box_cell (j := 2) hbxZ rfl
          have qz3 := box_cell (j := 3) hbxZ rfl
          have qz4 := box_cell (j := 4) hbxZ rfl
          have hzZ : v19.heap.size + 1 ≤ (v19.alloc (.cells #[.int .i64 x.fCap, .slice QA1 Qn1 Qc1, .slice QA2 Qn2 Qc2, .slice QA3 Qn3 Qc3, .bool true] 26)).heap.size := by simp
          clear hal ownZ oZ1 oZ2 seeZ sQ
          go_wp2_with fail
          generalize (v19.alloc (.cells #[.int .i64 x.fCap, .slice QA1 Qn1 Qc1, .slice QA2 Qn2 Qc2, .slice QA3 Qn3 Qc3, .bool true] 26)) = vZ at *
          have HOZ := Lib.hid (implChanOk_any hseeZ (by omega))
          rw [hclo] at HOZ
          clear a1_v0 a1_v1 a1_v2 a1_v3 a1_v4 hltc qz0 qz1 qz2 qz3 qz4
          refine HOZ.out.mono ?_
          rintro e v20 ⟨rfl, hbz⟩
          have hzv20 := hbz.size
          replace HC := Lib.hid (HC.out.trans (hbz.mono (by omega)))
          replace HS := Lib.hid (HS.out.trans (hbz.mono (by omega)))
          replace HR := Lib.hid (HR.out.trans (hbz.mono (by omega)))
          have a1_o0 := box_cell (j := 0) (HKC.out _ HC.out).2.1 rfl
          have a1_o1 := box_cell (j := 1) (HKC.out _ HC.out).2.1 rfl
          have a1_o2 := box_cell (j := 2) (HKC.out _ HC.out).2.1 rfl
          have a1_o3 := box_cell (j := 3) (HKC.out _ HC.out).2.1 rfl
          have a1_o4 := box_cell (j := 4) (HKC.out _ HC.out).2.1 rfl
          have hx2 := box_keep hbxZ hbz (by omega)
          have qz0 := box_cell (j := 0) hx2 rfl
          have qz1 := box_cell (j := 1) hx2 rfl
          have qz2 := box_cell (j := 2) hx2 rfl
          have qz3 := box_cell (j := 3) hx2 rfl
          have qz4 := box_cell (j := 4) hx2 rfl
          have hsQ2 := hsQ.below hbz (by omega)
          have hsC2 : SeenR Lay.int v20 v1.heap.size _ x.fBuf.length x.fBuf := see_buf (HKC.out _ HC.out).1
          subst hlQ
          have HSM := Lib.hid (sameInts_any (c := Qc1) (c' := c1) hsQ2 hsC2 (by have := hsz; unfold szChan at this; omega))
          clear hbz hsQ hsQ2 hsC2
          go_wp2_with fail
          refine HSM.out.mono ?_
          rintro e vE ⟨rfl, hbE⟩
          replace HC := Lib.hid (HC.out.trans (hbE.mono (by omega)))
          replace HS := Lib.hid (HS.out.trans (hbE.mono (by omega)))
          replace HR := Lib.hid (HR.out.trans (hbE.mono (by omega)))
          go_wp2_with fail
          go_ret
          exact ⟨rfl, HB.out.trans (HC.out.mono (by omega))⟩
      · skip
        have hrv : sendR x 7 = ((sendX x 7).1, (sendX x 7).2, 0) := by unfold sendR; rw [hsc, htk, hcl]; rfl
        have hokX := hso hcl htk
        rw [hrv] at HSI HSS hsx
        simp only at hsx
        generalize (sendX x 7).1 = X at *
        generalize (sendX x 7).2 = Wt at *
        have hrr : recvR x = (zeroC, 0, false, zeroW, 3) := by unfold recvR; rw [hrc, hgv]; rfl
        rw [hrr] at HRI hrx
        have hcv : closeR x = (⟨x.fCap, x.fBuf, [], [], true⟩, x.fRecvs, x.fSends, 0) := by unfold closeR; rw [hok, hcl]; rfl
        rw [hcv] at HCI hcx
        rw [htk] at HCS
        rw [hgv] at HCR
        have HCL := Lib.hid hcl
        clear hcl hct htk hgv hsc hrc hcs hcr hso
        refine (HSI.out _ _ _ (HKC.out _ HC.out).1 (by have := (HKC.out _ HC.out).2.2; omega)).mono ?_
        rintro e v21 ⟨uS, FS, rfl, ownS, hbdS, hbv21⟩
        have hzv21 := hbv21.size
        simp only at ownS
        replace HC := Lib.hid (HC.out.trans (hbv21.mono (by omega)))
        clear hbv21
        have seeS := layChan.seen (hi := v21.heap.size) ownS fun g hg => (hbdS g hg).2
        obtain ⟨SA1, Sn1, Sc1, SA2, Sn2, Sc2, SA3, Sn3, Sc3, rfl, -⟩ := seeChan seeS
        have hal : Below v21.heap.size v21 ((v21.alloc (.cells #[.int .i64 X.fCap, .slice SA1 Sn1 Sc1, .slice SA2 Sn2 Sc2, .slice SA3 Sn3 Sc3, .bool X.fClosed] 26)).alloc (.cells #[.int .i64 Wt.fG, .int .i64 Wt.fCase, .int .i64 Wt.fVal] 29)) := by go_grown
        have hbx1 : ((v21.alloc (.cells #[.int .i64 X.fCap, .slice SA1 Sn1 Sc1, .slice SA2 Sn2 Sc2, .slice SA3 Sn3 Sc3, .bool X.fClosed] 26)).alloc (.cells #[.int .i64 Wt.fG, .int .i64 Wt.fCase, .int .i64 Wt.fVal] 29)).heap[v21.heap.size]? = some (.cells #[.int .i64 X.fCap, .slice SA1 Sn1 Sc1, .slice SA2 Sn2 Sc2, .slice SA3 Sn3 Sc3, .bool X.fClosed] 26 (0, 0)) := box_keep (box_new v21 #[.int .i64 X.fCap, .slice SA1 Sn1 Sc1, .slice SA2 Sn2 Sc2, .slice SA3 Sn3 Sc3, .bool X.fClosed] 26) ((Below.refl _ _).alloc (Nat.le_refl _) _) (by simp)
        have hbx2 : ((v21.alloc (.cells #[.int .i64 X.fCap, .slice SA1 Sn1 Sc1, .slice SA2 Sn2 Sc2, .slice SA3 Sn3 Sc3, .bool X.fClosed] 26)).alloc (.cells #[.int .i64 Wt.fG, .int .i64 Wt.fCase, .int .i64 Wt.fVal] 29)).heap[v21.heap.size + 1]? = some (.cells #[.int .i64 Wt.fG, .int .i64 Wt.fCase, .int .i64 Wt.fVal] 29 (0, 0)) := by have := box_new (v21.alloc (.cells #[.int .i64 X.fCap, .slice SA1 Sn1 Sc1, .slice SA2 Sn2 Sc2, .slice SA3 Sn3 Sc3, .bool X.fClosed] 26)) #[.int .i64 Wt.fG, .int .i64 Wt.fCase, .int .i64 Wt.fVal] 29; rw [World.size_alloc] at this; exact this
        have hseeS : layChan.see ((v21.alloc (.cells #[.int .i64 X.fCap, .slice SA1 Sn1 Sc1, .slice SA2 Sn2 Sc2, .slice SA3 Sn3 Sc3, .bool X.fClosed] 26)).alloc (.cells #[.int .i64 Wt.fG, .int .i64 Wt.fCase, .int .i64 Wt.fVal] 29)) v21.heap.size X [.int .i64 X.fCap, .slice SA1 Sn1 Sc1, .slice SA2 Sn2 Sc2, .slice SA3 Sn3 Sc3, .bool X.fClosed] := layChan.keep seeS fun k hk => hal.block k hk
        have hzS : v21.heap.size + 2 ≤ ((v21.alloc (.cells #[.int .i64 X.fCap, .slice SA1 Sn1 Sc1, .slice SA2 Sn2 Sc2, .slice SA3 Sn3 Sc3, .bool X.fClosed] 26)).alloc (.cells #[.int .i64 Wt.fG, .int .i64 Wt.fCase, .int .i64 Wt.fVal] 29)).heap.size := by simp
        have a2_p0 := box_cell (j := 0) (HKC.out _ HC.out).2.1 rfl
        have a2_p1 := box_cell (j := 1) (HKC.out _ HC.out).2.1 rfl
        have a2_p2 := box_cell (j := 2) (HKC.out _ HC.out).2.1 rfl
        have a2_p3 := box_cell (j := 3) (HKC.out _ HC.out).2.1 rfl
        have a2_p4 := box_cell (j := 4) (HKC.out _ HC.out).2.1 rfl
        have hltc : v1.heap.size < v21.heap.size := by have := (HKC.out _ HC.out).2.2; omega
        replace HC := Lib.hid (HC.out.trans (hal.mono (by omega)))
        clear hal ownS seeS
        go_wp2_with fail
        clear a2_p0 a2_p1 a2_p2 a2_p3 a2_p4 hltc
        generalize ((v21.alloc (.cells #[.int .i64 X.fCap, .slice SA1 Sn1 Sc1, .slice SA2 Sn2 Sc2, .slice SA3 Sn3 Sc3, .bool X.fClosed] 26)).alloc (.cells #[.int .i64 Wt.fG, .int .i64 Wt.fCase, .int .i64 Wt.fVal] 29)) = vS at *
        have HKS := Lib.hid (fun (W : World) (hW : Below vS.heap.size vS W) => show layChan.see W v21.heap.size X [.int .i64 X.fCap, .slice SA1 Sn1 Sc1, .slice SA2 Sn2 Sc2, .slice SA3 Sn3 Sc3, .bool X.fClosed] ∧ W.heap[v21.heap.size]? = some (.cells #[.int .i64 X.fCap, .slice SA1 Sn1 Sc1, .slice SA2 Sn2 Sc2, .slice SA3 Sn3 Sc3, .bool X.fClosed] 26 (0, 0)) ∧ W.heap[v21.heap.size + 1]? = some (.cells #[.int .i64 Wt.fG, .int .i64 Wt.fCase, .int .i64 Wt.fVal] 29 (0, 0)) ∧ vS.heap.size ≤ W.heap.size from ⟨layChan.keep hseeS (fun k hk => hW.block k (by omega)), box_keep hbx1 hW (by omega), box_keep hbx2 hW (by omega), hW.size⟩)
        have HS := Lib.hid (Below.refl vS.heap.size vS)
        clear hseeS hbx1 hbx2
        refine (HSS.out _ _ _ (HKC.out _ HC.out).1 (by have := (HKC.out _ HC.out).2.2; omega)).mono ?_
        rintro e v22 ⟨uT, FT, rfl, ownT, hbdT, hbv22⟩
        have hzv22 := hbv22.size
        simp only at ownT
        replace HC := Lib.hid (HC.out.trans (hbv22.mono (by omega)))
        replace HS := Lib.hid (HS.out.trans (hbv22.mono (by omega)))
        clear hbv22
        have seeT := layChan.seen (hi := v22.heap.size) ownT fun g hg => (hbdT g hg).2
        obtain ⟨TA1, Tn1, Tc1, TA2, Tn2, Tc2, TA3, Tn3, Tc3, rfl, -⟩ := seeChan seeT
        have hal : Below v22.heap.size v22 ((v22.alloc (.cells #[.int .i64 X.fCap, .slice TA1 Tn1 Tc1, .slice TA2 Tn2 Tc2, .slice TA3 Tn3 Tc3, .bool X.fClosed] 26)).alloc (.cells #[.int .i64 Wt.fG, .int .i64 Wt.fCase, .int .i64 Wt.fVal] 29)) := by go_grown
        have a2_q0 := box_cell (j := 0) (HKC.out _ HC.out).2.1 rfl
        have a2_q1 := box_cell (j := 1) (HKC.out _ HC.out).2.1 rfl
        have a2_q2 := box_cell (j := 2) (HKC.out _ HC.out).2.1 rfl
        have a2_q3 := box_cell (j := 3) (HKC.out _ HC.out).2.1 rfl
        have a2_q4 := box_cell (j := 4) (HKC.out _ HC.out).2.1 rfl
        have hltc : v1.heap.size < v22.heap.size := by have := (HKC.out _ HC.out).2.2; omega
        replace HC := Lib.hid (HC.out.trans (hal.mono (by omega)))
        replace HS := Lib.hid (HS.out.trans (hal.mono (by omega)))
        clear hal ownT seeT
        have hzT : v22.heap.size + 2 ≤ ((v22.alloc (.cells #[.int .i64 X.fCap, .slice TA1 Tn1 Tc1, .slice TA2 Tn2 Tc2, .slice TA3 Tn3 Tc3, .bool X.fClosed] 26)).alloc (.cells #[.int .i64 Wt.fG, .int .i64 Wt.fCase, .int .i64 Wt.fVal] 29)).heap.size := by simp
        go_wp2_with fail
        clear a2_q0 a2_q1 a2_q2 a2_q3 a2_q4 hltc
        generalize ((v22.alloc (.cells #[.int .i64 X.fCap, .slice TA1 Tn1 Tc1, .slice TA2 Tn2 Tc2, .slice TA3 Tn3 Tc3, .bool X.fClosed] 26)).alloc (.cells #[.int .i64 Wt.fG, .int .i64 Wt.fCase, .int .i64 Wt.fVal] 29)) = vT at *
        refine (HCS.out _ _ _ (HKC.out _ HC.out).1 (by have := (HKC.out _ HC.out).2.2; omega)).mono ?_
        rintro e v23 ⟨rfl, hbv23⟩
        have hzv23 := hbv23.size
        replace HC := Lib.hid (HC.out.trans (hbv23.mono (by omega)))
        replace HS := Lib.hid (HS.out.trans (hbv23.mono (by omega)))
        clear hbv23
        have a2_r0 := box_cell (j := 0) (HKC.out _ HC.out).2.1 rfl
        have a2_r1 := box_cell (j := 1) (HKC.out _ HC.out).2.1 rfl
        have a2_r2 := box_cell (j := 2) (HKC.out _ HC.out).2.1 rfl
        have a2_r3 := box_cell (j := 3) (HKC.out _ HC.out).2.1 rfl
        have a2_r4 := box_cell (j := 4) (HKC.out _ HC.out).2.1 rfl
        rw [HCL.out] at a2_r4
        have a2_s0 := box_cell (j := 0) (HKS.out _ HS.out).2.1 rfl
        have a2_s1 := box_cell (j := 1) (HKS.out _ HS.out).2.1 rfl
        have a2_s2 := box_cell (j := 2) (HKS.out _ HS.out).2.1 rfl
        have a2_s3 := box_cell (j := 3) (HKS.out _ HS.out).2.1 rfl
        have a2_s4 := box_cell (j := 4) (HKS.out _ HS.out).2.1 rfl
        have a2_t0 := box_cell (j := 0) (HKS.out _ HS.out).2.2.1 rfl
        have a2_t1 := box_cell (j := 1) (HKS.out _ HS.out).2.2.1 rfl
        have a2_t2 := box_cell (j := 2) (HKS.out _ HS.out).2.2.1 rfl
        go_wp2_with fail
        have HOX := Lib.hid (implChanOk_any (HKS.out _ HS.out).1 (by have := (HKS.out _ HS.out).2.2.2; omega))
        rw [hokX] at HOX
        refine (HOX.out).mono ?_
        rintro e v24 ⟨rfl, hbv24⟩
        have hzv24 := hbv24.size
        replace HC := Lib.hid (HC.out.trans (hbv24.mono (by omega)))
        replace HS := Lib.hid (HS.out.trans (hbv24.mono (by omega)))
        clear hbv24
        clear a2_r0 a2_r1 a2_r2 a2_r3 a2_r4 a2_s0 a2_s1 a2_s2 a2_s3 a2_s4 a2_t0 a2_t1 a2_t2
        have a2_s0 := box_cell (j := 0) (HKS.out _ HS.out).2.1 rfl
        have a2_s1 := box_cell (j := 1) (HKS.out _ HS.out).2.1 rfl
        have a2_s2 := box_cell (j := 2) (HKS.out _ HS.out).2.1 rfl
        have a2_s3 := box_cell (j := 3) (HKS.out _ HS.out).2.1 rfl
        have a2_s4 := box_cell (j := 4) (HKS.out _ HS.out).2.1 rfl
        have a2_t0 := box_cell (j := 0) (HKS.out _ HS.out).2.2.1 rfl
        have a2_t1 := box_cell (j := 1) (HKS.out _ HS.out).2.2.1 rfl
        have a2_t2 := box_cell (j := 2) (HKS.out _ HS.out).2.2.1 rfl
        have a2_u0 := box_cell (j := 0) (HKC.out _ HC.out).2.1 rfl
        have a2_u1 := box_cell (j := 1) (HKC.out _ HC.out).2.1 rfl
        have a2_u2 := box_cell (j := 2) (HKC.out _ HC.out).2.1 rfl
        have a2_u3 := box_cell (j := 3) (HKC.out _ HC.out).2.1 rfl
        have a2_u4 := box_cell (j := 4) (HKC.out _ HC.out).2.1 rfl
        have hgoal := hst
        rcases hgoal with hG | ⟨hG, pre, hpre⟩
        · skip
          go_wp2_with fail
          clear a2_u0 a2_u1 a2_u2 a2_u3 a2_u4 a2_s0 a2_s1 a2_s2 a2_s3 a2_s4 a2_t0 a2_t1 a2_t2
          refine (HRI.out _ _ _ (HKC.out _ HC.out).1 (by have := (HKC.out _ HC.out).2.2; omega)).mono ?_
          rintro e v25 ⟨uR, FR, rfl, ownR, hbdR, hbv25⟩
          have hzv25 := hbv25.size
          replace HC := Lib.hid (HC.out.trans (hbv25.mono (by omega)))
          replace HS := Lib.hid (HS.out.trans (hbv25.mono (by omega)))
          clear hbv25
          simp only at ownR
          have seeR := layChan.seen (hi := v25.heap.size) ownR fun g hg => (hbdR g hg).2
          obtain ⟨RA1, Rn1, Rc1, RA2, Rn2, Rc2, RA3, Rn3, Rc3, rfl, -⟩ := seeChan seeR
          have hal : Below v25.heap.size v25 ((v25.alloc (.cells #[.int .i64 zeroC.fCap, .slice RA1 Rn1 Rc1, .slice RA2 Rn2 Rc2, .slice RA3 Rn3 Rc3, .bool zeroC.fClosed] 26)).alloc (.cells #[.int .i64 zeroW.fG, .int .i64 zeroW.fCase, .int .i64 zeroW.fVal] 29)) := by go_grown
          have hbxR : ((v25.alloc (.cells #[.int .i64 zeroC.fCap, .slice RA1 Rn1 Rc1, .slice RA2 Rn2 Rc2, .slice RA3 Rn3 Rc3, .bool zeroC.fClosed] 26)).alloc (.cells #[.int .i64 zeroW.fG, .int .i64 zeroW.fCase, .int .i64 zeroW.fVal] 29)).heap[v25.heap.size]? = some (.cells #[.int .i64 zeroC.fCap, .slice RA1 Rn1 Rc1, .slice RA2 Rn2 Rc2, .slice RA3 Rn3 Rc3, .bool zeroC.fClosed] 26 (0, 0)) := box_keep (box_new v25 #[.int .i64 zeroC.fCap, .slice RA1 Rn1 Rc1, .slice RA2 Rn2 Rc2, .slice RA3 Rn3 Rc3, .bool zeroC.fClosed] 26) ((Below.refl _ _).alloc (Nat.le_refl _) _) (by simp)
          have hseeR : layChan.see ((v25.alloc (.cells #[.int .i64 zeroC.fCap, .slice RA1 Rn1 Rc1, .slice RA2 Rn2 Rc2, .slice RA3 Rn3 Rc3, .bool zeroC.fClosed] 26)).alloc (.cells #[.int .i64 zeroW.fG, .int .i64 zeroW.fCase, .int .i64 zeroW.fVal] 29)) v25.heap.size zeroC [.int .i64 zeroC.fCap, .slice RA1 Rn1 Rc1, .slice RA2 Rn2 Rc2, .slice RA3 Rn3 Rc3, .bool zeroC.fClosed] := layChan.keep seeR fun k hk => hal.block k hk
          have hzR : v25.heap.size + 2 ≤ ((v25.alloc (.cells #[.int .i64 zeroC.fCap, .slice RA1 Rn1 Rc1, .slice RA2 Rn2 Rc2, .slice RA3 Rn3 Rc3, .bool zeroC.fClosed] 26)).alloc (.cells #[.int .i64 zeroW.fG, .int .i64 zeroW.fCase, .int .i64 zeroW.fVal] 29)).heap.size := by simp
          have a2_w0 := box_cell (j := 0) (HKC.out _ HC.out).2.1 rfl
          have a2_w1 := box_cell (j := 1) (HKC.out _ HC.out).2.1 rfl
          have a2_w2 := box_cell (j := 2) (HKC.out _ HC.out).2.1 rfl
          have a2_w3 := box_cell (j := 3) (HKC.out _ HC.out).2.1 rfl
          have a2_w4 := box_cell (j := 4) (HKC.out _ HC.out).2.1 rfl
          have hltc : v1.heap.size < v25.heap.size := by have := (HKC.out _ HC.out).2.2; omega
          replace HC := Lib.hid (HC.out.trans (hal.mono (by omega)))
          replace HS := Lib.hid (HS.out.trans (hal.mono (by omega)))
          clear hal ownR seeR
          go_wp2_with fail
          clear a2_w0 a2_w1 a2_w2 a2_w3 a2_w4 hltc
          generalize ((v25.alloc (.cells #[.int .i64 zeroC.fCap, .slice RA1 Rn1 Rc1, .slice RA2 Rn2 Rc2, .slice RA3 Rn3 Rc3, .bool zeroC.fClosed] 26)).alloc (.cells #[.int .i64 zeroW.fG, .int .i64 zeroW.fCase, .int .i64 zeroW.fVal] 29)) = vR at *
          have HKR := Lib.hid (fun (W : World) (hW : Below vR.heap.size vR W) => show layChan.see W v25.heap.size zeroC [.int .i64 zeroC.fCap, .slice RA1 Rn1 Rc1, .slice RA2 Rn2 Rc2, .slice RA3 Rn3 Rc3, .bool zeroC.fClosed] ∧ W.heap[v25.heap.size]? = some (.cells #[.int .i64 zeroC.fCap, .slice RA1 Rn1 Rc1, .slice RA2 Rn2 Rc2, .slice RA3 Rn3 Rc3, .bool zeroC.fClosed] 26 (0, 0)) ∧ vR.heap.size ≤ W.heap.size from ⟨layChan.keep hseeR (fun k hk => hW.block k (by omega)), box_keep hbxR hW (by omega), hW.size⟩)
          have HR := Lib.hid (Below.refl vR.heap.size vR)
          clear hseeR hbxR
          refine (HCR.out _ _ _ (HKC.out _ HC.out).1 (by have := (HKC.out _ HC.out).2.2; omega)).mono ?_
          rintro e v26 ⟨rfl, hbv26⟩
          have hzv26 := hbv26.size
          replace HC := Lib.hid (HC.out.trans (hbv26.mono (by omega)))
          replace HS := Lib.hid (HS.out.trans (hbv26.mono (by omega)))
          replace HR := Lib.hid (HR.out.trans (hbv26.mono (by omega)))
          clear hbv26
          have a2_y0 := box_cell (j := 0) (HKC.out _ HC.out).2.1 rfl
          have a2_y1 := box_cell (j := 1) (HKC.out _ HC.out).2.1 rfl
          have a2_y2 := box_cell (j := 2) (HKC.out _ HC.out).2.1 rfl
          have a2_y3 := box_cell (j := 3) (HKC.out _ HC.out).2.1 rfl
          have a2_y4 := box_cell (j := 4) (HKC.out _ HC.out).2.1 rfl
          go_wp2_with fail
          refine (HCI.out _ _ _ (HKC.out _ HC.out).1 (by have := (HKC.out _ HC.out).2.2; omega)).mono ?_
          rintro e v27 ⟨uZ, ZA, Zn, Zc, ZA2, Zn2, Zc2, FZ0, FZ1, FZ2, rfl, ownZ, oZ1, oZ2, hbdZ, -, -, -, -, -, hbv27⟩
          have hzv27 := hbv27.size
          replace HC := Lib.hid (HC.out.trans (hbv27.mono (by omega)))
          replace HS := Lib.hid (HS.out.trans (hbv27.mono (by omega)))
          replace HR := Lib.hid (HR.out.trans (hbv27.mono (by omega)))
          clear hbv27 a2_y0 a2_y1 a2_y2 a2_y3 a2_y4
          simp only at ownZ oZ1 oZ2
          have hlZ1 := oZ1.1
          have hlZ2 := oZ2.1
          subst hlZ1 hlZ2
          have seeZ := layChan.seen (hi := v27.heap.size) ownZ fun g hg => (hbdZ g hg).2
          obtain ⟨QA1, Qn1, Qc1, QA2, Qn2, Qc2, QA3, Qn3, Qc3, rfl, -, ⟨hq1, hq2, sQ⟩, -, -⟩ := seeChan seeZ
          have a2_v0 := box_cell (j := 0) (HKC.out _ HC.out).2.1 rfl
          have a2_v1 := box_cell (j := 1) (HKC.out _ HC.out).2.1 rfl
          have a2_v2 := box_cell (j := 2) (HKC.out _ HC.out).2.1 rfl
          have a2_v3 := box_cell (j := 3) (HKC.out _ HC.out).2.1 rfl
          have a2_v4 := box_cell (j := 4) (HKC.out _ HC.out).2.1 rfl
          have hltc : v1.heap.size < v27.heap.size := by have := (HKC.out _ HC.out).2.2; omega
          rw [HCL.out] at a2_v4
          have hal : Below v27.heap.size v27 (v27.alloc (.cells #[.int .i64 x.fCap, .slice QA1 Qn1 Qc1, .slice QA2 Qn2 Qc2, .slice QA3 Qn3 Qc3, .bool true] 26)) := (Below.refl _ _).alloc (Nat.le_refl _) _
          have hbxZ : (v27.alloc (.cells #[.int .i64 x.fCap, .slice QA1 Qn1 Qc1, .slice QA2 Qn2 Qc2, .slice QA3 Qn3 Qc3, .bool true] 26)).heap[v27.heap.size]? = some (.cells #[.int .i64 x.fCap, .slice QA1 Qn1 Qc1, .slice QA2 Qn2 Qc2, .slice QA3 Qn3 Qc3, .bool true] 26 (0, 0)) := box_new v27 #[.int .i64 x.fCap, .slice QA1 Qn1 Qc1, .slice QA2 Qn2 Qc2, .slice QA3 Qn3 Qc3, .bool true] 26
          replace HC := Lib.hid (HC.out.trans (hal.mono (by omega)))
          replace HS := Lib.hid (HS.out.trans (hal.mono (by omega)))
          replace HR := Lib.hid (HR.out.trans (hal.mono (by omega)))
          have hseeZ : layChan.see (v27.alloc (.cells #[.int .i64 x.fCap, .slice QA1 Qn1 Qc1, .slice QA2 Qn2 Qc2, .slice QA3 Qn3 Qc3, .bool true] 26)) v27.heap.size (⟨x.fCap, x.fBuf, [], [], true⟩ : DChan) [.int .i64 x.fCap, .slice QA1 Qn1 Qc1, .slice QA2 Qn2 Qc2, .slice QA3 Qn3 Qc3, .bool true] := layChan.keep seeZ fun k hk => hal.block k hk
          have hlQ := sQ.1
          have hsQ : SeenR Lay.int (v27.alloc (.cells #[.int .i64 x.fCap, .slice QA1 Qn1 Qc1, .slice QA2 Qn2 Qc2, .slice QA3 Qn3 Qc3, .bool true] 26)) v27.heap.size QA1 Qn1 x.fBuf := sQ.below hal (Nat.le_refl _)
          have qz0 := box_cell (j := 0) hbxZ rfl
          have qz1 := box_cell (j := 1) hbxZ rfl
          have qz2 := box_cell (j := 2) hbxZ rfl
          have qz3 := box_cell (j := 3) hbxZ rfl
          have qz4 := box_cell (j := 4) hbxZ rfl
          have hzZ : v27.heap.size + 1 ≤ (v27.alloc (.cells #[.int .i64 x.fCap, .slice QA1 Qn1 Qc1, .slice QA2 Qn2 Qc2, .slice QA3 Qn3 Qc3, .bool true] 26)).heap.size := by simp
          clear hal ownZ oZ1 oZ2 seeZ sQ
          go_wp2_with fail
          generalize (v27.alloc (.cells #[.int .i64 x.fCap, .slice QA1 Qn1 Qc1, .slice QA2 Qn2 Qc2, .slice QA3 Qn3 Qc3, .bool true] 26)) = vZ at *
          have HOZ := Lib.hid (implChanOk_any hseeZ (by omega))
          rw [hclo] at HOZ
          clear a2_v0 a2_v1 a2_v2 a2_v3 a2_v4 hltc qz0 qz1 qz2 qz3 qz4
          refine HOZ.out.mono ?_
          rintro e v28 ⟨rfl, hbz⟩
          have hzv28 := hbz.size
          replace HC := Lib.hid (HC.out.trans (hbz.mono (by omega)))
          replace HS := Lib.hid (HS.out.trans (hbz.mono (by omega)))
          replace HR := Lib.hid (HR.out.trans (hbz.mono (by omega)))
          have a2_o0 := box_cell (j := 0) (HKC.out _ HC.out).2.1 rfl
          have a2_o1 := box_cell (j := 1) (HKC.out _ HC.out).2.1 rfl
          have a2_o2 := box_cell (j := 2) (HKC.out _ HC.out).2.1 rfl
          have a2_o3 := box_cell (j := 3) (HKC.out _ HC.out).2.1 rfl
          have a2_o4 := box_cell (j := 4) (HKC.out _ HC.out).2.1 rfl
          have hx2 := box_keep hbxZ hbz (by omega)
          have qz0 := box_cell (j := 0) hx2 rfl
          have qz1 := box_cell (j := 1) hx2 rfl
          have qz2 := box_cell (j := 2) hx2 rfl
          have qz3 := box_cell (j := 3) hx2 rfl
          have qz4 := box_cell (j := 4) hx2 rfl
          have hsQ2 := hsQ.below hbz (by omega)
          have hsC2 : SeenR Lay.int v28 v1.heap.size _ x.fBuf.length x.fBuf := see_buf (HKC.out _ HC.out).1
          subst hlQ
          have HSM := Lib.hid (sameInts_any (c := Qc1) (c' := c1) hsQ2 hsC2 (by have := hsz; unfold szChan at this; omega))
          clear hbz hsQ hsQ2 hsC2
          go_wp2_with fail
          refine HSM.out.mono ?_
          rintro e vE ⟨rfl, hbE⟩
          replace HC := Lib.hid (HC.out.trans (hbE.mono (by omega)))
          replace HS := Lib.hid (HS.out.trans (hbE.mono (by omega)))
          replace HR := Lib.hid (HR.out.trans (hbE.mono (by omega)))
          go_wp2_with fail
          go_ret
          exact ⟨rfl, HB.out.trans (HC.out.mono (by omega))⟩
        · skip
          have hsw := (HKS.out _ HS.out).1
          obtain ⟨_, _, _, _, _, _, _, _, _, heq, -, ⟨-, -, sB⟩, -, -⟩ := seeChan hsw
          simp only [List.cons.injEq, Value.slice.injEq, and_true] at heq
          obtain ⟨-, ⟨rfl, rfl, rfl⟩, -⟩ := heq
          have hlB := sB.1
          rw [hpre] at sB hlB
          simp only [List.length_append, List.length_cons, List.length_nil] at hlB
          obtain ⟨hx9, g9, o9, us9, rfl, hg9, ⟨rfl, hw9⟩, hcell9⟩ := sB.at_ (i := pre.length) (by omega)
          have c9 := hcell9 0 _ rfl
          rw [show (pre ++ [(7 : Int)])[pre.length] = 7 by simp] at c9
          simp only [show Lay.int.size = 1 from rfl, Nat.add_zero, Nat.mul_one] at c9
          clear hcell9 sB hsw
          have hpl : pre.length ≤ 1048576 := by have h := hsx; unfold szChan at h; rw [hpre] at h; simp at h; omega
          obtain ⟨m9, hm9⟩ : ∃ m, m = pre.length := ⟨_, rfl⟩
          rw [← hm9] at c9 hlB hpl
          subst hlB
          clear hm9 hpre
          go_wp2_with fail
          clear a2_u0 a2_u1 a2_u2 a2_u3 a2_u4 a2_s0 a2_s1 a2_s2 a2_s3 a2_s4 a2_t0 a2_t1 a2_t2
          refine (HRI.out _ _ _ (HKC.out _ HC.out).1 (by have := (HKC.out _ HC.out).2.2; omega)).mono ?_
          rintro e v29 ⟨uR, FR, rfl, ownR, hbdR, hbv29⟩
          have hzv29 := hbv29.size
          replace HC := Lib.hid (HC.out.trans (hbv29.mono (by omega)))
          replace HS := Lib.hid (HS.out.trans (hbv29.mono (by omega)))
          clear hbv29
          simp only at ownR
          have seeR := layChan.seen (hi := v29.heap.size) ownR fun g hg => (hbdR g hg).2
          obtain ⟨RA1, Rn1, Rc1, RA2, Rn2, Rc2, RA3, Rn3, Rc3, rfl, -⟩ := seeChan seeR
          have hal : Below v29.heap.size v29 ((v29.alloc (.cells #[.int .i64 zeroC.fCap, .slice RA1 Rn1 Rc1, .slice RA2 Rn2 Rc2, .slice RA3 Rn3 Rc3, .bool zeroC.fClosed] 26)).alloc (.cells #[.int .i64 zeroW.fG, .int .i64 zeroW.fCase, .int .i64 zeroW.fVal] 29)) := by go_grown
          have hbxR : ((v29.alloc (.cells #[.int .i64 zeroC.fCap, .slice RA1 Rn1 Rc1, .slice RA2 Rn2 Rc2, .slice RA3 Rn3 Rc3, .bool zeroC.fClosed] 26)).alloc (.cells #[.int .i64 zeroW.fG, .int .i64 zeroW.fCase, .int .i64 zeroW.fVal] 29)).heap[v29.heap.size]? = some (.cells #[.int .i64 zeroC.fCap, .slice RA1 Rn1 Rc1, .slice RA2 Rn2 Rc2, .slice RA3 Rn3 Rc3, .bool zeroC.fClosed] 26 (0, 0)) := box_keep (box_new v29 #[.int .i64 zeroC.fCap, .slice RA1 Rn1 Rc1, .slice RA2 Rn2 Rc2, .slice RA3 Rn3 Rc3, .bool zeroC.fClosed] 26) ((Below.refl _ _).alloc (Nat.le_refl _) _) (by simp)
          have hseeR : layChan.see ((v29.alloc (.cells #[.int .i64 zeroC.fCap, .slice RA1 Rn1 Rc1, .slice RA2 Rn2 Rc2, .slice RA3 Rn3 Rc3, .bool zeroC.fClosed] 26)).alloc (.cells #[.int .i64 zeroW.fG, .int .i64 zeroW.fCase, .int .i64 zeroW.fVal] 29)) v29.heap.size zeroC [.int .i64 zeroC.fCap, .slice RA1 Rn1 Rc1, .slice RA2 Rn2 Rc2, .slice RA3 Rn3 Rc3, .bool zeroC.fClosed] := layChan.keep seeR fun k hk => hal.block k hk
          have hzR : v29.heap.size + 2 ≤ ((v29.alloc (.cells #[.int .i64 zeroC.fCap, .slice RA1 Rn1 Rc1, .slice RA2 Rn2 Rc2, .slice RA3 Rn3 Rc3, .bool zeroC.fClosed] 26)).alloc (.cells #[.int .i64 zeroW.fG, .int .i64 zeroW.fCase, .int .i64 zeroW.fVal] 29)).heap.size := by simp
          have a2_w0 := box_cell (j := 0) (HKC.out _ HC.out).2.1 rfl
          have a2_w1 := box_cell (j := 1) (HKC.out _ HC.out).2.1 rfl
          have a2_w2 := box_cell (j := 2) (HKC.out _ HC.out).2.1 rfl
          have a2_w3 := box_cell (j := 3) (HKC.out _ HC.out).2.1 rfl
          have a2_w4 := box_cell (j := 4) (HKC.out _ HC.out).2.1 rfl
          have hltc : v1.heap.size < v29.heap.size := by have := (HKC.out _ HC.out).2.2; omega
          replace HC := Lib.hid (HC.out.trans (hal.mono (by omega)))
          replace HS := Lib.hid (HS.out.trans (hal.mono (by omega)))
          clear hal ownR seeR
          go_wp2_with fail
          clear a2_w0 a2_w1 a2_w2 a2_w3 a2_w4 hltc
          generalize ((v29.alloc (.cells #[.int .i64 zeroC.fCap, .slice RA1 Rn1 Rc1, .slice RA2 Rn2 Rc2, .slice RA3 Rn3 Rc3, .bool zeroC.fClosed] 26)).alloc (.cells #[.int .i64 zeroW.fG, .int .i64 zeroW.fCase, .int .i64 zeroW.fVal] 29)) = vR at *
          have HKR := Lib.hid (fun (W : World) (hW : Below vR.heap.size vR W) => show layChan.see W v29.heap.size zeroC [.int .i64 zeroC.fCap, .slice RA1 Rn1 Rc1, .slice RA2 Rn2 Rc2, .slice RA3 Rn3 Rc3, .bool zeroC.fClosed] ∧ W.heap[v29.heap.size]? = some (.cells #[.int .i64 zeroC.fCap, .slice RA1 Rn1 Rc1, .slice RA2 Rn2 Rc2, .slice RA3 Rn3 Rc3, .bool zeroC.fClosed] 26 (0, 0)) ∧ vR.heap.size ≤ W.heap.size from ⟨layChan.keep hseeR (fun k hk => hW.block k (by omega)), box_keep hbxR hW (by omega), hW.size⟩)
          have HR := Lib.hid (Below.refl vR.heap.size vR)
          clear hseeR hbxR
          refine (HCR.out _ _ _ (HKC.out _ HC.out).1 (by have := (HKC.out _ HC.out).2.2; omega)).mono ?_
          rintro e v30 ⟨rfl, hbv30⟩
          have hzv30 := hbv30.size
          replace HC := Lib.hid (HC.out.trans (hbv30.mono (by omega)))
          replace HS := Lib.hid (HS.out.trans (hbv30.mono (by omega)))
          replace HR := Lib.hid (HR.out.trans (hbv30.mono (by omega)))
          clear hbv30
          have a2_y0 := box_cell (j := 0) (HKC.out _ HC.out).2.1 rfl
          have a2_y1 := box_cell (j := 1) (HKC.out _ HC.out).2.1 rfl
          have a2_y2 := box_cell (j := 2) (HKC.out _ HC.out).2.1 rfl
          have a2_y3 := box_cell (j := 3) (HKC.out _ HC.out).2.1 rfl
          have a2_y4 := box_cell (j := 4) (HKC.out _ HC.out).2.1 rfl
          go_wp2_with fail
          refine (HCI.out _ _ _ (HKC.out _ HC.out).1 (by have := (HKC.out _ HC.out).2.2; omega)).mono ?_
          rintro e v31 ⟨uZ, ZA, Zn, Zc, ZA2, Zn2, Zc2, FZ0, FZ1, FZ2, rfl, ownZ, oZ1, oZ2, hbdZ, -, -, -, -, -, hbv31⟩
          have hzv31 := hbv31.size
          replace HC := Lib.hid (HC.out.trans (hbv31.mono (by omega)))
          replace HS := Lib.hid (HS.out.trans (hbv31.mono (by omega)))
          replace HR := Lib.hid (HR.out.trans (hbv31.mono (by omega)))
          clear hbv31 a2_y0 a2_y1 a2_y2 a2_y3 a2_y4
          simp only at ownZ oZ1 oZ2
          have hlZ1 := oZ1.1
          have hlZ2 := oZ2.1
          subst hlZ1 hlZ2
          have seeZ := layChan.seen (hi := v31.heap.size) ownZ fun g hg => (hbdZ g hg).2
          obtain ⟨QA1, Qn1, Qc1, QA2, Qn2, Qc2, QA3, Qn3, Qc3, rfl, -, ⟨hq1, hq2, sQ⟩, -, -⟩ := seeChan seeZ
          have a2_v0 := box_cell (j := 0) (HKC.out _ HC.out).2.1 rfl
          have a2_v1 := box_cell (j := 1) (HKC.out _ HC.out).2.1 rfl
          have a2_v2 := box_cell (j := 2) (HKC.out _ HC.out).2.1 rfl
          have a2_v3 := box_cell (j := 3) (HKC.out _ HC.out).2.1 rfl
          have a2_v4 := box_cell (j := 4) (HKC.out _ HC.out).2.1 rfl
          have hltc : v1.heap.size < v31.heap.size := by have := (HKC.out _ HC.out).2.2; omega
          rw [HCL.out] at a2_v4
          have hal : Below v31.heap.size v31 (v31.alloc (.cells #[.int .i64 x.fCap, .slice QA1 Qn1 Qc1, .slice QA2 Qn2 Qc2, .slice QA3 Qn3 Qc3, .bool true] 26)) := (Below.refl _ _).alloc (Nat.le_refl _) _
          have hbxZ : (v31.alloc (.cells #[.int .i64 x.fCap, .slice QA1 Qn1 Qc1, .slice QA2 Qn2 Qc2, .slice QA3 Qn3 Qc3, .bool true] 26)).heap[v31.heap.size]? = some (.cells #[.int .i64 x.fCap, .slice QA1 Qn1 Qc1, .slice QA2 Qn2 Qc2, .slice QA3 Qn3 Qc3, .bool true] 26 (0, 0)) := box_new v31 #[.int .i64 x.fCap, .slice QA1 Qn1 Qc1, .slice QA2 Qn2 Qc2, .slice QA3 Qn3 Qc3, .bool true] 26
          replace HC := Lib.hid (HC.out.trans (hal.mono (by omega)))
          replace HS := Lib.hid (HS.out.trans (hal.mono (by omega)))
          replace HR := Lib.hid (HR.out.trans (hal.mono (by omega)))
          have hseeZ : layChan.see (v31.alloc (.cells #[.int .i64 x.fCap, .slice QA1 Qn1 Qc1, .slice QA2 Qn2 Qc2, .slice QA3 Qn3 Qc3, .bool true] 26)) v31.heap.size (⟨x.fCap, x.fBuf, [], [], true⟩ : DChan) [.int .i64 x.fCap, .slice QA1 Qn1 Qc1, .slice QA2 Qn2 Qc2, .slice QA3 Qn3 Qc3, .bool true] := layChan.keep seeZ fun k hk => hal.block k hk
          have hlQ := sQ.1
          have hsQ : SeenR Lay.int (v31.alloc (.cells #[.int .i64 x.fCap, .slice QA1 Qn1 Qc1, .slice QA2 Qn2 Qc2, .slice QA3 Qn3 Qc3, .bool true] 26)) v31.heap.size QA1 Qn1 x.fBuf := sQ.below hal (Nat.le_refl _)
          have qz0 := box_cell (j := 0) hbxZ rfl
          have qz1 := box_cell (j := 1) hbxZ rfl
          have qz2 := box_cell (j := 2) hbxZ rfl
          have qz3 := box_cell (j := 3) hbxZ rfl
          have qz4 := box_cell (j := 4) hbxZ rfl
          have hzZ : v31.heap.size + 1 ≤ (v31.alloc (.cells #[.int .i64 x.fCap, .slice QA1 Qn1 Qc1, .slice QA2 Qn2 Qc2, .slice QA3 Qn3 Qc3, .bool true] 26)).heap.size := by simp
          clear hal ownZ oZ1 oZ2 seeZ sQ
          go_wp2_with fail
          generalize (v31.alloc (.cells #[.int .i64 x.fCap, .slice QA1 Qn1 Qc1, .slice QA2 Qn2 Qc2, .slice QA3 Qn3 Qc3, .bool true] 26)) = vZ at *
          have HOZ := Lib.hid (implChanOk_any hseeZ (by omega))
          rw [hclo] at HOZ
          clear a2_v0 a2_v1 a2_v2 a2_v3 a2_v4 hltc qz0 qz1 qz2 qz3 qz4
          refine HOZ.out.mono ?_
          rintro e v32 ⟨rfl, hbz⟩
          have hzv32 := hbz.size
          replace HC := Lib.hid (HC.out.trans (hbz.mono (by omega)))
          replace HS := Lib.hid (HS.out.trans (hbz.mono (by omega)))
          replace HR := Lib.hid (HR.out.trans (hbz.mono (by omega)))
          have a2_o0 := box_cell (j := 0) (HKC.out _ HC.out).2.1 rfl
          have a2_o1 := box_cell (j := 1) (HKC.out _ HC.out).2.1 rfl
          have a2_o2 := box_cell (j := 2) (HKC.out _ HC.out).2.1 rfl
          have a2_o3 := box_cell (j := 3) (HKC.out _ HC.out).2.1 rfl
          have a2_o4 := box_cell (j := 4) (HKC.out _ HC.out).2.1 rfl
          have hx2 := box_keep hbxZ hbz (by omega)
          have qz0 := box_cell (j := 0) hx2 rfl
          have qz1 := box_cell (j := 1) hx2 rfl
          have qz2 := box_cell (j := 2) hx2 rfl
          have qz3 := box_cell (j := 3) hx2 rfl
          have qz4 := box_cell (j := 4) hx2 rfl
          have hsQ2 := hsQ.below hbz (by omega)
          have hsC2 : SeenR Lay.int v32 v1.heap.size _ x.fBuf.length x.fBuf := see_buf (HKC.out _ HC.out).1
          subst hlQ
          have HSM := Lib.hid (sameInts_any (c := Qc1) (c' := c1) hsQ2 hsC2 (by have := hsz; unfold szChan at this; omega))
          clear hbz hsQ hsQ2 hsC2
          go_wp2_with fail
          refine HSM.out.mono ?_
          rintro e vE ⟨rfl, hbE⟩
          replace HC := Lib.hid (HC.out.trans (hbE.mono (by omega)))
          replace HS := Lib.hid (HS.out.trans (hbE.mono (by omega)))
          replace HR := Lib.hid (HR.out.trans (hbE.mono (by omega)))
          go_wp2_with fail
          go_ret
          exact ⟨rfl, HB.out.trans (HC.out.mono (by omega))⟩
      · skip
        have hrv : sendR x 7 = ((sendX x 7).1, (sendX x 7).2, 0) := by unfold sendR; rw [hsc, htk, hcl]; rfl
        have hokX := hso hcl htk
        rw [hrv] at HSI HSS hsx
        simp only at hsx
        generalize (sendX x 7).1 = X at *
        generalize (sendX x 7).2 = Wt at *
        have hrr : recvR x = ((recvX x).1, (recvX x).2.1, (recvX x).2.2.1, (recvX x).2.2.2, 0) := by unfold recvR; rw [hrc, hgv]; rfl
        have hrf : ∀ b bs, x.fBuf = b :: bs → (recvX x).2.1 = b ∧ (recvX x).2.2.1 = true := fun b bs h => recv_first h
        rw [hrr] at HRI hrx
        simp only at hrx
        generalize recvX x = rv at *
        obtain ⟨Y, yv, yo, yw⟩ := rv
        simp only at *
        have hcv : closeR x = (⟨x.fCap, x.fBuf, [], [], true⟩, x.fRecvs, x.fSends, 0) := by unfold closeR; rw [hok, hcl]; rfl
        rw [hcv] at HCI hcx
        rw [htk] at HCS
        rw [hgv] at HCR
        have HCL := Lib.hid hcl
        clear hcl hct htk hgv hsc hrc hcs hcr hso
        refine (HSI.out _ _ _ (HKC.out _ HC.out).1 (by have := (HKC.out _ HC.out).2.2; omega)).mono ?_
        rintro e v33 ⟨uS, FS, rfl, ownS, hbdS, hbv33⟩
        have hzv33 := hbv33.size
        simp only at ownS
        replace HC := Lib.hid (HC.out.trans (hbv33.mono (by omega)))
        clear hbv33
        have seeS := layChan.seen (hi := v33.heap.size) ownS fun g hg => (hbdS g hg).2
        obtain ⟨SA1, Sn1, Sc1, SA2, Sn2, Sc2, SA3, Sn3, Sc3, rfl, -⟩ := seeChan seeS
        have hal : Below v33.heap.size v33 ((v33.alloc (.cells #[.int .i64 X.fCap, .slice SA1 Sn1 Sc1, .slice SA2 Sn2 Sc2, .slice SA3 Sn3 Sc3, .bool X.fClosed] 26)).alloc (.cells #[.int .i64 Wt.fG, .int .i64 Wt.fCase, .int .i64 Wt.fVal] 29)) := by go_grown
        have hbx1 : ((v33.alloc (.cells #[.int .i64 X.fCap, .slice SA1 Sn1 Sc1, .slice SA2 Sn2 Sc2, .slice SA3 Sn3 Sc3, .bool X.fClosed] 26)).alloc (.cells #[.int .i64 Wt.fG, .int .i64 Wt.fCase, .int .i64 Wt.fVal] 29)).heap[v33.heap.size]? = some (.cells #[.int .i64 X.fCap, .slice SA1 Sn1 Sc1, .slice SA2 Sn2 Sc2, .slice SA3 Sn3 Sc3, .bool X.fClosed] 26 (0, 0)) := box_keep (box_new v33 #[.int .i64 X.fCap, .slice SA1 Sn1 Sc1, .slice SA2 Sn2 Sc2, .slice SA3 Sn3 Sc3, .bool X.fClosed] 26) ((Below.refl _ _).alloc (Nat.le_refl _) _) (by simp)
        have hbx2 : ((v33.alloc (.cells #[.int .i64 X.fCap, .slice SA1 Sn1 Sc1, .slice SA2 Sn2 Sc2, .slice SA3 Sn3 Sc3, .bool X.fClosed] 26)).alloc (.cells #[.int .i64 Wt.fG, .int .i64 Wt.fCase, .int .i64 Wt.fVal] 29)).heap[v33.heap.size + 1]? = some (.cells #[.int .i64 Wt.fG, .int .i64 Wt.fCase, .int .i64 Wt.fVal] 29 (0, 0)) := by have := box_new (v33.alloc (.cells #[.int .i64 X.fCap, .slice SA1 Sn1 Sc1, .slice SA2 Sn2 Sc2, .slice SA3 Sn3 Sc3, .bool X.fClosed] 26)) #[.int .i64 Wt.fG, .int .i64 Wt.fCase, .int .i64 Wt.fVal] 29; rw [World.size_alloc] at this; exact this
        have hseeS : layChan.see ((v33.alloc (.cells #[.int .i64 X.fCap, .slice SA1 Sn1 Sc1, .slice SA2 Sn2 Sc2, .slice SA3 Sn3 Sc3, .bool X.fClosed] 26)).alloc (.cells #[.int .i64 Wt.fG, .int .i64 Wt.fCase, .int .i64 Wt.fVal] 29)) v33.heap.size X [.int .i64 X.fCap, .slice SA1 Sn1 Sc1, .slice SA2 Sn2 Sc2, .slice SA3 Sn3 Sc3, .bool X.fClosed] := layChan.keep seeS fun k hk => hal.block k hk
        have hzS : v33.heap.size + 2 ≤ ((v33.alloc (.cells #[.int .i64 X.fCap, .slice SA1 Sn1 Sc1, .slice SA2 Sn2 Sc2, .slice SA3 Sn3 Sc3, .bool X.fClosed] 26)).alloc (.cells #[.int .i64 Wt.fG, .int .i64 Wt.fCase, .int .i64 Wt.fVal] 29)).heap.size := by simp
        have a3_p0 := box_cell (j := 0) (HKC.out _ HC.out).2.1 rfl
        have a3_p1 := box_cell (j := 1) (HKC.out _ HC.out).2.1 rfl
        have a3_p2 := box_cell (j := 2) (HKC.out _ HC.out).2.1 rfl
        have a3_p3 := box_cell (j := 3) (HKC.out _ HC.out).2.1 rfl
        have a3_p4 := box_cell (j := 4) (HKC.out _ HC.out).2.1 rfl
        have hltc : v1.heap.size < v33.heap.size := by have := (HKC.out _ HC.out).2.2; omega
        replace HC := Lib.hid (HC.out.trans (hal.mono (by omega)))
        clear hal ownS seeS
        go_wp2_with fail
        clear a3_p0 a3_p1 a3_p2 a3_p3 a3_p4 hltc
        generalize ((v33.alloc (.cells #[.int .i64 X.fCap, .slice SA1 Sn1 Sc1, .slice SA2 Sn2 Sc2, .slice SA3 Sn3 Sc3, .bool X.fClosed] 26)).alloc (.cells #[.int .i64 Wt.fG, .int .i64 Wt.fCase, .int .i64 Wt.fVal] 29)) = vS at *
        have HKS := Lib.hid (fun (W : World) (hW : Below vS.heap.size vS W) => show layChan.see W v33.heap.size X [.int .i64 X.fCap, .slice SA1 Sn1 Sc1, .slice SA2 Sn2 Sc2, .slice SA3 Sn3 Sc3, .bool X.fClosed] ∧ W.heap[v33.heap.size]? = some (.cells #[.int .i64 X.fCap, .slice SA1 Sn1 Sc1, .slice SA2 Sn2 Sc2, .slice SA3 Sn3 Sc3, .bool X.fClosed] 26 (0, 0)) ∧ W.heap[v33.heap.size + 1]? = some (.cells #[.int .i64 Wt.fG, .int .i64 Wt.fCase, .int .i64 Wt.fVal] 29 (0, 0)) ∧ vS.heap.size ≤ W.heap.size from ⟨layChan.keep hseeS (fun k hk => hW.block k (by omega)), box_keep hbx1 hW (by omega), box_keep hbx2 hW (by omega), hW.size⟩)
        have HS := Lib.hid (Below.refl vS.heap.size vS)
        clear hseeS hbx1 hbx2
        refine (HSS.out _ _ _ (HKC.out _ HC.out).1 (by have := (HKC.out _ HC.out).2.2; omega)).mono ?_
        rintro e v34 ⟨uT, FT, rfl, ownT, hbdT, hbv34⟩
        have hzv34 := hbv34.size
        simp only at ownT
        replace HC := Lib.hid (HC.out.trans (hbv34.mono (by omega)))
        replace HS := Lib.hid (HS.out.trans (hbv34.mono (by omega)))
        clear hbv34
        have seeT := layChan.seen (hi := v34.heap.size) ownT fun g hg => (hbdT g hg).2
        obtain ⟨TA1, Tn1, Tc1, TA2, Tn2, Tc2, TA3, Tn3, Tc3, rfl, -⟩ := seeChan seeT
        have hal : Below v34.heap.size v34 ((v34.alloc (.cells #[.int .i64 X.fCap, .slice TA1 Tn1 Tc1, .slice TA2 Tn2 Tc2, .slice TA3 Tn3 Tc3, .bool X.fClosed] 26)).alloc (.cells #[.int .i64 Wt.fG, .int .i64 Wt.fCase, .int .i64 Wt.fVal] 29)) := by go_grown
        have a3_q0 := box_cell (j := 0) (HKC.out _ HC.out).2.1 rfl
        have a3_q1 := box_cell (j := 1) (HKC.out _ HC.out).2.1 rfl
        have a3_q2 := box_cell (j := 2) (HKC.out _ HC.out).2.1 rfl
        have a3_q3 := box_cell (j := 3) (HKC.out _ HC.out).2.1 rfl
        have a3_q4 := box_cell (j := 4) (HKC.out _ HC.out).2.1 rfl
        have hltc : v1.heap.size < v34.heap.size := by have := (HKC.out _ HC.out).2.2; omega
        replace HC := Lib.hid (HC.out.trans (hal.mono (by omega)))
        replace HS := Lib.hid (HS.out.trans (hal.mono (by omega)))
        clear hal ownT seeT
        have hzT : v34.heap.size + 2 ≤ ((v34.alloc (.cells #[.int .i64 X.fCap, .slice TA1 Tn1 Tc1, .slice TA2 Tn2 Tc2, .slice TA3 Tn3 Tc3, .bool X.fClosed] 26)).alloc (.cells #[.int .i64 Wt.fG, .int .i64 Wt.fCase, .int .i64 Wt.fVal] 29)).heap.size := by simp
        go_wp2_with fail
        clear a3_q0 a3_q1 a3_q2 a3_q3 a3_q4 hltc
        generalize ((v34.alloc (.cells #[.int .i64 X.fCap, .slice TA1 Tn1 Tc1, .slice TA2 Tn2 Tc2, .slice TA3 Tn3 Tc3, .bool X.fClosed] 26)).alloc (.cells #[.int .i64 Wt.fG, .int .i64 Wt.fCase, .int .i64 Wt.fVal] 29)) = vT at *
        refine (HCS.out _ _ _ (HKC.out _ HC.out).1 (by have := (HKC.out _ HC.out).2.2; omega)).mono ?_
        rintro e v35 ⟨rfl, hbv35⟩
        have hzv35 := hbv35.size
        replace HC := Lib.hid (HC.out.trans (hbv35.mono (by omega)))
        replace HS := Lib.hid (HS.out.trans (hbv35.mono (by omega)))
        clear hbv35
        have a3_r0 := box_cell (j := 0) (HKC.out _ HC.out).2.1 rfl
        have a3_r1 := box_cell (j := 1) (HKC.out _ HC.out).2.1 rfl
        have a3_r2 := box_cell (j := 2) (HKC.out _ HC.out).2.1 rfl
        have a3_r3 := box_cell (j := 3) (HKC.out _ HC.out).2.1 rfl
        have a3_r4 := box_cell (j := 4) (HKC.out _ HC.out).2.1 rfl
        rw [HCL.out] at a3_r4
        have a3_s0 := box_cell (j := 0) (HKS.out _ HS.out).2.1 rfl
        have a3_s1 := box_cell (j := 1) (HKS.out _ HS.out).2.1 rfl
        have a3_s2 := box_cell (j := 2) (HKS.out _ HS.out).2.1 rfl
        have a3_s3 := box_cell (j := 3) (HKS.out _ HS.out).2.1 rfl
        have a3_s4 := box_cell (j := 4) (HKS.out _ HS.out).2.1 rfl
        have a3_t0 := box_cell (j := 0) (HKS.out _ HS.out).2.2.1 rfl
        have a3_t1 := box_cell (j := 1) (HKS.out _ HS.out).2.2.1 rfl
        have a3_t2 := box_cell (j := 2) (HKS.out _ HS.out).2.2.1 rfl
        go_wp2_with fail
        have HOX := Lib.hid (implChanOk_any (HKS.out _ HS.out).1 (by have := (HKS.out _ HS.out).2.2.2; omega))
        rw [hokX] at HOX
        refine (HOX.out).mono ?_
        rintro e v36 ⟨rfl, hbv36⟩
        have hzv36 := hbv36.size
        replace HC := Lib.hid (HC.out.trans (hbv36.mono (by omega)))
        replace HS := Lib.hid (HS.out.trans (hbv36.mono (by omega)))
        clear hbv36
        clear a3_r0 a3_r1 a3_r2 a3_r3 a3_r4 a3_s0 a3_s1 a3_s2 a3_s3 a3_s4 a3_t0 a3_t1 a3_t2
        have a3_s0 := box_cell (j := 0) (HKS.out _ HS.out).2.1 rfl
        have a3_s1 := box_cell (j := 1) (HKS.out _ HS.out).2.1 rfl
        have a3_s2 := box_cell (j := 2) (HKS.out _ HS.out).2.1 rfl
        have a3_s3 := box_cell (j := 3) (HKS.out _ HS.out).2.1 rfl
        have a3_s4 := box_cell (j := 4) (HKS.out _ HS.out).2.1 rfl
        have a3_t0 := box_cell (j := 0) (HKS.out _ HS.out).2.2.1 rfl
        have a3_t1 := box_cell (j := 1) (HKS.out _ HS.out).2.2.1 rfl
        have a3_t2 := box_cell (j := 2) (HKS.out _ HS.out).2.2.1 rfl
        have a3_u0 := box_cell (j := 0) (HKC.out _ HC.out).2.1 rfl
        have a3_u1 := box_cell (j := 1) (HKC.out _ HC.out).2.1 rfl
        have a3_u2 := box_cell (j := 2) (HKC.out _ HC.out).2.1 rfl
        have a3_u3 := box_cell (j := 3) (HKC.out _ HC.out).2.1 rfl
        have a3_u4 := box_cell (j := 4) (HKC.out _ HC.out).2.1 rfl
        have hgoal := hst
        rcases hgoal with hG | ⟨hG, pre, hpre⟩
        · skip
          go_wp2_with fail
          clear a3_u0 a3_u1 a3_u2 a3_u3 a3_u4 a3_s0 a3_s1 a3_s2 a3_s3 a3_s4 a3_t0 a3_t1 a3_t2
          refine (HRI.out _ _ _ (HKC.out _ HC.out).1 (by have := (HKC.out _ HC.out).2.2; omega)).mono ?_
          rintro e v37 ⟨uR, FR, rfl, ownR, hbdR, hbv37⟩
          have hzv37 := hbv37.size
          replace HC := Lib.hid (HC.out.trans (hbv37.mono (by omega)))
          replace HS := Lib.hid (HS.out.trans (hbv37.mono (by omega)))
          clear hbv37
          simp only at ownR
          have seeR := layChan.seen (hi := v37.heap.size) ownR fun g hg => (hbdR g hg).2
          obtain ⟨RA1, Rn1, Rc1, RA2, Rn2, Rc2, RA3, Rn3, Rc3, rfl, -⟩ := seeChan seeR
          have hal : Below v37.heap.size v37 ((v37.alloc (.cells #[.int .i64 Y.fCap, .slice RA1 Rn1 Rc1, .slice RA2 Rn2 Rc2, .slice RA3 Rn3 Rc3, .bool Y.fClosed] 26)).alloc (.cells #[.int .i64 yw.fG, .int .i64 yw.fCase, .int .i64 yw.fVal] 29)) := by go_grown
          have hbxR : ((v37.alloc (.cells #[.int .i64 Y.fCap, .slice RA1 Rn1 Rc1, .slice RA2 Rn2 Rc2, .slice RA3 Rn3 Rc3, .bool Y.fClosed] 26)).alloc (.cells #[.int .i64 yw.fG, .int .i64 yw.fCase, .int .i64 yw.fVal] 29)).heap[v37.heap.size]? = some (.cells #[.int .i64 Y.fCap, .slice RA1 Rn1 Rc1, .slice RA2 Rn2 Rc2, .slice RA3 Rn3 Rc3, .bool Y.fClosed] 26 (0, 0)) := box_keep (box_new v37 #[.int .i64 Y.fCap, .slice RA1 Rn1 Rc1, .slice RA2 Rn2 Rc2, .slice RA3 Rn3 Rc3, .bool Y.fClosed] 26) ((Below.refl _ _).alloc (Nat.le_refl _) _) (by simp)
          have hseeR : layChan.see ((v37.alloc (.cells #[.int .i64 Y.fCap, .slice RA1 Rn1 Rc1, .slice RA2 Rn2 Rc2, .slice RA3 Rn3 Rc3, .bool Y.fClosed] 26)).alloc (.cells #[.int .i64 yw.fG, .int .i64 yw.fCase, .int .i64 yw.fVal] 29)) v37.heap.size Y [.int .i64 Y.fCap, .slice RA1 Rn1 Rc1, .slice RA2 Rn2 Rc2, .slice RA3 Rn3 Rc3, .bool Y.fClosed] := layChan.keep seeR fun k hk => hal.block k hk
          have hzR : v37.heap.size + 2 ≤ ((v37.alloc (.cells #[.int .i64 Y.fCap, .slice RA1 Rn1 Rc1, .slice RA2 Rn2 Rc2, .slice RA3 Rn3 Rc3, .bool Y.fClosed] 26)).alloc (.cells #[.int .i64 yw.fG, .int .i64 yw.fCase, .int .i64 yw.fVal] 29)).heap.size := by simp
          have a3_w0 := box_cell (j := 0) (HKC.out _ HC.out).2.1 rfl
          have a3_w1 := box_cell (j := 1) (HKC.out _ HC.out).2.1 rfl
          have a3_w2 := box_cell (j := 2) (HKC.out _ HC.out).2.1 rfl
          have a3_w3 := box_cell (j := 3) (HKC.out _ HC.out).2.1 rfl
          have a3_w4 := box_cell (j := 4) (HKC.out _ HC.out).2.1 rfl
          have hltc : v1.heap.size < v37.heap.size := by have := (HKC.out _ HC.out).2.2; omega
          replace HC := Lib.hid (HC.out.trans (hal.mono (by omega)))
          replace HS := Lib.hid (HS.out.trans (hal.mono (by omega)))
          clear hal ownR seeR
          go_wp2_with fail
          clear a3_w0 a3_w1 a3_w2 a3_w3 a3_w4 hltc
          generalize ((v37.alloc (.cells #[.int .i64 Y.fCap, .slice RA1 Rn1 Rc1, .slice RA2 Rn2 Rc2, .slice RA3 Rn3 Rc3, .bool Y.fClosed] 26)).alloc (.cells #[.int .i64 yw.fG, .int .i64 yw.fCase, .int .i64 yw.fVal] 29)) = vR at *
          have HKR := Lib.hid (fun (W : World) (hW : Below vR.heap.size vR W) => show layChan.see W v37.heap.size Y [.int .i64 Y.fCap, .slice RA1 Rn1 Rc1, .slice RA2 Rn2 Rc2, .slice RA3 Rn3 Rc3, .bool Y.fClosed] ∧ W.heap[v37.heap.size]? = some (.cells #[.int .i64 Y.fCap, .slice RA1 Rn1 Rc1, .slice RA2 Rn2 Rc2, .slice RA3 Rn3 Rc3, .bool Y.fClosed] 26 (0, 0)) ∧ vR.heap.size ≤ W.heap.size from ⟨layChan.keep hseeR (fun k hk => hW.block k (by omega)), box_keep hbxR hW (by omega), hW.size⟩)
          have HR := Lib.hid (Below.refl vR.heap.size vR)
          clear hseeR hbxR
          refine (HCR.out _ _ _ (HKC.out _ HC.out).1 (by have := (HKC.out _ HC.out).2.2; omega)).mono ?_
          rintro e v38 ⟨rfl, hbv38⟩
          have hzv38 := hbv38.size
          replace HC := Lib.hid (HC.out.trans (hbv38.mono (by omega)))
          replace HS := Lib.hid (HS.out.trans (hbv38.mono (by omega)))
          replace HR := Lib.hid (HR.out.trans (hbv38.mono (by omega)))
          clear hbv38
          have a3_x0 := box_cell (j := 0) (HKR.out _ HR.out).2.1 rfl
          have a3_x1 := box_cell (j := 1) (HKR.out _ HR.out).2.1 rfl
          have a3_x2 := box_cell (j := 2) (HKR.out _ HR.out).2.1 rfl
          have a3_x3 := box_cell (j := 3) (HKR.out _ HR.out).2.1 rfl
          have a3_x4 := box_cell (j := 4) (HKR.out _ HR.out).2.1 rfl
          go_wp2_with fail
          have HOY := Lib.hid (implChanOk_any (HKR.out _ HR.out).1 (by have := (HKR.out _ HR.out).2.2; omega))
          rw [hro] at HOY
          refine (HOY.out).mono ?_
          rintro e v39 ⟨rfl, hbv39⟩
          have hzv39 := hbv39.size
          replace HC := Lib.hid (HC.out.trans (hbv39.mono (by omega)))
          replace HS := Lib.hid (HS.out.trans (hbv39.mono (by omega)))
          replace HR := Lib.hid (HR.out.trans (hbv39.mono (by omega)))
          clear hbv39
          clear a3_x0 a3_x1 a3_x2 a3_x3 a3_x4
          have a3_y0 := box_cell (j := 0) (HKC.out _ HC.out).2.1 rfl
          have a3_y1 := box_cell (j := 1) (HKC.out _ HC.out).2.1 rfl
          have a3_y2 := box_cell (j := 2) (HKC.out _ HC.out).2.1 rfl
          have a3_y3 := box_cell (j := 3) (HKC.out _ HC.out).2.1 rfl
          have a3_y4 := box_cell (j := 4) (HKC.out _ HC.out).2.1 rfl
          have hfirst : (yo = false) ∨ (yo = true ∧ x.fBuf = []) ∨ (yo = true ∧ ∃ bs, x.fBuf = yv :: bs) := by
            cases yo
            · exact .inl rfl
            · right
              rcases hxb : x.fBuf with _ | ⟨b, bs⟩
              · exact .inl ⟨rfl, rfl⟩
              · exact .inr ⟨rfl, bs, by rw [(hrf b bs hxb).1]⟩
          rcases hfirst with hyo | ⟨hyo, hxb⟩ | ⟨hyo, bs, hxb⟩
          · skip
            subst hyo
            go_wp2_with fail
            refine (HCI.out _ _ _ (HKC.out _ HC.out).1 (by have := (HKC.out _ HC.out).2.2; omega)).mono ?_
            rintro e v40 ⟨uZ, ZA, Zn, Zc, ZA2, Zn2, Zc2, FZ0, FZ1, FZ2, rfl, ownZ, oZ1, oZ2, hbdZ, -, -, -, -, -, hbv40⟩
            have hzv40 := hbv40.size
            replace HC := Lib.hid (HC.out.trans (hbv40.mono (by omega)))
            replace HS := Lib.hid (HS.out.trans (hbv40.mono (by omega)))
            replace HR := Lib.hid (HR.out.trans (hbv40.mono (by omega)))
            clear hbv40 a3_y0 a3_y1 a3_y2 a3_y3 a3_y4
            simp only at ownZ oZ1 oZ2
            have hlZ1 := oZ1.1
            have hlZ2 := oZ2.1
            subst hlZ1 hlZ2
            have seeZ := layChan.seen (hi := v40.heap.size) ownZ fun g hg => (hbdZ g hg).2
            obtain ⟨QA1, Qn1, Qc1, QA2, Qn2, Qc2, QA3, Qn3, Qc3, rfl, -, ⟨hq1, hq2, sQ⟩, -, -⟩ := seeChan seeZ
            have a3_v0 := box_cell (j := 0) (HKC.out _ HC.out).2.1 rfl
            have a3_v1 := box_cell (j := 1) (HKC.out _ HC.out).2.1 rfl
            have a3_v2 := box_cell (j := 2) (HKC.out _ HC.out).2.1 rfl
            have a3_v3 := box_cell (j := 3) (HKC.out _ HC.out).2.1 rfl
            have a3_v4 := box_cell (j := 4) (HKC.out _ HC.out).2.1 rfl
            have hltc : v1.heap.size < v40.heap.size := by have := (HKC.out _ HC.out).2.2; omega
            rw [HCL.out] at a3_v4
            have hal : Below v40.heap.size v40 (v40.alloc (.cells #[.int .i64 x.fCap, .slice QA1 Qn1 Qc1, .slice QA2 Qn2 Qc2, .slice QA3 Qn3 Qc3, .bool true] 26)) := (Below.refl _ _).alloc (Nat.le_refl _) _
            have hbxZ : (v40.alloc (.cells #[.int .i64 x.fCap, .slice QA1 Qn1 Qc1, .slice QA2 Qn2 Qc2, .slice QA3 Qn3 Qc3, .bool true] 26)).heap[v40.heap.size]? = some (.cells #[.int .i64 x.fCap, .slice QA1 Qn1 Qc1, .slice QA2 Qn2 Qc2, .slice QA3 Qn3 Qc3, .bool true] 26 (0, 0)) := box_new v40 #[.int .i64 x.fCap, .slice QA1 Qn1 Qc1, .slice QA2 Qn2 Qc2, .slice QA3 Qn3 Qc3, .bool true] 26
            replace HC := Lib.hid (HC.out.trans (hal.mono (by omega)))
            replace HS := Lib.hid (HS.out.trans (hal.mono (by omega)))
            replace HR := Lib.hid (HR.out.trans (hal.mono (by omega)))
            have hseeZ : layChan.see (v40.alloc (.cells #[.int .i64 x.fCap, .slice QA1 Qn1 Qc1, .slice QA2 Qn2 Qc2, .slice QA3 Qn3 Qc3, .bool true] 26)) v40.heap.size (⟨x.fCap, x.fBuf, [], [], true⟩ : DChan) [.int .i64 x.fCap, .slice QA1 Qn1 Qc1, .slice QA2 Qn2 Qc2, .slice QA3 Qn3 Qc3, .bool true] := layChan.keep seeZ fun k hk => hal.block k hk
            have hlQ := sQ.1
            have hsQ : SeenR Lay.int (v40.alloc (.cells #[.int .i64 x.fCap, .slice QA1 Qn1 Qc1, .slice QA2 Qn2 Qc2, .slice QA3 Qn3 Qc3, .bool true] 26)) v40.heap.size QA1 Qn1 x.fBuf := sQ.below hal (Nat.le_refl _)
            have qz0 := box_cell (j := 0) hbxZ rfl
            have qz1 := box_cell (j := 1) hbxZ rfl
            have qz2 := box_cell (j := 2) hbxZ rfl
            have qz3 := box_cell (j := 3) hbxZ rfl
            have qz4 := box_cell (j := 4) hbxZ rfl
            have hzZ : v40.heap.size + 1 ≤ (v40.alloc (.cells #[.int .i64 x.fCap, .slice QA1 Qn1 Qc1, .slice QA2 Qn2 Qc2, .slice QA3 Qn3 Qc3, .bool true] 26)).heap.size := by simp
            clear hal ownZ oZ1 oZ2 seeZ sQ
            go_wp2_with fail
            generalize (v40.alloc (.cells #[.int .i64 x.fCap, .slice QA1 Qn1 Qc1, .slice QA2 Qn2 Qc2, .slice QA3 Qn3 Qc3, .bool true] 26)) = vZ at *
            have HOZ := Lib.hid (implChanOk_any hseeZ (by omega))
            rw [hclo] at HOZ
            clear a3_v0 a3_v1 a3_v2 a3_v3 a3_v4 hltc qz0 qz1 qz2 qz3 qz4
            refine HOZ.out.mono ?_
            rintro e v41 ⟨rfl, hbz⟩
            have hzv41 := hbz.size
            replace HC := Lib.hid (HC.out.trans (hbz.mono (by omega)))
            replace HS := Lib.hid (HS.out.trans (hbz.mono (by omega)))
            replace HR := Lib.hid (HR.out.trans (hbz.mono (by omega)))
            have a3_o0 := box_cell (j := 0) (HKC.out _ HC.out).2.1 rfl
            have a3_o1 := box_cell (j := 1) (HKC.out _ HC.out).2.1 rfl
            have a3_o2 := box_cell (j := 2) (HKC.out _ HC.out).2.1 rfl
            have a3_o3 := box_cell (j := 3) (HKC.out _ HC.out).2.1 rfl
            have a3_o4 := box_cell (j := 4) (HKC.out _ HC.out).2.1 rfl
            have hx2 := box_keep hbxZ hbz (by omega)
            have qz0 := box_cell (j := 0) hx2 rfl
            have qz1 := box_cell (j := 1) hx2 rfl
            have qz2 := box_cell (j := 2) hx2 rfl
            have qz3 := box_cell (j := 3) hx2 rfl
            have qz4 := box_cell (j := 4) hx2 rfl
            have hsQ2 := hsQ.below hbz (by omega)
            have hsC2 : SeenR Lay.int v41 v1.heap.size _ x.fBuf.length x.fBuf := see_buf (HKC.out _ HC.out).1
            subst hlQ
            have HSM := Lib.hid (sameInts_any (c := Qc1) (c' := c1) hsQ2 hsC2 (by have := hsz; unfold szChan at this; omega))
            clear hbz hsQ hsQ2 hsC2
            go_wp2_with fail
            refine HSM.out.mono ?_
            rintro e vE ⟨rfl, hbE⟩
            replace HC := Lib.hid (HC.out.trans (hbE.mono (by omega)))
            replace HS := Lib.hid (HS.out.trans (hbE.mono (by omega)))
            replace HR := Lib.hid (HR.out.trans (hbE.mono (by omega)))
            go_wp2_with fail
            go_ret
            exact ⟨rfl, HB.out.trans (HC.out.mono (by omega))⟩
          · skip
            subst hyo
            have hl0 : x.fBuf.length = 0 := by rw [hxb]; rfl
            have hl0z : ¬ (0 : Int) < (x.fBuf.length : Int) := by omega
            clear hl0 hxb
            go_wp2_with fail
            refine (HCI.out _ _ _ (HKC.out _ HC.out).1 (by have := (HKC.out _ HC.out).2.2; omega)).mono ?_
            rintro e v42 ⟨uZ, ZA, Zn, Zc, ZA2, Zn2, Zc2, FZ0, FZ1, FZ2, rfl, ownZ, oZ1, oZ2, hbdZ, -, -, -, -, -, hbv42⟩
            have hzv42 := hbv42.size
            replace HC := Lib.hid (HC.out.trans (hbv42.mono (by omega)))
            replace HS := Lib.hid (HS.out.trans (hbv42.mono (by omega)))
            replace HR := Lib.hid (HR.out.trans (hbv42.mono (by omega)))
            clear hbv42 a3_y0 a3_y1 a3_y2 a3_y3 a3_y4
            simp only at ownZ oZ1 oZ2
            have hlZ1 := oZ1.1
            have hlZ2 := oZ2.1
            subst hlZ1 hlZ2
            have seeZ := layChan.seen (hi := v42.heap.size) ownZ fun g hg => (hbdZ g hg).2
            obtain ⟨QA1, Qn1, Qc1, QA2, Qn2, Qc2, QA3, Qn3, Qc3, rfl, -, ⟨hq1, hq2, sQ⟩, -, -⟩ := seeChan seeZ
            have a3_v0 := box_cell (j := 0) (HKC.out _ HC.out).2.1 rfl
            have a3_v1 := box_cell (j := 1) (HKC.out _ HC.out).2.1 rfl
            have a3_v2 := box_cell (j := 2) (HKC.out _ HC.out).2.1 rfl
            have a3_v3 := box_cell (j := 3) (HKC.out _ HC.out).2.1 rfl
            have a3_v4 := box_cell (j := 4) (HKC.out _ HC.out).2.1 rfl
            have hltc : v1.heap.size < v42.heap.size := by have := (HKC.out _ HC.out).2.2; omega
            rw [HCL.out] at a3_v4
            have hal : Below v42.heap.size v42 (v42.alloc (.cells #[.int .i64 x.fCap, .slice QA1 Qn1 Qc1, .slice QA2 Qn2 Qc2, .slice QA3 Qn3 Qc3, .bool true] 26)) := (Below.refl _ _).alloc (Nat.le_refl _) _
            have hbxZ : (v42.alloc (.cells #[.int .i64 x.fCap, .slice QA1 Qn1 Qc1, .slice QA2 Qn2 Qc2, .slice QA3 Qn3 Qc3, .bool true] 26)).heap[v42.heap.size]? = some (.cells #[.int .i64 x.fCap, .slice QA1 Qn1 Qc1, .slice QA2 Qn2 Qc2, .slice QA3 Qn3 Qc3, .bool true] 26 (0, 0)) := box_new v42 #[.int .i64 x.fCap, .slice QA1 Qn1 Qc1, .slice QA2 Qn2 Qc2, .slice QA3 Qn3 Qc3, .bool true] 26
            replace HC := Lib.hid (HC.out.trans (hal.mono (by omega)))
            replace HS := Lib.hid (HS.out.trans (hal.mono (by omega)))
            replace HR := Lib.hid (HR.out.trans (hal.mono (by omega)))
            have hseeZ : layChan.see (v42.alloc (.cells #[.int .i64 x.fCap, .slice QA1 Qn1 Qc1, .slice QA2 Qn2 Qc2, .slice QA3 Qn3 Qc3, .bool true] 26)) v42.heap.size (⟨x.fCap, x.fBuf, [], [], true⟩ : DChan) [.int .i64 x.fCap, .slice QA1 Qn1 Qc1, .slice QA2 Qn2 Qc2, .slice QA3 Qn3 Qc3, .bool true] := layChan.keep seeZ fun k hk => hal.block k hk
            have hlQ := sQ.1
            have hsQ : SeenR Lay.int (v42.alloc (.cells #[.int .i64 x.fCap, .slice QA1 Qn1 Qc1, .slice QA2 Qn2 Qc2, .slice QA3 Qn3 Qc3, .bool true] 26)) v42.heap.size QA1 Qn1 x.fBuf := sQ.below hal (Nat.le_refl _)
            have qz0 := box_cell (j := 0) hbxZ rfl
            have qz1 := box_cell (j := 1) hbxZ rfl
            have qz2 := box_cell (j := 2) hbxZ rfl
            have qz3 := box_cell (j := 3) hbxZ rfl
            have qz4 := box_cell (j := 4) hbxZ rfl
            have hzZ : v42.heap.size + 1 ≤ (v42.alloc (.cells #[.int .i64 x.fCap, .slice QA1 Qn1 Qc1, .slice QA2 Qn2 Qc2, .slice QA3 Qn3 Qc3, .bool true] 26)).heap.size := by simp
            clear hal ownZ oZ1 oZ2 seeZ sQ
            go_wp2_with fail
            generalize (v42.alloc (.cells #[.int .i64 x.fCap, .slice QA1 Qn1 Qc1, .slice QA2 Qn2 Qc2, .slice QA3 Qn3 Qc3, .bool true] 26)) = vZ at *
            have HOZ := Lib.hid (implChanOk_any hseeZ (by omega))
            rw [hclo] at HOZ
            clear a3_v0 a3_v1 a3_v2 a3_v3 a3_v4 hltc qz0 qz1 qz2 qz3 qz4
            refine HOZ.out.mono ?_
            rintro e v43 ⟨rfl, hbz⟩
            have hzv43 := hbz.size
            replace HC := Lib.hid (HC.out.trans (hbz.mono (by omega)))
            replace HS := Lib.hid (HS.out.trans (hbz.mono (by omega)))
            replace HR := Lib.hid (HR.out.trans (hbz.mono (by omega)))
            have a3_o0 := box_cell (j := 0) (HKC.out _ HC.out).2.1 rfl
            have a3_o1 := box_cell (j := 1) (HKC.out _ HC.out).2.1 rfl
            have a3_o2 := box_cell (j := 2) (HKC.out _ HC.out).2.1 rfl
            have a3_o3 := box_cell (j := 3) (HKC.out _ HC.out).2.1 rfl
            have a3_o4 := box_cell (j := 4) (HKC.out _ HC.out).2.1 rfl
            have hx2 := box_keep hbxZ hbz (by omega)
            have qz0 := box_cell (j := 0) hx2 rfl
            have qz1 := box_cell (j := 1) hx2 rfl
            have qz2 := box_cell (j := 2) hx2 rfl
            have qz3 := box_cell (j := 3) hx2 rfl
            have qz4 := box_cell (j := 4) hx2 rfl
            have hsQ2 := hsQ.below hbz (by omega)
            have hsC2 : SeenR Lay.int v43 v1.heap.size _ x.fBuf.length x.fBuf := see_buf (HKC.out _ HC.out).1
            subst hlQ
            have HSM := Lib.hid (sameInts_any (c := Qc1) (c' := c1) hsQ2 hsC2 (by have := hsz; unfold szChan at this; omega))
            clear hbz hsQ hsQ2 hsC2
            go_wp2_with fail
            refine HSM.out.mono ?_
            rintro e vE ⟨rfl, hbE⟩
            replace HC := Lib.hid (HC.out.trans (hbE.mono (by omega)))
            replace HS := Lib.hid (HS.out.trans (hbE.mono (by omega)))
            replace HR := Lib.hid (HR.out.trans (hbE.mono (by omega)))
            go_wp2_with fail
            go_ret
            exact ⟨rfl, HB.out.trans (HC.out.mono (by omega))⟩
          · skip
            subst hyo
            have hl0n : x.fBuf.length = bs.length + 1 := by rw [hxb]; rfl
            have hl0 : (0 : Int) < (x.fBuf.length : Int) := by omega
            clear hl0n
            have hsC := (HKC.out _ HC.out).1
            obtain ⟨_, _, _, _, _, _, _, _, _, heqC, -, ⟨-, -, sC⟩, -, -⟩ := seeChan hsC
            simp only [List.cons.injEq, Value.slice.injEq, and_true] at heqC
            obtain ⟨-, ⟨hq1, hq2, hq3⟩, -⟩ := heqC
            rw [← hq1, ← hq2, hxb] at sC
            obtain ⟨hx8, g8, o8, us8, hA8, hg8, ⟨rfl, hw8⟩, hcell8⟩ := sC.at_ (i := 0) (by simp)
            have c8 := hcell8 0 _ rfl
            simp only [show Lay.int.size = 1 from rfl, Nat.add_zero, Nat.mul_one, Nat.zero_mul, List.getElem_cons_zero] at c8
            subst hA8
            clear hcell8 sC hsC hq1 hq2 hq3 hxb
            go_wp2_with fail
            refine (HCI.out _ _ _ (HKC.out _ HC.out).1 (by have := (HKC.out _ HC.out).2.2; omega)).mono ?_
            rintro e v44 ⟨uZ, ZA, Zn, Zc, ZA2, Zn2, Zc2, FZ0, FZ1, FZ2, rfl, ownZ, oZ1, oZ2, hbdZ, -, -, -, -, -, hbv44⟩
            have hzv44 := hbv44.size
            replace HC := Lib.hid (HC.out.trans (hbv44.mono (by omega)))
            replace HS := Lib.hid (HS.out.trans (hbv44.mono (by omega)))
            replace HR := Lib.hid (HR.out.trans (hbv44.mono (by omega)))
            clear hbv44 a3_y0 a3_y1 a3_y2 a3_y3 a3_y4
            simp only at ownZ oZ1 oZ2
            have hlZ1 := oZ1.1
            have hlZ2 := oZ2.1
            subst hlZ1 hlZ2
            have seeZ := layChan.seen (hi := v44.heap.size) ownZ fun g hg => (hbdZ g hg).2
            obtain ⟨QA1, Qn1, Qc1, QA2, Qn2, Qc2, QA3, Qn3, Qc3, rfl, -, ⟨hq1, hq2, sQ⟩, -, -⟩ := seeChan seeZ
            have a3_v0 := box_cell (j := 0) (HKC.out _ HC.out).2.1 rfl
            have a3_v1 := box_cell (j := 1) (HKC.out _ HC.out).2.1 rfl
            have a3_v2 := box_cell (j := 2) (HKC.out _ HC.out).2.1 rfl
            have a3_v3 := box_cell (j := 3) (HKC.out _ HC.out).2.1 rfl
            have a3_v4 := box_cell (j := 4) (HKC.out _ HC.out).2.1 rfl
            have hltc : v1.heap.size < v44.heap.size := by have := (HKC.out _ HC.out).2.2; omega
            rw [HCL.out] at a3_v4
            have hal : Below v44.heap.size v44 (v44.alloc (.cells #[.int .i64 x.fCap, .slice QA1 Qn1 Qc1, .slice QA2 Qn2 Qc2, .slice QA3 Qn3 Qc3, .bool true] 26)) := (Below.refl _ _).alloc (Nat.le_refl _) _
            have hbxZ : (v44.alloc (.cells #[.int .i64 x.fCap, .slice QA1 Qn1 Qc1, .slice QA2 Qn2 Qc2, .slice QA3 Qn3 Qc3, .bool true] 26)).heap[v44.heap.size]? = some (.cells #[.int .i64 x.fCap, .slice QA1 Qn1 Qc1, .slice QA2 Qn2 Qc2, .slice QA3 Qn3 Qc3, .bool true] 26 (0, 0)) := box_new v44 #[.int .i64 x.fCap, .slice QA1 Qn1 Qc1, .slice QA2 Qn2 Qc2, .slice QA3 Qn3 Qc3, .bool true] 26
            replace HC := Lib.hid (HC.out.trans (hal.mono (by omega)))
            replace HS := Lib.hid (HS.out.trans (hal.mono (by omega)))
            replace HR := Lib.hid (HR.out.trans (hal.mono (by omega)))
            have hseeZ : layChan.see (v44.alloc (.cells #[.int .i64 x.fCap, .slice QA1 Qn1 Qc1, .slice QA2 Qn2 Qc2, .slice QA3 Qn3 Qc3, .bool true] 26)) v44.heap.size (⟨x.fCap, x.fBuf, [], [], true⟩ : DChan) [.int .i64 x.fCap, .slice QA1 Qn1 Qc1, .slice QA2 Qn2 Qc2, .slice QA3 Qn3 Qc3, .bool true] := layChan.keep seeZ fun k hk => hal.block k hk
            have hlQ := sQ.1
            have hsQ : SeenR Lay.int (v44.alloc (.cells #[.int .i64 x.fCap, .slice QA1 Qn1 Qc1, .slice QA2 Qn2 Qc2, .slice QA3 Qn3 Qc3, .bool true] 26)) v44.heap.size QA1 Qn1 x.fBuf := sQ.below hal (Nat.le_refl _)
            have qz0 := box_cell (j := 0) hbxZ rfl
            have qz1 := box_cell (j := 1) hbxZ rfl
            have qz2 := box_cell (j := 2) hbxZ rfl
            have qz3 := box_cell (j := 3) hbxZ rfl
            have qz4 := box_cell (j := 4) hbxZ rfl
            have hzZ : v44.heap.size + 1 ≤ (v44.alloc (.cells #[.int .i64 x.fCap, .slice QA1 Qn1 Qc1, .slice QA2 Qn2 Qc2, .slice QA3 Qn3 Qc3, .bool true] 26)).heap.size := by simp
            clear hal ownZ oZ1 oZ2 seeZ sQ
            go_wp2_with fail
            generalize (v44.alloc (.cells #[.int .i64 x.fCap, .slice QA1 Qn1 Qc1, .slice QA2 Qn2 Qc2, .slice QA3 Qn3 Qc3, .bool true] 26)) = vZ at *
            have HOZ := Lib.hid (implChanOk_any hseeZ (by omega))
            rw [hclo] at HOZ
            clear a3_v0 a3_v1 a3_v2 a3_v3 a3_v4 hltc qz0 qz1 qz2 qz3 qz4
            refine HOZ.out.mono ?_
            rintro e v45 ⟨rfl, hbz⟩
            have hzv45 := hbz.size
            replace HC := Lib.hid (HC.out.trans (hbz.mono (by omega)))
            replace HS := Lib.hid (HS.out.trans (hbz.mono (by omega)))
            replace HR := Lib.hid (HR.out.trans (hbz.mono (by omega)))
            have a3_o0 := box_cell (j := 0) (HKC.out _ HC.out).2.1 rfl
            have a3_o1 := box_cell (j := 1) (HKC.out _ HC.out).2.1 rfl
            have a3_o2 := box_cell (j := 2) (HKC.out _ HC.out).2.1 rfl
            have a3_o3 := box_cell (j := 3) (HKC.out _ HC.out).2.1 rfl
            have a3_o4 := box_cell (j := 4) (HKC.out _ HC.out).2.1 rfl
            have hx2 := box_keep hbxZ hbz (by omega)
            have qz0 := box_cell (j := 0) hx2 rfl
            have qz1 := box_cell (j := 1) hx2 rfl
            have qz2 := box_cell (j := 2) hx2 rfl
            have qz3 := box_cell (j := 3) hx2 rfl
            have qz4 := box_cell (j := 4) hx2 rfl
            have hsQ2 := hsQ.below hbz (by omega)
            have hsC2 : SeenR Lay.int v45 v1.heap.size _ x.fBuf.length x.fBuf := see_buf (HKC.out _ HC.out).1
            subst hlQ
            have HSM := Lib.hid (sameInts_any (c := Qc1) (c' := c1) hsQ2 hsC2 (by have := hsz; unfold szChan at this; omega))
            clear hbz hsQ hsQ2 hsC2
            go_wp2_with fail
            refine HSM.out.mono ?_
            rintro e vE ⟨rfl, hbE⟩
            replace HC := Lib.hid (HC.out.trans (hbE.mono (by omega)))
            replace HS := Lib.hid (HS.out.trans (hbE.mono (by omega)))
            replace HR := Lib.hid (HR.out.trans (hbE.mono (by omega)))
            go_wp2_with fail
            go_ret
            exact ⟨rfl, HB.out.trans (HC.out.mono (by omega))⟩
        · skip
          have hsw := (HKS.out _ HS.out).1
          obtain ⟨_, _, _, _, _, _, _, _, _, heq, -, ⟨-, -, sB⟩, -, -⟩ := seeChan hsw
          simp only [List.cons.injEq, Value.slice.injEq, and_true] at heq
          obtain ⟨-, ⟨rfl, rfl, rfl⟩, -⟩ := heq
          have hlB := sB.1
          rw [hpre] at sB hlB
          simp only [List.length_append, List.length_cons, List.length_nil] at hlB
          obtain ⟨hx9, g9, o9, us9, rfl, hg9, ⟨rfl, hw9⟩, hcell9⟩ := sB.at_ (i := pre.length) (by omega)
          have c9 := hcell9 0 _ rfl
          rw [show (pre ++ [(7 : Int)])[pre.length] = 7 by simp] at c9
          simp only [show Lay.int.size = 1 from rfl, Nat.add_zero, Nat.mul_one] at c9
          clear hcell9 sB hsw
          have hpl : pre.length ≤ 1048576 := by have h := hsx; unfold szChan at h; rw [hpre] at h; simp at h; omega
          obtain ⟨m9, hm9⟩ : ∃ m, m = pre.length := ⟨_, rfl⟩
          rw [← hm9] at c9 hlB hpl
          subst hlB
          clear hm9 hpre
          go_wp2_with fail
          clear a3_u0 a3_u1 a3_u2 a3_u3 a3_u4 a3_s0 a3_s1 a3_s2 a3_s3 a3_s4 a3_t0 a3_t1 a3_t2
          refine (HRI.out _ _ _ (HKC.out _ HC.out).1 (by have := (HKC.out _ HC.out).2.2; omega)).mono ?_
          rintro e v46 ⟨uR, FR, rfl, ownR, hbdR, hbv46⟩
          have hzv46 := hbv46.size
          replace HC := Lib.hid (HC.out.trans (hbv46.mono (by omega)))
          replace HS := Lib.hid (HS.out.trans (hbv46.mono (by omega)))
          clear hbv46
          simp only at ownR
          have seeR := layChan.seen (hi := v46.heap.size) ownR fun g hg => (hbdR g hg).2
          obtain ⟨RA1, Rn1, Rc1, RA2, Rn2, Rc2, RA3, Rn3, Rc3, rfl, -⟩ := seeChan seeR
          have hal : Below v46.heap.size v46 ((v46.alloc (.cells #[.int .i64 Y.fCap, .slice RA1 Rn1 Rc1, .slice RA2 Rn2 Rc2, .slice RA3 Rn3 Rc3, .bool Y.fClosed] 26)).alloc (.cells #[.int .i64 yw.fG, .int .i64 yw.fCase, .int .i64 yw.fVal] 29)) := by go_grown
          have hbxR : ((v46.alloc (.cells #[.int .i64 Y.fCap, .slice RA1 Rn1 Rc1, .slice RA2 Rn2 Rc2, .slice RA3 Rn3 Rc3, .bool Y.fClosed] 26)).alloc (.cells #[.int .i64 yw.fG, .int .i64 yw.fCase, .int .i64 yw.fVal] 29)).heap[v46.heap.size]? = some (.cells #[.int .i64 Y.fCap, .slice RA1 Rn1 Rc1, .slice RA2 Rn2 Rc2, .slice RA3 Rn3 Rc3, .bool Y.fClosed] 26 (0, 0)) := box_keep (box_new v46 #[.int .i64 Y.fCap, .slice RA1 Rn1 Rc1, .slice RA2 Rn2 Rc2, .slice RA3 Rn3 Rc3, .bool Y.fClosed] 26) ((Below.refl _ _).alloc (Nat.le_refl _) _) (by simp)
          have hseeR : layChan.see ((v46.alloc (.cells #[.int .i64 Y.fCap, .slice RA1 Rn1 Rc1, .slice RA2 Rn2 Rc2, .slice RA3 Rn3 Rc3, .bool Y.fClosed] 26)).alloc (.cells #[.int .i64 yw.fG, .int .i64 yw.fCase, .int .i64 yw.fVal] 29)) v46.heap.size Y [.int .i64 Y.fCap, .slice RA1 Rn1 Rc1, .slice RA2 Rn2 Rc2, .slice RA3 Rn3 Rc3, .bool Y.fClosed] := layChan.keep seeR fun k hk => hal.block k hk
          have hzR : v46.heap.size + 2 ≤ ((v46.alloc (.cells #[.int .i64 Y.fCap, .slice RA1 Rn1 Rc1, .slice RA2 Rn2 Rc2, .slice RA3 Rn3 Rc3, .bool Y.fClosed] 26)).alloc (.cells #[.int .i64 yw.fG, .int .i64 yw.fCase, .int .i64 yw.fVal] 29)).heap.size := by simp
          have a3_w0 := box_cell (j := 0) (HKC.out _ HC.out).2.1 rfl
          have a3_w1 := box_cell (j := 1) (HKC.out _ HC.out).2.1 rfl
          have a3_w2 := box_cell (j := 2) (HKC.out _ HC.out).2.1 rfl
          have a3_w3 := box_cell (j := 3) (HKC.out _ HC.out).2.1 rfl
          have a3_w4 := box_cell (j := 4) (HKC.out _ HC.out).2.1 rfl
          have hltc : v1.heap.size < v46.heap.size := by have := (HKC.out _ HC.out).2.2; omega
          replace HC := Lib.hid (HC.out.trans (hal.mono (by omega)))
          replace HS := Lib.hid (HS.out.trans (hal.mono (by omega)))
          clear hal ownR seeR
          go_wp2_with fail
          clear a3_w0 a3_w1 a3_w2 a3_w3 a3_w4 hltc
          generalize ((v46.alloc (.cells #[.int .i64 Y.fCap, .slice RA1 Rn1 Rc1, .slice RA2 Rn2 Rc2, .slice RA3 Rn3 Rc3, .bool Y.fClosed] 26)).alloc (.cells #[.int .i64 yw.fG, .int .i64 yw.fCase, .int .i64 yw.fVal] 29)) = vR at *
          have HKR := Lib.hid (fun (W : World) (hW : Below vR.heap.size vR W) => show layChan.see W v46.heap.size Y [.int .i64 Y.fCap, .slice RA1 Rn1 Rc1, .slice RA2 Rn2 Rc2, .slice RA3 Rn3 Rc3, .bool Y.fClosed] ∧ W.heap[v46.heap.size]? = some (.cells #[.int .i64 Y.fCap, .slice RA1 Rn1 Rc1, .slice RA2 Rn2 Rc2, .slice RA3 Rn3 Rc3, .bool Y.fClosed] 26 (0, 0)) ∧ vR.heap.size ≤ W.heap.size from ⟨layChan.keep hseeR (fun k hk => hW.block k (by omega)), box_keep hbxR hW (by omega), hW.size⟩)
          have HR := Lib.hid (Below.refl vR.heap.size vR)
          clear hseeR hbxR
          refine (HCR.out _ _ _ (HKC.out _ HC.out).1 (by have := (HKC.out _ HC.out).2.2; omega)).mono ?_
          rintro e v47 ⟨rfl, hbv47⟩
          have hzv47 := hbv47.size
          replace HC := Lib.hid (HC.out.trans (hbv47.mono (by omega)))
          replace HS := Lib.hid (HS.out.trans (hbv47.mono (by omega)))
          replace HR := Lib.hid (HR.out.trans (hbv47.mono (by omega)))
          clear hbv47
          have a3_x0 := box_cell (j := 0) (HKR.out _ HR.out).2.1 rfl
          have a3_x1 := box_cell (j := 1) (HKR.out _ HR.out).2.1 rfl
          have a3_x2 := box_cell (j := 2) (HKR.out _ HR.out).2.1 rfl
          have a3_x3 := box_cell (j := 3) (HKR.out _ HR.out).2.1 rfl
          have a3_x4 := box_cell (j := 4) (HKR.out _ HR.out).2.1 rfl
          go_wp2_with fail
          have HOY := Lib.hid (implChanOk_any (HKR.out _ HR.out).1 (by have := (HKR.out _ HR.out).2.2; omega))
          rw [hro] at HOY
          refine (HOY.out).mono ?_
          rintro e v48 ⟨rfl, hbv48⟩
          have hzv48 := hbv48.size
          replace HC := Lib.hid (HC.out.trans (hbv48.mono (by omega)))
          replace HS := Lib.hid (HS.out.trans (hbv48.mono (by omega)))
          replace HR := Lib.hid (HR.out.trans (hbv48.mono (by omega)))
          clear hbv48
          clear a3_x0 a3_x1 a3_x2 a3_x3 a3_x4
          have a3_y0 := box_cell (j := 0) (HKC.out _ HC.out).2.1 rfl
          have a3_y1 := box_cell (j := 1) (HKC.out _ HC.out).2.1 rfl
          have a3_y2 := box_cell (j := 2) (HKC.out _ HC.out).2.1 rfl
          have a3_y3 := box_cell (j := 3) (HKC.out _ HC.out).2.1 rfl
          have a3_y4 := box_cell (j := 4) (HKC.out _ HC.out).2.1 rfl
          have hfirst : (yo = false) ∨ (yo = true ∧ x.fBuf = []) ∨ (yo = true ∧ ∃ bs, x.fBuf = yv :: bs) := by
            cases yo
            · exact .inl rfl
            · right
              rcases hxb : x.fBuf with _ | ⟨b, bs⟩
              · exact .inl ⟨rfl, rfl⟩
              · exact .inr ⟨rfl, bs, by rw [(hrf b bs hxb).1]⟩
          rcases hfirst with hyo | ⟨hyo, hxb⟩ | ⟨hyo, bs, hxb⟩
          · skip
            subst hyo
            go_wp2_with fail
            refine (HCI.out _ _ _ (HKC.out _ HC.out).1 (by have := (HKC.out _ HC.out).2.2; omega)).mono ?_
            rintro e v49 ⟨uZ, ZA, Zn, Zc, ZA2, Zn2, Zc2, FZ0, FZ1, FZ2, rfl, ownZ, oZ1, oZ2, hbdZ, -, -, -, -, -, hbv49⟩
            have hzv49 := hbv49.size
            replace HC := Lib.hid (HC.out.trans (hbv49.mono (by omega)))
            replace HS := Lib.hid (HS.out.trans (hbv49.mono (by omega)))
            replace HR := Lib.hid (HR.out.trans (hbv49.mono (by omega)))
            clear hbv49 a3_y0 a3_y1 a3_y2 a3_y3 a3_y4
            simp only at ownZ oZ1 oZ2
            have hlZ1 := oZ1.1
            have hlZ2 := oZ2.1
            subst hlZ1 hlZ2
            have seeZ := layChan.seen (hi := v49.heap.size) ownZ fun g hg => (hbdZ g hg).2
            obtain ⟨QA1, Qn1, Qc1, QA2, Qn2, Qc2, QA3, Qn3, Qc3, rfl, -, ⟨hq1, hq2, sQ⟩, -, -⟩ := seeChan seeZ
            have a3_v0 := box_cell (j := 0) (HKC.out _ HC.out).2.1 rfl
            have a3_v1 := box_cell (j := 1) (HKC.out _ HC.out).2.1 rfl
            have a3_v2 := box_cell (j := 2) (HKC.out _ HC.out).2.1 rfl
            have a3_v3 := box_cell (j := 3) (HKC.out _ HC.out).2.1 rfl
            have a3_v4 := box_cell (j := 4) (HKC.out _ HC.out).2.1 rfl
            have hltc : v1.heap.size < v49.heap.size := by have := (HKC.out _ HC.out).2.2; omega
            rw [HCL.out] at a3_v4
            have hal : Below v49.heap.size v49 (v49.alloc (.cells #[.int .i64 x.fCap, .slice QA1 Qn1 Qc1, .slice QA2 Qn2 Qc2, .slice QA3 Qn3 Qc3, .bool true] 26)) := (Below.refl _ _).alloc (Nat.le_refl _) _
            have hbxZ : (v49.alloc (.cells #[.int .i64 x.fCap, .slice QA1 Qn1 Qc1, .slice QA2 Qn2 Qc2, .slice QA3 Qn3 Qc3, .bool true] 26)).heap[v49.heap.size]? = some (.cells #[.int .i64 x.fCap, .slice QA1 Qn1 Qc1, .slice QA2 Qn2 Qc2, .slice QA3 Qn3 Qc3, .bool true] 26 (0, 0)) := box_new v49 #[.int .i64 x.fCap, .slice QA1 Qn1 Qc1, .slice QA2 Qn2 Qc2, .slice QA3 Qn3 Qc3, .bool true] 26
            replace HC := Lib.hid (HC.out.trans (hal.mono (by omega)))
            replace HS := Lib.hid (HS.out.trans (hal.mono (by omega)))
            replace HR := Lib.hid (HR.out.trans (hal.mono (by omega)))
            have hseeZ : layChan.see (v49.alloc (.cells #[.int .i64 x.fCap, .slice QA1 Qn1 Qc1, .slice QA2 Qn2 Qc2, .slice QA3 Qn3 Qc3, .bool true] 26)) v49.heap.size (⟨x.fCap, x.fBuf, [], [], true⟩ : DChan) [.int .i64 x.fCap, .slice QA1 Qn1 Qc1, .slice QA2 Qn2 Qc2, .slice QA3 Qn3 Qc3, .bool true] := layChan.keep seeZ fun k hk => hal.block k hk
            have hlQ := sQ.1
            have hsQ : SeenR Lay.int (v49.alloc (.cells #[.int .i64 x.fCap, .slice QA1 Qn1 Qc1, .slice QA2 Qn2 Qc2, .slice QA3 Qn3 Qc3, .bool true] 26)) v49.heap.size QA1 Qn1 x.fBuf := sQ.below hal (Nat.le_refl _)
            have qz0 := box_cell (j := 0) hbxZ rfl
            have qz1 := box_cell (j := 1) hbxZ rfl
            have qz2 := box_cell (j := 2) hbxZ rfl
            have qz3 := box_cell (j := 3) hbxZ rfl
            have qz4 := box_cell (j := 4) hbxZ rfl
            have hzZ : v49.heap.size + 1 ≤ (v49.alloc (.cells #[.int .i64 x.fCap, .slice QA1 Qn1 Qc1, .slice QA2 Qn2 Qc2, .slice QA3 Qn3 Qc3, .bool true] 26)).heap.size := by simp
            clear hal ownZ oZ1 oZ2 seeZ sQ
            go_wp2_with fail
            generalize (v49.alloc (.cells #[.int .i64 x.fCap, .slice QA1 Qn1 Qc1, .slice QA2 Qn2 Qc2, .slice QA3 Qn3 Qc3, .bool true] 26)) = vZ at *
            have HOZ := Lib.hid (implChanOk_any hseeZ (by omega))
            rw [hclo] at HOZ
            clear a3_v0 a3_v1 a3_v2 a3_v3 a3_v4 hltc qz0 qz1 qz2 qz3 qz4
            refine HOZ.out.mono ?_
            rintro e v50 ⟨rfl, hbz⟩
            have hzv50 := hbz.size
            replace HC := Lib.hid (HC.out.trans (hbz.mono (by omega)))
            replace HS := Lib.hid (HS.out.trans (hbz.mono (by omega)))
            replace HR := Lib.hid (HR.out.trans (hbz.mono (by omega)))
            have a3_o0 := box_cell (j := 0) (HKC.out _ HC.out).2.1 rfl
            have a3_o1 := box_cell (j := 1) (HKC.out _ HC.out).2.1 rfl
            have a3_o2 := box_cell (j := 2) (HKC.out _ HC.out).2.1 rfl
            have a3_o3 := box_cell (j := 3) (HKC.out _ HC.out).2.1 rfl
            have a3_o4 := box_cell (j := 4) (HKC.out _ HC.out).2.1 rfl
            have hx2 := box_keep hbxZ hbz (by omega)
            have qz0 := box_cell (j := 0) hx2 rfl
            have qz1 := box_cell (j := 1) hx2 rfl
            have qz2 := box_cell (j := 2) hx2 rfl
            have qz3 := box_cell (j := 3) hx2 rfl
            have qz4 := box_cell (j := 4) hx2 rfl
            have hsQ2 := hsQ.below hbz (by omega)
            have hsC2 : SeenR Lay.int v50 v1.heap.size _ x.fBuf.length x.fBuf := see_buf (HKC.out _ HC.out).1
            subst hlQ
            have HSM := Lib.hid (sameInts_any (c := Qc1) (c' := c1) hsQ2 hsC2 (by have := hsz; unfold szChan at this; omega))
            clear hbz hsQ hsQ2 hsC2
            go_wp2_with fail
            refine HSM.out.mono ?_
            rintro e vE ⟨rfl, hbE⟩
            replace HC := Lib.hid (HC.out.trans (hbE.mono (by omega)))
            replace HS := Lib.hid (HS.out.trans (hbE.mono (by omega)))
            replace HR := Lib.hid (HR.out.trans (hbE.mono (by omega)))
            go_wp2_with fail
            go_ret
            exact ⟨rfl, HB.out.trans (HC.out.mono (by omega))⟩
          · skip
            subst hyo
            have hl0 : x.fBuf.length = 0 := by rw [hxb]; rfl
            have hl0z : ¬ (0 : Int) < (x.fBuf.length : Int) := by omega
            clear hl0 hxb
            go_wp2_with fail
            refine (HCI.out _ _ _ (HKC.out _ HC.out).1 (by have := (HKC.out _ HC.out).2.2; omega)).mono ?_
            rintro e v51 ⟨uZ, ZA, Zn, Zc, ZA2, Zn2, Zc2, FZ0, FZ1, FZ2, rfl, ownZ, oZ1, oZ2, hbdZ, -, -, -, -, -, hbv51⟩
            have hzv51 := hbv51.size
            replace HC := Lib.hid (HC.out.trans (hbv51.mono (by omega)))
            replace HS := Lib.hid (HS.out.trans (hbv51.mono (by omega)))
            replace HR := Lib.hid (HR.out.trans (hbv51.mono (by omega)))
            clear hbv51 a3_y0 a3_y1 a3_y2 a3_y3 a3_y4
            simp only at ownZ oZ1 oZ2
            have hlZ1 := oZ1.1
            have hlZ2 := oZ2.1
            subst hlZ1 hlZ2
            have seeZ := layChan.seen (hi := v51.heap.size) ownZ fun g hg => (hbdZ g hg).2
            obtain ⟨QA1, Qn1, Qc1, QA2, Qn2, Qc2, QA3, Qn3, Qc3, rfl, -, ⟨hq1, hq2, sQ⟩, -, -⟩ := seeChan seeZ
            have a3_v0 := box_cell (j := 0) (HKC.out _ HC.out).2.1 rfl
            have a3_v1 := box_cell (j := 1) (HKC.out _ HC.out).2.1 rfl
            have a3_v2 := box_cell (j := 2) (HKC.out _ HC.out).2.1 rfl
            have a3_v3 := box_cell (j := 3) (HKC.out _ HC.out).2.1 rfl
            have a3_v4 := box_cell (j := 4) (HKC.out _ HC.out).2.1 rfl
            have hltc : v1.heap.size < v51.heap.size := by have := (HKC.out _ HC.out).2.2; omega
            rw [HCL.out] at a3_v4
            have hal : Below v51.heap.size v51 (v51.alloc (.cells #[.int .i64 x.fCap, .slice QA1 Qn1 Qc1, .slice QA2 Qn2 Qc2, .slice QA3 Qn3 Qc3, .bool true] 26)) := (Below.refl _ _).alloc (Nat.le_refl _) _
            have hbxZ : (v51.alloc (.cells #[.int .i64 x.fCap, .slice QA1 Qn1 Qc1, .slice QA2 Qn2 Qc2, .slice QA3 Qn3 Qc3, .bool true] 26)).heap[v51.heap.size]? = some (.cells #[.int .i64 x.fCap, .slice QA1 Qn1 Qc1, .slice QA2 Qn2 Qc2, .slice QA3 Qn3 Qc3, .bool true] 26 (0, 0)) := box_new v51 #[.int .i64 x.fCap, .slice QA1 Qn1 Qc1, .slice QA2 Qn2 Qc2, .slice QA3 Qn3 Qc3, .bool true] 26
            replace HC := Lib.hid (HC.out.trans (hal.mono (by omega)))
            replace HS := Lib.hid (HS.out.trans (hal.mono (by omega)))
            replace HR := Lib.hid (HR.out.trans (hal.mono (by omega)))
            have hseeZ : layChan.see (v51.alloc (.cells #[.int .i64 x.fCap, .slice QA1 Qn1 Qc1, .slice QA2 Qn2 Qc2, .slice QA3 Qn3 Qc3, .bool true] 26)) v51.heap.size (⟨x.fCap, x.fBuf, [], [], true⟩ : DChan) [.int .i64 x.fCap, .slice QA1 Qn1 Qc1, .slice QA2 Qn2 Qc2, .slice QA3 Qn3 Qc3, .bool true] := layChan.keep seeZ fun k hk => hal.block k hk
            have hlQ := sQ.1
            have hsQ : SeenR Lay.int (v51.alloc (.cells #[.int .i64 x.fCap, .slice QA1 Qn1 Qc1, .slice QA2 Qn2 Qc2, .slice QA3 Qn3 Qc3, .bool true] 26)) v51.heap.size QA1 Qn1 x.fBuf := sQ.below hal (Nat.le_refl _)
            have qz0 := box_cell (j := 0) hbxZ rfl
            have qz1 := box_cell (j := 1) hbxZ rfl
            have qz2 := box_cell (j := 2) hbxZ rfl
            have qz3 := box_cell (j := 3) hbxZ rfl
            have qz4 := box_cell (j := 4) hbxZ rfl
            have hzZ : v51.heap.size + 1 ≤ (v51.alloc (.cells #[.int .i64 x.fCap, .slice QA1 Qn1 Qc1, .slice QA2 Qn2 Qc2, .slice QA3 Qn3 Qc3, .bool true] 26)).heap.size := by simp
            clear hal ownZ oZ1 oZ2 seeZ sQ
            go_wp2_with fail
            generalize (v51.alloc (.cells #[.int .i64 x.fCap, .slice QA1 Qn1 Qc1, .slice QA2 Qn2 Qc2, .slice QA3 Qn3 Qc3, .bool true] 26)) = vZ at *
            have HOZ := Lib.hid (implChanOk_any hseeZ (by omega))
            rw [hclo] at HOZ
            clear a3_v0 a3_v1 a3_v2 a3_v3 a3_v4 hltc qz0 qz1 qz2 qz3 qz4
            refine HOZ.out.mono ?_
            rintro e v52 ⟨rfl, hbz⟩
            have hzv52 := hbz.size
            replace HC := Lib.hid (HC.out.trans (hbz.mono (by omega)))
            replace HS := Lib.hid (HS.out.trans (hbz.mono (by omega)))
            replace HR := Lib.hid (HR.out.trans (hbz.mono (by omega)))
            have a3_o0 := box_cell (j := 0) (HKC.out _ HC.out).2.1 rfl
            have a3_o1 := box_cell (j := 1) (HKC.out _ HC.out).2.1 rfl
            have a3_o2 := box_cell (j := 2) (HKC.out _ HC.out).2.1 rfl
            have a3_o3 := box_cell (j := 3) (HKC.out _ HC.out).2.1 rfl
            have a3_o4 := box_cell (j := 4) (HKC.out _ HC.out).2.1 rfl
            have hx2 := box_keep hbxZ hbz (by omega)
            have qz0 := box_cell (j := 0) hx2 rfl
            have qz1 := box_cell (j := 1) hx2 rfl
            have qz2 := box_cell (j := 2) hx2 rfl
            have qz3 := box_cell (j := 3) hx2 rfl
            have qz4 := box_cell (j := 4) hx2 rfl
            have hsQ2 := hsQ.below hbz (by omega)
            have hsC2 : SeenR Lay.int v52 v1.heap.size _ x.fBuf.length x.fBuf := see_buf (HKC.out _ HC.out).1
            subst hlQ
            have HSM := Lib.hid (sameInts_any (c := Qc1) (c' := c1) hsQ2 hsC2 (by have := hsz; unfold szChan at this; omega))
            clear hbz hsQ hsQ2 hsC2
            go_wp2_with fail
            refine HSM.out.mono ?_
            rintro e vE ⟨rfl, hbE⟩
            replace HC := Lib.hid (HC.out.trans (hbE.mono (by omega)))
            replace HS := Lib.hid (HS.out.trans (hbE.mono (by omega)))
            replace HR := Lib.hid (HR.out.trans (hbE.mono (by omega)))
            go_wp2_with fail
            go_ret
            exact ⟨rfl, HB.out.trans (HC.out.mono (by omega))⟩
          · skip
            subst hyo
            have hl0n : x.fBuf.length = bs.length + 1 := by rw [hxb]; rfl
            have hl0 : (0 : Int) < (x.fBuf.length : Int) := by omega
            clear hl0n
            have hsC := (HKC.out _ HC.out).1
            obtain ⟨_, _, _, _, _, _, _, _, _, heqC, -, ⟨-, -, sC⟩, -, -⟩ := seeChan hsC
            simp only [List.cons.injEq, Value.slice.injEq, and_true] at heqC
            obtain ⟨-, ⟨hq1, hq2, hq3⟩, -⟩ := heqC
            rw [← hq1, ← hq2, hxb] at sC
            obtain ⟨hx8, g8, o8, us8, hA8, hg8, ⟨rfl, hw8⟩, hcell8⟩ := sC.at_ (i := 0) (by simp)
            have c8 := hcell8 0 _ rfl
            simp only [show Lay.int.size = 1 from rfl, Nat.add_zero, Nat.mul_one, Nat.zero_mul, List.getElem_cons_zero] at c8
            subst hA8
            clear hcell8 sC hsC hq1 hq2 hq3 hxb
            go_wp2_with fail
            refine (HCI.out _ _ _ (HKC.out _ HC.out).1 (by have := (HKC.out _ HC.out).2.2; omega)).mono ?_
            rintro e v53 ⟨uZ, ZA, Zn, Zc, ZA2, Zn2, Zc2, FZ0, FZ1, FZ2, rfl, ownZ, oZ1, oZ2, hbdZ, -, -, -, -, -, hbv53⟩
            have hzv53 := hbv53.size
            replace HC := Lib.hid (HC.out.trans (hbv53.mono (by omega)))
            replace HS := Lib.hid (HS.out.trans (hbv53.mono (by omega)))
            replace HR := Lib.hid (HR.out.trans (hbv53.mono (by omega)))
            clear hbv53 a3_y0 a3_y1 a3_y2 a3_y3 a3_y4
            simp only at ownZ oZ1 oZ2
            have hlZ1 := oZ1.1
            have hlZ2 := oZ2.1
            subst hlZ1 hlZ2
            have seeZ := layChan.seen (hi := v53.heap.size) ownZ fun g hg => (hbdZ g hg).2
            obtain ⟨QA1, Qn1, Qc1, QA2, Qn2, Qc2, QA3, Qn3, Qc3, rfl, -, ⟨hq1, hq2, sQ⟩, -, -⟩ := seeChan seeZ
            have a3_v0 := box_cell (j := 0) (HKC.out _ HC.out).2.1 rfl
            have a3_v1 := box_cell (j := 1) (HKC.out _ HC.out).2.1 rfl
            have a3_v2 := box_cell (j := 2) (HKC.out _ HC.out).2.1 rfl
            have a3_v3 := box_cell (j := 3) (HKC.out _ HC.out).2.1 rfl
            have a3_v4 := box_cell (j := 4) (HKC.out _ HC.out).2.1 rfl
            have hltc : v1.heap.size < v53.heap.size := by have := (HKC.out _ HC.out).2.2; omega
            rw [HCL.out] at a3_v4
            have hal : Below v53.heap.size v53 (v53.alloc (.cells #[.int .i64 x.fCap, .slice QA1 Qn1 Qc1, .slice QA2 Qn2 Qc2, .slice QA3 Qn3 Qc3, .bool true] 26)) := (Below.refl _ _).alloc (Nat.le_refl _) _
            have hbxZ : (v53.alloc (.cells #[.int .i64 x.fCap, .slice QA1 Qn1 Qc1, .slice QA2 Qn2 Qc2, .slice QA3 Qn3 Qc3, .bool true] 26)).heap[v53.heap.size]? = some (.cells #[.int .i64 x.fCap, .slice QA1 Qn1 Qc1, .slice QA2 Qn2 Qc2, .slice QA3 Qn3 Qc3, .bool true] 26 (0, 0)) := box_new v53 #[.int .i64 x.fCap, .slice QA1 Qn1 Qc1, .slice QA2 Qn2 Qc2, .slice QA3 Qn3 Qc3, .bool true] 26
            replace HC := Lib.hid (HC.out.trans (hal.mono (by omega)))
            replace HS := Lib.hid (HS.out.trans (hal.mono (by omega)))
            replace HR := Lib.hid (HR.out.trans (hal.mono (by omega)))
            have hseeZ : layChan.see (v53.alloc (.cells #[.int .i64 x.fCap, .slice QA1 Qn1 Qc1, .slice QA2 Qn2 Qc2, .slice QA3 Qn3 Qc3, .bool true] 26)) v53.heap.size (⟨x.fCap, x.fBuf, [], [], true⟩ : DChan) [.int .i64 x.fCap, .slice QA1 Qn1 Qc1, .slice QA2 Qn2 Qc2, .slice QA3 Qn3 Qc3, .bool true] := layChan.keep seeZ fun k hk => hal.block k hk
            have hlQ := sQ.1
            have hsQ : SeenR Lay.int (v53.alloc (.cells #[.int .i64 x.fCap, .slice QA1 Qn1 Qc1, .slice QA2 Qn2 Qc2, .slice QA3 Qn3 Qc3, .bool true] 26)) v53.heap.size QA1 Qn1 x.fBuf := sQ.below hal (Nat.le_refl _)
            have qz0 := box_cell (j := 0) hbxZ rfl
            have qz1 := box_cell (j := 1) hbxZ rfl
            have qz2 := box_cell (j := 2) hbxZ rfl
            have qz3 := box_cell (j := 3) hbxZ rfl
            have qz4 := box_cell (j := 4) hbxZ rfl
            have hzZ : v53.heap.size + 1 ≤ (v53.alloc (.cells #[.int .i64 x.fCap, .slice QA1 Qn1 Qc1, .slice QA2 Qn2 Qc2, .slice QA3 Qn3 Qc3, .bool true] 26)).heap.size := by simp
            clear hal ownZ oZ1 oZ2 seeZ sQ
            go_wp2_with fail
            generalize (v53.alloc (.cells #[.int .i64 x.fCap, .slice QA1 Qn1 Qc1, .slice QA2 Qn2 Qc2, .slice QA3 Qn3 Qc3, .bool true] 26)) = vZ at *
            have HOZ := Lib.hid (implChanOk_any hseeZ (by omega))
            rw [hclo] at HOZ
            clear a3_v0 a3_v1 a3_v2 a3_v3 a3_v4 hltc qz0 qz1 qz2 qz3 qz4
            refine HOZ.out.mono ?_
            rintro e v54 ⟨rfl, hbz⟩
            have hzv54 := hbz.size
            replace HC := Lib.hid (HC.out.trans (hbz.mono (by omega)))
            replace HS := Lib.hid (HS.out.trans (hbz.mono (by omega)))
            replace HR := Lib.hid (HR.out.trans (hbz.mono (by omega)))
            have a3_o0 := box_cell (j := 0) (HKC.out _ HC.out).2.1 rfl
            have a3_o1 := box_cell (j := 1) (HKC.out _ HC.out).2.1 rfl
            have a3_o2 := box_cell (j := 2) (HKC.out _ HC.out).2.1 rfl
            have a3_o3 := box_cell (j := 3) (HKC.out _ HC.out).2.1 rfl
            have a3_o4 := box_cell (j := 4) (HKC.out _ HC.out).2.1 rfl
            have hx2 := box_keep hbxZ hbz (by omega)
            have qz0 := box_cell (j := 0) hx2 rfl
            have qz1 := box_cell (j := 1) hx2 rfl
            have qz2 := box_cell (j := 2) hx2 rfl
            have qz3 := box_cell (j := 3) hx2 rfl
            have qz4 := box_cell (j := 4) hx2 rfl
            have hsQ2 := hsQ.below hbz (by omega)
            have hsC2 : SeenR Lay.int v54 v1.heap.size _ x.fBuf.length x.fBuf := see_buf (HKC.out _ HC.out).1
            subst hlQ
            have HSM := Lib.hid (sameInts_any (c := Qc1) (c' := c1) hsQ2 hsC2 (by have := hsz; unfold szChan at this; omega))
            clear hbz hsQ hsQ2 hsC2
            go_wp2_with fail
            refine HSM.out.mono ?_
            rintro e vE ⟨rfl, hbE⟩
            replace HC := Lib.hid (HC.out.trans (hbE.mono (by omega)))
            replace HS := Lib.hid (HS.out.trans (hbE.mono (by omega)))
            replace HR := Lib.hid (HR.out.trans (hbE.mono (by omega)))
            go_wp2_with fail
            go_ret
            exact ⟨rfl, HB.out.trans (HC.out.mono (by omega))⟩
    · have htk := (hct hcl).1
      have hgv := (hct hcl).2
      have hrv : sendR x 7 = (zeroC, zeroW, 2) := by unfold sendR; rw [hsc, htk, hcl]; rfl
      rw [hrv] at HSI HSS hsx
      have hrr : recvR x = ((recvX x).1, (recvX x).2.1, (recvX x).2.2.1, (recvX x).2.2.2, 0) := by unfold recvR; rw [hrc, hgv]; rfl
      have hrf : ∀ b bs, x.fBuf = b :: bs → (recvX x).2.1 = b ∧ (recvX x).2.2.1 = true := fun b bs h => recv_first h
      rw [hrr] at HRI hrx
      simp only at hrx
      generalize recvX x = rv at *
      obtain ⟨Y, yv, yo, yw⟩ := rv
      simp only at *
      have hcv : closeR x = (zeroC, [], [], 2) := by unfold closeR; rw [hok, hcl]; rfl
      rw [hcv] at HCI hcx
      rw [htk] at HCS
      rw [hgv] at HCR
      have HCL := Lib.hid hcl
      clear hcl hct htk hgv hsc hrc hcs hcr hso
      refine (HSI.out _ _ _ (HKC.out _ HC.out).1 (by have := (HKC.out _ HC.out).2.2; omega)).mono ?_
      rintro e v55 ⟨uS, FS, rfl, ownS, hbdS, hbv55⟩
      have hzv55 := hbv55.size
      simp only at ownS
      replace HC := Lib.hid (HC.out.trans (hbv55.mono (by omega)))
      clear hbv55
      have seeS := layChan.seen (hi := v55.heap.size) ownS fun g hg => (hbdS g hg).2
      obtain ⟨SA1, Sn1, Sc1, SA2, Sn2, Sc2, SA3, Sn3, Sc3, rfl, -⟩ := seeChan seeS
      have hal : Below v55.heap.size v55 ((v55.alloc (.cells #[.int .i64 zeroC.fCap, .slice SA1 Sn1 Sc1, .slice SA2 Sn2 Sc2, .slice SA3 Sn3 Sc3, .bool zeroC.fClosed] 26)).alloc (.cells #[.int .i64 zeroW.fG, .int .i64 zeroW.fCase, .int .i64 zeroW.fVal] 29)) := by go_grown
      have hbx1 : ((v55.alloc (.cells #[.int .i64 zeroC.fCap, .slice SA1 Sn1 Sc1, .slice SA2 Sn2 Sc2, .slice SA3 Sn3 Sc3, .bool zeroC.fClosed] 26)).alloc (.cells #[.int .i64 zeroW.fG, .int .i64 zeroW.fCase, .int .i64 zeroW.fVal] 29)).heap[v55.heap.size]? = some (.cells #[.int .i64 zeroC.fCap, .slice SA1 Sn1 Sc1, .slice SA2 Sn2 Sc2, .slice SA3 Sn3 Sc3, .bool zeroC.fClosed] 26 (0, 0)) := box_keep (box_new v55 #[.int .i64 zeroC.fCap, .slice SA1 Sn1 Sc1, .slice SA2 Sn2 Sc2, .slice SA3 Sn3 Sc3, .bool zeroC.fClosed] 26) ((Below.refl _ _).alloc (Nat.le_refl _) _) (by simp)
      have hbx2 : ((v55.alloc (.cells #[.int .i64 zeroC.fCap, .slice SA1 Sn1 Sc1, .slice SA2 Sn2 Sc2, .slice SA3 Sn3 Sc3, .bool zeroC.fClosed] 26)).alloc (.cells #[.int .i64 zeroW.fG, .int .i64 zeroW.fCase, .int .i64 zeroW.fVal] 29)).heap[v55.heap.size + 1]? = some (.cells #[.int .i64 zeroW.fG, .int .i64 zeroW.fCase, .int .i64 zeroW.fVal] 29 (0, 0)) := by have := box_new (v55.alloc (.cells #[.int .i64 zeroC.fCap, .slice SA1 Sn1 Sc1, .slice SA2 Sn2 Sc2, .slice SA3 Sn3 Sc3, .bool zeroC.fClosed] 26)) #[.int .i64 zeroW.fG, .int .i64 zeroW.fCase, .int .i64 zeroW.fVal] 29; rw [World.size_alloc] at this; exact this
      have hseeS : layChan.see ((v55.alloc (.cells #[.int .i64 zeroC.fCap, .slice SA1 Sn1 Sc1, .slice SA2 Sn2 Sc2, .slice SA3 Sn3 Sc3, .bool zeroC.fClosed] 26)).alloc (.cells #[.int .i64 zeroW.fG, .int .i64 zeroW.fCase, .int .i64 zeroW.fVal] 29)) v55.heap.size zeroC [.int .i64 zeroC.fCap, .slice SA1 Sn1 Sc1, .slice SA2 Sn2 Sc2, .slice SA3 Sn3 Sc3, .bool zeroC.fClosed] := layChan.keep seeS fun k hk => hal.block k hk
      have hzS : v55.heap.size + 2 ≤ ((v55.alloc (.cells #[.int .i64 zeroC.fCap, .slice SA1 Sn1 Sc1, .slice SA2 Sn2 Sc2, .slice SA3 Sn3 Sc3, .bool zeroC.fClosed] 26)).alloc (.cells #[.int .i64 zeroW.fG, .int .i64 zeroW.fCase, .int .i64 zeroW.fVal] 29)).heap.size := by simp
      have a4_p0 := box_cell (j := 0) (HKC.out _ HC.out).2.1 rfl
      have a4_p1 := box_cell (j := 1) (HKC.out _ HC.out).2.1 rfl
      have a4_p2 := box_cell (j := 2) (HKC.out _ HC.out).2.1 rfl
      have a4_p3 := box_cell (j := 3) (HKC.out _ HC.out).2.1 rfl
      have a4_p4 := box_cell (j := 4) (HKC.out _ HC.out).2.1 rfl
      have hltc : v1.heap.size < v55.heap.size := by have := (HKC.out _ HC.out).2.2; omega
      replace HC := Lib.hid (HC.out.trans (hal.mono (by omega)))
      clear hal ownS seeS
      go_wp2_with fail
      clear a4_p0 a4_p1 a4_p2 a4_p3 a4_p4 hltc
      generalize ((v55.alloc (.cells #[.int .i64 zeroC.fCap, .slice SA1 Sn1 Sc1, .slice SA2 Sn2 Sc2, .slice SA3 Sn3 Sc3, .bool zeroC.fClosed] 26)).alloc (.cells #[.int .i64 zeroW.fG, .int .i64 zeroW.fCase, .int .i64 zeroW.fVal] 29)) = vS at *
      have HKS := Lib.hid (fun (W : World) (hW : Below vS.heap.size vS W) => show layChan.see W v55.heap.size zeroC [.int .i64 zeroC.fCap, .slice SA1 Sn1 Sc1, .slice SA2 Sn2 Sc2, .slice SA3 Sn3 Sc3, .bool zeroC.fClosed] ∧ W.heap[v55.heap.size]? = some (.cells #[.int .i64 zeroC.fCap, .slice SA1 Sn1 Sc1, .slice SA2 Sn2 Sc2, .slice SA3 Sn3 Sc3, .bool zeroC.fClosed] 26 (0, 0)) ∧ W.heap[v55.heap.size + 1]? = some (.cells #[.int .i64 zeroW.fG, .int .i64 zeroW.fCase, .int .i64 zeroW.fVal] 29 (0, 0)) ∧ vS.heap.size ≤ W.heap.size from ⟨layChan.keep hseeS (fun k hk => hW.block k (by omega)), box_keep hbx1 hW (by omega), box_keep hbx2 hW (by omega), hW.size⟩)
      have HS := Lib.hid (Below.refl vS.heap.size vS)
      clear hseeS hbx1 hbx2
      refine (HSS.out _ _ _ (HKC.out _ HC.out).1 (by have := (HKC.out _ HC.out).2.2; omega)).mono ?_
      rintro e v56 ⟨uT, FT, rfl, ownT, hbdT, hbv56⟩
      have hzv56 := hbv56.size
      simp only at ownT
      replace HC := Lib.hid (HC.out.trans (hbv56.mono (by omega)))
      replace HS := Lib.hid (HS.out.trans (hbv56.mono (by omega)))
      clear hbv56
      have seeT := layChan.seen (hi := v56.heap.size) ownT fun g hg => (hbdT g hg).2
      obtain ⟨TA1, Tn1, Tc1, TA2, Tn2, Tc2, TA3, Tn3, Tc3, rfl, -⟩ := seeChan seeT
      have hal : Below v56.heap.size v56 ((v56.alloc (.cells #[.int .i64 zeroC.fCap, .slice TA1 Tn1 Tc1, .slice TA2 Tn2 Tc2, .slice TA3 Tn3 Tc3, .bool zeroC.fClosed] 26)).alloc (.cells #[.int .i64 zeroW.fG, .int .i64 zeroW.fCase, .int .i64 zeroW.fVal] 29)) := by go_grown
      have a4_q0 := box_cell (j := 0) (HKC.out _ HC.out).2.1 rfl
      have a4_q1 := box_cell (j := 1) (HKC.out _ HC.out).2.1 rfl
      have a4_q2 := box_cell (j := 2) (HKC.out _ HC.out).2.1 rfl
      have a4_q3 := box_cell (j := 3) (HKC.out _ HC.out).2.1 rfl
      have a4_q4 := box_cell (j := 4) (HKC.out _ HC.out).2.1 rfl
      have hltc : v1.heap.size < v56.heap.size := by have := (HKC.out _ HC.out).2.2; omega
      replace HC := Lib.hid (HC.out.trans (hal.mono (by omega)))
      replace HS := Lib.hid (HS.out.trans (hal.mono (by omega)))
      clear hal ownT seeT
      have hzT : v56.heap.size + 2 ≤ ((v56.alloc (.cells #[.int .i64 zeroC.fCap, .slice TA1 Tn1 Tc1, .slice TA2 Tn2 Tc2, .slice TA3 Tn3 Tc3, .bool zeroC.fClosed] 26)).alloc (.cells #[.int .i64 zeroW.fG, .int .i64 zeroW.fCase, .int .i64 zeroW.fVal] 29)).heap.size := by simp
      go_wp2_with fail
      clear a4_q0 a4_q1 a4_q2 a4_q3 a4_q4 hltc
      generalize ((v56.alloc (.cells #[.int .i64 zeroC.fCap, .slice TA1 Tn1 Tc1, .slice TA2 Tn2 Tc2, .slice TA3 Tn3 Tc3, .bool zeroC.fClosed] 26)).alloc (.cells #[.int .i64 zeroW.fG, .int .i64 zeroW.fCase, .int .i64 zeroW.fVal] 29)) = vT at *
      refine (HCS.out _ _ _ (HKC.out _ HC.out).1 (by have := (HKC.out _ HC.out).2.2; omega)).mono ?_
      rintro e v57 ⟨rfl, hbv57⟩
      have hzv57 := hbv57.size
      replace HC := Lib.hid (HC.out.trans (hbv57.mono (by omega)))
      replace HS := Lib.hid (HS.out.trans (hbv57.mono (by omega)))
      clear hbv57
      have a4_r0 := box_cell (j := 0) (HKC.out _ HC.out).2.1 rfl
      have a4_r1 := box_cell (j := 1) (HKC.out _ HC.out).2.1 rfl
      have a4_r2 := box_cell (j := 2) (HKC.out _ HC.out).2.1 rfl
      have a4_r3 := box_cell (j := 3) (HKC.out _ HC.out).2.1 rfl
      have a4_r4 := box_cell (j := 4) (HKC.out _ HC.out).2.1 rfl
      rw [HCL.out] at a4_r4
      go_wp2_with fail
      clear a4_r0 a4_r1 a4_r2 a4_r3 a4_r4 
      refine (HRI.out _ _ _ (show layChan.see _ v1.heap.size x [.int .i64 x.fCap, .slice A1 x.fBuf.length c1, .slice A2 x.fSends.length c2, .slice A3 x.fRecvs.length c3, .bool true] from by have h := (HKC.out _ HC.out).1; rw [HCL.out] at h; exact h) (by have := (HKC.out _ HC.out).2.2; omega)).mono ?_
      rintro e v58 ⟨uR, FR, rfl, ownR, hbdR, hbv58⟩
      have hzv58 := hbv58.size
      replace HC := Lib.hid (HC.out.trans (hbv58.mono (by omega)))
      replace HS := Lib.hid (HS.out.trans (hbv58.mono (by omega)))
      clear hbv58
      simp only at ownR
      have seeR := layChan.seen (hi := v58.heap.size) ownR fun g hg => (hbdR g hg).2
      obtain ⟨RA1, Rn1, Rc1, RA2, Rn2, Rc2, RA3, Rn3, Rc3, rfl, -⟩ := seeChan seeR
      have hal : Below v58.heap.size v58 ((v58.alloc (.cells #[.int .i64 Y.fCap, .slice RA1 Rn1 Rc1, .slice RA2 Rn2 Rc2, .slice RA3 Rn3 Rc3, .bool Y.fClosed] 26)).alloc (.cells #[.int .i64 yw.fG, .int .i64 yw.fCase, .int .i64 yw.fVal] 29)) := by go_grown
      have hbxR : ((v58.alloc (.cells #[.int .i64 Y.fCap, .slice RA1 Rn1 Rc1, .slice RA2 Rn2 Rc2, .slice RA3 Rn3 Rc3, .bool Y.fClosed] 26)).alloc (.cells #[.int .i64 yw.fG, .int .i64 yw.fCase, .int .i64 yw.fVal] 29)).heap[v58.heap.size]? = some (.cells #[.int .i64 Y.fCap, .slice RA1 Rn1 Rc1, .slice RA2 Rn2 Rc2, .slice RA3 Rn3 Rc3, .bool Y.fClosed] 26 (0, 0)) := box_keep (box_new v58 #[.int .i64 Y.fCap, .slice RA1 Rn1 Rc1, .slice RA2 Rn2 Rc2, .slice RA3 Rn3 Rc3, .bool Y.fClosed] 26) ((Below.refl _ _).alloc (Nat.le_refl _) _) (by simp)
      have hseeR : layChan.see ((v58.alloc (.cells #[.int .i64 Y.fCap, .slice RA1 Rn1 Rc1, .slice RA2 Rn2 Rc2, .slice RA3 Rn3 Rc3, .bool Y.fClosed] 26)).alloc (.cells #[.int .i64 yw.fG, .int .i64 yw.fCase, .int .i64 yw.fVal] 29)) v58.heap.size Y [.int .i64 Y.fCap, .slice RA1 Rn1 Rc1, .slice RA2 Rn2 Rc2, .slice RA3 Rn3 Rc3, .bool Y.fClosed] := layChan.keep seeR fun k hk => hal.block k hk
      have hzR : v58.heap.size + 2 ≤ ((v58.alloc (.cells #[.int .i64 Y.fCap, .slice RA1 Rn1 Rc1, .slice RA2 Rn2 Rc2, .slice RA3 Rn3 Rc3, .bool Y.fClosed] 26)).alloc (.cells #[.int .i64 yw.fG, .int .i64 yw.fCase, .int .i64 yw.fVal] 29)).heap.size := by simp
      have a4_w0 := box_cell (j := 0) (HKC.out _ HC.out).2.1 rfl
      have a4_w1 := box_cell (j := 1) (HKC.out _ HC.out).2.1 rfl
      have a4_w2 := box_cell (j := 2) (HKC.out _ HC.out).2.1 rfl
      have a4_w3 := box_cell (j := 3) (HKC.out _ HC.out).2.1 rfl
      have a4_w4 := box_cell (j := 4) (HKC.out _ HC.out).2.1 rfl
      have hltc : v1.heap.size < v58.heap.size := by have := (HKC.out _ HC.out).2.2; omega
      replace HC := Lib.hid (HC.out.trans (hal.mono (by omega)))
      replace HS := Lib.hid (HS.out.trans (hal.mono (by omega)))
      clear hal ownR seeR
      go_wp2_with fail
      clear a4_w0 a4_w1 a4_w2 a4_w3 a4_w4 hltc
      generalize ((v58.alloc (.cells #[.int .i64 Y.fCap, .slice RA1 Rn1 Rc1, .slice RA2 Rn2 Rc2, .slice RA3 Rn3 Rc3, .bool Y.fClosed] 26)).alloc (.cells #[.int .i64 yw.fG, .int .i64 yw.fCase, .int .i64 yw.fVal] 29)) = vR at *
      have HKR := Lib.hid (fun (W : World) (hW : Below vR.heap.size vR W) => show layChan.see W v58.heap.size Y [.int .i64 Y.fCap, .slice RA1 Rn1 Rc1, .slice RA2 Rn2 Rc2, .slice RA3 Rn3 Rc3, .bool Y.fClosed] ∧ W.heap[v58.heap.size]? = some (.cells #[.int .i64 Y.fCap, .slice RA1 Rn1 Rc1, .slice RA2 Rn2 Rc2, .slice RA3 Rn3 Rc3, .bool Y.fClosed] 26 (0, 0)) ∧ vR.heap.size ≤ W.heap.size from ⟨layChan.keep hseeR (fun k hk => hW.block k (by omega)), box_keep hbxR hW (by omega), hW.size⟩)
      have HR := Lib.hid (Below.refl vR.heap.size vR)
      clear hseeR hbxR
      refine (HCR.out _ _ _ (HKC.out _ HC.out).1 (by have := (HKC.out _ HC.out).2.2; omega)).mono ?_
      rintro e v59 ⟨rfl, hbv59⟩
      have hzv59 := hbv59.size
      replace HC := Lib.hid (HC.out.trans (hbv59.mono (by omega)))
      replace HS := Lib.hid (HS.out.trans (hbv59.mono (by omega)))
      replace HR := Lib.hid (HR.out.trans (hbv59.mono (by omega)))
      clear hbv59
      have a4_x0 := box_cell (j := 0) (HKR.out _ HR.out).2.1 rfl
      have a4_x1 := box_cell (j := 1) (HKR.out _ HR.out).2.1 rfl
      have a4_x2 := box_cell (j := 2) (HKR.out _ HR.out).2.1 rfl
      have a4_x3 := box_cell (j := 3) (HKR.out _ HR.out).2.1 rfl
      have a4_x4 := box_cell (j := 4) (HKR.out _ HR.out).2.1 rfl
      go_wp2_with fail
      have HOY := Lib.hid (implChanOk_any (HKR.out _ HR.out).1 (by have := (HKR.out _ HR.out).2.2; omega))
      rw [hro] at HOY
      refine (HOY.out).mono ?_
      rintro e v60 ⟨rfl, hbv60⟩
      have hzv60 := hbv60.size
      replace HC := Lib.hid (HC.out.trans (hbv60.mono (by omega)))
      replace HS := Lib.hid (HS.out.trans (hbv60.mono (by omega)))
      replace HR := Lib.hid (HR.out.trans (hbv60.mono (by omega)))
      clear hbv60
      clear a4_x0 a4_x1 a4_x2 a4_x3 a4_x4
      have a4_y0 := box_cell (j := 0) (HKC.out _ HC.out).2.1 rfl
      have a4_y1 := box_cell (j := 1) (HKC.out _ HC.out).2.1 rfl
      have a4_y2 := box_cell (j := 2) (HKC.out _ HC.out).2.1 rfl
      have a4_y3 := box_cell (j := 3) (HKC.out _ HC.out).2.1 rfl
      have a4_y4 := box_cell (j := 4) (HKC.out _ HC.out).2.1 rfl
      have hfirst : (yo = false) ∨ (yo = true ∧ x.fBuf = []) ∨ (yo = true ∧ ∃ bs, x.fBuf = yv :: bs) := by
        cases yo
        · exact .inl rfl
        · right
          rcases hxb : x.fBuf with _ | ⟨b, bs⟩
          · exact .inl ⟨rfl, rfl⟩
          · exact .inr ⟨rfl, bs, by rw [(hrf b bs hxb).1]⟩
      rcases hfirst with hyo | ⟨hyo, hxb⟩ | ⟨hyo, bs, hxb⟩
      · skip
        subst hyo
        go_wp2_with fail
        refine (HCI.out _ _ _ (HKC.out _ HC.out).1 (by have := (HKC.out _ HC.out).2.2; omega)).mono ?_
        rintro e v61 ⟨uZ, ZA, Zn, Zc, ZA2, Zn2, Zc2, FZ0, FZ1, FZ2, rfl, ownZ, oZ1, oZ2, hbdZ, -, -, -, -, -, hbv61⟩
        have hzv61 := hbv61.size
        replace HC := Lib.hid (HC.out.trans (hbv61.mono (by omega)))
        replace HS := Lib.hid (HS.out.trans (hbv61.mono (by omega)))
        replace HR := Lib.hid (HR.out.trans (hbv61.mono (by omega)))
        clear hbv61 a4_y0 a4_y1 a4_y2 a4_y3 a4_y4
        simp only at ownZ oZ1 oZ2
        have hlZ1 := oZ1.1
        have hlZ2 := oZ2.1
        subst hlZ1 hlZ2
        have seeZ := layChan.seen (hi := v61.heap.size) ownZ fun g hg => (hbdZ g hg).2
        obtain ⟨QA1, Qn1, Qc1, QA2, Qn2, Qc2, QA3, Qn3, Qc3, rfl, -, ⟨hq1, hq2, sQ⟩, -, -⟩ := seeChan seeZ
        have a4_v0 := box_cell (j := 0) (HKC.out _ HC.out).2.1 rfl
        have a4_v1 := box_cell (j := 1) (HKC.out _ HC.out).2.1 rfl
        have a4_v2 := box_cell (j := 2) (HKC.out _ HC.out).2.1 rfl
        have a4_v3 := box_cell (j := 3) (HKC.out _ HC.out).2.1 rfl
        have a4_v4 := box_cell (j := 4) (HKC.out _ HC.out).2.1 rfl
        have hltc : v1.heap.size < v61.heap.size := by have := (HKC.out _ HC.out).2.2; omega
        rw [HCL.out] at a4_v4
        have hal : Below v61.heap.size v61 (v61.alloc (.cells #[.int .i64 0, .slice QA1 Qn1 Qc1, .slice QA2 Qn2 Qc2, .slice QA3 Qn3 Qc3, .bool false] 26)) := (Below.refl _ _).alloc (Nat.le_refl _) _
        have hbxZ : (v61.alloc (.cells #[.int .i64 0, .slice QA1 Qn1 Qc1, .slice QA2 Qn2 Qc2, .slice QA3 Qn3 Qc3, .bool false] 26)).heap[v61.heap.size]? = some (.cells #[.int .i64 0, .slice QA1 Qn1 Qc1, .slice QA2 Qn2 Qc2, .slice QA3 Qn3 Qc3, .bool false] 26 (0, 0)) := box_new v61 #[.int .i64 0, .slice QA1 Qn1 Qc1, .slice QA2 Qn2 Qc2, .slice QA3 Qn3 Qc3, .bool false] 26
        replace HC := Lib.hid (HC.out.trans (hal.mono (by omega)))
        replace HS := Lib.hid (HS.out.trans (hal.mono (by omega)))
        replace HR := Lib.hid (HR.out.trans (hal.mono (by omega)))
        go_wp2_with fail
        go_ret
        exact ⟨rfl, HB.out.trans (HC.out.mono (by omega))⟩
      · skip
        subst hyo
        have hl0 : x.fBuf.length = 0 := by rw [hxb]; rfl
        have hl0z : ¬ (0 : Int) < (x.fBuf.length : Int) := by omega
        clear hl0 hxb
        go_wp2_with fail
        refine (HCI.out _ _ _ (HKC.out _ HC.out).1 (by have := (HKC.out _ HC.out).2.2; omega)).mono ?_
        rintro e v62 ⟨uZ, ZA, Zn, Zc, ZA2, Zn2, Zc2, FZ0, FZ1, FZ2, rfl, ownZ, oZ1, oZ2, hbdZ, -, -, -, -, -, hbv62⟩
        have hzv62 := hbv62.size
        replace HC := Lib.hid (HC.out.trans (hbv62.mono (by omega)))
        replace HS := Lib.hid (HS.out.trans (hbv62.mono (by omega)))
        replace HR := Lib.hid (HR.out.trans (hbv62.mono (by omega)))
        clear hbv62 a4_y0 a4_y1 a4_y2 a4_y3 a4_y4
        simp only at ownZ oZ1 oZ2
        have hlZ1 := oZ1.1
        have hlZ2 := oZ2.1
        subst hlZ1 hlZ2
        have seeZ := layChan.seen (hi := v62.heap.size) ownZ fun g hg => (hbdZ g hg).2
        obtain ⟨QA1, Qn1, Qc1, QA2, Qn2, Qc2, QA3, Qn3, Qc3, rfl, -, ⟨hq1, hq2, sQ⟩, -, -⟩ := seeChan seeZ
        have a4_v0 := box_cell (j := 0) (HKC.out _ HC.out).2.1 rfl
        have a4_v1 := box_cell (j := 1) (HKC.out _ HC.out).2.1 rfl
        have a4_v2 := box_cell (j := 2) (HKC.out _ HC.out).2.1 rfl
        have a4_v3 := box_cell (j := 3) (HKC.out _ HC.out).2.1 rfl
        have a4_v4 := box_cell (j := 4) (HKC.out _ HC.out).2.1 rfl
        have hltc : v1.heap.size < v62.heap.size := by have := (HKC.out _ HC.out).2.2; omega
        rw [HCL.out] at a4_v4
        have hal : Below v62.heap.size v62 (v62.alloc (.cells #[.int .i64 0, .slice QA1 Qn1 Qc1, .slice QA2 Qn2 Qc2, .slice QA3 Qn3 Qc3, .bool false] 26)) := (Below.refl _ _).alloc (Nat.le_refl _) _
        have hbxZ : (v62.alloc (.cells #[.int .i64 0, .slice QA1 Qn1 Qc1, .slice QA2 Qn2 Qc2, .slice QA3 Qn3 Qc3, .bool false] 26)).heap[v62.heap.size]? = some (.cells #[.int .i64 0, .slice QA1 Qn1 Qc1, .slice QA2 Qn2 Qc2, .slice QA3 Qn3 Qc3, .bool false] 26 (0, 0)) := box_new v62 #[.int .i64 0, .slice QA1 Qn1 Qc1, .slice QA2 Qn2 Qc2, .slice QA3 Qn3 Qc3, .bool false] 26
        replace HC := Lib.hid (HC.out.trans (hal.mono (by omega)))
        replace HS := Lib.hid (HS.out.trans (hal.mono (by omega)))
        replace HR := Lib.hid (HR.out.trans (hal.mono (by omega)))
        go_wp2_with fail
        go_ret
        exact ⟨rfl, HB.out.trans (HC.out.mono (by omega))⟩
      · skip
        subst hyo
        have hl0n : x.fBuf.length = bs.length + 1 := by rw [hxb]; rfl
        have hl0 : (0 : Int) < (x.fBuf.length : Int) := by omega
        clear hl0n
        have hsC := (HKC.out _ HC.out).1
        obtain ⟨_, _, _, _, _, _, _, _, _, heqC, -, ⟨-, -, sC⟩, -, -⟩ := seeChan hsC
        simp only [List.cons.injEq, Value.slice.injEq, and_true] at heqC
        obtain ⟨-, ⟨hq1, hq2, hq3⟩, -⟩ := heqC
        rw [← hq1, ← hq2, hxb] at sC
        obtain ⟨hx8, g8, o8, us8, hA8, hg8, ⟨rfl, hw8⟩, hcell8⟩ := sC.at_ (i := 0) (by simp)
        have c8 := hcell8 0 _ rfl
        simp only [show Lay.int.size = 1 from rfl, Nat.add_zero, Nat.mul_one, Nat.zero_mul, List.getElem_cons_zero] at c8
        subst hA8
        clear hcell8 sC hsC hq1 hq2 hq3 hxb
        go_wp2_with fail
        refine (HCI.out _ _ _ (HKC.out _ HC.out).1 (by have := (HKC.out _ HC.out).2.2; omega)).mono ?_
        rintro e v63 ⟨uZ, ZA, Zn, Zc, ZA2, Zn2, Zc2, FZ0, FZ1, FZ2, rfl, ownZ, oZ1, oZ2, hbdZ, -, -, -, -, -, hbv63⟩
        have hzv63 := hbv63.size
        replace HC := Lib.hid (HC.out.trans (hbv63.mono (by omega)))
        replace HS := Lib.hid (HS.out.trans (hbv63.mono (by omega)))
        replace HR := Lib.hid (HR.out.trans (hbv63.mono (by omega)))
        clear hbv63 a4_y0 a4_y1 a4_y2 a4_y3 a4_y4
        simp only at ownZ oZ1 oZ2
        have hlZ1 := oZ1.1
        have hlZ2 := oZ2.1
        subst hlZ1 hlZ2
        have seeZ := layChan.seen (hi := v63.heap.size) ownZ fun g hg => (hbdZ g hg).2
        obtain ⟨QA1, Qn1, Qc1, QA2, Qn2, Qc2, QA3, Qn3, Qc3, rfl, -, ⟨hq1, hq2, sQ⟩, -, -⟩ := seeChan seeZ
        have a4_v0 := box_cell (j := 0) (HKC.out _ HC.out).2.1 rfl
        have a4_v1 := box_cell (j := 1) (HKC.out _ HC.out).2.1 rfl
        have a4_v2 := box_cell (j := 2) (HKC.out _ HC.out).2.1 rfl
        have a4_v3 := box_cell (j := 3) (HKC.out _ HC.out).2.1 rfl
        have a4_v4 := box_cell (j := 4) (HKC.out _ HC.out).2.1 rfl
        have hltc : v1.heap.size < v63.heap.size := by have := (HKC.out _ HC.out).2.2; omega
        rw [HCL.out] at a4_v4
        have hal : Below v63.heap.size v63 (v63.alloc (.cells #[.int .i64 0, .slice QA1 Qn1 Qc1, .slice QA2 Qn2 Qc2, .slice QA3 Qn3 Qc3, .bool false] 26)) := (Below.refl _ _).alloc (Nat.le_refl _) _
        have hbxZ : (v63.alloc (.cells #[.int .i64 0, .slice QA1 Qn1 Qc1, .slice QA2 Qn2 Qc2, .slice QA3 Qn3 Qc3, .bool false] 26)).heap[v63.heap.size]? = some (.cells #[.int .i64 0, .slice QA1 Qn1 Qc1, .slice QA2 Qn2 Qc2, .slice QA3 Qn3 Qc3, .bool false] 26 (0, 0)) := box_new v63 #[.int .i64 0, .slice QA1 Qn1 Qc1, .slice QA2 Qn2 Qc2, .slice QA3 Qn3 Qc3, .bool false] 26
        replace HC := Lib.hid (HC.out.trans (hal.mono (by omega)))
        replace HS := Lib.hid (HS.out.trans (hal.mono (by omega)))
        replace HR := Lib.hid (HR.out.trans (hal.mono (by omega)))
        go_wp2_with fail
        go_ret
        exact ⟨rfl, HB.out.trans (HC.out.mono (by omega))⟩
  · go_enter Try.func3, Try.ntmps3
    go_wp2_with fail
    go_ret
    exact ⟨rfl, Below.refl _ _⟩

set_option maxRecDepth 100000 in
theorem lifted (os : Os) (started : os.Started) (H : Type) (enc : TypeId × Value → H) :
    ReturnsInHanded {} Try.checked os 3 .any (Rows.fnChanSpec.pre6 enc Try.prog Try.f3 Rows.fnChanRow.domain false) (Rows.fnChanSpec.post enc Try.prog Try.f3 false true false false) := by
  refine returnsInHanded_of_change (C := Try.checked) own started (by kernel_rfl) Try.func3
    (ChangeSpec.witness6 (enc := enc) (C := Try.checked) false ⟨#[], #[.slice none 0 0], []⟩ 8 (by kernel_rfl) (by kernel_rfl) (by kernel_rfl) (by kernel_rfl)) ?_
  intro W base args ds gs before hval0 hW hcnd _
  have hval : ∀ (j : Nat) t v, Try.f3.params[j]? = some t → args[j]? = some v → Value.okWide Try.prog W .any base t v := hval0
  have hW' := hW
  obtain ⟨p, q, hA0, hV, rfl, hfz, hnd⟩ := hW
  have hA : DataW.TrodAll enc Try.prog W 0 (fun _ => true) true Try.f3.params.toList args.toList ds p := hA0
  rw [Try.params3] at hA hval
  obtain ⟨v0, vs0, d0, ds0, p0, q0, hargs, rfl, rfl, h0, r0⟩ := trodAll_cons hA
  obtain ⟨rfl, rfl, rfl⟩ := trodAll_nil r0
  obtain rfl : args = #[v0] := by cases args; simp_all
  obtain ⟨rfl, rfl⟩ := trodVars_none hV
  obtain ⟨a0, len0, cap0, rfl⟩ := okWide_slice Try.underlying22 (hval 0 22 v0 rfl rfl)
  have k0 := h0
  have lt0 : ∀ x ∈ p0, x.block < W.heap.size := by obtain ⟨m, hm⟩ := k0; exact DataW.trod_lt m _ _ _ hm
  obtain ⟨z0, w0⟩ : ∃ zs, IsRow .u8 W a0 len0 cap0 zs := by
    obtain ⟨fuel, hf⟩ := h0
    rcases open_ints Try.underlying22 Try.underlying5 (by kernel_rfl) hf with ⟨hcs, _⟩ | ⟨x, l, c, zs, hcs, _, hl, hm, hz, _, hcell, hwz⟩
    · simp [Value.cells] at hcs
      obtain ⟨rfl, rfl, rfl⟩ := hcs
      exact ⟨[], .inl ⟨rfl, rfl, rfl, rfl⟩⟩
    · simp [Value.cells] at hcs
      obtain ⟨rfl, rfl, rfl⟩ := hcs
      exact ⟨zs, .inr ⟨_, rfl, hl, hm, by simpa using hz, hcell, hwz⟩⟩
  clear hA0 hval0
  refine (walk a0 len0 cap0 z0 W w0).mono fun e W' ⟨he, bel⟩ => ?_
  subst he
  exact ⟨_, rfl, _, _, _, [], _, [], hW', trodAll_mk1 (shut_bool Try.underlying4 _), (trodAll_cons_mk (Below.trod laidOut (by kernel_rfl) (of_decide_eq_true (by kernel_rfl)) k0 bel lt0) trodAll_mk0), rfl, bel.frame _, fun h => by cases h⟩

theorem over : Rows.fnChanRow.holds Try.pinned (OpenSpec.ofChange Rows.fnChanSpec) :=
  OpenClaim.holds_of_wide 3 Try.f3 rfl rfl rfl rfl rfl rfl rfl ⟨rfl, rfl, rfl, rfl, rfl⟩ rfl rfl rfl rfl rfl (by kernel_rfl) Try.func3 (by kernel_rfl)
    (of_decide_eq_true (by kernel_rfl)) (by unfold Func.isWrapper; first | (rw [if_pos (by decide +kernel)]; kernel_rfl) | (rw [if_neg (by decide +kernel)]; exact ⟨rfl, rfl⟩))
    (fun os started H enc _ => lifted os started H enc)

theorem proved : Rows.FnChanSaid := over
#print axioms proved
end Go.Proofs.Ytgdmcdblhpdlmaa.fnChan
