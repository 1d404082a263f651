/- Texts of the proof, laid compactly. -/
import Derived.Test.YtjcoapnggojpdaaGreatDoorOkProgS
set_option maxHeartbeats 8000000
set_option maxRecDepth 100000
namespace Go.Proofs.YtjcoapnggojpdaaGreatDoor
set_option linter.unusedSimpArgs false
set_option linter.unusedVariables false
open Go.RowKit
theorem IZ{w:World}{hi n c:Nat}{A:Option Addr}{code:List iG}(hc:a_ dX w hi A n code)(hn:1≤n)(o8:n≤40) :
  Calls Tryz.prog 301 #[.slice A n c] w fun e w'=>e=.returned (.bool (N9 code))∧w=w':=by
 obtain⟨m,rfl⟩:∃m,n=m+1:=⟨n-1,by omega⟩
 have LC:=zA hc.1;obtain⟨hx,g,o,vs,rfl,hg,⟨rfl,hw⟩,hcell⟩:=hc.at_ (show m<m+1 by omega);have dK:=hcell 0 _ rfl;simp only[show dX.size=4 from rfl,←zH,zI,zK] at dK;have jh:=zA (zG hx);clear hcell hw;generalize code[m]=x at *;have he:=zA (show N9 code=((x.m7==1)||(x.m7==6)) by simp only[N9,LC.out,Nat.add_sub_cancel,jh.out]);clear hx hc;rw[he.out];cases t1:(x.m7==1)
 ·cases t6:(x.m7==6)
  all_goals
   go_enter Tryz.func301,Tryz.ntmps301
   go_wp2_with fail
   go_ret;exact⟨rfl,rfl⟩
 ·go_enter Tryz.func301,Tryz.ntmps301
  go_wp2_with fail
  go_ret;exact⟨by simp,rfl⟩
def yc(code:List iG)(k:Nat):List (Int × Int):=(code.take k).filterMap fun x=>if x.m7==11 then some (5,x.fA) else none
theorem JK{code:List iG}{k:Nat}{x:iG}(h:code[k]? =some x):yc code (k+1)=yc code k++(if x.m7==11 then [(5,x.fA)] else []):=by
 unfold yc;rw[List.take_add_one,h];simp only[Option.toList_some,List.filterMap_append,List.filterMap_cons,List.filterMap_nil];cases x.m7==11 <;> rfl
theorem VB(code:List iG)(k:Nat):(yc code k).length≤code.length:=by
 unfold yc;refine zJ (List.length_filterMap_le _ _) ?_;simp;omega
theorem VC{code:List iG}{k:Nat}{a:Int}:(yc code k).contains (5,a)=true↔∃j y,j<k∧code[j]? =some y∧y.m7=11∧y.fA=a:=by
 unfold yc;simp only[List.contains_eq_mem,decide_eq_true_eq,List.mem_filterMap];constructor
 ·rintro ⟨y,hy,h⟩;obtain⟨j,hj⟩:=List.getElem?_of_mem hy;rw[List.getElem?_take] at hj;split at hj
  ·split at h
   ·rename_i h11
    simp at h h11;exact⟨j,y,‹_›,hj,h11,h⟩
   ·cases h
  ·cases hj
 ·rintro ⟨j,y,hj,hy,h11,rfl⟩;exact⟨y,List.mem_of_getElem? (i:=j) (by rw[List.getElem?_take,yG hj,hy]),by simp[h11]⟩
theorem Qq{w:World}{hi:Nat}{p:aS}{code:List iG}{A0 A2 A3 A:Option Addr}{n0 c0 n2 c2 n3 c3 n c:Nat}(hl0:p.iD.length=n0)(hs2:a_ bM w hi A2 n2 p.dR)(hl3:p.dP.length=n3)
  (hc:a_ dX w hi A n code)(cu:hi≤w.heap.size)(hC:qN w)(o8:n2≤1048576)(hsz:(p.dR.map dJ).sum≤1048576)(hn:n≤1048576) :
  Calls Tryz.prog 257 #[.agg #[.slice A0 n0 c0,.int .i64 p.ay,.slice A2 n2 c2,.slice A3 n3 c3],.slice A n c] w fun e w'=>e=.returned (.bool (oN p code))∧yT w w':=by
 have LC:=zA hc.1;have L0:=zA hl0;have L2:=zA hs2.1;have L3:=zA hl3;clear hl0 hl3;by_cases hlen:1≤n∧n≤40
 ·obtain⟨Zm,adA⟩:=hlen;have HC:=zA hC;clear hC;have HER:=zA (fun (W:World) (hW:yT w W)=>IZ (w:=W) (c:=c) (hc.below hW cu) Zm adA);have hmm := @run_makeMap Tryz.prog;cases te:N9 code
  ·have hno:=zA (show oN p code=false by rw[oN,te,Bool.and_false,Bool.and_false]);go_enter Tryz.func257,Tryz.ntmps257
   go_wp2_with fail
   refine (HER.out _ (by go_grown)).mono ?_;rw[te];rintro e w1 ⟨rfl,rfl⟩;go_wp2_with fail
   go_ret;exact⟨by rw[hno.out];rfl,by go_grown⟩
  have TE:=zA te;clear te;go_enter Tryz.func257,Tryz.ntmps257
  go_wp2_with fail
  refine (HER.out _ (by go_grown)).mono ?_;rw[TE.out];rintro e w1 ⟨rfl,rfl⟩;go_wp2_with fail
  go_loopw[25] (fun i wr=>∃k:Nat,k≤n∧i=.int .i64 k∧Hid (∀(j:Nat) (x:iG),j<k→code[j]? =some x→nV p code.length x=true)∧Hid (qp wr (w.heap.size+1) (yc code k))∧Below (w.heap.size+1) (w.alloc (.cells #[.slice A0 n0 c0,.int .i64 p.ay,.slice A2 n2 c2,.slice A3 n3 c3] 46)) wr) (fun i _=>n-(intOf i).toNat)
  case atStart=>exact⟨0,zL _,rfl,zA (fun j x hj=>by omega),zA (by simpa[yc] using qp.made (w.alloc (.cells #[.slice A0 n0 c0,.int .i64 p.ay,.slice A2 n2 c2,.slice A3 n3 c3] 46))),(zD _ _).alloc (by simp) _⟩
  case round =>
   rename World=>wo
   obtain⟨k,hk,rfl,hall,hmap,hb⟩:=hrel;have z:=hb.size;simp only[zF] at z;have zB:=hmap.out.lt;obtain⟨Tu,Vw⟩:=bn hb;have Tv:w.heap.size<w.heap.size+1:=(by omega);have XJ:w.heap.size<wo.heap.size:=(by omega);have oO:yT w wo:=zQ (by go_grown) (hb.mono (by omega));by_cases hlt:k<n
   ·obtain⟨hx,g,o,vs,rfl,hg,⟨rfl,hw⟩,hcell⟩:=(hc.below oO cu).at_ hlt;have Ws:=zA hw.2.1;have dK:=hcell 0 _ rfl;have eu:=hcell 1 _ rfl;have ig:=hcell 2 _ rfl;have jf:=hcell 3 _ rfl;simp only[show dX.size=4 from rfl,←zH,zI,zK] at dK eu ig jf;clear hcell hw;have jh:=zA (zG hx);generalize code[k]=x at *;clear hx;obtain⟨op,a,b,c'⟩:=x;simp only at dK eu ig jf;replace Ws:Hid ((Lit.int .i64 a).wf=true):=Ws;have hi':=zA (show zl p (n:Int) ⟨op,a,b,c'⟩=fP n0 n2 n3 p.ay (n:Int) op a b c' by unfold zl;rw[L0.out,L2.out,L3.out]);have HIO:=zA (fun (W:World) (hW:yT w W)=>D6 (A0:=A0) (A2:=A2) (A3:=A3) (n0:=n0) (c0:=c0) (n2:=n2) (c2:=c2) (n3:=n3) (c3:=c3) (mus:=p.ay) (n:=(n:Int)) (op:=op) (a:=a) (b:=b) (c:=c') (w:=W) (ny HC.out hW));go_wp2_with fail
    refine (HIO.out _ (by go_grown)).mono ?_;rintro e w1 ⟨rfl,hb1⟩;obtain⟨eX,gQ⟩:=bn hb1;have z1:=hb1.size;simp only[zF] at z1;have Iu:w.heap.size<w1.heap.size:=(by omega);have Lh:wo.heap.size<w1.heap.size:=(by omega);have oG:yT wo w1:=by
     refine zQ ?_ (hb1.mono ?_)
     ·go_grown
     ·simp
    have hB1:=hb.trans (oG.mono (by omega));have hb2:yT w w1:=oO.trans (oG.mono (by omega));have RP:=zA (hmap.out.keep (oG.block _ zB));have VD:=zA (fun (h:nV p (n:Int) ⟨op,a,b,c'⟩=true)=>show ∀(j:Nat) (x:iG),j<k+1→code[j]? =some x→nV p code.length x=true from fun j x hj hx=>by
     by_cases hjk:j=k
     ·subst hjk;obtain rfl:=zW (jh.out.symm.trans hx);rw[LC.out];exact h
     ·exact hall.out j x (by omega) hx)
    cases ti:fP n0 n2 n3 p.ay (n:Int) op a b c'
    ·have hno:=zA (wJ (p:=p) jh.out (by rw[LC.out];simp only[nV,hi'.out,ti,zX]));go_wp2_with fail
     go_ret;exact⟨by rw[hno.out];rfl,hb2⟩
    ·cases t11:(op==11)
     ·have rf:=zA (VD.out (by simp only[nV,hi'.out,ti,t11];rfl));have Oi:=zA (show qp w1 (w.heap.size+1) (yc code (k+1)) by rw[JK jh.out];simpa[t11] using RP.out);go_wp2_with fail
      go_quiet (fail)
      go_wp2_with fail
      go_roundw
      case rel=>exact⟨k+1,by omega,by go_num,rf,Oi,gz hB1 _⟩
      case measure=>simp[intOf];omega
     ·obtain rfl:op=11:=by simpa using t11
      have HTI:=zA ti;have hti:fD a b c' 1=true∧inB a 0 ((n2:Int)-1)=true:=by simpa[fP] using ti
      have hab:0≤a∧a≤(n2:Int)-1:=by have:=hti.2;simpa[inB] using this
      obtain⟨q,rfl⟩:∃q:Nat,a=q:=⟨a.toNat,by omega⟩
      have hq:q<n2:=(by omega);obtain⟨WX,g2,o2,vs2,rfl,hg2,aW,hcell2⟩:=(hs2.below hb2 cu).at_ hq;have hds:=zA (zG WX);have sW:dJ p.dR[q]≤1048576:=zJ (dI dJ (zS WX)) hsz;generalize p.dR[q]=s at *;clear WX;have HE:=zA (fun (W:World) (hW:Turned (w.heap.size+1) (w.heap.size+1+1) w1 W)=>vH (w:=W) (hi:=hi) (s:=s) (B0:=A0) (B2:=some ⟨g2,o2,none⟩) (B3:=A3) (m0:=n0) (b0:=c0) (m2:=n2) (b2:=c2) (m3:=n3) (b3:=c3) (mus:=p.ay) (n:=(n:Int)) (bM.keep aW fun k hk=>hW.block k (by omega) (by omega)) (by have:=hW.size;omega) sW);have HF:=zA (show Calls Tryz.prog 300 #[.map (some (w.heap.size+1)),.agg #[.int .i64 5,.int .i64 (q:Int)]] w1.drew fun e w'=>e=.returned (.bool (!(yc code k).contains (5,(q:Int))))∧qp w' (w.heap.size+1) (yc code k++[(5,(q:Int))])∧Turned (w.heap.size+1) (w.heap.size+1+1) w1 w' from
       (first_any (w:=w1.drew) (a:=5) (RP.out.keep rfl) (by decide) Ws.out (by have:=VB code k;have:=LC.out;omega)).mono fun e w' h=>⟨h.1,h.2.1,h.2.2.os,h.2.2.tape,h.2.2.output,h.2.2.size,h.2.2.block⟩)
      obtain⟨B0,m0,b0,rfl,⟨hc0,hm0,s0⟩,hw1⟩:=g_ aW;have ee0:=hcell2 0 _ rfl;have ee1:=hcell2 1 _ rfl;simp only[show bM.size=2 from rfl,←zH,zI,zK] at ee0 ee1;clear hcell2 aW s0 ti hti;have jJ:(0:Int)≤(q:Int):=(by omega);have u_:(q:Int)<(n2:Int):=(by omega);have CY:=zA (show CX p (n:Int) ⟨11,(q:Int),b,c'⟩=iY n0 (n:Int) s by simp only[CX,yA,hds.out,L0.out]);have hcode:=zA (show yc code (k+1)=yc code k++[(5,(q:Int))] by rw[JK jh.out];rfl);cases tm:(yc code k).contains (5,(q:Int))
      ·have KEEP:=zA (fun (W:World) (hW:Turned (w.heap.size+1) (w.heap.size+1+1) w1 W)=>show (∀o,W.cell? ⟨w.heap.size,o,none⟩=(w.alloc (.cells #[.slice A0 n0 c0,.int .i64 p.ay,.slice (some ⟨g2,o2,none⟩) n2 c2,.slice A3 n3 c3] 46)).cell? ⟨w.heap.size,o,none⟩)∧W.cell? ⟨wo.heap.size,1,none⟩=some (.int .i64 (q:Int)) ∧
         W.cell? ⟨g2,o2+q*2,none⟩=some (.slice B0 m0 b0)∧W.cell? ⟨g2,o2+q*2+1,none⟩=some (.int .i64 s.fV)∧w1.heap.size≤W.heap.size from by
        refine⟨fun o => ?_,?_,?_,?_,hW.size⟩
        ·rw[hW.cellAt Iu (by omega),hB1.cell (p:=⟨w.heap.size,o,none⟩) (by simp)]
        ·rw[hW.cellAt Lh (by omega),eX _ _ (by simp)];simp
        ·rw[hW.cellAt (by omega) (by omega)];exact ee0
        ·rw[hW.cellAt (by omega) (by omega)];exact ee1)
       cases ts:iY n0 (n:Int) s
       ·have hno:=zA (wJ (p:=p) jh.out (by rw[LC.out];simp only[nV,CY.out,ts];simp));rw[tm,Bool.not_false] at HF;go_wp2_with fail
        go_region_with (first|(go_at_call 300;refine HF.out.mono ?_;rintro e w2 ⟨rfl,yf,qX⟩;have ZC:=zA yf;have XT:=zA qX;have HK2:=KEEP.out _ qX;clear yf qX;obtain⟨kp,kc,ks0,ks1,kz⟩:=HK2)|(go_at_call 256;refine (HE.out _ XT.out).mono ?_;rintro e w3 ⟨rfl,hb5⟩))
        all_goals
         have CZ:yT w w3:=(hb2.trans (XT.out.below (by omega) (by omega))).trans (hb5.mono (by omega));go_wp2_with fail
         go_ret;exact⟨by rw[hno.out];rfl,CZ⟩
       ·have rf:=zA (VD.out (by simp only[nV,hi'.out,HTI.out,CY.out,ts];rfl));rw[tm,Bool.not_false] at HF;go_wp2_with fail
        go_region_with (first|(go_at_call 300;refine HF.out.mono ?_;rintro e w2 ⟨rfl,yf,qX⟩;have ZC:=zA yf;have XT:=zA qX;have HK2:=KEEP.out _ qX;clear yf qX;obtain⟨kp,kc,ks0,ks1,kz⟩:=HK2)|(go_at_call 256;refine (HE.out _ XT.out).mono ?_;rintro e w3 ⟨rfl,hb5⟩))
        all_goals
         have qf:=(hB1.trans (XT.out.below (by omega) (by omega))).trans (hb5.mono (show w.heap.size+1≤w2.heap.size by omega));have Oi:=zA (show qp w3 (w.heap.size+1) (yc code (k+1)) by rw[hcode.out];exact ZC.out.keep (hb5.block _ ZC.out.lt));go_wp2_with fail
         go_roundw
         case rel=>exact⟨k+1,by omega,by go_num,rf,Oi,qf⟩
         case measure=>simp[intOf];omega
      ·have rf:=zA (VD.out (by
        obtain⟨j,y,hj,hy,ait,hya⟩:=VC.1 tm;have:=hall.out j y hj hy;rw[LC.out] at this;simp only[nV,hi'.out,HTI.out];simp only[nV,ait,zT] at this;have h2:=this.2;simp only[CX,hya] at h2 ⊢;simpa using h2))
       rw[tm,Bool.not_true] at HF;go_wp2_with fail
       refine wp_region_any (by kernel_rfl) ?_;try (change wpAny _ _ _ _ _ _ _ (World.drew _))
       refine wpAny_take (i:=0) (v := .pointer (some ⟨wo.heap.size,0,none⟩)) rfl (by kernel_rfl) (by kernel_rfl) (by kernel_rfl) (fun _ _ _ h=>h) (Or.inl ⟨by rfl,fun _=>by go_simp⟩) ?_;refine wpAny_ready (rs:=[1]) (by kernel_rfl) (by simp) ?_;refine AllReady.cons rfl (fun K hK => ?_) AllReady.nil;go_simp;refine hK _ _ ?_;clear hK K;refine wpAny_take (i:=2) (v := .bool true) rfl (by kernel_rfl) (by kernel_rfl) (by kernel_rfl) (fun _ _ _ h=>h) (Or.inl ⟨by rfl,fun _=>by go_simp⟩) ?_;refine wpAny_take (i:=3) (v := .bool true) rfl (by kernel_rfl) (by kernel_rfl) (by kernel_rfl) (fun _ _ _ h=>h) (Or.inl ⟨by rfl,fun _=>by go_simp⟩) ?_;refine wpAny_take (i:=4) (v := .map (some (w.heap.size+1))) rfl (by kernel_rfl) (by kernel_rfl) (by kernel_rfl) (fun _ _ _ h=>h) (Or.inl ⟨by rfl,fun _=>by go_simp⟩) ?_;refine wpAny_take (i:=5) (v := .pointer (some ⟨wo.heap.size,1,none⟩)) rfl (by kernel_rfl) (by kernel_rfl) (by kernel_rfl) (fun _ _ _ h=>h) (Or.inl ⟨by rfl,fun _=>by go_simp⟩) ?_;refine wpAny_ready (rs:=[6]) (by kernel_rfl) (by simp) ?_;refine AllReady.cons rfl (fun K hK => ?_) AllReady.nil;go_simp;refine hK _ _ ?_;clear hK K;refine wpAny_take (i:=7) (v := .agg #[.int .i64 5,.int .i64 (q:Int)]) rfl (by kernel_rfl) (by kernel_rfl) (by kernel_rfl) (fun _ _ _ h=>h) (Or.inl ⟨by rfl,fun _=>by go_simp⟩) ?_;refine wpAny_ready (rs:=[8]) (by kernel_rfl) (by simp) ?_;refine AllReady.cons rfl (fun K hK => ?_) AllReady.nil;go_simp;refine HF.out.mono ?_;rintro e w2 ⟨rfl,yf,qX⟩;have ZC:=zA yf;have XT:=zA qX;clear yf qX;refine hK _ _ ?_;clear hK K;refine wpAny_take (i:=9) (v := .bool false) rfl (by kernel_rfl) (by kernel_rfl) (by kernel_rfl) (fun _ _ _ h=>h) (Or.inl ⟨by rfl,fun _=>by go_simp⟩) ?_;refine wpAny_take (i:=10) (v := .bool false) rfl (by kernel_rfl) (by kernel_rfl) (by kernel_rfl) (fun _ _ _ h=>h) (Or.inl ⟨by rfl,fun _=>by go_simp⟩) ?_;simp only[Act.put,List.getElem_toArray,List.getElem_cons_succ,List.getElem_cons_zero,List.setIfInBounds_toArray,List.set_cons_succ,List.set_cons_zero];refine Dc (fuel:=1) (j:=10) (by kernel_rfl) (fun _ _ _ _ _ h=>h) [(11,45),(12,46),(13,47),(14,48),(15,49),(16,50),(17,51),(18,52),(19,53),(20,54)] (by kernel_rfl) (by rfl) ?_;simp only[UR,UT,Act.put,List.setIfInBounds_toArray,List.set_cons_succ,List.set_cons_zero];refine wpAny_take (i:=21) (v := .bool false) rfl (by kernel_rfl) (by kernel_rfl) (by kernel_rfl) (fun _ _ _ h=>h) (Or.inl ⟨by rfl,fun _=>by go_simp⟩) ?_;simp only[Act.put,List.getElem_toArray,List.getElem_cons_succ,List.getElem_cons_zero,List.setIfInBounds_toArray,List.set_cons_succ,List.set_cons_zero];refine wpAny_done (by kernel_rfl) ?_ _;have qf:=hB1.trans (XT.out.below (by omega) (by omega));have Oi:=zA (show qp w2 (w.heap.size+1) (yc code (k+1)) by rw[hcode.out];exact ZC.out);go_wp2_with fail
       go_roundw
       case rel=>exact⟨k+1,by omega,by go_num,rf,Oi,qf⟩
       case measure=>simp[intOf];omega
   ·have rf:=zA (show oN p code=true by rw[JJ (by rw[LC.out];omega) (fun j x hj=>hall.out j x (by have:=(zO.1 hj).1;rw[LC.out] at this;omega) hj),TE.out]);go_wp2_with fail
    go_ret;exact⟨by rw[rf.out];rfl,oO⟩
 ·have hno:=zA (JI (p:=p) (code:=code) (by rw[LC.out];omega));clear hc hC;by_cases h1:n<1
  ·go_enter Tryz.func257,Tryz.ntmps257
   go_wp2_with fail
   go_ret;exact⟨by rw[hno.out];rfl,by go_grown⟩
  ·have h2:40<n:=(by omega);have h3:decide ((n:Int)<1)=false:=yD (by omega);clear hlen h1;go_enter Tryz.func257,Tryz.ntmps257
   go_wp2_with fail
   go_ret;exact⟨by rw[hno.out];rfl,by go_grown⟩
def VA(v:Int):Bool:=decide (0≤v∧v≤4)
def Ar(l:List Int):Bool:=decide (l.length≤6)&&l.all VA
theorem Qo{w:World}{hi n c:Nat}{A:Option Addr}{l:List Int}(h:a_ Lay.int w hi A n l)(cu:hi≤w.heap.size) :
  Calls Tryz.prog 174 #[.slice A n c] w fun e w'=>e=.returned (.bool (Ar l))∧yT w w':=by
 have L:=zA h.1;by_cases h6:n≤6
 ·go_enter Tryz.func174,Tryz.ntmps174
  go_wp2_with fail
  go_loopw[10] (fun i wr=>∃k:Nat,k≤n∧i=.int .i64 k∧Hid (∀(j:Nat) (x:Int),j<k→l[j]? =some x→VA x=true)∧yT w wr) (fun i _=>n-(intOf i).toNat)
  case atStart=>exact⟨0,zL _,rfl,zA (fun j x hj=>by omega),zD _ _⟩
  case round =>
   obtain⟨k,hk,rfl,hall,hb⟩:=hrel;by_cases hlt:k<n
   ·obtain⟨hx,g,o,vs,rfl,hg,⟨rfl,hw⟩,hcell⟩:=(h.below hb cu).at_ hlt;have dK:=hcell 0 _ rfl;simp only[Lay.int,Lay.flat,zI,zK] at dK;clear hcell hw;have jh:=zA (zG hx);generalize l[k]=x at *;clear hx;by_cases hx:0≤x∧x≤4
    ·obtain⟨hx0,XK⟩:=hx;go_wp2_with fail
     go_roundw
     case rel =>
      refine⟨k+1,by omega,by go_num,zA (fun j y hj hy => ?_),hb⟩;by_cases hjk:j=k
      ·subst hjk;obtain rfl:=zW (jh.out.symm.trans hy);exact yE ⟨hx0,XK⟩
      ·exact hall.out j y (by omega) hy
     case measure=>simp[intOf];omega
    ·have hno:=zA (show Ar l=false by rw[Ar,xY (f:=VA) jh.out (yD hx),Bool.and_false]);have hx':x<0∨4<x:=(by omega);clear hx;rcases hx' with hx'|hx'
     ·go_wp2_with fail
      go_ret;exact⟨by rw[hno.out];rfl,hb⟩
     ·have hx2:decide (x<0)=false:=yD (by omega);go_wp2_with fail
      go_ret;exact⟨by rw[hno.out];rfl,hb⟩
   ·have rf:=zA (show Ar l=true by rw[Ar,yE (by rw[L.out];exact h6),zq (f:=VA) fun j x hj hx=>hall.out j x (by have:=L.out;omega) hx];rfl);go_wp2_with fail
    go_ret;exact⟨by rw[rf.out];rfl,hb⟩
 ·have hno:=zA (show Ar l=false by rw[Ar,yD (by rw[L.out];exact h6),zX]);have h7:6<n:=(by omega);clear h h6;go_enter Tryz.func174,Tryz.ntmps174
  go_wp2_with fail
  go_ret;exact⟨by rw[hno.out];rfl,zD _ _⟩
def Au(p:aS):Bool:=decide (p.dR.length≤6)&&p.dR.all (jw p.iD.length)
theorem Ll{nch:Nat}{n:Int}{s:eG}(h:s.fV < -1):iY nch n s=false:=by rw[iY,wL (by omega),Bool.and_false]
theorem Qp{w:World}{hi:Nat}{p:aS}{A0 A2 A3:Option Addr}{n0 c0 n2 c2 n3 c3:Nat}(hl0:p.iD.length=n0)(s2:a_ bM w hi A2 n2 p.dR)(cu:hi≤w.heap.size)(hsz:(p.dR.map dJ).sum≤1048576) :
  Calls Tryz.prog 175 #[.agg #[.slice A0 n0 c0,.int .i64 p.ay,.slice A2 n2 c2,.slice A3 n3 c3]] w fun e w'=>e=.returned (.bool (Au p))∧yT w w':=by
 have L0:=zA hl0;have L2:=zA s2.1;clear hl0;by_cases h6:n2≤6
 ·go_enter Tryz.func175,Tryz.ntmps175
  go_wp2_with fail
  go_loopw[12] (fun i wr=>∃k:Nat,k≤n2∧i=.int .i64 k∧Hid (∀(j:Nat) (x:eG),j<k→p.dR[j]? =some x→jw n0 x=true)∧Below (w.heap.size+1) (w.alloc (.cells #[.slice A0 n0 c0,.int .i64 p.ay,.slice A2 n2 c2,.slice A3 n3 c3] 46)) wr) (fun i _=>n2-(intOf i).toNat)
  case atStart=>exact⟨0,zL _,rfl,zA (fun j x hj=>by omega),by simpa using zD _ _⟩
  case round =>
   rename World=>wb
   obtain⟨k2,hk2,rfl,JH,hb2⟩:=hrel;have z2:=hb2.size;simp only[zF] at z2;obtain⟨o7,sG⟩:=bn hb2;have Tv:w.heap.size<w.heap.size+1:=(by omega);have aii:w.heap.size<wb.heap.size:=(by omega);have Bo:yT w wb:=zQ (by go_grown) (hb2.mono (by omega));by_cases hlt2:k2<n2
   ·obtain⟨hx,g,o,vs,rfl,hg,aW,hcell⟩:=(s2.below Bo cu).at_ hlt2;have jh:=zA (zG hx);have sW:dJ p.dR[k2]≤1048576:=zJ (dI dJ (zS hx)) hsz;generalize p.dR[k2]=s at *;clear hx;have HE:=zA (fun (W:World) (hW:yT wb W)=>vH (w:=W) (hi:=hi) (s:=s) (B0:=A0) (B2:=some ⟨g,o,none⟩) (B3:=A3) (m0:=n0) (b0:=c0) (m2:=n2) (b2:=c2) (m3:=n3) (b3:=c3) (mus:=p.ay) (n:=40) (bM.keep aW fun k hk=>hW.block k (by omega)) (by have:=hW.size;omega) sW);obtain⟨B0,m0,b0,rfl,⟨hd0,he0,t0⟩,hw1⟩:=g_ aW;have LS:=zA t0.1;have dK:=hcell 0 _ rfl;have eu:=hcell 1 _ rfl;simp only[show bM.size=2 from rfl,←zH,zI,zK] at dK eu;clear hcell aW t0 hw1;have sU:yT wb (wb.alloc (.cells #[.slice B0 m0 b0,.int .i64 s.fV] 168)):=(zD _ _).alloc (zC _) _;have qx:=hb2.trans (sU.mono (show w.heap.size+1≤wb.heap.size by omega));have qZ:=Bo.trans (sU.mono (by omega));have BN:=zA (fun (hs:jw n0 s=false)=>show Au p=false by rw[Au,xY (f:=jw p.iD.length) jh.out (by rw[L0.out];exact hs),Bool.and_false]);by_cases hm4:4<m0
    ·have hno:=zA (BN.out (by unfold jw;rw[LS.out,yD (by omega),zX]));go_wp2_with fail
     go_ret;exact⟨by rw[hno.out];rfl,qZ⟩
    ·have aoF:decide (4<(m0:Int))=false:=yD (by omega);by_cases hme:m0=0∧s.fV = -1
     ·have hno:=zA (BN.out (by unfold jw;rw[LS.out];simp[hme.1,hme.2]));obtain⟨rfl,hel⟩:=hme;have aij:(s.fV == -1)=true:=(by simp[hel]);clear hm4 hel;go_wp2_with fail
      go_ret;exact⟨by rw[hno.out];rfl,qZ⟩
     ·have hst:=zA (show jw n0 s=iY n0 40 s by
       unfold jw;rw[LS.out,yE (by omega),Bool.true_and];by_cases hel:s.fV < -1
       ·rw[Ll hel,Bool.and_false]
       ·have:(decide (m0=0)&&decide (s.fV<0))=false:=by
         rw[Bool.eq_false_iff];intro h;simp at h;omega
        rw[this];rfl)
      have adI:(m0=0∧(s.fV == -1)=false)∨((m0:Int)==0)=false:=by
       by_cases h0:m0=0
       ·left;exact⟨h0,by simp;omega⟩
       ·right;simpa using h0
      clear hme hm4;cases ts:iY n0 40 s
      ·have hno:=zA (BN.out (by rw[hst.out];exact ts));rcases adI with⟨hw0,hw1⟩|hw0
       all_goals
        try subst hw0
        go_wp2_with fail
        refine (HE.out _ sU).mono ?_;rw[ts];rintro e w5 ⟨rfl,hb5⟩;have Ld:=qZ.trans (hb5.mono (by simp;omega));go_wp2_with fail
        go_ret;exact⟨by rw[hno.out];rfl,Ld⟩
      ·rcases adI with⟨hw0,hw1⟩|hw0
       all_goals
        try subst hw0
        go_wp2_with fail
        refine (HE.out _ sU).mono ?_;rw[ts];rintro e w5 ⟨rfl,hb5⟩;have qf:=qx.trans (hb5.mono (by simp;omega));go_wp2_with fail
        go_roundw
        case rel =>
         refine⟨k2+1,by omega,by go_num,zA (fun j y hj hy => ?_),qf⟩;by_cases hjk:j=k2
         ·subst hjk;obtain rfl:=zW (jh.out.symm.trans hy);rw[hst.out];exact ts
         ·exact JH.out j y (by omega) hy
        case measure=>simp[intOf];omega
   ·have rf:=zA (show Au p=true by rw[Au,yE (by rw[L2.out];exact h6),zq (f:=jw p.iD.length) fun j x hj hx=>by rw[L0.out];exact JH.out j x (by have a:=hj;have b:=L2.out;omega) hx];rfl);go_wp2_with fail
    go_ret;exact⟨by rw[rf.out];rfl,Bo⟩
 ·have hno:=zA (show Au p=false by rw[Au,yD (by rw[L2.out];exact h6),zX]);have h7:6<n2:=(by omega);clear s2 h6;go_enter Tryz.func175,Tryz.ntmps175
  go_wp2_with fail
  go_ret;exact⟨by rw[hno.out];rfl,by go_grown⟩
def uP(p:aS):Bool:=decide (1≤p.dP.length∧p.dP.length≤6)&&p.dP.all fun x=>oN p x.jT
theorem Oh{w:World}{hi:Nat}{p:aS}{A0 A2 A3:Option Addr}{n0 c0 n2 c2 n3 c3:Nat}(hl0:p.iD.length=n0)(s2:a_ bM w hi A2 n2 p.dR)(s3:a_ eU w hi A3 n3 p.dP)(cu:hi≤w.heap.size)(hC:qN w)(o8:n2≤1048576)(hsz:(p.dR.map dJ).sum≤1048576)(ais:(p.dP.map g7).sum≤1048576) :
  Calls Tryz.prog 176 #[.agg #[.slice A0 n0 c0,.int .i64 p.ay,.slice A2 n2 c2,.slice A3 n3 c3]] w fun e w'=>e=.returned (.bool (uP p))∧yT w w':=by
 have L0:=zA hl0;have L3:=zA s3.1;have HC:=zA hC;clear hl0 hC;by_cases h6:1≤n3∧n3≤6
 ·obtain⟨h61,h66⟩:=h6;go_enter Tryz.func176,Tryz.ntmps176
  go_wp2_with fail
  go_loopw[18] (fun i wr=>∃k:Nat,k≤n3∧i=.int .i64 k∧Hid (∀(j:Nat) (x:mM),j<k→p.dP[j]? =some x→oN p x.jT=true)∧Below (w.heap.size+1) (w.alloc (.cells #[.slice A0 n0 c0,.int .i64 p.ay,.slice A2 n2 c2,.slice A3 n3 c3] 46)) wr) (fun i _=>n3-(intOf i).toNat)
  case atStart=>exact⟨0,zL _,rfl,zA (fun j x hj=>by omega),by simpa using zD _ _⟩
  case round =>
   rename World=>wc
   obtain⟨k3,hk3,rfl,N8,hb3⟩:=hrel;have z3:=hb3.size;simp only[zF] at z3;obtain⟨z7,E8⟩:=bn hb3;have Tv:w.heap.size<w.heap.size+1:=(by omega);have adz:w.heap.size<wc.heap.size:=(by omega);have qZ:yT w wc:=zQ (by go_grown) (hb3.mono (by omega));by_cases hlt3:k3<n3
   ·obtain⟨hx,g,o,vs,rfl,hg,aW,hcell⟩:=(s3.below qZ cu).at_ hlt3;have jh:=zA (zG hx);have sW:g7 p.dP[k3]≤1048576:=zJ (dI g7 (zS hx)) ais;generalize p.dP[k3]=x at *;clear hx;obtain⟨B0,m0,b0,rfl,hd0,he0,t0⟩:=mr aW;have Py:m0≤1048576:=by have:=sW;unfold g7 at this;rw[t0.1] at this;exact this
    have HE:=zA (fun (W:World) (hW:yT wc W)=>Qq (w:=W) (hi:=hi) (p:=p) (code:=x.jT) (A0:=A0) (c0:=c0) (c2:=c2) (A3:=some ⟨g,o,none⟩) (c3:=c3) (c:=b0) L0.out (s2.keep fun k hk=>(hW.block k (by omega)).trans (qZ.block k (by omega))) L3.out (t0.keep fun k hk=>hW.block k (by omega)) (by have:=hW.size;omega) (ny HC.out (qZ.trans (hW.mono (by omega)))) o8 hsz Py);have dK:=hcell 0 _ rfl;simp only[show eU.size=1 from rfl,←zH,zI,zK] at dK;clear hcell aW t0;have sU:yT wc (wc.alloc (.cells #[.slice B0 m0 b0] 180)):=(zD _ _).alloc (zC _) _;have qx:=hb3.trans (sU.mono (show w.heap.size+1≤wc.heap.size by omega));have aaE:=qZ.trans (sU.mono (by omega));cases ts:oN p x.jT
    ·have hno:=zA (show uP p=false by rw[uP,xY (f:=fun x=>oN p x.jT) jh.out ts,Bool.and_false]);go_wp2_with fail
     refine (HE.out _ sU).mono ?_;rw[ts];rintro e w5 ⟨rfl,hb5⟩;have Ld:=aaE.trans (hb5.mono (by simp;omega));go_wp2_with fail
     go_ret;exact⟨by rw[hno.out];rfl,Ld⟩
    ·go_wp2_with fail
     refine (HE.out _ sU).mono ?_;rw[ts];rintro e w5 ⟨rfl,hb5⟩;have qf:=qx.trans (hb5.mono (by simp;omega));go_wp2_with fail
     go_roundw
     case rel =>
      refine⟨k3+1,by omega,by go_num,zA (fun j y hj hy => ?_),qf⟩;by_cases hjk:j=k3
      ·subst hjk;obtain rfl:=zW (jh.out.symm.trans hy);exact ts
      ·exact N8.out j y (by omega) hy
     case measure=>simp[intOf];omega
   ·have rf:=zA (show uP p=true by rw[uP,yE (by rw[L3.out];exact⟨h61,h66⟩),zq (f:=fun x=>oN p x.jT) fun j x hj hx=>N8.out j x (by have a:=hj;have b:=L3.out;omega) hx];rfl);go_wp2_with fail
    go_ret;exact⟨by rw[rf.out];rfl,qZ⟩
 ·have hno:=zA (show uP p=false by rw[uP,yD (by rw[L3.out];exact h6),zX]);clear s2 s3;by_cases h1:n3<1
  ·clear h6;go_enter Tryz.func176,Tryz.ntmps176
   go_wp2_with fail
   go_ret;exact⟨by rw[hno.out];rfl,by go_grown⟩
  ·have h7:6<n3:=(by omega);have h8:decide ((n3:Int)<1)=false:=yD (by omega);clear h6 h1;go_enter Tryz.func176,Tryz.ntmps176
   go_wp2_with fail
   go_ret;exact⟨by rw[hno.out];rfl,by go_grown⟩
theorem IY(p:aS):dH p=(Ar p.iD&&(decide (0≤p.ay)&&(decide (p.ay≤4)&&(Au p&&uP p)))):=by
 rw[Bool.eq_iff_iff];simp only[dH,zo,Ar,Au,uP,VA,zT,decide_eq_true_eq];exact⟨fun ⟨⟨a1,a2,a3,a4,a5,a6⟩,b,c,d⟩=>⟨⟨a1,b⟩,a2,a3,⟨a4,c⟩,⟨a5,a6⟩,d⟩,fun ⟨⟨a1,b⟩,a2,a3,⟨a4,c⟩,⟨a5,a6⟩,d⟩=>⟨⟨a1,a2,a3,a4,a5,a6⟩,b,c,d⟩⟩
theorem Gn{w:World}{hi:Nat}{p:aS}{vs:List Value}(h:aV.see w hi p vs)(cu:hi≤w.heap.size)(hC:qN w)(hsz:dV p≤1048576) :
  Calls Tryz.prog 87 #[.agg vs.toArray] w fun e w'=>e=.returned (.bool (dH p))∧yT w w':=by
 obtain⟨A0,n0,c0,A2,n2,c2,A3,n3,c3,rfl,⟨hc0,hm0,s0⟩,hw1,⟨hc2,jY,s2⟩,⟨hc3,Be,s3⟩⟩:=fH h;have L0:=zA s0.1;have L2:=zA s2.1;have L3:=zA s3.1;have jS:=hsz;unfold dV at jS;rw[L0.out,L2.out,L3.out] at jS;have HC:=zA hC;clear h hw1 hC;have H0:=zA (fun (W:World) (hW:yT w W)=>Qo (w:=W) (c:=c0) (s0.below hW cu) (by have:=hW.size;omega));have H2:=zA (fun (W:World) (hW:yT w W)=>Qp (w:=W) (p:=p) (A0:=A0) (A3:=A3) (c0:=c0) (c2:=c2) (n3:=n3) (c3:=c3) L0.out (s2.below hW cu) (by have:=hW.size;omega) (by omega));have H3:=zA (fun (W:World) (hW:yT w W)=>Oh (w:=W) (p:=p) (A0:=A0) (c0:=c0) (c2:=c2) (c3:=c3) L0.out (s2.below hW cu) (s3.below hW cu) (by have:=hW.size;omega) (ny HC.out hW) (by omega) (by omega) (by omega));rw[IY];generalize O4:Ar p.iD=F1;generalize hF4:Au p=F4;generalize XN:uP p=F5;have G1:=zA O4;have G4:=zA hF4;have G5:=zA XN;clear O4 hF4 XN s0 s2 s3;by_cases q2:0≤p.ay
 ·by_cases q3:p.ay≤4
  ·rw[yE q2,yE q3];go_enter Tryz.func87,Tryz.ntmps87
   go_wp2_with fail
   refine (H0.out _ (by go_grown)).mono ?_;rw[G1.out];rintro e wa ⟨rfl,sU⟩;have za:=sU.size;simp only[zF] at za;obtain⟨XO,XP⟩:=bn sU;have XQ:w.heap.size<wa.heap.size:=(by omega);have Qr:yT w wa:=zQ (by go_grown) (sU.mono (by simp));clear sU;cases F1
   ·go_wp2_with fail
    go_ret;exact⟨rfl,Qr⟩
   ·go_wp2_with fail
    refine (H2.out _ Qr).mono ?_;rw[G4.out];rintro e wb ⟨rfl,oQ⟩;have zb:=oQ.size;obtain⟨adK,adL⟩:=bn oQ;have adM:w.heap.size<wb.heap.size:=(by omega);have XR:yT w wb:=Qr.trans (oQ.mono (by omega));clear oQ;cases F4
    ·go_wp2_with fail
     go_ret;exact⟨rfl,XR⟩
    ·go_wp2_with fail
     refine (H3.out _ XR).mono ?_;rw[G5.out];rintro e wc ⟨rfl,Qs⟩;have hBc:yT w wc:=XR.trans (Qs.mono (by omega));clear Qs;go_wp2_with fail
     go_ret;exact⟨rfl,hBc⟩
  ·have e3:decide (p.ay≤4)=false:=yD q3;rw[e3];clear q3;go_enter Tryz.func87,Tryz.ntmps87
   go_wp2_with fail
   refine (H0.out _ (by go_grown)).mono ?_;rw[G1.out];rintro e wa ⟨rfl,sU⟩;have za:=sU.size;simp only[zF] at za;obtain⟨XO,XP⟩:=bn sU;have XQ:w.heap.size<wa.heap.size:=(by omega);have Qr:yT w wa:=zQ (by go_grown) (sU.mono (by simp));clear sU;cases F1
   ·go_wp2_with fail
    go_ret;exact⟨rfl,Qr⟩
   ·go_wp2_with fail
    go_ret;exact⟨by simp,Qr⟩
 ·have e3:decide (0≤p.ay)=false:=yD q2;rw[e3];clear q2;go_enter Tryz.func87,Tryz.ntmps87
  go_wp2_with fail
  refine (H0.out _ (by go_grown)).mono ?_;rw[G1.out];rintro e wa ⟨rfl,sU⟩;have za:=sU.size;simp only[zF] at za;obtain⟨XO,XP⟩:=bn sU;have XQ:w.heap.size<wa.heap.size:=(by omega);have Qr:yT w wa:=zQ (by go_grown) (sU.mono (by simp));clear sU;cases F1
  ·go_wp2_with fail
   go_ret;exact⟨rfl,Qr⟩
  ·go_wp2_with fail
   go_ret;exact⟨rfl,Qr⟩
end Go.Proofs.YtjcoapnggojpdaaGreatDoor
