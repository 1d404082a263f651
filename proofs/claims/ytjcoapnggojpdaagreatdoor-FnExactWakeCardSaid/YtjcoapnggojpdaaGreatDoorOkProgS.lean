/- Texts of the proof, laid compactly. -/
import Derived.Test.YtjcoapnggojpdaaGreatDoorGFieldI
set_option maxHeartbeats 4000000
set_option maxRecDepth 100000
namespace Go.Proofs.YtjcoapnggojpdaaGreatDoor
set_option linter.unusedSimpArgs false
set_option linter.unusedVariables false
open Go.RowKit
def jw(nch:Nat)(s:eG):Bool:=decide (s.dw.length≤4)&&(!(decide (s.dw.length=0)&&decide (s.fV<0))&&iY nch 40 s)
def zo(p:aS):Bool:=decide (p.iD.length≤6∧0≤p.ay∧p.ay≤4∧p.dR.length≤6∧1≤p.dP.length∧p.dP.length≤6)
def dH(p:aS):Bool:=zo p&&(p.iD.all (fun v=>decide (0≤v∧v≤4))&&(p.dR.all (jw p.iD.length)&&p.dP.all fun x=>oN p x.jT))
theorem xY{α:Type}{f:α→Bool}{l:List α}{k:Nat}{x:α}(hk:l[k]? =some x)(h:f x=false):l.all f=false:=by
 rw[List.all_eq_false];exact⟨x,List.mem_of_getElem? hk,by rw[h];exact Bool.false_ne_true⟩
theorem zq{α:Type}{f:α→Bool}{l:List α}(h:∀k x,k<l.length→l[k]? =some x→f x=true):l.all f=true:=by
 rw[zY];intro x hx;obtain⟨k,hk⟩:=List.getElem?_of_mem hx;exact h k x (zO.1 hk).1 hk
theorem xZ{w:World}{hi:Nat}{p:aS}{vs:List Value}(h:aV.see w hi p vs)(cu:hi≤w.heap.size)(hsz:dV p≤1048576) :
  Calls Tryz.prog 79 #[.agg vs.toArray] w fun e w'=>e=.returned (.bool (dH p))∧yT w w':=by
 obtain⟨A0,n0,c0,A2,n2,c2,A3,n3,c3,rfl,⟨hc0,hm0,s0⟩,hw1,⟨hc2,jY,s2⟩,⟨hc3,Be,s3⟩⟩:=fH h;have L0:=zA s0.1;have L2:=zA s2.1;have L3:=zA s3.1;have jS:=hsz;unfold dV at jS;rw[L0.out,L2.out,L3.out] at jS;clear h hw1;by_cases Lc:n0≤6∧0≤p.ay∧p.ay≤4∧n2≤6∧1≤n3∧n3≤6
 ·have hct:=zA (show zo p=true by unfold zo;rw[L0.out,L2.out,L3.out];exact yE Lc);obtain⟨q1,q2,q3,q4,q5,q6⟩:=Lc;go_enter Tryz.func79,Tryz.ntmps79
  go_wp2_with fail
  go_loopw[44] (fun i wr=>∃k:Nat,k≤n0∧i=.int .i64 k∧Hid (∀(j:Nat) (x:Int),j<k→p.iD[j]? =some x→decide (0≤x∧x≤4)=true)∧Below (w.heap.size+1) (w.alloc (.cells #[.slice A0 n0 c0,.int .i64 p.ay,.slice A2 n2 c2,.slice A3 n3 c3] 46)) wr) (fun i _=>n0-(intOf i).toNat)
  case atStart=>exact⟨0,zL _,rfl,zA (fun j x hj=>by omega),by simpa using zD _ _⟩
  case round =>
   rename World=>wa
   obtain⟨k,hk,rfl,hall,hb⟩:=hrel;have z:=hb.size;simp only[zF] at z;obtain⟨Tu,Vw⟩:=bn hb;have Tv:w.heap.size<w.heap.size+1:=(by omega);have XJ:w.heap.size<wa.heap.size:=(by omega);have oO:yT w wa:=zQ (by go_grown) (hb.mono (by omega));by_cases hlt:k<n0
   ·obtain⟨hx,g,o,vs,rfl,hg,⟨rfl,hw⟩,hcell⟩:=(s0.below oO cu).at_ hlt;have dK:=hcell 0 _ rfl;simp only[Lay.int,Lay.flat,zI,zK] at dK;clear hcell hw;have jh:=zA (zG hx);generalize p.iD[k]=x at *;clear hx;by_cases hx:0≤x∧x≤4
    ·obtain⟨hx0,XK⟩:=hx;go_wp2_with fail
     go_roundw
     case rel =>
      refine⟨k+1,by omega,by go_num,zA (fun j y hj hy => ?_),hb⟩;by_cases hjk:j=k
      ·subst hjk;obtain rfl:=zW (jh.out.symm.trans hy);exact yE ⟨hx0,XK⟩
      ·exact hall.out j y (by omega) hy
     case measure=>simp[intOf];omega
    ·have hno:=zA (show dH p=false by rw[dH,xY (f:=fun v:Int=>decide (0≤v∧v≤4)) jh.out (yD hx),zX,Bool.and_false]);have hx':x<0∨4<x:=(by omega);clear hx;rcases hx' with hx'|hx'
     ·go_wp2_with fail
      go_ret;exact⟨by rw[hno.out];rfl,oO⟩
     ·have hx2:¬x<0:=(by omega);go_wp2_with fail
      go_ret;exact⟨by rw[hno.out];rfl,oO⟩
   ·have adw:=zA (zq (f:=fun v:Int=>decide (0≤v∧v≤4)) fun j x hj hx=>hall.out j x (by have a:=hj;have b:=L0.out;omega) hx);go_wp2_with fail
    go_loopw[58] (fun i wr=>∃k:Nat,k≤n2∧i=.int .i64 k∧Hid (∀(j:Nat) (x:eG),j<k→p.dR[j]? =some x→jw n0 x=true)∧Below (w.heap.size+1) (w.alloc (.cells #[.slice A0 n0 c0,.int .i64 p.ay,.slice A2 n2 c2,.slice A3 n3 c3] 46)) wr) (fun i _=>n2-(intOf i).toNat)
    case atStart=>exact⟨0,zL _,rfl,zA (fun j x hj=>by omega),hb⟩
    case round =>
     clear Tu Vw;rename World=>wb
     obtain⟨k2,hk2,rfl,JH,hb2⟩:=hrel;have z2:=hb2.size;simp only[zF] at z2;obtain⟨o7,sG⟩:=bn hb2;have aii:w.heap.size<wb.heap.size:=(by omega);have Bo:yT w wb:=zQ (by go_grown) (hb2.mono (by omega));by_cases hlt2:k2<n2
     ·obtain⟨hx,g,o,vs,rfl,hg,aW,hcell⟩:=(s2.below Bo cu).at_ hlt2;have jh:=zA (zG hx);have sW:dJ p.dR[k2]≤1048576:=by have:=dI dJ (zS hx);omega
      generalize p.dR[k2]=s at *;clear hx;have HE:=zA (fun (W:World) (hW:yT wb W)=>vG (w:=W) (hi:=hi) (s:=s) (B0:=A0) (B2:=some ⟨g,o,none⟩) (B3:=A3) (m0:=n0) (b0:=c0) (m2:=n2) (b2:=c2) (m3:=n3) (b3:=c3) (mus:=p.ay) (n:=40) (bM.keep aW fun k hk=>hW.block k (by omega)) (by have:=hW.size;omega) (by omega) (by omega) (by omega) sW);obtain⟨B0,m0,b0,rfl,⟨hd0,he0,t0⟩,hw1⟩:=g_ aW;have LS:=zA t0.1;have dK:=hcell 0 _ rfl;have eu:=hcell 1 _ rfl;simp only[show bM.size=2 from rfl,←zH,zI,zK] at dK eu;clear hcell aW t0 hw1;have sU:yT wb (wb.alloc (.cells #[.slice B0 m0 b0,.int .i64 s.fV] 168)):=(zD _ _).alloc (zC _) _;have qx:=hb2.trans (sU.mono (show w.heap.size+1≤wb.heap.size by omega));have qZ:=Bo.trans (sU.mono (by omega));have BN:=zA (fun (hs:jw n0 s=false)=>show dH p=false by rw[dH,xY (f:=jw p.iD.length) jh.out (by rw[L0.out];exact hs),zX,Bool.and_false,Bool.and_false]);by_cases hm4:4<m0
      ·have hno:=zA (BN.out (by unfold jw;rw[LS.out,yD (by omega),zX]));go_wp2_with fail
       go_ret;exact⟨by rw[hno.out];rfl,qZ⟩
      ·by_cases hm0:m0=0
       ·by_cases hel:s.fV<0
        ·have hno:=zA (BN.out (by unfold jw;rw[LS.out];simp[hm0,hel]));subst hm0;go_wp2_with fail
         go_ret;exact⟨by rw[hno.out];rfl,qZ⟩
        ·have hst:=zA (show jw n0 s=iY n0 40 s by unfold jw;rw[LS.out];simp[hm0,hel]);have aij:decide (s.fV<0)=false:=yD hel;have aik:((m0:Int)==0)=true:=(by simp[hm0]);have ail:m0≤4:=(by omega);clear hel hm0;cases ts:iY n0 40 s
         ·have hno:=zA (BN.out (by rw[hst.out];exact ts));go_wp2_with fail
          refine (HE.out _ sU).mono ?_;rintro e w5 ⟨rfl,hb5⟩;have Ld:=qZ.trans (hb5.mono (by simp;omega));go_wp2_with fail
          go_ret;exact⟨by rw[hno.out];rfl,Ld⟩
         ·go_wp2_with fail
          refine (HE.out _ sU).mono ?_;rintro e w5 ⟨rfl,hb5⟩;have qf:=qx.trans (hb5.mono (by simp;omega));go_wp2_with fail
          go_roundw
          case rel =>
           refine⟨k2+1,by omega,by go_num,zA (fun j y hj hy => ?_),qf⟩;by_cases hjk:j=k2
           ·subst hjk;obtain rfl:=zW (jh.out.symm.trans hy);rw[hst.out];exact ts
           ·exact JH.out j y (by omega) hy
          case measure=>simp[intOf];omega
       ·have hst:=zA (show jw n0 s=iY n0 40 s by unfold jw;rw[LS.out];simp[hm0];omega);have aik:((m0:Int)==0)=false:=by simpa using hm0
        have ail:m0≤4:=(by omega);clear hm0;cases ts:iY n0 40 s
        ·have hno:=zA (BN.out (by rw[hst.out];exact ts));go_wp2_with fail
         refine (HE.out _ sU).mono ?_;rintro e w5 ⟨rfl,hb5⟩;have Ld:=qZ.trans (hb5.mono (by simp;omega));go_wp2_with fail
         go_ret;exact⟨by rw[hno.out];rfl,Ld⟩
        ·go_wp2_with fail
         refine (HE.out _ sU).mono ?_;rintro e w5 ⟨rfl,hb5⟩;have qf:=qx.trans (hb5.mono (by simp;omega));go_wp2_with fail
         go_roundw
         case rel =>
          refine⟨k2+1,by omega,by go_num,zA (fun j y hj hy => ?_),qf⟩;by_cases hjk:j=k2
          ·subst hjk;obtain rfl:=zW (jh.out.symm.trans hy);rw[hst.out];exact ts
          ·exact JH.out j y (by omega) hy
         case measure=>simp[intOf];omega
     ·have ady:=zA (zq (f:=jw p.iD.length) fun j x hj hx=>by rw[L0.out];exact JH.out j x (by have a:=hj;have b:=L2.out;omega) hx);go_wp2_with fail
      go_loopw[87] (fun i wr=>∃k:Nat,k≤n3∧i=.int .i64 k∧Hid (∀(j:Nat) (x:mM),j<k→p.dP[j]? =some x→oN p x.jT=true)∧Below (w.heap.size+1) (w.alloc (.cells #[.slice A0 n0 c0,.int .i64 p.ay,.slice A2 n2 c2,.slice A3 n3 c3] 46)) wr) (fun i _=>n3-(intOf i).toNat)
      case atStart=>exact⟨0,zL _,rfl,zA (fun j x hj=>by omega),hb2⟩
      case round =>
       clear o7 sG;rename World=>wc
       obtain⟨k3,hk3,rfl,N8,hb3⟩:=hrel;have z3:=hb3.size;simp only[zF] at z3;obtain⟨z7,E8⟩:=bn hb3;have adz:w.heap.size<wc.heap.size:=(by omega);have qZ:yT w wc:=zQ (by go_grown) (hb3.mono (by omega));by_cases hlt3:k3<n3
       ·obtain⟨hx,g,o,vs,rfl,hg,aW,hcell⟩:=(s3.below qZ cu).at_ hlt3;have jh:=zA (zG hx);have sW:g7 p.dP[k3]≤1048576:=by have:=dI g7 (zS hx);omega
        generalize p.dP[k3]=x at *;clear hx;obtain⟨B0,m0,b0,rfl,hd0,he0,t0⟩:=mr aW;have Py:m0≤1048576:=by have:=sW;unfold g7 at this;rw[t0.1] at this;exact this
        have HE:=zA (fun (W:World) (hW:yT wc W)=>Le (w:=W) (hi:=hi) (p:=p) (code:=x.jT) (A0:=A0) (c0:=c0) (c2:=c2) (A3:=some ⟨g,o,none⟩) (c3:=c3) (c:=b0) L0.out (s2.keep fun k hk=>(hW.block k (by omega)).trans (qZ.block k (by omega))) L3.out (t0.keep fun k hk=>hW.block k (by omega)) (by have:=hW.size;omega) (by omega) (by omega) (by omega) (by omega) (by omega) (by omega) Py);have dK:=hcell 0 _ rfl;simp only[show eU.size=1 from rfl,←zH,zI,zK] at dK;clear hcell aW t0;have sU:yT wc (wc.alloc (.cells #[.slice B0 m0 b0] 180)):=(zD _ _).alloc (zC _) _;have qx:=hb3.trans (sU.mono (show w.heap.size+1≤wc.heap.size by omega));have aaE:=qZ.trans (sU.mono (by omega));cases ts:oN p x.jT
        ·have hno:=zA (show dH p=false by rw[dH,xY (f:=fun x=>oN p x.jT) jh.out ts,Bool.and_false,Bool.and_false,Bool.and_false]);go_wp2_with fail
         refine (HE.out _ sU).mono ?_;rintro e w5 ⟨rfl,hb5⟩;have Ld:=aaE.trans (hb5.mono (by simp;omega));go_wp2_with fail
         go_ret;exact⟨by rw[hno.out];rfl,Ld⟩
        ·go_wp2_with fail
         refine (HE.out _ sU).mono ?_;rintro e w5 ⟨rfl,hb5⟩;have qf:=qx.trans (hb5.mono (by simp;omega));go_wp2_with fail
         go_roundw
         case rel =>
          refine⟨k3+1,by omega,by go_num,zA (fun j y hj hy => ?_),qf⟩;by_cases hjk:j=k3
          ·subst hjk;obtain rfl:=zW (jh.out.symm.trans hy);exact ts
          ·exact N8.out j y (by omega) hy
         case measure=>simp[intOf];omega
       ·have aaF:=zA (zq (f:=fun x=>oN p x.jT) fun j x hj hx=>N8.out j x (by have a:=hj;have b:=L3.out;omega) hx);have rf:=zA (show dH p=true by rw[dH,hct.out,adw.out,ady.out,aaF.out];rfl);go_wp2_with fail
        go_ret;exact⟨by rw[rf.out];rfl,qZ⟩
 ·have hno:=zA (show dH p=false by
   rw[dH,show zo p=false by unfold zo;rw[L0.out,L2.out,L3.out];exact yD Lc,zX])
  clear s0 s2 s3;by_cases q1:n0≤6
  ·by_cases q2:0≤p.ay
   ·by_cases q3:p.ay≤4
    ·by_cases q4:n2≤6
     ·by_cases q5:1≤n3
      ·have q6:6<n3:=(by omega);clear Lc;go_enter Tryz.func79,Tryz.ntmps79
       go_wp2_with fail
       go_ret;exact⟨by rw[hno.out];rfl,by go_grown⟩
      ·have q6:n3<1:=(by omega);clear Lc q5;go_enter Tryz.func79,Tryz.ntmps79
       go_wp2_with fail
       go_ret;exact⟨by rw[hno.out];rfl,by go_grown⟩
     ·have q6:6<n2:=(by omega);clear Lc q4;go_enter Tryz.func79,Tryz.ntmps79
      go_wp2_with fail
      go_ret;exact⟨by rw[hno.out];rfl,by go_grown⟩
    ·have q6:4<p.ay:=(by omega);clear Lc q3;go_enter Tryz.func79,Tryz.ntmps79
     go_wp2_with fail
     go_ret;exact⟨by rw[hno.out];rfl,by go_grown⟩
   ·have q6:p.ay<0:=(by omega);clear Lc q2;go_enter Tryz.func79,Tryz.ntmps79
    go_wp2_with fail
    go_ret;exact⟨by rw[hno.out];rfl,by go_grown⟩
  ·have q6:6<n0:=(by omega);clear Lc q1;go_enter Tryz.func79,Tryz.ntmps79
   go_wp2_with fail
   go_ret;exact⟨by rw[hno.out];rfl,by go_grown⟩
theorem Qv{A0 A2 A3:Option Addr}{n0 c0 n2 c2 n3 c3:Nat}{mus n:Int}{x:ja}(w:World) :
  Calls Tryz.prog 299 #[.agg #[.slice A0 n0 c0,.int .i64 mus,.slice A2 n2 c2,.slice A3 n3 c3],.int .i64 n,.agg #[.bool x.gI,.int .i64 x.gU,.int .i64 x.mg,.int .i64 x.lM,.int .i64 x.wX]] w fun e w'=>e=.returned (.bool (rJ n0 n x))∧yT w w':=by
 obtain⟨send,ch,reg,ok,to⟩:=x;simp only;have HE:rJ n0 n ⟨send,ch,reg,ok,to⟩=(dA n0 n2 n3 mus n 4 ch&&(dA n0 n2 n3 mus n 1 reg&&(dA n0 n2 n3 mus n (if send then 0 else 1) ok&&dA n0 n2 n3 mus n 3 to))):=by
  rw[Bool.eq_iff_iff];cases send <;> simp[rJ,dA,inB,jC] <;> omega
 rw[HE];clear HE;have HS:=zA (fun (nm v:Int) (W:World) (h:0≤nm∧nm≤7)=>show Calls Tryz.prog 309 #[.agg #[.slice A0 n0 c0,.int .i64 mus,.slice A2 n2 c2,.slice A3 n3 c3],.int .i64 n,.int .i64 nm,.int .i64 v] W fun e w'=>e=.returned (.bool (dA n0 n2 n3 mus n nm v))∧yT W w' from Dx W h);generalize O4:dA n0 n2 n3 mus n 4 ch=F1;generalize hF2:dA n0 n2 n3 mus n 1 reg=F2;generalize ZE:dA n0 n2 n3 mus n (if send then 0 else 1) ok=F3;generalize hF4:dA n0 n2 n3 mus n 3 to=F4;have G1:=zA O4;have G2:=zA hF2;have G3:=zA ZE;have G4:=zA hF4;clear O4 hF2 ZE hF4;cases send
 all_goals
  simp only[if_true,Bool.false_eq_true,if_false] at G3;go_enter Tryz.func299,Tryz.ntmps299
  go_wp2_with fail
  refine (HS.out _ _ _ (by decide)).mono ?_;rw[G1.out];rintro e wa ⟨rfl,sU⟩;have za:=sU.size;simp only[zF] at za;obtain⟨XO,XP⟩:=bn sU;have XQ:w.heap.size<wa.heap.size:=(by omega);have aiw:w.heap.size+1<wa.heap.size:=(by omega);have Qr:yT w wa:=zQ (by go_grown) (sU.mono (by simp;omega));clear sU;cases F1
  ·go_wp2_with fail
   go_ret;exact⟨rfl,Qr⟩
  ·go_wp2_with fail
   refine (HS.out _ _ _ (by decide)).mono ?_;rw[G2.out];rintro e wb ⟨rfl,oQ⟩;have zb:=oQ.size;obtain⟨adK,adL⟩:=bn oQ;have adM:w.heap.size<wb.heap.size:=(by omega);have aix:w.heap.size+1<wb.heap.size:=(by omega);have XR:yT w wb:=Qr.trans (oQ.mono (by omega));clear oQ;cases F2
   ·go_wp2_with fail
    go_ret;exact⟨rfl,XR⟩
   ·go_wp2_with fail
    refine (HS.out _ _ _ (by decide)).mono ?_;rw[G3.out];rintro e wc ⟨rfl,Qs⟩;have zc:=Qs.size;obtain⟨aoP,aoQ⟩:=bn Qs;have aoR:w.heap.size<wc.heap.size:=(by omega);have aoS:w.heap.size+1<wc.heap.size:=(by omega);have hBc:yT w wc:=XR.trans (Qs.mono (by omega));clear Qs;cases F3
    ·go_wp2_with fail
     go_ret;exact⟨rfl,hBc⟩
    ·go_wp2_with fail
     refine (HS.out _ _ _ (by decide)).mono ?_;rw[G4.out];rintro e wd ⟨rfl,ZF⟩;have hBd:yT w wd:=hBc.trans (ZF.mono (by omega));clear ZF;go_wp2_with fail
     go_ret;exact⟨rfl,hBd⟩
def Gp(cs:List ja)(k:Nat):List (Int × Int):=(cs.take k).map fun x=>(4,x.gU)
theorem JL{cs:List ja}{k:Nat}{x:ja}(h:cs[k]? =some x):Gp cs (k+1)=Gp cs k++[(4,x.gU)]:=by
 unfold Gp;rw[List.take_add_one,h];simp
theorem VJ(cs:List ja)(k:Nat):(Gp cs k).length≤cs.length:=by unfold Gp;simp;omega
theorem Om{cs:List ja}{k:Nat}{c:Int}:(Gp cs k).contains (4,c)=true↔∃j y,j<k∧cs[j]? =some y∧y.gU=c:=by
 unfold Gp;simp only[List.contains_eq_mem,decide_eq_true_eq,List.mem_map,Prod.mk.injEq,true_and];constructor
 ·rintro ⟨y,hy,rfl⟩;obtain⟨j,hj⟩:=List.getElem?_of_mem hy;rw[List.getElem?_take] at hj;split at hj
  ·exact⟨j,y,‹_›,hj,rfl⟩
  ·cases hj
 ·rintro ⟨j,y,hj,hy,rfl⟩;exact⟨y,List.mem_of_getElem? (i:=j) (by rw[List.getElem?_take,yG hj,hy]),rfl⟩
theorem Turned.cellAt{w w':World}{B:Nat}(h:Turned B (B+1) w w'){b o:Nat}(hb:b<w.heap.size)(hne:b≠B):w'.cell? ⟨b,o,none⟩=w.cell? ⟨b,o,none⟩ :=
 World.cell?_of_block (h.block b hb (by omega))
theorem vH{w:World}{hi:Nat}{s:eG}{vs:List Value}{B0 B2 B3:Option Addr}{m0 b0 m2 b2 m3 b3:Nat}{mus n:Int}(h:bM.see w hi s vs)(cu:hi≤w.heap.size)(hs:dJ s≤1048576) :
  Calls Tryz.prog 256 #[.agg #[.slice B0 m0 b0,.int .i64 mus,.slice B2 m2 b2,.slice B3 m3 b3],.int .i64 n,.agg vs.toArray] w fun e w'=>e=.returned (.bool (iY m0 n s))∧yT w w':=by
 obtain⟨A0,n0,c0,rfl,⟨hc0,Qa,s0⟩,hw1⟩:=g_ h;have L0:=zA s0.1;have hs0:=hs;unfold dJ at hs0;rw[L0.out] at hs0;clear hw1;by_cases hel : -1≤s.fV∧s.fV<n
 ·obtain⟨he1,he2⟩:=hel;have aiy:=zA (wK (n:=s.fV) (lo := -1) (hi:=n-1) (by omega));have hmm := @run_makeMap Tryz.prog;go_enter Tryz.func256,Tryz.ntmps256
  go_wp2_with fail
  go_loopw[23] (fun i wr=>∃k:Nat,k≤n0∧i=.int .i64 k∧Hid (∀j,j<k→qj m0 n s.dw j=true)∧Hid (qp wr (w.heap.size+2) (Gp s.dw k))∧Below (w.heap.size+2) ((w.alloc (.cells #[.slice B0 m0 b0,.int .i64 mus,.slice B2 m2 b2,.slice B3 m3 b3] 46)).alloc (.cells #[.slice A0 n0 c0,.int .i64 s.fV] 168)) wr) (fun i _=>n0-(intOf i).toNat)
  case atStart=>exact⟨0,zL _,rfl,zA (fun j hj=>by omega),zA (by simpa[Gp] using qp.made ((w.alloc (.cells #[.slice B0 m0 b0,.int .i64 mus,.slice B2 m2 b2,.slice B3 m3 b3] 46)).alloc (.cells #[.slice A0 n0 c0,.int .i64 s.fV] 168))),(zD _ _).alloc (by simp) _⟩
  case round =>
   rename World=>wo
   obtain⟨k,hk,rfl,hall,hmap,hb⟩:=hrel;have z:=hb.size;simp only[zF] at z;have zB:=hmap.out.lt;obtain⟨Tu,Vw⟩:=bn hb;have Tv:w.heap.size<w.heap.size+2:=(by omega);have ain:w.heap.size+1<w.heap.size+2:=(by omega);have XJ:w.heap.size<wo.heap.size:=(by omega);have aio:w.heap.size+1<wo.heap.size:=(by omega);have oO:yT w wo:=zQ (by go_grown) (hb.mono (by omega));by_cases hlt:k<n0
   ·obtain⟨hx,g,o,vs,rfl,hg,⟨rfl,hw⟩,hcell⟩:=(s0.below oO cu).at_ hlt;have hwc:=zA hw.1;have dK:=hcell 0 _ rfl;have eu:=hcell 1 _ rfl;have ig:=hcell 2 _ rfl;have jf:=hcell 3 _ rfl;have lS:=hcell 4 _ rfl;simp only[show fJ.size=5 from rfl,←zH,zI,zK] at dK eu ig jf lS;clear hcell hw;have jh:=zA (zG hx);have Lj:=zA (show k<s.dw.length from hx);generalize s.dw[k]=x at *;clear hx;go_wp2_with fail
    refine (Qv (x:=x) _).mono ?_;rintro e w1 ⟨rfl,hb1⟩;obtain⟨eX,gQ⟩:=bn hb1;have z1:=hb1.size;simp only[zF] at z1;have Iu:w.heap.size<w1.heap.size:=(by omega);have hz1b:w.heap.size+1<w1.heap.size:=(by omega);have Lh:wo.heap.size<w1.heap.size:=(by omega);have oG:yT wo w1:=by
     refine zQ ?_ (hb1.mono ?_)
     ·go_grown
     ·simp
    have hB1:Below (w.heap.size+2) ((w.alloc (.cells #[.slice B0 m0 b0,.int .i64 mus,.slice B2 m2 b2,.slice B3 m3 b3] 46)).alloc (.cells #[.slice (some ⟨g,o,none⟩) n0 c0,.int .i64 s.fV] 168)) w1:=hb.trans (oG.mono (by omega));have hb2:yT w w1:=oO.trans (oG.mono (by omega));cases t1:rJ m0 n x
    ·have hno:=zA (nY (n:=n) Lj.out (pR (nch:=m0) (n:=n) jh.out t1));go_wp2_with fail
     go_ret;exact⟨by rw[hno.out];rfl,hb2⟩
    ·have RP:qp w1 (w.heap.size+2) (Gp s.dw k):=hmap.out.keep (oG.block _ zB);have hF:=zA (first_any (a:=4) RP (by decide) hwc.out (by have:=VJ s.dw k;have:=L0.out;omega));have hcc:w1.cell? ⟨wo.heap.size,1,none⟩=some (.int .i64 x.gU):=by
      rw[eX _ _ (by simp)];simp
     have hch:=zA (show -1≤x.gU by
      have:=t1;simp[rJ,inB] at this;omega)
     go_wp2_with fail
     refine hF.out.mono ?_;rintro e w2 ⟨rfl,yf,qX⟩;have ZC:=zA yf;have acO:w2.cell? ⟨wo.heap.size,1,none⟩=some (.int .i64 x.gU):=by
      rw[qX.cellAt (by omega) (by omega)];exact hcc
     have hB2:=hB1.trans (qX.below (by omega) (by omega));have hb3:=hb2.trans (qX.below (B:=w.heap.size) (by omega) (by omega));have hz2:=qX.size;have aoU:wo.heap.size<w2.heap.size:=(by omega);clear yf qX hcc;cases t2:(Gp s.dw k).contains (4,x.gU)
     ·go_wp2_with fail
      go_roundw
      case rel =>
       refine⟨k+1,by omega,by go_num,zA (fun j hj => ?_),zA (by rw[JL jh.out];exact ZC.out),hB2⟩;by_cases hjk:j=k
       ·subst hjk;refine Bq jh.out t1 fun i y hi hy => ?_
        cases t3:sN x y
        ·rfl
        ·have hc:y.gU=x.gU:=by simp[sN] at t3;omega
         have:=Om.2 ⟨i,y,hi,hy,hc⟩;rw[t2] at this;cases this
       ·exact hall.out j (by omega)
      case measure=>simp[intOf];omega
     ·obtain⟨i,y,hi,hy,hyc⟩:=Om.1 t2;by_cases XV:x.gU = -1
      ·have Zm:(x.gU != -1)=false:=(by simp[XV]);go_wp2_with fail
       go_roundw
       case rel =>
        refine⟨k+1,by omega,by go_num,zA (fun j hj => ?_),zA (by rw[JL jh.out];exact ZC.out),hB2⟩;by_cases hjk:j=k
        ·subst hjk;exact Bq jh.out t1 fun i y hi hy=>by simp[sN,XV]
        ·exact hall.out j (by omega)
       case measure=>simp[intOf];omega
      ·have hno:=zA (nY (n:=n) Lj.out (Dv (nch:=m0) (n:=n) jh.out hi hy (by simp[sN,hyc];have:=hch.out;omega)));have Zm:(x.gU != -1)=true:=by simpa using XV
       clear XV;go_wp2_with fail
       go_ret;exact⟨by rw[hno.out];rfl,hb3⟩
   ·have rf:=zA (show iY m0 n s=true by rw[Du fun k' Zv=>hall.out k' (by have:=L0.out;omega)];exact aiy.out);go_wp2_with fail
    go_ret;exact⟨by rw[rf.out];rfl,oO⟩
 ·have hno:=zA (show iY m0 n s=false by rw[iY,wL (by omega),Bool.and_false]);clear s0;by_cases h1:s.fV < -1
  ·clear hel;go_enter Tryz.func256,Tryz.ntmps256
   go_wp2_with fail
   go_ret;exact⟨by rw[hno.out];rfl,by go_grown⟩
  ·have h2:n≤s.fV:=(by omega);have h3:decide (s.fV < -1)=false:=yD h1;clear hel h1;go_enter Tryz.func256,Tryz.ntmps256
   go_wp2_with fail
   go_ret;exact⟨by rw[hno.out];rfl,by go_grown⟩
end Go.Proofs.YtjcoapnggojpdaaGreatDoor
