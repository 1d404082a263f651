/- Texts of the proof, laid compactly. -/
import Derived.Test.YtjcoapnggojpdaaGreatDoorChanCopyS
set_option maxHeartbeats 4000000
set_option maxRecDepth 100000
namespace Go.Proofs.YtjcoapnggojpdaaGreatDoor
set_option linter.unusedSimpArgs false
set_option linter.unusedVariables false
open Go.RowKit
def qY(i:iK):Bool:=decide (i.d_=9)||decide (i.d_=10)
def xB:Int→List iK→Option Int
 |m,[]=>some m
 |m,i::t=>if decide (m≠0) || !dZ i then none else xB (if qY i then i.d_ else m) t
def RH(o:Option Int)(en:Int):Bool:=match o with|none=>false|some m=>decide (m=en)
def Vs(st:Int):Int:=if st=3 then 9 else if st=4 then 10 else 0
def z8(n k:Nat)(i:iK):Bool:=dZ i && !(qY i&&decide ((k:Int)<(n:Int)-1))
def lI(n:Nat):Nat→List iK→Bool
 |_,[]=>true
 |k,i::t=>z8 n k i&&lI n (k+1) t
def w_:List iK→Int
 |[]=>0
 |[i]=>i.d_
 |_::j::t=>w_ (j::t)
def wI(tr:List iK)(st:Int):Bool:=lI tr.length 0 tr&&((decide (w_ tr=9)==decide (st=3))&&(decide (w_ tr=10)==decide (st=4)))
def eK(k:Int):Int:=if k=9∨k=10 then k else 0
theorem RI:∀(t:List iK) (n k:Nat),n=k+t.length→xB 0 t=if lI n k t then some (eK (w_ t)) else none
 |[],n,k,_=>by simp[xB,lI,w_,eK]
 |i::t,n,k,hn=>by
  simp only[yB] at hn;cases hi:dZ i
  ·simp[xB,lI,z8,hi]
  ·cases he:qY i
   ·have ih:=RI t n (k+1) (by omega);have h1:xB 0 (i::t)=xB 0 t:=(by simp[xB,hi,he]);have h2:lI n k (i::t)=lI n (k+1) t:=(by simp[lI,z8,hi,he]);rw[h1,h2,ih];cases t with
    |nil =>
     have:eK i.d_=0:=by
      unfold qY at he;simp at he;unfold eK;rw[yF (by omega)]
     simp only[lI,w_,this,if_true];rfl
    |cons j t=>simp[w_]
   ·have hk:i.d_=9∨i.d_=10:=by
     unfold qY at he;simpa using he
    cases t with
    |nil =>
     simp only[yC] at hn;have h2:z8 n k i=true:=by simp[z8,hi];right;omega
     simp[xB,hi,he,lI,h2,w_,eK,hk]
    |cons j t =>
     simp only[yB] at hn;have h2:z8 n k i=false:=by
      simp only[z8,hi,he,Bool.true_and];rw[show decide ((k:Int)<(n:Int)-1)=true from yE (by omega)];rfl
     have h3:i.d_≠0:=(by omega);simp[xB,hi,he,lI,h2,h3]
theorem XH{tr:List iK}{st:Int}(h:1≤st∧st≤4):RH (xB 0 tr) (Vs st)=wI tr st:=by
 rw[RI tr tr.length 0 (by omega)];unfold wI;cases lI tr.length 0 tr
 ·rfl
 ·simp only[if_true,RH,Bool.true_and];generalize w_ tr=L;have hs:st=1∨st=2∨st=3∨st=4:=(by omega);by_cases h9:L=9
  ·subst h9;rcases hs with rfl|rfl|rfl|rfl <;> decide
  ·by_cases h10:L=10
   ·subst h10;rcases hs with rfl|rfl|rfl|rfl <;> decide
   ·rw[show eK L=0 from yF (by omega)];rw[show decide (L=9)=false from yD h9,show decide (L=10)=false from yD h10];rcases hs with rfl|rfl|rfl|rfl <;> decide
theorem JG:∀(tr:List iK) (h:0<tr.length),w_ tr=(tr[tr.length-1]'(by omega)).d_
 |[i],_=>rfl
 |_::j::t,_=>by
  have:=JG (j::t) (by simp);simp only[w_,this];simp
def nJ(n:Int)(g:bY):Bool:=decide (0≤g.dE∧g.dE<n)&&(decide (g.gJ.length=6)&&(decide (1≤g.ai∧g.ai≤4)&&(g.gJ.all okV&&wI g.jv g.ai)))
theorem Dq(v:Int)(w:World):Calls Tryz.prog 179 #[.int .i64 v] w fun e w'=>e=.returned (.bool (decide (1≤v∧v≤4)))∧w=w':=by
 by_cases h0:1≤v
 ·by_cases h1:v≤4
  ·rw[show decide (1≤v∧v≤4)=true from yE ⟨h0,h1⟩];go_enter Tryz.func179,Tryz.ntmps179
   go_wp2
   go_ret;exact⟨rfl,rfl⟩
  ·rw[show decide (1≤v∧v≤4)=false from yD (fun h=>h1 h.2)];have h2:decide (v≤4)=false:=yD h1;clear h1;go_enter Tryz.func179,Tryz.ntmps179
   go_wp2
   go_ret;exact⟨rfl,rfl⟩
 ·rw[show decide (1≤v∧v≤4)=false from yD (fun h=>h0 h.1)];have h2:decide (1≤v)=false:=yD h0;clear h0;go_enter Tryz.func179,Tryz.ntmps179
  go_wp2
  go_ret;exact⟨rfl,rfl⟩
theorem N4(v:Int)(w:World):Calls Tryz.prog 181 #[.int .i64 v] w fun e w'=>e=.returned (.int .i64 (Vs v))∧w=w':=by
 by_cases h3:v=3
 ·subst h3;go_enter Tryz.func181,Tryz.ntmps181
  go_wp2
  go_ret;exact⟨rfl,rfl⟩
 ·by_cases h4:v=4
  ·subst h4;go_enter Tryz.func181,Tryz.ntmps181
   go_wp2
   go_ret;exact⟨rfl,rfl⟩
  ·rw[show Vs v=0 by simp[Vs,h3,h4]];go_enter Tryz.func181,Tryz.ntmps181
   go_wp2
   go_ret;exact⟨rfl,rfl⟩
theorem N5{w:World}{hi n c:Nat}{A:Option Addr}{tr:List iK}{en:Int}(h:a_ cZ w hi A n tr)(cu:hi≤w.heap.size)(hn:n≤1048576)(hC:ni w) :
  Calls Tryz.prog 180 #[.slice A n c,.int .i64 en] w fun e w'=>e=.returned (.bool (RH (xB 0 tr) en))∧yT w w':=by
 have HL:=zA h.1;have HC:=zA hC;clear hC;obtain⟨R,hR⟩:∃R,R=xB 0 tr:=⟨_,rfl⟩
 rw[←hR];have HR:=zA hR;clear hR;go_enter Tryz.func180,Tryz.ntmps180
 go_wp2_with fail
 go_loopw[5,10] (fun q i wr=>∃(k:Nat) (m:Int),k≤n∧i=.int .i64 k∧q=.int .i64 m∧RowKit.Hid (R=xB m (tr.drop k))∧yT w wr) (fun _ i _=>n-(intOf i).toNat)
 case atStart=>exact⟨0,0,zL _,rfl,rfl,zA (by rw[HR.out];rfl),zD _ _⟩
 case round =>
  obtain⟨k,m,hk,rfl,rfl,hm,hb⟩:=hrel;by_cases hlt:k<n
  ·obtain⟨hx,g,o,vs,rfl,hg,⟨rfl,hw⟩,hcell⟩:=(h.below hb cu).at_ hlt;have HD:=zA (show tr.drop k=tr[k]::tr.drop (k+1) from List.drop_eq_getElem_cons hx);have hz:=hb.size;generalize tr[k]=d at *;obtain⟨kd,od,vd,K8⟩:=d;have HM:=zA (show R=if decide (m≠0) || !dZ ⟨kd,od,vd,K8⟩ then none else xB (if qY ⟨kd,od,vd,K8⟩ then kd else m) (tr.drop (k+1)) by rw[hm.out,HD.out];rfl);have HWV:=zA hw.2.2;have dK:=hcell 0 _ rfl;have eu:=hcell 1 _ rfl;have ig:=hcell 2 _ rfl;have jf:=hcell 3 _ rfl;simp only[show cZ.size=4 from rfl,←zH,zI,zK] at dK eu ig jf;clear hcell hw h hm HD;have uO:=zA (hb.alloc (by omega) (.cells #[.int .i64 kd,.int .i64 od,.int .i64 vd,.bool K8] 171));have hgw:g<wr.heap.size:=(by omega);by_cases hm0:m=0
   ·subst hm0;go_wp2_with fail
    refine (FV (x:=⟨kd,od,vd,K8⟩) (lT HC.out uO.out (zC _)) HWV.out).mono ?_;rintro e w1 ⟨rfl,hb1⟩;have oG:=af (ak wr #[.int .i64 kd,.int .i64 od,.int .i64 vd,.bool K8] 171) hb1 (by simp);have e0:=ae (j:=0) oG rfl;have iC:=zA (uO.out.trans (hb1.mono (by simp;omega)));clear hb1 oG dK eu ig jf hb;cases hq:dZ ⟨kd,od,vd,K8⟩
    ·rw[hq] at HM;go_wp2_with fail
     go_ret;exact⟨by rw[HM.out];rfl,iC.out⟩
    ·rw[hq] at HM;by_cases h9:kd=9
     ·subst h9;have HN:=zA (show R=xB 9 (tr.drop (k+1)) by rw[HM.out];rfl);clear HM hq;go_wp2_with fail
      go_roundw
      case rel=>exact⟨k+1,9,by omega,by go_num,rfl,HN,iC.out⟩
      case measure=>simp[intOf];omega
     ·by_cases h10:kd=10
      ·subst h10;have HN:=zA (show R=xB 10 (tr.drop (k+1)) by rw[HM.out];rfl);clear HM hq;go_wp2_with fail
       go_roundw
       case rel=>exact⟨k+1,10,by omega,by go_num,rfl,HN,iC.out⟩
       case measure=>simp[intOf];omega
      ·have HN:=zA (show R=xB 0 (tr.drop (k+1)) by rw[HM.out];simp[qY,h9,h10]);have b9:(kd==9)=false:=by simpa using h9
       have b10:(kd==10)=false:=by simpa using h10
       clear HM hq;go_wp2_with fail
       go_roundw
       case rel=>exact⟨k+1,0,by omega,by go_num,rfl,HN,iC.out⟩
       case measure=>simp[intOf];omega
   ·have hmb:(m != 0)=true:=by simpa using hm0
    have HN:=zA (show R=none by rw[HM.out];simp[hm0]);clear HM;go_wp2_with fail
    go_ret;exact⟨by rw[HN.out];rfl,uO.out⟩
  ·go_wp2_with fail
   go_ret;obtain rfl:k=n:=(by omega);refine⟨?_,hb⟩;rw[hm.out,List.drop_of_length_le (by rw[HL.out];exact zC _)];rfl
theorem K9{w:World}{hi:Nat}{x:bY}{vs:List Value}(h:aI.see w hi x vs)(cu:hi≤w.heap.size)(hn:bV x≤1048576) :
  Calls Tryz.prog 189 #[.agg vs.toArray] w fun e w'=>e=.returned (.bool (wI x.jv x.ai))∧yT w w':=by
 obtain⟨A2,n2,c2,A4,n,c4,rfl,-,-,⟨hc2,jY,s2⟩,-,⟨hc4,hm4,s4⟩⟩:=gK h;obtain⟨pr,pc,regs,st,tr⟩:=x;have l4:=s4.1;simp only at l4 s4;have KR:n≤1048576:=by unfold bV at hn;simp at hn;omega
 have HL:=zA l4;clear s2 h hn l4;simp only;obtain⟨AL,hAL⟩:∃AL,AL=lI n 0 tr:=⟨_,rfl⟩
 obtain⟨LK,hLK⟩:∃LK,LK=w_ tr:=⟨_,rfl⟩
 have HR:=zA (show wI tr st=(AL&&((decide (LK=9)==decide (st=3))&&(decide (LK=10)==decide (st=4)))) by rw[hAL,hLK];unfold wI;rw[HL.out]);obtain⟨R,hR⟩:∃R,R=wI tr st:=⟨_,rfl⟩
 rw[←hR];have Vt:=zA (hR.trans HR.out);have HAL:=zA hAL;have HLK:=zA hLK;clear hAL hLK HR hR;have oG:=ak w #[.int .i64 pr,.int .i64 pc,.slice A2 n2 c2,.int .i64 st,.slice A4 n c4] 69;have HX:=zA oG;have gW:=zA ((zD w.heap.size w).alloc (zC _) (.cells #[.int .i64 pr,.int .i64 pc,.slice A2 n2 c2,.int .i64 st,.slice A4 n c4] 69));have Jz:=zA (show Below (w.heap.size+1) (w.alloc (.cells #[.int .i64 pr,.int .i64 pc,.slice A2 n2 c2,.int .i64 st,.slice A4 n c4] 69)) (w.alloc (.cells #[.int .i64 pr,.int .i64 pc,.slice A2 n2 c2,.int .i64 st,.slice A4 n c4] 69)) from zD _ _);have hz0:w.heap.size+1≤(w.alloc (.cells #[.int .i64 pr,.int .i64 pc,.slice A2 n2 c2,.int .i64 st,.slice A4 n c4] 69)).heap.size:=(by simp);have p4:=ae (j:=4) oG rfl;clear oG;go_enter Tryz.func189,Tryz.ntmps189
 go_upto_region 1 with (fail)
 generalize (w.alloc (.cells #[.int .i64 pr,.int .i64 pc,.slice A2 n2 c2,.int .i64 st,.slice A4 n c4] 69))=W0 at *;go_wp2_with fail
 clear p4;go_loopw[10] (fun i wr=>∃(k:Nat),k≤n∧i=.int .i64 k∧RowKit.Hid (AL=lI n k (tr.drop k))∧Below (w.heap.size+1) W0 wr) (fun i _=>n-(intOf i).toNat)
 case atStart=>exact⟨0,zL _,rfl,zA (by rw[HAL.out];rfl),Jz.out⟩
 case round =>
  obtain⟨k,hk,rfl,hm,hb⟩:=hrel;have Eu:=hb.size;have hbX:=af HX.out hb (by omega);by_cases hlt:k<n
  ·obtain⟨hx,g,o,vs,rfl,hg,⟨rfl,hw⟩,hcell⟩:=(s4.below (gW.out.trans (hb.mono (by omega))) cu).at_ hlt;have HD:=zA (show tr.drop k=tr[k]::tr.drop (k+1) from List.drop_eq_getElem_cons hx);generalize tr[k]=d at *;obtain⟨kd,od,vd,K8⟩:=d;have HM:=zA (show AL=(z8 n k ⟨kd,od,vd,K8⟩&&lI n (k+1) (tr.drop (k+1))) by rw[hm.out,HD.out];rfl);have dK:=hcell 0 _ rfl;have eu:=hcell 1 _ rfl;have ig:=hcell 2 _ rfl;have jf:=hcell 3 _ rfl;simp only[show cZ.size=4 from rfl,←zH,zI,zK] at dK eu ig jf;clear hcell hw hm HD s4;have uO:=zA (hb.alloc (by omega) (.cells #[.int .i64 kd,.int .i64 od,.int .i64 vd,.bool K8] 171));have hgw:g<wr.heap.size:=(by omega);have hxw:w.heap.size<wr.heap.size:=(by omega);have px4:=ae (j:=4) hbX rfl;clear hbX;by_cases h9:kd=9
   ·subst h9;go_wp2_with fail
    refine (sK (x:=⟨9,od,vd,K8⟩)).mono ?_;rintro e w1 ⟨rfl,hb1⟩;have hz1:=hb1.size;simp only[zF] at hz1;have ZB:=af (ak wr #[.int .i64 9,.int .i64 od,.int .i64 vd,.bool K8] 171) hb1 (by simp);have e0:=ae (j:=0) ZB rfl;have iC:=zA (uO.out.trans (hb1.mono (by simp;omega)));have adv:=ae (j:=4) (af HX.out iC.out (by omega)) rfl;have nK:=zA (gW.out.trans (iC.out.mono (by omega)));clear hb1 ZB dK eu ig jf hb px4;cases hq:dZ ⟨9,od,vd,K8⟩
    ·have HN:=zA (show AL=false by rw[HM.out];simp[z8,hq]);clear HM hq;go_wp2_with fail
     go_ret;exact⟨by rw[Vt.out,HN.out];rfl,nK.out⟩
    ·by_cases hl:(k:Int)<(n:Int)-1
     ·have HN:=zA (show AL=false by rw[HM.out];simp[z8,hq,qY,hl]);clear HM hq;go_wp2_with fail
      go_ret;exact⟨by rw[Vt.out,HN.out];rfl,nK.out⟩
     ·have HN:=zA (show AL=lI n (k+1) (tr.drop (k+1)) by rw[HM.out];simp[z8,hq,qY,hl]);clear HM hq;go_wp2_with fail
      go_roundw
      case rel=>exact⟨k+1,by omega,by go_num,HN,iC.out⟩
      case measure=>simp[intOf];omega
   ·have b9:(kd==9)=false:=by simpa using h9
    by_cases h10:kd=10
    ·subst h10;go_wp2_with fail
     refine (sK (x:=⟨10,od,vd,K8⟩)).mono ?_;rintro e w1 ⟨rfl,hb1⟩;have hz1:=hb1.size;simp only[zF] at hz1;have ZB:=af (ak wr #[.int .i64 10,.int .i64 od,.int .i64 vd,.bool K8] 171) hb1 (by simp);have e0:=ae (j:=0) ZB rfl;have iC:=zA (uO.out.trans (hb1.mono (by simp;omega)));have adv:=ae (j:=4) (af HX.out iC.out (by omega)) rfl;have nK:=zA (gW.out.trans (iC.out.mono (by omega)));clear hb1 ZB dK eu ig jf hb px4;cases hq:dZ ⟨10,od,vd,K8⟩
     ·have HN:=zA (show AL=false by rw[HM.out];simp[z8,hq]);clear HM hq;go_wp2_with fail
      go_ret;exact⟨by rw[Vt.out,HN.out];rfl,nK.out⟩
     ·by_cases hl:(k:Int)<(n:Int)-1
      ·have HN:=zA (show AL=false by rw[HM.out];simp[z8,hq,qY,hl]);clear HM hq;go_wp2_with fail
       go_ret;exact⟨by rw[Vt.out,HN.out];rfl,nK.out⟩
      ·have HN:=zA (show AL=lI n (k+1) (tr.drop (k+1)) by rw[HM.out];simp[z8,hq,qY,hl]);clear HM hq;go_wp2_with fail
       go_roundw
       case rel=>exact⟨k+1,by omega,by go_num,HN,iC.out⟩
       case measure=>simp[intOf];omega
    ·have b10:(kd==10)=false:=by simpa using h10
     go_wp2_with fail
     refine (sK (x:=⟨kd,od,vd,K8⟩)).mono ?_;rintro e w1 ⟨rfl,hb1⟩;have hz1:=hb1.size;simp only[zF] at hz1;have ZB:=af (ak wr #[.int .i64 kd,.int .i64 od,.int .i64 vd,.bool K8] 171) hb1 (by simp);have e0:=ae (j:=0) ZB rfl;have iC:=zA (uO.out.trans (hb1.mono (by simp;omega)));have adv:=ae (j:=4) (af HX.out iC.out (by omega)) rfl;have nK:=zA (gW.out.trans (iC.out.mono (by omega)));clear hb1 ZB dK eu ig jf hb px4;cases hq:dZ ⟨kd,od,vd,K8⟩
     ·have HN:=zA (show AL=false by rw[HM.out];simp[z8,hq]);clear HM hq;go_wp2_with fail
      go_ret;exact⟨by rw[Vt.out,HN.out];rfl,nK.out⟩
     ·have HN:=zA (show AL=lI n (k+1) (tr.drop (k+1)) by rw[HM.out];simp[z8,hq,qY,h9,h10]);clear HM hq;go_wp2_with fail
      go_roundw
      case rel=>exact⟨k+1,by omega,by go_num,HN,iC.out⟩
      case measure=>simp[intOf];omega
  ·obtain rfl:k=n:=(by omega);have HA:=zA (show AL=true by rw[hm.out,List.drop_of_length_le (by rw[HL.out];exact zC _)];rfl);have p3:=ae (j:=3) hbX rfl;have p4:=ae (j:=4) hbX rfl;have nK:=zA (gW.out.trans (hb.mono (by omega)));rcases Nat.eq_zero_or_pos k with h0|h0
   ·subst h0;have HK:=zA (show LK=0 by rw[HLK.out,List.length_eq_zero_iff.1 HL.out];rfl);have HF:=zA (show R=(((0:Int)==9)==(st==3)&&((0:Int)==10)==(st==4)) by rw[Vt.out,HA.out,HK.out];rfl);clear Vt HA HK HAL HLK;by_cases h3:st=3
    ·subst h3;go_wp2_with fail
     go_ret;exact⟨by rw[HF.out];simp[*],nK.out⟩
    ·have b3:(st==3)=false:=by simpa using h3
     by_cases h4:st=4
     ·subst h4;go_wp2_with fail
      go_ret;exact⟨by rw[HF.out];simp[*],nK.out⟩
     ·have b4:(st==4)=false:=by simpa using h4
      go_wp2_with fail
      go_ret;exact⟨by rw[HF.out];simp[*],nK.out⟩
   ·obtain⟨hx,g,o,vs,rfl,hg,⟨rfl,hw⟩,hcell⟩:=(s4.below nK.out cu).at_ (i:=k-1) (by omega);have HK:=zA (show LK=tr[k-1].d_ by rw[HLK.out,JG tr (by rw[HL.out];exact h0)];simp only[HL.out]);generalize tr[k-1]=d at *;obtain⟨kd,od,vd,K8⟩:=d;obtain⟨q,rfl⟩:∃q,k=q+1:=⟨k-1,by omega⟩
    have dK:=hcell 0 _ rfl;simp only[show cZ.size=4 from rfl,←zH,zI,zK,Nat.add_sub_cancel] at dK;have hgw:g<wr.heap.size:=(by omega);clear hcell hw s4;have HF:=zA (show R=((kd==9)==(st==3)&&(kd==10)==(st==4)) by rw[Vt.out,HA.out,HK.out];rfl);clear Vt HA HK HAL HLK;by_cases h3:st=3
    ·subst h3;by_cases k9:kd=9
     ·subst k9;go_wp2_with fail
      go_ret;exact⟨by rw[HF.out];simp[*],nK.out⟩
     ·have c9:(kd==9)=false:=by simpa using k9
      by_cases MV:kd=10
      ·subst MV;go_wp2_with fail
       go_ret;exact⟨by rw[HF.out];simp[*],nK.out⟩
      ·have c10:(kd==10)=false:=by simpa using MV
       go_wp2_with fail
       go_ret;exact⟨by rw[HF.out];simp[*],nK.out⟩
    ·have b3:(st==3)=false:=by simpa using h3
     by_cases h4:st=4
     ·subst h4;by_cases k9:kd=9
      ·subst k9;go_wp2_with fail
       go_ret;exact⟨by rw[HF.out];simp[*],nK.out⟩
      ·have c9:(kd==9)=false:=by simpa using k9
       by_cases MV:kd=10
       ·subst MV;go_wp2_with fail
        go_ret;exact⟨by rw[HF.out];simp[*],nK.out⟩
       ·have c10:(kd==10)=false:=by simpa using MV
        go_wp2_with fail
        go_ret;exact⟨by rw[HF.out];simp[*],nK.out⟩
     ·have b4:(st==4)=false:=by simpa using h4
      by_cases k9:kd=9
      ·subst k9;go_wp2_with fail
       go_ret;exact⟨by rw[HF.out];simp[*],nK.out⟩
      ·have c9:(kd==9)=false:=by simpa using k9
       by_cases MV:kd=10
       ·subst MV;go_wp2_with fail
        go_ret;exact⟨by rw[HF.out];simp[*],nK.out⟩
       ·have c10:(kd==10)=false:=by simpa using MV
        go_wp2_with fail
        go_ret;exact⟨by rw[HF.out];simp[*],nK.out⟩
end Go.Proofs.YtjcoapnggojpdaaGreatDoor
