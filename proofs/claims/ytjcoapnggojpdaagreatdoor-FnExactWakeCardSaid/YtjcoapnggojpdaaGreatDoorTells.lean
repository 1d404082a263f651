/- Texts of the proof, laid compactly. -/
import Derived.Test.YtjcoapnggojpdaaGreatDoorOpGot
import Derived.Test.YtjcoapnggojpdaaGreatDoorPlaceI
set_option maxHeartbeats 4000000
set_option maxRecDepth 100000
namespace Go.Proofs.YtjcoapnggojpdaaGreatDoor
set_option linter.unusedSimpArgs false
set_option linter.unusedVariables false
open Go.RowKit
def pO(p:aS)(g:bY)(w:di):ja :=
 if 0≤w.bK then ((l8 p (jb p g)).dw[w.bK.toNat]?).getD ⟨false,0,0,0,0⟩ else ⟨decide ((jb p g).m7=8),0,(jb p g).fB,(jb p g).fC,g.dE+1⟩
def rD(p:aS)(g:bY)(w:di):bY:={(if 0≤w.bK then dW g ⟨4,(jb p g).fA,w.bK,false⟩ else g) with ai:=1}
def BI(p:aS)(g:bY)(ch:Int)(w:di)(v:Int)(ok:Bool):bY :=
 if ((pO p g w).gI && !ok)=true then overR (rD p g w) 1
 else {(if (pO p g w).gI=true then dW (rD p g w) ⟨1,ch,w.bU,false⟩ else BJ (rD p g w) ch (pO p g w).mg (pO p g w).lM v ok) with dE:=(pO p g w).wX}
def wW(p:aS)(x:dY)(ch:Int)(w:di)(v:Int)(ok:Bool):dY:=WV (pM w.fG x) w.fG (BI p (xI x w.fG) ch w v ok)
def wOf(pl:b7):di:=⟨pl.fG,pl.bK,pl.bU⟩
def zeroE:dY:=⟨[],[],[]⟩
def lZ(p:aS)(x:dY)(ch:Int)(w:di):Bool:=let l:=mi p (xI x w.fG) w.fG;decide (0<l.count (um ch true w)+l.count (um ch false w))
def jl(p:aS)(x:dY)(ch:Int)(w:di)(v:Int):Bool:=sV p x&&(okV v&&(decide (0≤w.fG∧w.fG<x.bJ.length)&&lZ p x ch w))
def l_(p:aS)(x:dY)(ch:Int)(w:di)(v:Int)(ok:Bool):dY:=if jl p x ch w v=true then wW p x ch w v ok else zeroE
structure Ph (p:aS) (g:bY) (w:di):Prop where
 at_:0≤g.dE∧g.dE<dn p g.ax
 Zt:0≤w.bK→0≤(jb p g).fA∧(jb p g).fA<p.dR.length∧w.bK<(l8 p (jb p g)).dw.length
theorem AV(p:aS)(q:Int):dn p q≤dV p:=by
 unfold dn;split
 ·rename_i h
  have hk:q.toNat<p.dP.length:=(by omega);rw[zG hk];have h1:=dI g7 (zS hk);have h2:g7 (p.dP[q.toNat]'hk)=(p.dP[q.toNat]'hk).jT.length:=rfl;unfold dV;simp only;omega
 ·omega
theorem VK{g:bY}{n k:Int}{c:ja}{x:b7}(h:x∈iL g n k c):x.fG=n∧x.bK=k∧x.nS=false:=by
 unfold iL at h;split at h
 ·cases h
 ·simp only[List.mem_singleton] at h;subst h;exact⟨rfl,rfl,rfl⟩
theorem TC{p:aS}{g:bY}{n:Int}{x:b7}(h:x∈jR p g n):x.fG=n∧(x.bK = -1∨((jb p g).m7=11∧0≤x.bK∧x.bK<(l8 p (jb p g)).dw.length)):=by
 unfold jR at h;split at h
 ·split at h
  ·cases h
  ·simp only[List.mem_singleton] at h;subst h;exact⟨rfl,.inl rfl⟩
 ·split at h
  ·split at h
   ·cases h
   ·simp only[List.mem_singleton] at h;subst h;exact⟨rfl,.inl rfl⟩
  ·split at h
   ·rename_i h11
    unfold jy at h;obtain⟨j,hj,hx⟩:=List.mem_flatMap.1 h;have Ii:=List.mem_range.1 hj;rw[zG Ii] at hx;obtain⟨h1,h2,-⟩:=VK hx;exact⟨h1,.inr ⟨h11,by omega,by omega⟩⟩
   ·split at h
    ·simp only[List.mem_singleton] at h;subst h;exact⟨rfl,.inl rfl⟩
    ·cases h
theorem Qw{p:aS}{gs:List bY}{k:Nat}{x:b7}(h:x∈nX p gs k):∃(j:Nat) (hj:j<gs.length),x∈toldOf p gs[j] j:=by
 unfold nX at h;obtain⟨j,hj,hx⟩:=List.mem_flatMap.1 h;cases hg:gs[j]? with
 |none=>rw[hg] at hx;cases hx
 |some g =>
  rw[hg] at hx;obtain⟨hl,rfl⟩:=zO.1 hg;exact⟨j,hl,hx⟩
theorem I1{p:aS}{x:dY}(h:sV p x=true){pl:b7}(hm:pl∈Cb p x):0≤pl.fG∧pl.fG<x.bJ.length∧(xI x pl.fG).ai=2∧Ph p (xI x pl.fG) (wOf pl):=by
 obtain⟨j,hj,hx⟩:=Qw hm;unfold toldOf at hx;split at hx
 ·rename_i hst
  obtain⟨h1,h2⟩:=TC hx;rw[h1,mD hj];have hg:=xK (lQ h).2.1 (zS hj);have hat:=(nT hg).1;have hp:=(lQ h).1;refine⟨by omega,by omega,hst,hat,fun hc => ?_⟩;have hc':0≤pl.bK:=hc;rcases h2 with h2|⟨h11,h3,h4⟩
  ·omega
  ·have h5:=((ql hp hat).2.2.1 h11).1;exact⟨h5.1,h5.2,h4⟩
 ·cases hx
theorem QO{w:World}{mx sd:Bool}{ob xg xc xv ch wg wc wv:Int}{b1 b2:Nat}(h1:w.heap[b1]? =some (.cells #[.int .i64 ch] 3 (0,0)))(h2:w.heap[b2]? =some (.cells #[.int .i64 wg,.int .i64 wc,.int .i64 wv] 49 (0,0))) :
  Calls Tryz.prog 120 #[.agg #[.bool mx,.int .i64 ob,.bool sd,.int .i64 xg,.int .i64 xc,.int .i64 xv],.pointer (some ⟨b1,0,none⟩),.pointer (some ⟨b2,0,none⟩)] w fun e w'=>e=.returned (.bool (!mx&&(decide (ob=ch)&&decide (xg=wg∧xc=wc∧xv=wv))))∧Below w.heap.size w w':=by
 have hB:Below w.heap.size w (w.alloc (.cells #[.bool mx,.int .i64 ob,.bool sd,.int .i64 xg,.int .i64 xc,.int .i64 xv] 94)):=(zD _ _).alloc (zC _) _;have hx:=ak w #[.bool mx,.int .i64 ob,.bool sd,.int .i64 xg,.int .i64 xc,.int .i64 xv] 94;have hs:w.heap.size+1=(w.alloc (.cells #[.bool mx,.int .i64 ob,.bool sd,.int .i64 xg,.int .i64 xc,.int .i64 xv] 94)).heap.size:=(by simp);have l1:=dM h1;have l2:=dM h2;go_enter Tryz.func120,Tryz.ntmps120
 go_upto_region 1 with (fail)
 generalize (w.alloc (.cells #[.bool mx,.int .i64 ob,.bool sd,.int .i64 xg,.int .i64 xc,.int .i64 xv] 94))=w1 at *;generalize hq:w.heap.size=q at *;have r1:=l5 hB;have c1:=ed h1;have c2:=ed h2;have cx:=ed hx;have lx:q<w1.heap.size:=(by omega);have m1:b1<w1.heap.size:=(by omega);have m2:b2<w1.heap.size:=(by omega);subst hq;cases mx
 ·by_cases ho:ob=ch
  ·subst ho;by_cases h3:xg=wg
   ·by_cases h4:xc=wc
    ·by_cases h5:xv=wv
     ·subst h3 h4 h5;go_wp2_with fail
      go_ret;exact⟨by simp,hB⟩
     ·subst h3 h4;have h9:(xv==wv)=false:=(by simp[h5]);go_wp2_with fail
      go_ret;exact⟨by simp[h5],hB⟩
    ·subst h3;have h9:(xc==wc)=false:=(by simp[h4]);go_wp2_with fail
     go_ret;exact⟨by simp[h4],hB⟩
   ·have h9:(xg==wg)=false:=(by simp[h3]);go_wp2_with fail
    go_ret;exact⟨by simp[h3],hB⟩
  ·have h9:(ob==ch)=false:=(by simp[ho]);go_wp2_with fail
   go_ret;exact⟨by simp[ho],hB⟩
 ·go_wp2_with fail
  go_ret;exact⟨by simp,hB⟩
theorem Je:Enters 120:=enters_of Tryz.func120 (by kernel_rfl) (by kernel_rfl)
theorem OG{f:Nat}(hf:Enters f){cap:Array Value}{p:b7→Bool}{w:World}{hi n c:Nat}{A:Option Addr}{ds:List b7}(h:a_ lU w hi A n ds)(cu:hi≤w.heap.size)(hn:n≤4194304)(hp:∀W d,Below w.heap.size w W→Calls Tryz.prog f (#[.agg (uZ d).toArray]++cap) W fun e W'=>e=.returned (.bool (p d))∧Below W.heap.size W W') :
  Calls Tryz.prog 205 #[.slice A n c,.func (.func f) #[] cap] w fun e w'=>(∃r:Int,e=.returned (.int .i64 r)∧(0≤r↔ds.any p=true))∧Below w.heap.size w w':=by
 have HL:=zA h.1;go_enter Tryz.func205,Tryz.ntmps205
 go_wp2_with fail
 go_loopw[8] (fun i wr=>∃k:Nat,k≤n∧i=.int .i64 k∧(ds.take k).any p=false∧Below w.heap.size w wr) (fun i _=>n-(intOf i).toNat)
 case atStart=>exact⟨0,zL _,rfl,by simp,zD _ _⟩
 case round =>
  obtain⟨k,hk,rfl,hno,hb⟩:=hrel;by_cases hlt:k<n
  ·obtain⟨hx,g,og,vs,rfl,hg,⟨rfl,hw⟩,hcell⟩:=(h.below hb cu).at_ hlt;have hz:=hb.size;have HP:=zA hp;have jh:=zG hx;have hst:(ds.take (k+1)).any p=((ds.take k).any p||p ds[k]):=by rw[List.take_add_one,jh,Option.toList_some,List.any_append];simp
   have aer:p ds[k]=true→ds.any p=true:=fun h=>List.any_eq_true.2 ⟨_,zS hx,h⟩
   generalize ds[k]=d at *;have dK:=hcell 0 _ rfl;have eu:=hcell 1 _ rfl;have ig:=hcell 2 _ rfl;have jf:=hcell 3 _ rfl;have lS:=hcell 4 _ rfl;have WJ:=hcell 5 _ rfl;simp only[show lU.size=6 from rfl,←zH,zI] at dK eu ig jf lS WJ;have hg2:g<wr.heap.size:=(by omega);have jJ:(0:Int)≤(k:Int):=(by omega);have u_:(k:Int)<(n:Int):=(by omega);have HB:=zA hb;have HST:=zA hst;have aju:=zA aer;clear hcell hw hp h hst aer jh;go_wp2_with fail
   rw[hf,Oper.upon_enter];refine (HP.out _ d HB.out).mono ?_;rintro e w1 ⟨rfl,hb1⟩;have iC:=zA (HB.out.trans (hb1.mono (by omega)));clear hb1 dK eu ig jf lS WJ;cases hq:p d
   ·go_wp2_with fail
    go_roundw
    case rel=>exact⟨k+1,by omega,by go_num,by rw[HST.out,hno,hq];rfl,iC.out⟩
    case measure=>simp[intOf];omega
   ·go_wp2_with fail
    go_ret;exact⟨⟨k,rfl,by simp only[aju.out hq,iff_true];omega⟩,iC.out⟩
  ·obtain rfl:k=n:=(by omega);rw[zU (by rw[HL.out];exact zC _)] at hno;have hb:=zA hb;have hno:=zA hno;go_wp2_with fail
   go_ret;exact⟨⟨-1,rfl,by rw[hno.out];simp⟩,hb.out⟩
theorem GN{f:Nat}(hf:Enters f){cap:Array Value}{p:b7→Bool}{w:World}{hi n c:Nat}{A:Option Addr}{ds:List b7}(h:a_ lU w hi A n ds)(cu:hi≤w.heap.size)(hn:n≤4194304)(hp:∀W d,Below w.heap.size w W→Calls Tryz.prog f (#[.agg (uZ d).toArray]++cap) W fun e W'=>e=.returned (.bool (p d))∧Below W.heap.size W W') :
  Calls Tryz.prog 118 #[.slice A n c,.func (.func f) #[] cap] w fun e w'=>e=.returned (.bool (ds.any p))∧Below w.heap.size w w':=by
 have HI:=zA (OG (c:=c) hf h cu hn hp);clear h hp;go_enter Tryz.func118,Tryz.ntmps118
 go_wp2_with fail
 refine HI.out.mono ?_;rintro e w1 ⟨⟨r,rfl,hr⟩,hb1⟩;have hb:=zA hb1;have ZT:=zA hr;clear hb1 hr HI;by_cases h0:0≤r
 ·have ha:=ZT.out.1 h0;have hz:decide (0≤r)=true:=yE h0;go_wp2_with fail
  go_ret;refine⟨?_,hb.out⟩;rw[ha];first|rfl|(rw[hz])|simp_all
 ·have ha:ds.any p=false:=Bool.eq_false_iff.2 fun h=>h0 (ZT.out.2 h)
  have hz:decide (0≤r)=false:=yD h0;go_wp2_with fail
  go_ret;refine⟨?_,hb.out⟩;rw[ha];first|rfl|(rw[hz])|simp_all
def HM(p:aS)(hi:Nat)(l:PL)(F:Nat→Prop)(x:dY)(w:World)(A0:Option Addr)(n0 c0:Nat)(A1:Option Addr)(n1 c1:Nat)(A2:Option Addr)(n2 c2:Nat):Prop :=
 (aV.see w hi p (l.vs p)∧dV p≤1048576∧hi≤w.heap.size∧∀b,F b→hi≤b∧b<w.heap.size)∧iM F x w A0 n0 c0 A1 n1 c1 A2 n2 c2
def o5(p:aS)(hi:Nat)(l:PL)(F:Nat→Prop)(w:World)(x:dY)(w':World)(A0:Option Addr)(n0 c0:Nat)(A1:Option Addr)(n1 c1:Nat)(A2:Option Addr)(n2 c2:Nat):Prop :=
 au F w w'∧∃F',HM p hi l F' x w' A0 n0 c0 A1 n1 c1 A2 n2 c2∧∀b,F' b→F b∨w.heap.size≤b
section
variable {p:aS} {hi:Nat} {l:PL} {F F':Nat→Prop} {x y:dY} {w w' w'':World} {A0 A1 A2:Option Addr} {n0 c0 n1 c1 n2 c2:Nat}
theorem HM.turned(h:HM p hi l F x w A0 n0 c0 A1 n1 c1 A2 n2 c2)(ht:au F w w')(hE:iM F' y w' A0 n0 c0 A1 n1 c1 A2 n2 c2)(hF:∀b,F' b→F b∨w.heap.size≤b):o5 p hi l F w y w' A0 n0 c0 A1 n1 c1 A2 n2 c2:=by
 obtain⟨⟨hp,hn,hh,hf⟩,-⟩:=h;exact⟨ht,fun b=>F' b∧b<w'.heap.size,⟨⟨aV.keep hp fun k hk=>ht.block k (by omega) fun h=>by have:=(hf k h).1;omega,hn,zJ hh ht.size,fun b hb=>⟨by rcases hF b hb.1 with h1|h1;exact (hf b h1).1;omega,hb.2⟩⟩,hE.low⟩,fun b hb=>hF b hb.1⟩
theorem HM.up(h:HM p hi l F x w A0 n0 c0 A1 n1 c1 A2 n2 c2)(hb:yT w w'):HM p hi l F x w' A0 n0 c0 A1 n1 c1 A2 n2 c2:=by
 obtain⟨⟨hp,hn,hh,hf⟩,hE⟩:=h;exact⟨⟨aV.keep hp fun k hk=>hb.block k (by omega),hn,zJ hh hb.size,fun b hb'=>⟨(hf b hb').1,zV (hf b hb').2 hb.size⟩⟩,hE.stay (fun b _ hlt=>hb.block b hlt) hb.size⟩
theorem o5.of(h:HM p hi l F x w A0 n0 c0 A1 n1 c1 A2 n2 c2)(hb:yT w w'):o5 p hi l F w x w' A0 n0 c0 A1 n1 c1 A2 n2 c2:=⟨au.of_below hb _,F,h.up hb,fun b hb => .inl hb⟩
theorem o5.trans(h:au F w w')(hF:∀b,F' b→F b∨w.heap.size≤b)(k:o5 p hi l F' w' y w'' A0 n0 c0 A1 n1 c1 A2 n2 c2):o5 p hi l F w y w'' A0 n0 c0 A1 n1 c1 A2 n2 c2:=by
 obtain⟨t,F'',h'',aal⟩:=k;refine⟨⟨t.os.trans h.os,t.tape.trans h.tape,t.output.trans h.output,zJ h.size t.size,fun b hb hn => ?_⟩,F'',h'',fun b hb => ?_⟩
 ·refine (t.block b (zV hb h.size) fun hf => ?_).trans (h.block b hb hn);rcases hF b hf with h1|h1
  ·exact hn h1
  ·omega
 ·rcases aal b hb with h1|h1
  ·exact hF b h1
  ·exact .inr (zJ h.size h1)
theorem o5.from_(hb:yT w w')(k:o5 p hi l F w' y w'' A0 n0 c0 A1 n1 c1 A2 n2 c2):o5 p hi l F w y w'' A0 n0 c0 A1 n1 c1 A2 n2 c2:=o5.trans (au.of_below hb _) (fun b h => .inl h) k
theorem o5.cast(h:o5 p hi l F w x w' A0 n0 c0 A1 n1 c1 A2 n2 c2)(e:x=y):o5 p hi l F w y w' A0 n0 c0 A1 n1 c1 A2 n2 c2:=e ▸ h
theorem o5.pV{w1:World}{r:Nat}{u0 u1 u2:Value}(h:o5 p hi l F w1 x w' A0 n0 c0 A1 n1 c1 A2 n2 c2)(hb:yT w w1)(hr:w.heap.size≤r)(hr1:r<w1.heap.size)(hF:∀b,F b→b<w.heap.size)(cu:hi≤w.heap.size) :
  o5 p hi l F w x (((w'.setCell ⟨r,0,none⟩ u0).setCell ⟨r,1,none⟩ u1).setCell ⟨r,2,none⟩ u2) A0 n0 c0 A1 n1 c1 A2 n2 c2:=by
 obtain⟨t,F',⟨⟨hp,hn,hh,hf⟩,hE⟩,hF'⟩:=h;have hk:∀k,k≠r→(((w'.setCell ⟨r,0,none⟩ u0).setCell ⟨r,1,none⟩ u1).setCell ⟨r,2,none⟩ u2).heap[k]? =w'.heap[k]? :=fun k hk=>qF rfl hk _ _ _
 have hnr:¬F' r:=fun h=>by rcases hF' r h with h1|h1;have:=hF r h1;omega;omega
 refine⟨((au.of_below hb F).trans t).pV (.inr hr) _ _ _,F',⟨⟨aV.keep hp fun k Zv=>hk k (by omega),hn,by simp only[zM];omega,fun b hb=>⟨(hf b hb).1,by simp only[zM];exact (hf b hb).2⟩⟩,hE.stay (fun k Zv _=>hk k fun he=>hnr (he ▸ Zv)) (by simp only[zM];omega)⟩,fun b hb' => ?_⟩;rcases hF' b hb' with h1|h1
 ·exact .inl h1
 ·exact .inr (zJ hb.size h1)
theorem HM.Eo{k:Nat}(h:HM p hi l F x w A0 n0 c0 A1 n1 c1 A2 n2 c2)(hk:k<x.bJ.length) :
  ∃(g:Nat) (E2:Option Addr) (k2 e2:Nat) (E4:Option Addr) (k4 e4:Nat),A0=some ⟨g,0,none⟩ ∧
   ((F g∧g<w.heap.size∧x.bJ.length=n0∧k<n0∧x.aA.length=n1∧x.ay.length=n2) ∧
   (w.cell? ⟨g,k*5,none⟩=some (.int .i64 (x.bJ[k]).ax)∧w.cell? ⟨g,k*5+1,none⟩=some (.int .i64 (x.bJ[k]).dE)∧w.cell? ⟨g,k*5+2,none⟩=some (.slice E2 k2 e2)∧w.cell? ⟨g,k*5+3,none⟩=some (.int .i64 (x.bJ[k]).ai)∧w.cell? ⟨g,k*5+4,none⟩=some (.slice E4 k4 e4)) ∧
   (∀j,w.frozen? ⟨g,j,none⟩=false)) ∧
   aI.see w w.heap.size x.bJ[k] [.int .i64 (x.bJ[k]).ax,.int .i64 (x.bJ[k]).dE,.slice E2 k2 e2,.int .i64 (x.bJ[k]).ai,.slice E4 k4 e4] ∧
   (∀(w':World) (x':bY) (u0 u1 u2 u3 u4:Value) (qP:Nat→Prop),yT w w'→aI.own w' qP x' [u0,u1,u2,u3,u4]→(∀b,qP b→w.heap.size≤b∧b<w'.heap.size) →
    o5 p hi l F w {x with bJ:=x.bJ.set k x'} (((((w'.setCell ⟨g,k*5,none⟩ u0).setCell ⟨g,k*5+1,none⟩ u1).setCell ⟨g,k*5+2,none⟩ u2).setCell ⟨g,k*5+3,none⟩ u3).setCell ⟨g,k*5+4,none⟩ u4) A0 n0 c0 A1 n1 c1 A2 n2 c2) ∧
   (∀(w':World) (v:Int),yT w w'→(Lit.int .i64 v).wf=true→o5 p hi l F w {x with bJ:=x.bJ.set k {x.bJ[k] with dE:=v}} (w'.setCell ⟨g,k*5+1,none⟩ (.int .i64 v)) A0 n0 c0 A1 n1 c1 A2 n2 c2) ∧
   (∀(w':World) (v:Int),yT w w'→(Lit.int .i64 v).wf=true→o5 p hi l F w {x with bJ:=x.bJ.set k {x.bJ[k] with ai:=v}} (w'.setCell ⟨g,k*5+3,none⟩ (.int .i64 v)) A0 n0 c0 A1 n1 c1 A2 n2 c2):=by
 have h0:=h;obtain⟨⟨hp,hn,hh,hF⟩,hE⟩:=h;have hl:=hE.lens;obtain⟨hx0,g,Gi,E2,k2,e2,E4,k4,e4,rfl,hFg,BG,MP,hel,ve,hq,hfree,hput,Ro,hst⟩:=hE.acU (k:=k) (by omega);refine⟨g,E2,k2,e2,E4,k4,e4,rfl,⟨⟨hFg,BG,hl.1,by omega,hl.2.1,hl.2.2⟩,hq,hfree⟩,aI.seen (hi:=w.heap.size) hel fun b hb=>(ve b hb).2,?_,?_,?_⟩
 ·intro w' x' u0 u1 u2 u3 u4 qP hB ho hG;exact h0.turned ((au.of_below hB F).xN (.inl hFg) _ _ _ _ _) (hput w' x' u0 u1 u2 u3 u4 qP (fun b _ hlt=>hB.block b hlt) hB.size ho fun b hb=>⟨(hG b hb).2,.inr (hG b hb).1⟩) fun b hb=>hb.imp_right fun h=>(hG b h).1
 ·intro w' v hB hv;exact h0.turned ((au.of_below hB F).zu (.inl hFg) _) (Ro w' v (fun b _ hlt=>hB.block b hlt) hB.size hv) fun b hb => .inl hb
 ·intro w' v hB hv;exact h0.turned ((au.of_below hB F).zu (.inl hFg) _) (hst w' v (fun b _ hlt=>hB.block b hlt) hB.size hv) fun b hb => .inl hb
end
end Go.Proofs.YtjcoapnggojpdaaGreatDoor
