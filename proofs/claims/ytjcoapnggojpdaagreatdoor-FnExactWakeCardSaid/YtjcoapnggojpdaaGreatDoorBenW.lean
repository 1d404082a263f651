/- Texts of the proof, laid compactly. -/
import Derived.Test.YtjcoapnggojpdaaGreatDoorBenG
import Derived.Test.YtjcoapnggojpdaaGreatDoorTellsW
set_option maxHeartbeats 4000000
set_option maxRecDepth 100000
namespace Go.Proofs.YtjcoapnggojpdaaGreatDoor
set_option linter.unusedSimpArgs false
set_option linter.unusedVariables false
open Go.RowKit
def yw(p:aS)(g:bY)(cs:Int):bY:=if 0≤cs then dW {g with ai:=1} ⟨4,(jb p g).fA,cs,false⟩ else {g with ai:=1}
def wP(c:ja)(y:bY)(v:Int)(ok:Bool):bY :=
 if c.gI=false then {dQ (dQ (dW y ⟨2,c.gU,v,ok⟩) c.mg v) c.lM (Iq ok) with dE:=c.wX}
 else if ok=true then {dW y ⟨1,c.gU,ji y c.mg,false⟩ with dE:=c.wX} else overR y 1
def Gt(p:aS)(g:bY)(cs v:Int)(ok:Bool):bY:=wP (iI p g cs) (yw p g cs) v ok
theorem kU.cast{p:aS}{hi bb:Nat}{l:PL}{F:Nat→Prop}{x y:dY}{w w':World}(h:kU p hi bb l F w x w')(e:x=y):kU p hi bb l F w y w':=e ▸ h
theorem Gu{α:Type}(f:α→Nat):∀{l:List α} {k:Nat} (hk:k<l.length) (y:α),((l.set k y).map f).sum+f l[k]=(l.map f).sum+f y:=by
 intro l;induction l with
 |nil=>intro k hk;simp at hk
 |cons a l ih =>
  intro k hk y;cases k with
  |zero=>simp;omega
  |succ k =>
   have:=ih (k:=k) (by simpa using hk) y;simp only[List.set_cons_succ,yQ,List.sum_cons,List.getElem_cons_succ];omega
theorem RY{x:dY}{k N:Nat}(hk:k<x.bJ.length)(y:bY)(h:dS x≤N)(hy:bV y≤bV x.bJ[k]+1):dS {x with bJ:=x.bJ.set k y}≤N+1:=by
 have h1:=Gu bV hk y;unfold dS at *;simp only[List.length_set] at *;omega
theorem Oz{x:dY}{n:Int}{N:Nat}(h:dS x≤N):dS (pM n x)≤N:=by
 have h1:∀l:List gy,((l.map (rG n)).map dN).sum≤(l.map dN).sum:=by
  intro l;induction l with
  |nil=>exact zC _
  |cons c l ih =>
   simp only[yQ,List.sum_cons];have h2:dN (rG n c)≤dN c:=by
    unfold dN rG iZ;simp only;have:=List.length_filter_le (fun d:di => !Wy n d) c.dh;have:=List.length_filter_le (fun d:di => !Wy n d) c.dG;omega
   omega
 have h3:=h1 x.aA;unfold dS pM at *;simp only[yL] at *;omega
theorem Dz{p:aS}{hi bb:Nat}{l:PL}{F:Nat→Prop}{x:dY}{w:World}(h:HB p hi bb l F x w)(hsz:dS x≤1048580){k:Nat}(hk:k<x.bJ.length){cs vl v:Int}{ok:Bool}(hS:LD p x.bJ[k] cs)(hcs:0≤cs∨cs = -1)(hwc:(Lit.int .i64 cs).wf=true)(hv:(Lit.int .i64 v).wf=true) :
  Calls Tryz.prog 54 #[.pointer (some ⟨bb,0,none⟩),.agg #[.int .i64 ((k:Int)),.int .i64 cs,.int .i64 vl],.int .i64 v,.bool ok] w fun e w'=>e=.returned (.tuple #[])∧kU p hi bb l F w {pM (k:Int) x with bJ:=x.bJ.set k (Gt p x.bJ[k] cs v ok)} w':=by
 have hlt:=h.lt;have C2:∀b,F b→b<w.heap.size:=fun b hb=>(h.1.2.2.2 b hb).2
 have je:Below w.heap.size w (w.alloc (.cells #[.int .i64 ((k:Int)),.int .i64 cs,.int .i64 vl] 49)):=(zD _ _).alloc (zC _) _;have iO:=ak w #[.int .i64 ((k:Int)),.int .i64 cs,.int .i64 vl] 49;have OA:w.heap.size+1=(w.alloc (.cells #[.int .i64 ((k:Int)),.int .i64 cs,.int .i64 vl] 49)).heap.size:=(by simp);have hHH:=zA (h.up je);clear h;obtain⟨gr,hgr⟩:∃g,g=x.bJ[k]:=⟨_,rfl⟩
 rw[←hgr] at hS ⊢;have Pg:bV gr≤1048580:=by rw[hgr];exact rO hsz hk
 go_enter Tryz.func54,Tryz.ntmps54
 go_upto_region 1 with (fail)
 generalize (w.alloc (.cells #[.int .i64 ((k:Int)),.int .i64 cs,.int .i64 vl] 49))=w1 at *;generalize o6:w.heap.size=bi at *;have xe:bi<w1.heap.size:=(by omega);have vI:bb<w1.heap.size:=(by omega);have Gv:=l5 je;have Jb:=qy je;have xG:=ed iO;clear Gv Jb;have EC:¬(F bi∨bi=bb):=fun h=>by rcases h with h|h;exact absurd (C2 _ h) (by omega);omega
 have HL:=zA (LG hHH.out (by omega) (k:Int));go_wp2_with fail
 refine HL.out.mono ?_;rintro e w2 ⟨rfl,qX,F2,Uj,hF2⟩;clear HL;have hk2:k<(pM (k:Int) x).bJ.length:=hk;obtain⟨g2,TN,X4,A12,WC,c12,A22,n22,c22,E22,k22,e22,E42,k42,e42,⟨⟨aa7,aa8,aa9,aba,-,-⟩,b12,⟨q02,WE,q22,q32,q42⟩,LH⟩,n_,Gw,QJ,OB⟩:=Uj.Eo hk2;have abb:(0:Int)≤(k:Int):=(by omega);have abd:(k:Int)<(TN:Int):=(by omega);have hst:=zA OB;clear Gw QJ OB n_;have hl2:bi<w2.heap.size:=by have:=qX.size;omega
 have i2:∀j,w2.cell? ⟨bi,j,none⟩=[.int .i64 ((k:Int)),.int .i64 cs,.int .i64 vl][j]? :=fun j=>(rdT qX bi j xe EC).trans (xG j)
 go_upto_region 2 with (fail)
 refine dL [some 13,some 14,some 15,some 16,some 17,some 18,some 19] [SP.eq (.pointer (some ⟨bb,0,none⟩)),SP.eq (.pointer (some ⟨bb,0,none⟩)),SP.eq (.pointer (some ⟨bb,4,none⟩)),SP.eq (.pointer (some ⟨bb,4,none⟩)),SP.eq (.slice (some ⟨g2,0,none⟩) TN X4),SP.eq (.pointer (some ⟨bi,0,none⟩)),SP.eq (.int .i64 ((k:Int)))] (by kernel_rfl) (by kernel_rfl) (by kernel_rfl) (fun Q9 => ?_) ?_
 ·refine fc (.plain _ rfl rfl ?_) <| fc (.plain _ rfl rfl ?_) <| fc (.plain _ rfl rfl ?_) <| fc (.plain _ rfl rfl ?_) <| fc (.plain _ rfl rfl ?_) <| fc (.plain _ rfl rfl ?_) <| fc (.plain _ rfl rfl ?_) <| fn
  all_goals
   intro V lo up W hB hD hH ρ hR;have s0:ρ (.tmp 0)=(.pointer (some ⟨bb,0,none⟩)):=hR.off 0 (by kernel_rfl);have s5:ρ (.tmp 5)=(.pointer (some ⟨bi,0,none⟩)):=hR.off 5 (by kernel_rfl);try have e0:=(hR.at_ 0 _ rfl).trans (SP.eP (hD 0 (by decide +kernel)).p)
   try have e1:=(hR.at_ 1 _ rfl).trans (SP.eP (hD 1 (by decide +kernel)).p)
   try have e2:=(hR.at_ 2 _ rfl).trans (SP.eP (hD 2 (by decide +kernel)).p)
   try have e3:=(hR.at_ 3 _ rfl).trans (SP.eP (hD 3 (by decide +kernel)).p)
   try have e5:=(hR.at_ 5 _ rfl).trans (SP.eP (hD 5 (by decide +kernel)).p)
   have hc:=hR.const;have r1:=l5 hB;go_simp
 ·intro V lo up W1 lN hG hA;have v4:=SP.eP (hG 4 (by decide)).p;have v6:=SP.eP (hG 6 (by decide)).p;refine Kept.mk ?_;simp only[oD,Act.put,pA,pZ,pS,yB,yC,yH,Nat.reduceAdd,List.drop_succ_cons,List.drop_zero,v4,v6];clear hA v4 v6;have r9:=l5 lN;have z9:=qy lN;go_upto_region 3 with (fail)
  have wG:=kU.trans qX hF2 (hst.out W1 1 lN (by decide));have hg3:(pM (k:Int) x).bJ[k]=gr:=hgr.symm;rw[hg3] at wG;generalize W1.setCell ⟨g2,k*5+3,none⟩ (.int .i64 1)=w3 at *;clear hst qX hF2 Uj i2 r9 z9 lN q02 WE q22 q32 q42 b12 LH hl2;obtain⟨x3,S5⟩:∃y:dY,y={pM (k:Int) x with bJ:=(pM (k:Int) x).bJ.set k {gr with ai:=1}}:=⟨_,rfl⟩
  rw[←S5] at wG;have hk3:k<x3.bJ.length:=by rw[S5];simpa using hk2
  have hx3:x3.bJ[k]={gr with ai:=1}:=by subst S5;simp
  have hs3:dS x3≤1048581:=by rw[S5];exact RY hk2 _ (Oz hsz) (by rw[hg3];exact Nat.le_succ _)
  obtain⟨qA,F3,hh3,ZE⟩:=wG;have hS3:LD p x3.bJ[k] cs:=by rw[hx3];exact⟨hS.at_,hS.Zt,hS.like,hS.wfc,hS.wfa,hS.regs⟩
  have hCA:=Jc hh3 (by omega) hk3 hS3;have hcc:iI p x3.bJ[k] cs=iI p gr cs:=by rw[hx3];rfl
  rw[hcc] at hCA;have AY:=hS.wfc;have hWI:Gt p gr cs v ok=wP (iI p gr cs) (yw p gr cs) v ok:=rfl;generalize iI p gr cs=cc at *;obtain⟨snd,ch,rg,okr,to⟩:=cc;simp only at hCA AY;have QK:=zA hCA;clear hCA hcc;have hl3:bi<w3.heap.size:=by have:=qA.size;omega
  have i3:∀j,w3.cell? ⟨bi,j,none⟩=[.int .i64 ((k:Int)),.int .i64 cs,.int .i64 vl][j]? :=fun j=>(rdT qA bi j xe EC).trans (xG j)
  have aja:¬(F3 bi∨bi=bb):=fun h=>by rcases h with h|h;rcases ZE _ h with h|h;exact EC (.inl h);omega;omega
  go_wp2_with fail
  refine QK.out.mono ?_;rintro e w4 ⟨rfl,hb4⟩;clear QK;have r4:=l5 hb4;have z4:=qy hb4;go_upto_region 4 with (fail)
  have qf:Below w4.heap.size w4 (w4.alloc (.cells #[.bool snd,.int .i64 ch,.int .i64 rg,.int .i64 okr,.int .i64 to] 165)):=(zD _ _).alloc (zC _) _;have I6:=ak w4 #[.bool snd,.int .i64 ch,.int .i64 rg,.int .i64 okr,.int .i64 to] 165;have hs5:w4.heap.size+1=(w4.alloc (.cells #[.bool snd,.int .i64 ch,.int .i64 rg,.int .i64 okr,.int .i64 to] 165)).heap.size:=(by simp);generalize (w4.alloc (.cells #[.bool snd,.int .i64 ch,.int .i64 rg,.int .i64 okr,.int .i64 to] 165))=w5 at *;generalize hq5:w4.heap.size=bx at *;have Ve:=hb4.size;have abf:=hb4.trans (qf.mono (by omega));have i5:∀j,w5.cell? ⟨bi,j,none⟩=[.int .i64 ((k:Int)),.int .i64 cs,.int .i64 vl][j]? :=fun j=>(l5 abf bi j hl3).trans (i3 j)
  have j5:=ed I6;have Wu:bi<w5.heap.size:=(by omega);have hlx:bx<w5.heap.size:=(by omega);have hn5:=zA (hh3.up abf);have hnx:¬(F3 bx∨bx=bb):=fun h=>by rcases h with h|h;exact absurd (hh3.1.2.2.2 _ h).2 (by omega);have:=hh3.lt;omega
  clear i3 r4 z4 I6;have Ui:=zA (show au (fun b=>F b∨b=bb) w1 w5 from qA.trans ((au.of_below abf _).wide fun _ h=>h));have XN:∀b,F3 b→F b∨w1.heap.size≤b:=ZE;have hq1:w.heap.size≤w1.heap.size:=(by omega);by_cases hc0:0≤cs
  ·have hw1:yw p gr cs=dW {gr with ai:=1} ⟨4,(jb p gr).fA,cs,false⟩:=by unfold yw;rw[yG hc0]
   have hcn:(cs != -1)=true:=by simp;omega
   have hPK:=zA (Jd hn5.out (by omega) hk3 hS3.at_ hwc hS3.wfa);go_wp2_with fail
   refine hPK.out.mono ?_;rintro e w6 ⟨rfl,Sm⟩;clear hPK;obtain⟨x6,hX6⟩:∃y:dY,y={x3 with bJ:=x3.bJ.set k (dW x3.bJ[k] ⟨4,(jb p x3.bJ[k]).fA,cs,false⟩)}:=⟨_,rfl⟩
   rw[←hX6] at Sm;have X5:k<x6.bJ.length:=by rw[hX6];simpa using hk3
   have Ce:x6.bJ[k]=dW {gr with ai:=1} ⟨4,(jb p gr).fA,cs,false⟩:=by subst hX6;simp[hx3];rfl
   have hs6:dS x6≤1048582:=by rw[hX6];exact RY hk3 _ hs3 (by rw[ng];exact zC _)
   have hrg:∀j,(Lit.int .i64 (ji (dW {gr with ai:=1} ⟨4,(jb p gr).fA,cs,false⟩) j)).wf=true:=hS.regs;obtain⟨Jv,F6,Zp,Zq⟩:=Sm;have i6:∀j,w6.cell? ⟨bi,j,none⟩=[.int .i64 ((k:Int)),.int .i64 cs,.int .i64 vl][j]? :=fun j=>(rdT Jv bi j Wu aja).trans (i5 j)
   have j6:∀j,w6.cell? ⟨bx,j,none⟩=[.bool snd,.int .i64 ch,.int .i64 rg,.int .i64 okr,.int .i64 to][j]? :=fun j=>(rdT Jv bx j hlx hnx).trans (j5 j)
   have hl6:bi<w6.heap.size:=by have:=Jv.size;omega
   have apE:bx<w6.heap.size:=by have:=Jv.size;omega
   have Zp:=zA Zp;clear i5 j5;cases snd
   ·skip
    have Gx:=hWI;rw[wP,yG rfl] at Gx;try simp only at Gx
    go_wp2_with fail
    refine (Gz Zp.out (by omega) X5 (sd:=false) (ov:=ok) AY.1 AY.2.2.2 hv).mono ?_;rintro e w9 ⟨rfl,GG⟩;have GG:=zA GG;go_wp2_with fail
    refine bodyPost_end (v := .tuple #[]) ?_ rfl ?_
    ·simp[results,Tryz.results54,go_sem]
    subst o6;refine⟨rfl,kU.from_ je ((kU.trans Ui.out XN (kU.trans Jv Zq (GG.out))).cast ?_)⟩;rw[Gx,hw1,Ce];subst hX6 S5;simp only[List.set_set];rfl
   ·cases ok
    ·skip
     have Gx:=hWI;rw[wP,yF (by simp),yF (by simp)] at Gx;try simp only at Gx
     go_wp2_with fail
     refine (DC Zp.out (by omega) X5 (why:=1) (by decide)).mono ?_;rintro e w9 ⟨rfl,GG⟩;have GG:=zA GG;go_wp2_with fail
     refine bodyPost_end (v := .tuple #[]) ?_ rfl ?_
     ·simp[results,Tryz.results54,go_sem]
     subst o6;refine⟨rfl,kU.from_ je ((kU.trans Ui.out XN (kU.trans Jv Zq (GG.out))).cast ?_)⟩;rw[Gx,hw1,Ce];subst hX6 S5;simp only[List.set_set];rfl
    ·skip
     have Gx:=hWI;rw[wP,yF (by simp),yG rfl] at Gx;try simp only at Gx
     go_wp2_with fail
     refine (DD Zp.out (by omega) X5 (sd:=true) (ok:=okr) AY.1 AY.2.1 AY.2.2.2 (by rw[Ce];exact hrg)).mono ?_;rintro e w9 ⟨rfl,GG⟩;have GG:=zA GG;go_wp2_with fail
     refine bodyPost_end (v := .tuple #[]) ?_ rfl ?_
     ·simp[results,Tryz.results54,go_sem]
     subst o6;refine⟨rfl,kU.from_ je ((kU.trans Ui.out XN (kU.trans Jv Zq (GG.out))).cast ?_)⟩;rw[Gx,hw1,Ce];subst hX6 S5;simp only[List.set_set];rfl
  ·have hw1:yw p gr cs={gr with ai:=1}:=by unfold yw;rw[yF hc0]
   have hcn:(cs != -1)=false:=by simp;omega
   have hrg:∀j,(Lit.int .i64 (ji ({gr with ai:=1}:bY) j)).wf=true:=hS.regs;cases snd
   ·skip
    have Gx:=hWI;rw[wP,yG rfl] at Gx;try simp only at Gx
    go_wp2_with fail
    refine (Gz hn5.out (by omega) hk3 (sd:=false) (ov:=ok) AY.1 AY.2.2.2 hv).mono ?_;rintro e w9 ⟨rfl,GG⟩;have GG:=zA GG;go_wp2_with fail
    refine bodyPost_end (v := .tuple #[]) ?_ rfl ?_
    ·simp[results,Tryz.results54,go_sem]
    subst o6;refine⟨rfl,kU.from_ je ((kU.trans Ui.out XN (GG.out)).cast ?_)⟩;rw[Gx,hw1,hx3];subst S5;simp only[List.set_set];rfl
   ·cases ok
    ·skip
     have Gx:=hWI;rw[wP,yF (by simp),yF (by simp)] at Gx;try simp only at Gx
     go_wp2_with fail
     refine (DC hn5.out (by omega) hk3 (why:=1) (by decide)).mono ?_;rintro e w9 ⟨rfl,GG⟩;have GG:=zA GG;go_wp2_with fail
     refine bodyPost_end (v := .tuple #[]) ?_ rfl ?_
     ·simp[results,Tryz.results54,go_sem]
     subst o6;refine⟨rfl,kU.from_ je ((kU.trans Ui.out XN (GG.out)).cast ?_)⟩;rw[Gx,hw1,hx3];subst S5;simp only[List.set_set];rfl
    ·skip
     have Gx:=hWI;rw[wP,yF (by simp),yG rfl] at Gx;try simp only at Gx
     go_wp2_with fail
     refine (DD hn5.out (by omega) hk3 (sd:=true) (ok:=okr) AY.1 AY.2.1 AY.2.2.2 (by rw[hx3];exact hrg)).mono ?_;rintro e w9 ⟨rfl,GG⟩;have GG:=zA GG;go_wp2_with fail
     refine bodyPost_end (v := .tuple #[]) ?_ rfl ?_
     ·simp[results,Tryz.results54,go_sem]
     subst o6;refine⟨rfl,kU.from_ je ((kU.trans Ui.out XN (GG.out)).cast ?_)⟩;rw[Gx,hw1,hx3];subst S5;simp only[List.set_set];rfl
theorem aa5{w:World}{hi:Nat}{p:aS}{vs:List Value}(hp:aV.see w hi p vs){g:bY}(hat:0≤g.dE∧g.dE<dn p g.ax):(Lit.int .i64 (jb p g).fA).wf=true∧(Lit.int .i64 (jb p g).fB).wf=true∧(Lit.int .i64 (jb p g).fC).wf=true:=by
 obtain⟨q,c,hq,hc,-,-,e3⟩:=K7 hat;rw[e3];obtain⟨A0,n0,c0,A2,n2,c2,A3,n3,c3,-,-,-,-,-,-,s3⟩:=fH hp;obtain⟨hx,g1,o1,us,-,-,aW,-⟩:=s3.at_ (i:=q) (by rw[←s3.1];exact hq);obtain⟨B0,m0,d0,-,-,-,s4⟩:=mr aW;obtain⟨hy,g2,o2,ts,-,-,⟨-,hw⟩,-⟩:=s4.at_ (i:=c) (by rw[←s4.1];exact hc);exact⟨hw.2.1,hw.2.2.1,hw.2.2.2⟩
theorem X2{w:World}{hi:Nat}{p:aS}{vs:List Value}(hp:aV.see w hi p vs){s:eG}(hs:s∈p.dR){c:ja}(hc:c∈s.dw):(Lit.int .i64 c.gU).wf=true∧(Lit.int .i64 c.mg).wf=true∧(Lit.int .i64 c.lM).wf=true∧(Lit.int .i64 c.wX).wf=true:=by
 obtain⟨i,hi',rfl⟩:=List.getElem_of_mem hs;obtain⟨A0,n0,c0,A2,n2,c2,A3,n3,c3,-,-,-,⟨-,-,s2⟩,-⟩:=fH hp;obtain⟨hx,g1,o1,us,-,-,aW,-⟩:=s2.at_ (i:=i) (by rw[←s2.1];exact hi');obtain⟨B0,m0,d0,-,⟨-,-,s4⟩,-⟩:=g_ aW;obtain⟨j,hj,rfl⟩:=List.getElem_of_mem hc;obtain⟨hy,g2,o2,ts,-,-,⟨-,hw⟩,-⟩:=s4.at_ (i:=j) (by rw[←s4.1];exact hj);exact hw
theorem JO{p:aS}{g:bY}{n ch cs vl:Int}{s:Bool}(h:(⟨false,ch,s,n,cs,vl⟩:b7)∈jR p g n) :
  (cs = -1∧((jb p g).m7=8∨(jb p g).m7=9)∨(0≤cs∧(jb p g).m7=11∧cs<(l8 p (jb p g)).dw.length)) ∧
  (iI p g cs).gU=ch∧(iI p g cs).gI=s∧(s=true→vl=ji g (iI p g cs).mg):=by
 unfold jR at h;split at h
 ·rename_i h8
  split at h
  ·cases h
  ·simp only[List.mem_singleton,b7.mk.injEq] at h;obtain⟨-,rfl,rfl,-,rfl,rfl⟩:=h;refine⟨.inl ⟨rfl,.inl h8⟩,?_⟩;unfold iI N3;rw[yF (by decide)];exact⟨rfl,by simp[h8],fun _=>rfl⟩
 ·split at h
  ·rename_i h8 h9
   split at h
   ·cases h
   ·simp only[List.mem_singleton,b7.mk.injEq] at h;obtain⟨-,rfl,rfl,-,rfl,rfl⟩:=h;refine⟨.inl ⟨rfl,.inr h9⟩,?_⟩;unfold iI N3;rw[yF (by decide)];exact⟨rfl,by simp[h9],fun h=>by cases h⟩
  ·split at h
   ·rename_i h8 h9 h11
    unfold jy at h;obtain⟨j,hj,hx⟩:=List.mem_flatMap.1 h;have Ii:=List.mem_range.1 hj;rw[zG Ii] at hx;unfold iL at hx;simp only at hx;split at hx
    ·cases hx
    ·simp only[List.mem_singleton,b7.mk.injEq] at hx;obtain⟨-,rfl,rfl,-,rfl,rfl⟩:=hx;have hst:iI p g (j:Int)=(l8 p (jb p g)).dw[j]:=by
      unfold iI;rw[yG (by omega),yA,zG Ii,Option.getD_some]
     rw[hst];exact⟨.inr ⟨by omega,h11,by omega⟩,rfl,rfl,fun h=>by rw[yG h]⟩
   ·split at h
    ·simp only[List.mem_singleton,b7.mk.injEq] at h;exact absurd h.1 (by decide)
    ·cases h
theorem VR{p:aS}{x:dY}{k:Nat}(hk:k<x.bJ.length){pl:b7}(h:pl∈toldOf p x.bJ[k] k):pl∈Cb p x:=by
 unfold Cb nX;refine List.mem_flatMap.2 ⟨k,List.mem_range.2 hk,?_⟩;rw[zG hk];exact h
theorem Aa{w:World}{hi:Nat}{p:aS}{x:dY}{vs:List Value}(hp:aV.see w hi p vs)(nH:dV p≤1048576)(m8:sV p x=true){k:Nat}(hk:k<x.bJ.length){ch cs vl:Int}{s:Bool}(h:(⟨false,ch,s,(k:Int),cs,vl⟩:b7)∈toldOf p x.bJ[k] k) :
  LD p x.bJ[k] cs∧(0≤cs∨cs = -1)∧Ph p x.bJ[k] ⟨(k:Int),cs,vl⟩:=by
 have hgb:=xK (lQ m8).2.1 (zS hk);have hat:=(nT hgb).1;have hpo:=(lQ m8).1;have CY:=ql hpo hat;have hwk:=(I1 m8 (VR hk h)).2.2.2;simp only[wOf] at hwk;rw[mD hk] at hwk;have h1:(⟨false,ch,s,(k:Int),cs,vl⟩:b7)∈jR p x.bJ[k] (k:Int):=by
  unfold toldOf at h;split at h
  ·exact h
  ·cases h
 obtain⟨hc,-,-,-⟩:=JO h1;have Ws:=aa5 hp hat;have Ro:(Lit.int .i64 ((x.bJ[k]).dE+1)).wf=true:=WalkArith.wf_i64 (by have:=AV p (x.bJ[k]).ax;omega);refine⟨⟨hat,fun h0 => ?_,fun h0 => ?_,?_,Ws.1,fun j => ?_⟩,?_,hwk⟩
 ·exact hwk.Zt h0
 ·rcases hc with hc|hc
  ·exact hc.2
  ·omega
 ·by_cases h0:0≤cs
  ·obtain⟨-,-,h3⟩:=hwk.Zt h0;have h11:(jb p x.bJ[k]).m7=11:=by
    rcases hc with hc|hc
    ·omega
    ·exact hc.2.1
   have hmem:=(CY.2.2.1 h11).2.2;have hj:cs.toNat<(l8 p (jb p x.bJ[k])).dw.length:=by simp only at h3;omega
   have hst:iI p x.bJ[k] cs=(l8 p (jb p x.bJ[k])).dw[cs.toNat]:=by
    unfold iI;rw[yG h0,zG hj,Option.getD_some]
   rw[hst];exact X2 hp hmem (zS hj)
  ·unfold iI;rw[yF h0];refine⟨Ws.1,Ws.2.1,?_,Ro⟩;show (Lit.int .i64 (if (jb p x.bJ[k]).m7=8 then 0 else (jb p x.bJ[k]).fC)).wf=true
   split
   ·decide
   ·exact Ws.2.2
 ·have:=RG (nT hgb).2.2 j;exact WalkArith.wf_i64 (by omega)
 ·rcases hc with hc|hc
  ·exact .inr hc.1
  ·exact .inl hc.1
theorem TM{p:aS}{g:bY}{n ch cs vl v:Int}{s ok:Bool}(h:(⟨false,ch,s,n,cs,vl⟩:b7)∈jR p g n):Gt p g cs (nR v ok) ok=BI p g ch ⟨n,cs,vl⟩ v ok:=by
 obtain⟨hc,h1,h2,h3⟩:=JO h;have hP:yw p g cs=rD p g ⟨n,cs,vl⟩:=by
  unfold yw rD;simp only;split <;> rfl
 have X3:∀j,ji (rD p g ⟨n,cs,vl⟩) j=ji g j:=by
  intro j;unfold rD;simp only;split <;> rfl
 have hC:(pO p g ⟨n,cs,vl⟩).gI=(iI p g cs).gI∧(pO p g ⟨n,cs,vl⟩).wX=(iI p g cs).wX∧((iI p g cs).gI=false→(pO p g ⟨n,cs,vl⟩).mg=(iI p g cs).mg∧(pO p g ⟨n,cs,vl⟩).lM=(iI p g cs).lM):=by
  unfold pO iI N3;simp only;split
  ·exact⟨rfl,rfl,fun _=>⟨rfl,rfl⟩⟩
  ·refine⟨rfl,rfl,fun h8=>⟨rfl,?_⟩⟩;have h9:(jb p g).m7≠8:=by simpa using h8
   simp only;rw[yF h9]
 unfold Gt wP BI;rw[hP,hC.1,hC.2.1];cases hs:(iI p g cs).gI with
 |false =>
  have h5:=hC.2.2 hs;rw[yG rfl,yF (by simp),yF (by simp),h5.1,h5.2,h1];rfl
 |true =>
  rw[yF (by simp)];cases ok with
  |false=>rw[yF (by simp),yG (by simp)]
  |true =>
   rw[yG rfl,yF (by simp),yG rfl,h1,X3,←h3 (h2.symm.trans hs)]
theorem QT{p:aS}{x:dY}{ch wc wv:Int}{k:Nat}(hk:k<x.bJ.length)(m8:sV p x=true):(toldOf p x.bJ[k] (k:Int)).any (yz ch ⟨(k:Int),wc,wv⟩)=lZ p x ch ⟨(k:Int),wc,wv⟩:=by
 have hpl:mi p x.bJ[k] (k:Int)=toldOf p x.bJ[k] (k:Int):=by
  unfold mi sH;rw[(lQ m8).1,xK (lQ m8).2.1 (zS hk),yG ⟨rfl,by omega⟩]
 unfold lZ;simp only;rw[mD hk,hpl,Bool.eq_iff_iff,List.any_eq_true,decide_eq_true_iff];constructor
 ·rintro ⟨pl,hm,ht⟩;obtain⟨mu,ob,sd,g,cs,vl⟩:=pl;unfold yz at ht;simp only[zT,decide_eq_true_eq,Bool.not_eq_true'] at ht;obtain⟨rfl,rfl,rfl,rfl,rfl⟩:=ht;cases sd
  ·have:=List.count_pos_iff.2 (show um ob false ⟨(k:Int),cs,vl⟩∈_ from hm);omega
  ·have:=List.count_pos_iff.2 (show um ob true ⟨(k:Int),cs,vl⟩∈_ from hm);omega
 ·intro h;have h1:∀s,0<(toldOf p x.bJ[k] (k:Int)).count (um ch s ⟨(k:Int),wc,wv⟩)→∃pl,pl∈toldOf p x.bJ[k] (k:Int)∧yz ch ⟨(k:Int),wc,wv⟩ pl=true:=fun s hc=>⟨_,List.count_pos_iff.1 hc,by unfold yz um;simp⟩
  by_cases h2:0<(toldOf p x.bJ[k] (k:Int)).count (um ch true ⟨(k:Int),wc,wv⟩)
  ·exact h1 true h2
  ·exact h1 false (by omega)
theorem TT{p:aS}{x:dY}{ch wg wc wv v:Int}(m8:sV p x=true)(WR:okV v=true):uS p x ch ⟨wg,wc,wv⟩=jl p x ch ⟨wg,wc,wv⟩ v:=by
 unfold uS jl;rw[m8,WR];simp only[Bool.true_and];by_cases h:0≤wg∧wg<(x.bJ.length:Int)
 ·obtain⟨k,rfl⟩:=yO h.1;have hk:k<x.bJ.length:=(by omega);rw[yE h,Bool.true_and,Bool.true_and,mD hk];exact QT hk m8
 ·rw[yD h,zX,zX]
theorem TU{p:aS}{x:dY}{ch wg wc wv:Int}(h:uS p x ch ⟨wg,wc,wv⟩=true):∃(k:Nat) (hk:k<x.bJ.length) (s:Bool),wg=(k:Int)∧(⟨false,ch,s,(k:Int),wc,wv⟩:b7)∈toldOf p x.bJ[k] (k:Int):=by
 unfold uS at h;rw[zT,decide_eq_true_iff] at h;obtain⟨h,h2⟩:=h;simp only at h h2;obtain⟨k,rfl⟩:=yO h.1;have hk:k<x.bJ.length:=(by omega);rw[mD hk,List.any_eq_true] at h2;obtain⟨⟨mu,ob,sd,g,cs,vl⟩,hm,ht⟩:=h2;unfold yz at ht;simp only[zT,decide_eq_true_eq,Bool.not_eq_true'] at ht;obtain⟨rfl,rfl,rfl,rfl,rfl⟩:=ht;exact⟨k,hk,sd,rfl,hm⟩
theorem V1{p:aS}{x:dY}{ch wc wv v:Int}{s ok:Bool}{k:Nat}(hk:k<x.bJ.length)(h:(⟨false,ch,s,(k:Int),wc,wv⟩:b7)∈toldOf p x.bJ[k] (k:Int)) :
  ({pM (k:Int) x with bJ:=x.bJ.set k (Gt p x.bJ[k] wc (nR v ok) ok)}:dY)=wW p x ch ⟨(k:Int),wc,wv⟩ v ok:=by
 have hm:(⟨false,ch,s,(k:Int),wc,wv⟩:b7)∈jR p x.bJ[k] (k:Int):=by
  unfold toldOf at h;split at h
  ·exact h
  ·cases h
 rw[TM hm];unfold wW WV;simp only;rw[mD hk];rfl
section
variable {P:Program} {ops:Array Oper} {o:Oper} {a:Act} {w:World} {K:Act→World→Prop} {Q:Exit→Act→World→Prop} {E:Prop} {R:Ending→World→Prop}
theorem Mc(hg:o.guard=none)(f:FuncId)(x0 x1 x2 x3 x4 x5:Operand)(wY:Array TypeId)(hop:o.op=.call {callee := .value (.func f),args := #[x0,x1,x2,x3,x4,x5],argTypes:=wY})
  (hf:∀(args:Array Value) (w:World),Sem.run P (callFunc f args) w=.ok (.enter f args) w)(u0 u1 u2 u3 u4 u5:Value)(h0:a.eval x0=u0)(h1:a.eval x1=u1)(h2:a.eval x2=u2)(h3:a.eval x3=u3)(h4:a.eval x4=u4)(h5:a.eval x5=u5)(hc:Calls P f #[u0,u1,u2,u3,u4,u5] w R)(h:∀e w',R e w'→∃v,e=.returned v∧K (a.put o.dst v) w') :
  Kept (if Region.wanted o (yielded ops a.tmps)=true then Oper.wp P o a w K Q else E):=⟨Pz hg f #[x0,x1,x2,x3,x4,x5] wY hop hf #[u0,u1,u2,u3,u4,u5] (by simp only[yS,yQ,yR,h0,h1,h2,h3,h4,h5]) hc h⟩
end
theorem TV(x:bY)(y:Int):bV (overR x y)≤bV x+1:=by
 unfold overR;split
 ·exact Nat.le_of_eq (ng _ _)
 ·exact Nat.le_of_eq (ng _ _)
theorem TW(p:aS)(g:bY)(w:di):bV (rD p g w)≤bV g+1:=by
 show bV (if 0≤w.bK then dW g ⟨4,(jb p g).fA,w.bK,false⟩ else g)≤_
 split
 ·exact Nat.le_of_eq (ng _ _)
 ·omega
theorem TY(p:aS)(g:bY)(ch:Int)(w:di)(v:Int)(ok:Bool):bV (BI p g ch w v ok)≤bV g+2:=by
 have h1:=TW p g w;unfold BI;split
 ·have:=TV (rD p g w) 1;omega
 ·show bV (if (pO p g w).gI=true then dW (rD p g w) ⟨1,ch,w.bU,false⟩ else BJ (rD p g w) ch (pO p g w).mg (pO p g w).lM v ok)≤_
  split
  ·rw[ng];omega
  ·unfold BJ;rw[yj,yj,ng];omega
theorem V3{x:dY}{k N:Nat}(hk:k<x.bJ.length)(y:bY)(h:dS x≤N)(hy:bV y≤bV x.bJ[k]+2):dS {x with bJ:=x.bJ.set k y}≤N+2:=by
 have h1:=Gu bV hk y;unfold dS at *;simp only[List.length_set] at *;omega
theorem V4{p:aS}{x:dY}{ch v:Int}{wt:di}{ok:Bool}(h:dS x≤1048576):dS (l_ p x ch wt v ok)≤1048580:=by
 unfold l_;split
 ·rename_i ha
  unfold jl at ha;simp only[zT,decide_eq_true_eq] at ha;obtain⟨-,-,⟨h0,h1⟩,-⟩:=ha;obtain⟨k,hk⟩:=yO h0;have En:k<x.bJ.length:=(by omega);unfold wW WV;rw[hk,yA,mD En];have:=V3 (x:=pM (k:Int) x) (k:=k) En (BI p x.bJ[k] ch wt v ok) (Oz h) (TY _ _ _ _ _ _);exact zJ this (by omega)
 ·decide
end Go.Proofs.YtjcoapnggojpdaaGreatDoor
