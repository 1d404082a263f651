/- Texts of the proof, laid compactly. -/
import Derived.Test.YtjcoapnggojpdaaGreatDoorTells
set_option maxHeartbeats 4000000
set_option maxRecDepth 100000
namespace Go.Proofs.YtjcoapnggojpdaaGreatDoor
set_option linter.unusedSimpArgs false
set_option linter.unusedVariables false
open Go.RowKit
def yz(ch:Int)(wt:di)(pl:b7):Bool := !pl.nS&&(decide (pl.iq=ch)&&decide (pl.fG=wt.fG∧pl.bK=wt.bK∧pl.bU=wt.bU))
def uS(p:aS)(x:dY)(ch:Int)(wt:di):Bool:=decide (0≤wt.fG∧wt.fG<x.bJ.length)&&(toldOf p (xI x wt.fG) wt.fG).any (yz ch wt)
theorem M5{p:aS}{g:bY}{n:Int}(hp:dH p=true)(hg:nJ (dn p g.ax) g=true):(toldOf p g n).length≤4:=by
 unfold toldOf;split
 ·exact Dp hp hg
 ·simp
theorem Eb{w:World}{hi:Nat}{p:aS}{x:dY}{vs us:List Value}(hp:aV.see w hi p vs)(he:bZ.see w hi x us)(cu:hi≤w.heap.size)(nH:dV p≤1048576)(hne:dS x≤1048576)(m8:sV p x=true){ch wg wc wv:Int}(hwg:(Lit.int .i64 wg).wf=true) :
  Calls Tryz.prog 52 #[.agg vs.toArray,.agg us.toArray,.int .i64 ch,.agg #[.int .i64 wg,.int .i64 wc,.int .i64 wv]] w fun e w'=>e=.returned (.bool (uS p x ch ⟨wg,wc,wv⟩))∧Below w.heap.size w w':=by
 have Rh:=zA (fun (W:World) (hb:Below w.heap.size w W)=>aV.keep hp (w':=W) fun k hk=>hb.block k (by omega));obtain⟨B0,m0,d0,B2,m2,d2,B3,m3,d3,rfl,-⟩:=fH hp;obtain⟨A0,n0,c0,A1,n1,c1,A2,n2,c2,rfl,⟨hc0,hm0,s0⟩,-,-⟩:=iV he;have S0:=zA (fun (W:World) (hb:Below w.heap.size w W)=>s0.below hb cu);have l0:=s0.1;have z_:=ak w #[.slice B0 m0 d0,.int .i64 p.ay,.slice B2 m2 d2,.slice B3 m3 d3] 46;have z_:=af z_ ((zD _ _).alloc (zC _) (.cells #[.slice A0 n0 c0,.slice A1 n1 c1,.slice A2 n2 c2] 40)) (by simp only[zF];omega);have z_:=af z_ ((zD _ _).alloc (zC _) (.cells #[.int .i64 ch] 3)) (by simp only[zF];omega);have z_:=af z_ ((zD _ _).alloc (zC _) (.cells #[.int .i64 wg,.int .i64 wc,.int .i64 wv] 49)) (by simp only[zF];omega);have vP:=ak (w.alloc (.cells #[.slice B0 m0 d0,.int .i64 p.ay,.slice B2 m2 d2,.slice B3 m3 d3] 46)) #[.slice A0 n0 c0,.slice A1 n1 c1,.slice A2 n2 c2] 40;have vP:=af vP ((zD _ _).alloc (zC _) (.cells #[.int .i64 ch] 3)) (by simp only[zF];omega);have vP:=af vP ((zD _ _).alloc (zC _) (.cells #[.int .i64 wg,.int .i64 wc,.int .i64 wv] 49)) (by simp only[zF];omega);simp only[zF,zH,Nat.reduceAdd] at vP;have hC9:=ak ((w.alloc (.cells #[.slice B0 m0 d0,.int .i64 p.ay,.slice B2 m2 d2,.slice B3 m3 d3] 46)).alloc (.cells #[.slice A0 n0 c0,.slice A1 n1 c1,.slice A2 n2 c2] 40)) #[.int .i64 ch] 3;have hC9:=af hC9 ((zD _ _).alloc (zC _) (.cells #[.int .i64 wg,.int .i64 wc,.int .i64 wv] 49)) (by simp only[zF];omega);simp only[zF,zH,Nat.reduceAdd] at hC9;have O_:=ak (((w.alloc (.cells #[.slice B0 m0 d0,.int .i64 p.ay,.slice B2 m2 d2,.slice B3 m3 d3] 46)).alloc (.cells #[.slice A0 n0 c0,.slice A1 n1 c1,.slice A2 n2 c2] 40)).alloc (.cells #[.int .i64 ch] 3)) #[.int .i64 wg,.int .i64 wc,.int .i64 wv] 49;simp only[zF,zH,Nat.reduceAdd] at O_;have hB0:Below w.heap.size w ((((w.alloc (.cells #[.slice B0 m0 d0,.int .i64 p.ay,.slice B2 m2 d2,.slice B3 m3 d3] 46)).alloc (.cells #[.slice A0 n0 c0,.slice A1 n1 c1,.slice A2 n2 c2] 40)).alloc (.cells #[.int .i64 ch] 3)).alloc (.cells #[.int .i64 wg,.int .i64 wc,.int .i64 wv] 49)):=((((zD _ _).alloc (zC _) _).alloc (by simp only[zF];omega) _).alloc (by simp only[zF];omega) _).alloc (by simp only[zF];omega) _;have hz0:w.heap.size+4≤((((w.alloc (.cells #[.slice B0 m0 d0,.int .i64 p.ay,.slice B2 m2 d2,.slice B3 m3 d3] 46)).alloc (.cells #[.slice A0 n0 c0,.slice A1 n1 c1,.slice A2 n2 c2] 40)).alloc (.cells #[.int .i64 ch] 3)).alloc (.cells #[.int .i64 wg,.int .i64 wc,.int .i64 wv] 49)).heap.size:=by simp only[zF];omega
 clear hp he s0;have gW:=zA hB0;clear hB0;go_enter Tryz.func52,Tryz.ntmps52
 go_upto_region 1 with (fail)
 generalize ((((w.alloc (.cells #[.slice B0 m0 d0,.int .i64 p.ay,.slice B2 m2 d2,.slice B3 m3 d3] 46)).alloc (.cells #[.slice A0 n0 c0,.slice A1 n1 c1,.slice A2 n2 c2] 40)).alloc (.cells #[.int .i64 ch] 3)).alloc (.cells #[.int .i64 wg,.int .i64 wc,.int .i64 wv] 49))=w0 at *;generalize hq:w.heap.size=q at *;try simp only[zH,Nat.reduceAdd]
 have lG:=z_;have ZP:w0.heap[q+2]? =some (.cells #[.int .i64 ch] 3 (0,0)):=hC9;have hW0:w0.heap[q+3]? =some (.cells #[.int .i64 wg,.int .i64 wc,.int .i64 wv] 49 (0,0)):=O_;have mX:w0.heap[q+1]? =some (.cells #[.slice A0 n0 c0,.slice A1 n1 c1,.slice A2 n2 c2] 40 (0,0)):=vP;clear z_ vP hC9 O_;have cP:=ed lG;have bP:=dM lG;have cE:=ed mX;have bE:=dM mX;have cC:=ed ZP;have bC:=dM ZP;have cW:=ed hW0;have bW:=dM hW0;have hnn:n0≤1048576:=by unfold dS at hne;omega
 go_wp2_with fail
 refine (lq wg n0 w0).mono ?_;rintro e w1 ⟨rfl,rfl⟩;by_cases hin:0≤wg∧wg<(n0:Int)
 ·have hib:inB wg 0 ((n0:Int)-1)=true:=wK (by omega);rw[hib];obtain⟨k,rfl⟩:=yO hin.1;have hk0:k<n0:=(by omega);obtain⟨hx,g,og,zs,rfl,BG,aW,hcell⟩:=(S0.out w0 gW.out).at_ hk0;have hgb:nJ (dn p (x.bJ[k]).ax) x.bJ[k]=true:=xK (lQ m8).2.1 (zS hx);have hTB:uS p x ch ⟨(k:Int),wc,wv⟩=(toldOf p x.bJ[k] (k:Int)).any (yz ch ⟨(k:Int),wc,wv⟩):=by unfold uS;rw[yE (show (0:Int)≤(k:Int)∧(k:Int)<(x.bJ.length:Int) from ⟨by omega,by omega⟩),Bool.true_and,mD hx]
  have ajs:∀pl∈toldOf p x.bJ[k] (k:Int),DY pl:=by intro pl hpl;unfold toldOf at hpl;split at hpl;exact Bi (lQ m8).1 hgb hwg pl hpl;cases hpl
  have hlen:=M5 (n:=(k:Int)) (lQ m8).1 hgb;have HTB:=zA hTB;clear hTB;generalize x.bJ[k]=gr at *;have iJ:=aW;obtain⟨E2,k2,e2,E4,k4,e4,rfl,-⟩:=gK aW;have q0:=hcell 0 _ rfl;have q1:=hcell 1 _ rfl;have q2:=hcell 2 _ rfl;have q3:=hcell 3 _ rfl;have q4:=hcell 4 _ rfl;simp only[show aI.size=5 from rfl,←zH,zI] at q0 q1 q2 q3 q4;have jJ:(0:Int)≤(k:Int):=(by omega);have u_:(k:Int)<(n0:Int):=(by omega);have hg0:g<w0.heap.size:=(by omega);clear hcell aW hib;go_upto_region 3 with (fail)
  refine dL [some 16,some 17,some 18,some 19,some 20,some 21,some 22,some 23,some 24,some 25,some 26] [SP.eq (.agg #[.slice B0 m0 d0,.int .i64 p.ay,.slice B2 m2 d2,.slice B3 m3 d3]),SP.eq (.pointer (some ⟨q+1,0,none⟩)),SP.eq (.slice (some ⟨g,og,none⟩) n0 c0),SP.eq (.pointer (some ⟨q+3,0,none⟩)),SP.eq (.int .i64 ((k:Int))),SP.eq (.pointer (some ⟨g,og+k*5,none⟩)),SP.eq (.agg #[.int .i64 gr.ax,.int .i64 gr.dE,.slice E2 k2 e2,.int .i64 gr.ai,.slice E4 k4 e4]),SP.eq (.pointer (some ⟨q+3,0,none⟩)),SP.eq (.int .i64 ((k:Int))),SP.of (fun W v=>∃A c,v=.slice A (toldOf p gr (k:Int)).length c∧a_ lU W W.heap.size A (toldOf p gr (k:Int)).length (toldOf p gr (k:Int))) fun hb ⟨A,c,hv,hs⟩=>⟨A,c,hv,(hs.below hb (zC _)).more hb.size⟩,SP.eq (.func (.func 120) #[] #[.pointer (some ⟨q+2,0,none⟩),.pointer (some ⟨q+3,0,none⟩)])] (by kernel_rfl) (by kernel_rfl) (by kernel_rfl) (fun Q9 => ?_) ?_
  ·refine fc (.plain _ rfl rfl ?_) <| fc (.plain _ rfl rfl ?_) <| fc (.plain _ rfl rfl ?_) <| fc (.plain _ rfl rfl ?_) <| fc (.plain _ rfl rfl ?_) <| fc (.plain _ rfl rfl ?_) <| fc (.plain _ rfl rfl ?_) <| fc (.plain _ rfl rfl ?_) <| fc (.plain _ rfl rfl ?_) <| fc (.call rfl 119 rfl (aJ Tryz.func119 (by kernel_rfl) (by kernel_rfl)) ?c9) <| fc (.plain _ rfl rfl ?_) <| fn
   case c9 =>
    intro V lo up W hB hD hH ρ hR;have e0:=(hR.at_ 0 _ rfl).trans (SP.eP (hD 0 (by kernel_rfl)).p);have e6:=(hR.at_ 6 _ rfl).trans (SP.eP (hD 6 (by kernel_rfl)).p);have e8:=(hR.at_ 8 _ rfl).trans (SP.eP (hD 8 (by kernel_rfl)).p);simp only[yS,yQ,yR,e0,e6,e8];have C9:=gW.out.trans (hB.mono (by omega));have hzB:=hB.size;refine (Cj (aV.more (Rh.out W C9) (by omega:hi≤W.heap.size)) (aI.more (aI.keep iJ fun b hb=>hB.block b (by omega)) (by omega:hi≤W.heap.size)) (zC _) nH (lQ m8).1 hgb).mono ?_;rintro e W1 ⟨PA,pc,rfl,iy,jU⟩;exact⟨_,rfl,jU,⟨PA,pc,rfl,(rowP iy ajs).seen fun g hg=>hg.2⟩⟩
   all_goals
    intro V lo up W hB hD hH ρ hR;have s4:ρ (.tmp 4)=(.pointer (some ⟨q,0,none⟩)):=hR.off 4 (by kernel_rfl);have s5:ρ (.tmp 5)=(.pointer (some ⟨q+1,0,none⟩)):=hR.off 5 (by kernel_rfl);have s6:ρ (.tmp 6)=(.pointer (some ⟨q+2,0,none⟩)):=hR.off 6 (by kernel_rfl);have s7:ρ (.tmp 7)=(.pointer (some ⟨q+3,0,none⟩)):=hR.off 7 (by kernel_rfl);try have e1:=(hR.at_ 1 _ rfl).trans (SP.eP (hD 1 (by decide +kernel)).p)
    try have e2:=(hR.at_ 2 _ rfl).trans (SP.eP (hD 2 (by decide +kernel)).p)
    try have e3:=(hR.at_ 3 _ rfl).trans (SP.eP (hD 3 (by decide +kernel)).p)
    try have e4:=(hR.at_ 4 _ rfl).trans (SP.eP (hD 4 (by decide +kernel)).p)
    try have e5:=(hR.at_ 5 _ rfl).trans (SP.eP (hD 5 (by decide +kernel)).p)
    try have e7:=(hR.at_ 7 _ rfl).trans (SP.eP (hD 7 (by decide +kernel)).p)
    have hc:=hR.const;have r1:=l5 hB;go_simp
  ·intro V lo up w5 AQ hG hA;obtain⟨PA,pc,UC,hs9⟩:=SP.of_ (hG 9 (by decide)).p;have v10:=SP.eP (hG 10 (by decide)).p;refine Kept.mk ?_;simp only[oD,Act.put,pA,pZ,pS,yB,yC,yH,Nat.reduceAdd,List.drop_succ_cons,List.drop_zero,UC,v10];clear hA UC v10;have hC5:=af ZP AQ bC;have Ic:=af hW0 AQ bW;go_wp2_with fail
   refine (GN Je (p:=yz ch ⟨(k:Int),wc,wv⟩) hs9 (zC _) (by omega) (fun W d hb => ?_)).mono ?_
   ·exact QO (af hC5 hb (dM hC5)) (af Ic hb (dM Ic))
   rintro e w6 ⟨rfl,qB⟩;have hb:=zA (gW.out.trans ((AQ.trans (qB.mono AQ.size)).mono (by omega)));clear qB AQ;go_wp2_with fail
   go_ret;subst hq;exact⟨by rw[HTB.out] <;> rfl,hb.out⟩
 ·have hib:inB wg 0 ((n0:Int)-1)=false:=by unfold inB;simp;omega
  rw[hib];have hTB:uS p x ch ⟨wg,wc,wv⟩=false:=by unfold uS;rw[yD (fun h=>hin ⟨h.1,by have:=h.2;simp only at this;omega⟩),zX]
  have HTB:=zA hTB;clear hTB;go_wp2_with fail
  go_ret;subst hq;exact⟨by rw[HTB.out] <;> rfl,gW.out⟩
section
variable {α:Type} {L:Lay α} {e:TypeId} {B M M':Nat} {w w':World} {A:Option Addr} {n c:Nat} {xs:List α}
def mW(L:Lay α)(e:TypeId)(B M:Nat)(w:World)(A:Option Addr)(n c:Nat)(xs:List α):Prop :=
 ∃F:Nat→Prop,aB L e w F A n c xs∧∀g,F g→B≤g∧g<M
theorem mW.up(h:mW L e B M w A n c xs)(hM:M≤w.heap.size)(hb:Below M w w'):mW L e B M w' A n c xs:=by
 obtain⟨F,ho,hF⟩:=h;exact⟨F,ho.stay (fun g hg _=>hb.block g (hF g hg).2) hb.size,hF⟩
theorem mW.keep(h:mW L e B M w A n c xs)(hk:∀b,B≤b→b<M→w'.heap[b]? =w.heap[b]?)(hz:w.heap.size≤w'.heap.size):mW L e B M w' A n c xs:=by
 obtain⟨F,ho,hF⟩:=h;exact⟨F,ho.stay (fun g hg _=>hk g (hF g hg).1 (hF g hg).2) hz,hF⟩
theorem mW.more(h:mW L e B M w A n c xs)(hM:M≤M'):mW L e B M' w A n c xs:=by
 obtain⟨F,ho,hF⟩:=h;exact⟨F,ho,fun g hg=>⟨(hF g hg).1,zV (hF g hg).2 hM⟩⟩
theorem mW.nil_(L:Lay α)(e:TypeId)(B M:Nat)(w:World):mW L e B M w none 0 0 [] :=
 ⟨fun _=>False,⟨rfl,[],fun _ _=>False,Own.nil_ w 0 _ e _,(fun g h=>by cases h),(fun i x h=>by simp at h),fun i g _ h=>h.elim,fun i g _ h=>h.elim,fun i j g _ _ h=>h.elim⟩,fun g h=>h.elim⟩
theorem mW.empty(L:Lay α)(e:TypeId)(w:World)(hs:0<L.size):mW L e w.heap.size (w.heap.size+1) (w.alloc (.cells #[] e)) (some ⟨w.heap.size,0,none⟩) 0 0 []:=by
 refine⟨fun g=>g=w.heap.size,⟨rfl,[],fun _ _=>False,?_,fun g h => ?_,(fun i x h=>by simp at h),fun i g _ h=>h.elim,fun i g _ h=>h.elim,fun i j g _ _ h=>h.elim⟩,fun g h=>by omega⟩
 ·have h0:Own (w.alloc (.cells #[] e)) w.heap.size (w.heap.size+1) e L.size (some ⟨w.heap.size,0,none⟩) 0 0 []:=by simpa using Own.made (size:=L.size) (e:=e) w #[] 0 0 (by omega) (by simp) (zC _)
  exact h0.wider (zL _) (by simp)
 ·simp only[jk,Option.map_some,Option.some.injEq] at h;exact h.symm
end
theorem kG{α:Type}{L:Lay α}{P:Program}{w:World}{ops:Array Oper}{rest:List Oper}{o:Oper}{a:Act}{Q:Exit→Act→World→Prop}(hgd:o.guard=none)(s x:Operand)(t:TypeId)
  (ho:o.op=.call {callee := .builtin .append,args := #[s,x],argTypes := #[t,t]}){B M:Nat}{e:TypeId}{z:Value}{size bytes:Nat}(ht:P.underlying t=some (.slice e))
  (ai4:(P.info? e).map (fun i=>(i.zero,i.size,i.bytes))=some (some z,size,bytes))(hzs:z.cells.size=size)(hs0:0<size)(hsz:L.size=size){A:Option Addr}{n c:Nat}{xs:List α}(hrow:mW L e B M w A n c xs)
  (hs:a.eval s=.slice A n c){ad:Addr}(hx:a.eval x=.slice (some ad) 1 1){us:List Value}(hr:Seen w w.heap.size size (some ad) 1 us)(h1:∀u∈us,u.oneCell'=true){E:Nat→Prop}{y:α}(hy:L.own w E y us)(hE:∀g,E g→M≤g∧g<w.heap.size)
  (hn:n≤1048600)(hby:bytes≤1000)(hBM:B≤M∧M≤w.heap.size)
  (h:∀A' c' w',mW L e B w'.heap.size w' A' (n+1) c' (xs++[y])→au (fun b=>B≤b∧b<M) w w'→wpList P ops Q rest (a.put o.dst (.slice A' (n+1) c')) w'):wpList P ops Q (o::rest) a w:=by
 obtain⟨i0,jJ,QG,QH,QI⟩:=info_parts ai4;obtain⟨F,hR,hF⟩:=hrow;obtain⟨vs,how,hA,hgrow⟩:=hR.grow fun g hg=>zV (hF g hg).2 hBM.2
 have Ud:us.length=L.size:=by rw[hsz];simpa using hr.1
 rw[hsz] at how;refine kE hgd s x t ho 0 w.heap.size e i0 z size bytes ht jJ QG QH QI hzs hs0 A n c vs hs how w.heap.size ad 1 1 us hx hr h1 (by simp only[maxLen];omega) ?_ (zL _) ?_
 ·have:(n+1)*bytes≤1048601*1000:=Nat.mul_le_mul (by omega) hby;omega
 ·intro A' c' w' own' hb' Zv hA';have hrow':=hgrow E y us w' A' c' hy Ud (fun g hg=>⟨fun hf=>by have:=(hF g hf).2;have:=(hE g hg).1;omega,(hE g hg).2⟩) (by rw[hsz];exact own') Zv hA' hb'.size;refine h A' c' w' ⟨_,hrow',fun g hg => ?_⟩ ⟨hb'.os,hb'.tape,hb'.output,hb'.size,fun k hk hn=>Zv k hk fun hh=>hn ⟨(hF k (hA k hh)).1,(hF k (hA k hh)).2⟩⟩;rcases hg with hg|hg|hg
  ·exact⟨(hF g hg).1,by have:=(hF g hg).2;have:=hb'.size;omega⟩
  ·exact⟨by have:=(hE g hg).1;omega,by have:=(hE g hg).2;have:=hb'.size;omega⟩
  ·have hlt:g<w'.heap.size:=by
    cases A' with
    |none=>cases hg
    |some a' =>
     simp only[jk,Option.map_some,Option.some.injEq] at hg;exact hg ▸ own'.2 a' rfl
   rcases hA' with h2|h2
   ·rw[h2] at hg;exact⟨(hF g (hA g hg)).1,hlt⟩
   ·rw[h2] at hg;injection hg with hg
    exact⟨by omega,hlt⟩
theorem yu{w:World}{b:Nat}{c:List Value}{t:TypeId}(h:w.heap[b]? =some (.cells c.toArray t (0,0))):Seen w w.heap.size c.length (some ⟨b,0,none⟩) 1 c :=
 ⟨by simp,.inr ⟨b,0,rfl,dM h,fun j u hu=>by rw[yH];rw[ed h];exact hu⟩⟩
theorem take_snoc{α:Type}{l:List α}{k:Nat}(h:k<l.length):l.take k++[l[k]]=l.take (k+1):=by
 rw[List.take_add_one,zG h];rfl
theorem iM.rows{B M0 M1:Nat}{x:dY}{w:World}{A0 A1 A2:Option Addr}{n0 c0 n1 c1 n2 c2:Nat}(h0:mW aI 69 B M0 w A0 n0 c0 x.bJ)(h1:mW bD 135 M0 M1 w A1 n1 c1 x.aA)(h2:mW aX 137 M1 w.heap.size w A2 n2 c2 x.ay)(hm:B≤M0∧M0≤M1∧M1≤w.heap.size) :
  iM (fun b=>B≤b∧b<w.heap.size) x w A0 n0 c0 A1 n1 c1 A2 n2 c2:=by
 obtain⟨F0,o0,f0⟩:=h0;obtain⟨F1,o1,f1⟩:=h1;obtain⟨F2,o2,f2⟩:=h2;refine⟨F0,F1,F2,o0,o1,o2,fun b hb => ?_,fun b ha hb => ?_,fun b ha hb => ?_,fun b ha hb => ?_⟩
 ·rcases hb with hb|hb|hb
  ·have:=f0 b hb;omega
  ·have:=f1 b hb;omega
  ·have:=f2 b hb;omega
 ·have:=f0 b ha;have:=f1 b hb;omega
 ·have:=f0 b ha;have:=f2 b hb;omega
 ·have:=f1 b ha;have:=f2 b hb;omega
def SP.bld{α:Type}(L:Lay α)(t:TypeId)(B:Nat)(y:α):SP:=⟨fun lo hi W v=>v=.slice (some ⟨lo,0,none⟩) 1 1∧lo<hi∧∃us:List Value,W.heap[lo]? =some (.cells us.toArray t (0,0))∧us.length=L.size∧(∀u∈us,u.oneCell'=true)∧∃E,L.own W E y us∧∀g,E g→B≤g∧g<lo,
 fun hh hb ⟨h1,h2,us,h3,h4,h5,E,h6,h7⟩=>⟨h1,h2,us,(hb.block _ (zV h2 hh)).trans h3,h4,h5,E,L.stay h6 (fun k hk _=>hb.block k (by have:=(h7 k hk).2;omega)) hb.size,h7⟩⟩
theorem SP.TL{α:Type}{L:Lay α}{t:TypeId}{B:Nat}{y:α}{v:Value}{lo hi:Nat}{W:World}(h:(SP.bld L t B y).p lo hi W v):v=.slice (some ⟨lo,0,none⟩) 1 1∧lo<hi∧∃us:List Value,W.heap[lo]? =some (.cells us.toArray t (0,0))∧us.length=L.size∧(∀u∈us,u.oneCell'=true)∧∃E,L.own W E y us∧∀g,E g→B≤g∧g<lo:=h
def SP.chan(x:gy):SP:=⟨fun lo hi W v=>∃A1 n1 c1 A2 n2 c2 A3 n3 c3 F,v=.agg #[.int .i64 x.dC,.slice A1 n1 c1,.slice A2 n2 c2,.slice A3 n3 c3,.bool x.aC]∧bD.own W F x [.int .i64 x.dC,.slice A1 n1 c1,.slice A2 n2 c2,.slice A3 n3 c3,.bool x.aC]∧∀g,F g→lo≤g∧g<hi,
 fun hh hb ⟨A1,n1,c1,A2,n2,c2,A3,n3,c3,F,hv,h,hF⟩=>⟨A1,n1,c1,A2,n2,c2,A3,n3,c3,F,hv,bD.stay h (fun k hk _=>hb.block k (zV (hF k hk).2 hh)) hb.size,hF⟩⟩
theorem SP.ad6{x:gy}{v:Value}{lo hi:Nat}{W:World}(h:(SP.chan x).p lo hi W v):∃A1 n1 c1 A2 n2 c2 A3 n3 c3 F,v=.agg #[.int .i64 x.dC,.slice A1 n1 c1,.slice A2 n2 c2,.slice A3 n3 c3,.bool x.aC]∧bD.own W F x [.int .i64 x.dC,.slice A1 n1 c1,.slice A2 n2 c2,.slice A3 n3 c3,.bool x.aC]∧∀g,F g→lo≤g∧g<hi:=h
theorem SP.Lt{α:Type}{L:Lay α}{t:TypeId}{B:Nat}{y:α}{W:World}{us:List Value}{E:Nat→Prop}(hl:us.length=L.size)(h1:∀u∈us,u.oneCell'=true)(ho:L.own W E y us)(hE:∀g,E g→B≤g∧g<W.heap.size) :
  (SP.bld L t B y).p W.heap.size (W.alloc (.cells us.toArray t)).heap.size (W.alloc (.cells us.toArray t)) (.slice (some ⟨W.heap.size,0,none⟩) 1 1) :=
 have jg:yT W (W.alloc (.cells us.toArray t)):=(zD _ _).alloc (zC _) _
 ⟨rfl,by simp,us,ak W us.toArray t,hl,h1,E,L.stay ho (fun b _ hlt=>jg.block b hlt) jg.size,hE⟩
def SP.aa4(B:Nat)(x:eQ):SP:=⟨fun lo hi W v=>∃b A1 n1 c1 F,v=.pointer (some ⟨b,0,none⟩)∧b<W.heap.size∧W.heap[b]? =some (.cells #[.int .i64 x.dm,.slice A1 n1 c1] 137 (0,0))∧aX.own W F x [.int .i64 x.dm,.slice A1 n1 c1]∧∀g,F g→B≤g∧g<W.heap.size,
 fun hh hb ⟨b,A1,n1,c1,F,hv,h2,h3,h,hF⟩=>⟨b,A1,n1,c1,F,hv,zV h2 hb.size,(hb.block _ h2).trans h3,aX.stay h (fun k hk _=>hb.block k (hF k hk).2) hb.size,fun g hg=>⟨(hF g hg).1,zV (hF g hg).2 hb.size⟩⟩⟩
theorem SP.ZN{B:Nat}{x:eQ}{v:Value}{lo hi:Nat}{W:World}(h:(SP.aa4 B x).p lo hi W v):∃b A1 n1 c1 F,v=.pointer (some ⟨b,0,none⟩)∧b<W.heap.size∧W.heap[b]? =some (.cells #[.int .i64 x.dm,.slice A1 n1 c1] 137 (0,0))∧aX.own W F x [.int .i64 x.dm,.slice A1 n1 c1]∧∀g,F g→B≤g∧g<W.heap.size:=h
def SP.ad7(B:Nat)(x:eQ):SP:=⟨fun lo hi W v=>∃A1 n1 c1 F,v=.agg #[.int .i64 x.dm,.slice A1 n1 c1]∧aX.own W F x [.int .i64 x.dm,.slice A1 n1 c1]∧∀g,F g→B≤g∧g<W.heap.size,
 fun hh hb ⟨A1,n1,c1,F,hv,h,hF⟩=>⟨A1,n1,c1,F,hv,aX.stay h (fun k hk _=>hb.block k (hF k hk).2) hb.size,fun g hg=>⟨(hF g hg).1,zV (hF g hg).2 hb.size⟩⟩⟩
theorem SP.ad8{B:Nat}{x:eQ}{v:Value}{lo hi:Nat}{W:World}(h:(SP.ad7 B x).p lo hi W v):∃A1 n1 c1 F,v=.agg #[.int .i64 x.dm,.slice A1 n1 c1]∧aX.own W F x [.int .i64 x.dm,.slice A1 n1 c1]∧∀g,F g→B≤g∧g<W.heap.size:=h
end Go.Proofs.YtjcoapnggojpdaaGreatDoor
