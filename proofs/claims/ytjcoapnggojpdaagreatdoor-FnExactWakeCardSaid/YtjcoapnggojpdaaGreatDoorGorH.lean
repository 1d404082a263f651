/- Texts of the proof, laid compactly. -/
import Derived.Test.YtjcoapnggojpdaaGreatDoorGorOkS
import Derived.Test.YtjcoapnggojpdaaGreatDoorChanDrop
set_option maxHeartbeats 4000000
set_option maxRecDepth 100000
namespace Go.Proofs.YtjcoapnggojpdaaGreatDoor
set_option linter.unusedSimpArgs false
set_option linter.unusedVariables false
open Go.RowKit
def XC(op:Int):Bool:=decide (8≤op∧op≤15)
def XD(p:aS)(g:bY):Bool:=decide (g.ai=1) && !XC (jb p g).m7
def RF(op x y:Int):Int:=if okV x&&okV y then (if op=3 then (x+y)%1000 else if op=4 then (x-y)%1000 else if op=5 then (if x<y then 1 else 0) else 0) else 0
def aax(g:bY)(r:Int):Int:=g.gJ.getD r.toNat 0
def adm(i:iG)(g:bY):bY :=
 if i.m7=1 then overR g 0
 else if i.m7=2 then {g with gJ:=g.gJ.set i.fA.toNat i.fB,dE:=g.dE+1}
 else if i.m7=3∨i.m7=4∨i.m7=5 then {g with gJ:=g.gJ.set i.fA.toNat (RF i.m7 (aax g i.fB) (aax g i.fC)),dE:=g.dE+1}
 else if i.m7=6 then {g with dE:=i.fA}
 else if i.m7=7∧aax g i.fA≠0 then {g with dE:=i.fB}
 else {g with dE:=g.dE+1}
def adn(p:aS)(g:bY):Prop:=(0≤g.dE∧g.dE<dn p g.ax)∧g.gJ.length=6∧∀v∈g.gJ,okV v=true
theorem agv{p:aS}{g:bY}(h:sH p g=true):dH p=true∧adn p g:=by
 unfold sH nJ at h;simp only[zT,decide_eq_true_eq,zY] at h;exact⟨h.1,h.2.1,h.2.2.1,fun v hv=>h.2.2.2.2.1 v hv⟩
theorem ado(op x y:Int):0≤RF op x y∧RF op x y≤999:=by
 unfold RF;split
 ·split
  ·omega
  ·split
   ·omega
   ·split
    ·split <;> omega
    ·omega
 ·omega
def Tf(p:aS)(g:bY):Nat→bY
 |0=>g
 |k+1=>adm (jb p (Tf p g k)) (Tf p g k)
def Stops(p:aS)(g:bY)(lim n:Nat):Prop:=n≤lim∧(∀j,j<n→XD p (Tf p g j)=true)∧(n<lim→XD p (Tf p g n)=false)
def Ti(p:aS)(g:bY):Nat→Nat
 |0=>0
 |lim+1=>if Ti p g lim=lim∧XD p (Tf p g lim)=true then lim+1 else Ti p g lim
theorem Tj(p:aS)(g:bY):∀lim,Stops p g lim (Ti p g lim)
 |0=>⟨zC _,fun j hj=>absurd hj (Nat.not_lt_zero j),fun h=>absurd h (Nat.not_lt_zero _)⟩
 |lim+1=>by
  obtain⟨h1,h2,h3⟩:=Tj p g lim;unfold Ti;split
  ·rename_i h
   refine⟨zC _,fun j hj => ?_,fun hh=>by omega⟩;by_cases hj2:j=lim
   ·rw[hj2];exact h.2
   ·exact h2 j (by rw[h.1];omega)
  ·rename_i h
   refine⟨by omega,h2,fun _ => ?_⟩;by_cases hlt:Ti p g lim<lim
   ·exact h3 hlt
   ·have he:Ti p g lim=lim:=(by omega);rw[he];cases hb:XD p (Tf p g lim)
    ·rfl
    ·exact absurd ⟨he,hb⟩ h
def adp:bY:=⟨0,0,[],0,[]⟩
abbrev uZ(x:b7):List Value:=[.bool x.nS,.int .i64 x.iq,.bool x.gI,.int .i64 x.fG,.int .i64 x.bK,.int .i64 x.bU]
def DY(x:b7):Prop:=(Lit.int .i64 x.iq).wf=true∧(Lit.int .i64 x.fG).wf=true∧(Lit.int .i64 x.bK).wf=true∧(Lit.int .i64 x.bU).wf=true
theorem sJ:(Tryz.prog.info? 94).map (fun i=>(i.zero,i.size,i.bytes))=some (some (.agg #[.bool false,.int .i64 0,.bool false,.int .i64 0,.int .i64 0,.int .i64 0]),6,48):=by kernel_rfl
def N0(w:World)(lo:Nat)(ps:List b7)(e:Ending)(w':World):Prop :=
 ∃B c,e=.returned (.slice B ps.length c)∧Own w' lo w'.heap.size 94 6 B ps.length c ((ps.map uZ).flatten)∧Below lo w w'
theorem rowP{w:World}{lo hi:Nat}{A:Option Addr}{c:Nat}{ps:List b7}(h:Own w lo hi 94 6 A ps.length c ((ps.map uZ).flatten))(hw:∀x∈ps,DY x):aB lU 94 w (fun g=>lo≤g∧g<hi) A ps.length c ps :=
 kF (cells:=uZ) h rfl hw
def wC(lo:Nat)(W:World)(ps:List b7)(v:Value):Prop:=∃A c,v=.slice A ps.length c∧Own W lo W.heap.size 94 6 A ps.length c ((ps.map uZ).flatten)
theorem wC.up{lo:Nat}{W W':World}{ps:List b7}{v:Value}(h:wC lo W ps v)(hb:yT W W'):wC lo W' ps v:=by
 obtain⟨A,c,h1,h2⟩:=h;exact⟨A,c,h1,(h2.below hb (zC _)).wider (zC _) hb.size⟩
theorem N1:(Lit.int .i64 (-1)).wf=true:=by decide
theorem XE:(Lit.int .i64 0).wf=true:=by decide
theorem XF{g:bY}{r:Nat}(h:r<g.gJ.length):ji g r=g.gJ[r]:=by
 unfold ji;rw[yG (by omega),yA];simp[h]
theorem RG{g:bY}(h:g.gJ.all okV=true)(r:Int):0≤ji g r∧ji g r≤999:=by
 unfold ji;split
 ·rename_i h1
  have h2:r.toNat<g.gJ.length:=(by omega);have h3:=zY.1 h _ (zS h2);have h4:=of_decide_eq_true h3;simpa[h2] using h4
 ·omega
theorem nT{n:Int}{g:bY}(h:nJ n g=true):(0≤g.dE∧g.dE<n)∧g.gJ.length=6∧g.gJ.all okV=true:=by
 unfold nJ at h;simp only[zT] at h;exact⟨of_decide_eq_true h.1,of_decide_eq_true h.2.1,h.2.2.2.1⟩
theorem N2{p:aS}(hp:dH p=true){s:eG}(hs:s∈p.dR){k:Nat}{c:ja}(hc:s.dw[k]? =some c) :
  (-1≤c.gU∧c.gU<p.iD.length)∧(0≤c.mg∧c.mg≤5):=by
 unfold dH at hp;simp only[zT,zY] at hp;have h1:=hp.2.2.1 _ hs;unfold jw iY at h1;simp only[zT,zY] at h1;have hk:=(zO.1 hc).1;have h2:=h1.2.2.1 k (List.mem_range.2 hk);unfold qj at h2;rw[hc] at h2;simp only[zT] at h2;have h3:=h2.1;unfold rJ inB jC at h3;simp only[zT] at h3;have h4:=of_decide_eq_true h3.1;have h5:=of_decide_eq_true h3.2.1;exact⟨⟨h4.1,by omega⟩,h5⟩
theorem Et{p:aS}(hp:dH p=true){s:eG}(hs:s∈p.dR):s.dw.length≤4:=by
 unfold dH at hp;simp only[zT,zY] at hp;have h1:=hp.2.2.1 _ hs;unfold jw at h1;simp only[zT] at h1;exact of_decide_eq_true h1.1
theorem Tm{g:bY}{n k:Int}{c:ja}(hv:∀r,0≤ji g r∧ji g r≤999)(hn:(Lit.int .i64 n).wf=true)(hk : -1≤k∧k≤100)(hc:c.gU<100):∀x∈iL g n k c,DY x:=by
 intro x hx;unfold iL at hx;split at hx
 ·cases hx
 ·simp only[List.mem_singleton] at hx;subst hx;refine⟨WalkArith.wf_i64 (by simp only;omega),hn,WalkArith.wf_i64 (by simp only;omega),?_⟩;simp only;split
  ·have:=hv c.mg;exact WalkArith.wf_i64 (by omega)
  ·decide
theorem wE{g:bY}{n:Int}{cs:List ja}{k:Nat}{c:ja}(h:cs[k]? =some c):jy g n cs (k+1)=jy g n cs k++iL g n k c:=by
 unfold jy;rw[vF,h]
theorem Qh(g:bY)(n k:Int)(c:ja):(iL g n k c).length≤1:=by
 unfold iL;split <;> simp
theorem uw{g:bY}{n:Int}{cs:List ja}:∀k:Nat,(jy g n cs k).length≤k
 |0=>by simp[jy]
 |k+1=>by
  have h1:=uw (g:=g) (n:=n) (cs:=cs) k;cases h:cs[k]? with
  |none =>
   have h2:jy g n cs (k+1)=jy g n cs k:=by unfold jy;rw[vF,h];simp
   rw[h2];omega
  |some c =>
   rw[wE h,zZ];have:=Qh g n k c;omega
theorem Qi{p:aS}(hp:dH p=true){s:eG}(hs:s∈p.dR){g:bY}(hv:∀r,0≤ji g r∧ji g r≤999){n:Int}(hn:(Lit.int .i64 n).wf=true)(k:Nat):∀x∈jy g n s.dw k,DY x:=by
 intro x hx;unfold jy at hx;obtain⟨j,hj,hx⟩:=List.mem_flatMap.1 hx;cases hc:s.dw[j]? with
 |none=>rw[hc] at hx;cases hx
 |some c =>
  rw[hc] at hx;have h1:=N2 hp hs hc;have h2:=Et hp hs;have h3:=(zO.1 hc).1;have h4:=(Am hp).1;exact Tm hv hn (by omega) (by omega) x hx
theorem Bi{p:aS}{g:bY}{n:Int}(hp:dH p=true)(hg:nJ (dn p g.ax) g=true)(hn:(Lit.int .i64 n).wf=true):∀x∈jR p g n,DY x:=by
 obtain⟨hat,hrl,hra⟩:=nT hg;have hv:=RG hra;obtain⟨n8,n9,n11,WC⟩:=ql hp hat;have hc:=Am hp;intro x hx;unfold jR at hx;split at hx
 ·rename_i h
  have:=n8 h;split at hx
  ·cases hx
  ·simp only[List.mem_singleton] at hx;subst hx;have h9:=hv (jb p g).fB;exact⟨WalkArith.wf_i64 (by simp only;omega),hn,N1,WalkArith.wf_i64 (by simp only;omega)⟩
 ·split at hx
  ·rename_i h
   have:=n9 h;split at hx
   ·cases hx
   ·simp only[List.mem_singleton] at hx;subst hx;exact⟨WalkArith.wf_i64 (by simp only;omega),hn,N1,XE⟩
  ·split at hx
   ·rename_i h
    exact Qi hp (n11 h).2.2 hv hn _ x hx
   ·split at hx
    ·rename_i h
     have:=WC h;simp only[List.mem_singleton] at hx;subst hx;exact⟨WalkArith.wf_i64 (by simp only;omega),hn,N1,XE⟩
    ·cases hx
theorem Dp{p:aS}{g:bY}{n:Int}(hp:dH p=true)(hg:nJ (dn p g.ax) g=true):(jR p g n).length≤4:=by
 obtain⟨hat,hrl,hra⟩:=nT hg;obtain⟨n8,n9,n11,WC⟩:=ql hp hat;unfold jR;split
 ·split <;> simp
 ·split
  ·split <;> simp
  ·split
   ·rename_i h
    have:=uw (g:=g) (n:=n) (cs:=(l8 p (jb p g)).dw) (l8 p (jb p g)).dw.length;have:=Et hp (n11 h).2.2;omega
   ·split <;> simp
theorem Qj{p:aS}{g:bY}{n:Int}(hn:(Lit.int .i64 n).wf=true):∀x∈mi p g n,DY x:=by
 intro x hx;unfold mi at hx;split at hx
 ·rename_i h
  have h1:=h.1;unfold sH at h1;rw[zT] at h1;unfold toldOf at hx;split at hx
  ·exact Bi h1.1 h1.2 hn x hx
  ·cases hx
 ·cases hx
def xI(e:dY)(n:Int):bY:=(e.bJ[n.toNat]?).getD adp
def N3(i:iG):ja:=⟨decide (i.m7=8),i.fA,i.fB,if i.m7=8 then 0 else i.fC,0⟩
theorem lQ{p:aS}{e:dY}(h:sV p e=true):dH p=true∧nD p e.bJ=true∧nU p e.aA=true∧xX p e.bJ.length e.ay=true:=by
 unfold sV at h;simp only[zT] at h;exact⟨h.1,h.2.1,h.2.2.1,h.2.2.2.1⟩
theorem xK{p:aS}{gs:List bY}(h:nD p gs=true){g:bY}(hg:g∈gs):nJ (dn p g.ax) g=true:=by
 unfold nD at h;rw[zT,zY] at h;have:=h.2 g hg;unfold wF at this;rw[zT] at this;exact this.1
theorem mD{e:dY}{k:Nat}(h:k<e.bJ.length):xI e (k:Int)=e.bJ[k]:=by
 unfold xI;rw[yA,zG h,Option.getD_some]
def mV(F:Nat→Prop)(x:bY)(W:World)(A2:Option Addr)(n2 c2:Nat)(A4:Option Addr)(n4 c4:Nat):Prop :=
 (Lit.int .i64 x.ax).wf=true∧(Lit.int .i64 x.dE).wf=true∧(Lit.int .i64 x.ai).wf=true∧n2=x.gJ.length∧n4=x.jv.length ∧
 ∃F2 F4,aB Lay.int 3 W F2 A2 n2 c2 x.gJ∧aB cZ 171 W F4 A4 n4 c4 x.jv∧(∀g,F2 g∨F4 g→F g∧g<W.heap.size)∧(∀g,F2 g→¬F4 g)
theorem mV.see{F:Nat→Prop}{x:bY}{W:World}{A2 A4:Option Addr}{n2 c2 n4 c4:Nat}(h:mV F x W A2 n2 c2 A4 n4 c4) :
  aI.see W W.heap.size x [.int .i64 x.ax,.int .i64 x.dE,.slice A2 n2 c2,.int .i64 x.ai,.slice A4 n4 c4]:=by
 obtain⟨h0,h1,h3,h2,h4,F2,F4,o2,o4,hF,hd⟩:=h;exact o_ h0 h1 ⟨o2.cap,o2.uM,o2.seen fun g hg=>(hF g (.inl hg)).2⟩ h3 ⟨o4.cap,o4.uM,o4.seen fun g hg=>(hF g (.inr hg)).2⟩
theorem mV.stay{F:Nat→Prop}{x:bY}{W W':World}{A2 A4:Option Addr}{n2 c2 n4 c4:Nat}(h:mV F x W A2 n2 c2 A4 n4 c4)(hk:∀k,F k→k<W.heap.size→W'.heap[k]? =W.heap[k]?)(hz:W.heap.size≤W'.heap.size) :
  mV F x W' A2 n2 c2 A4 n4 c4:=by
 obtain⟨h0,h1,h3,h2,h4,F2,F4,o2,o4,hF,hd⟩:=h;exact⟨h0,h1,h3,h2,h4,F2,F4,o2.stay (fun g hg hlt=>hk g (hF g (.inl hg)).1 hlt) hz,o4.stay (fun g hg hlt=>hk g (hF g (.inr hg)).1 hlt) hz,fun g hg=>⟨(hF g hg).1,zV (hF g hg).2 hz⟩,hd⟩
theorem mV.wide{F F':Nat→Prop}{x:bY}{W:World}{A2 A4:Option Addr}{n2 c2 n4 c4:Nat}(h:mV F x W A2 n2 c2 A4 n4 c4)(hF:∀k,F k→k<W.heap.size→F' k):mV F' x W A2 n2 c2 A4 n4 c4:=by
 obtain⟨h0,h1,h3,h2,h4,F2,F4,o2,o4,h5,hd⟩:=h;exact⟨h0,h1,h3,h2,h4,F2,F4,o2,o4,fun g hg=>⟨hF g (h5 g hg).1 (h5 g hg).2,(h5 g hg).2⟩,hd⟩
theorem mV.below{lo B:Nat}{x:bY}{W W':World}{A2 A4:Option Addr}{n2 c2 n4 c4:Nat}{hi:Nat}(h:mV (fun g=>lo≤g∧g<hi) x W A2 n2 c2 A4 n4 c4)(hb:Below B W W')(hB:hi≤B):mV (fun g=>lo≤g∧g<hi) x W' A2 n2 c2 A4 n4 c4 :=
 h.stay (fun k hk hlt=>hb.block k (by omega)) hb.size
theorem mV.pc{F:Nat→Prop}{pr pc st:Int}{regs:List Int}{tr:List iK}{W:World}{A2 A4:Option Addr}{n2 c2 n4 c4:Nat}(h:mV F ⟨pr,pc,regs,st,tr⟩ W A2 n2 c2 A4 n4 c4){v:Int}(hv:(Lit.int .i64 v).wf=true) :
  mV F ⟨pr,v,regs,st,tr⟩ W A2 n2 c2 A4 n4 c4:=by
 obtain⟨h0,h1,h⟩:=h;exact⟨h0,hv,h⟩
theorem jO{x:bY}{w w':World}{e:Ending}(h:mY x w e w')(h0:(Lit.int .i64 x.ax).wf=true)(h1:(Lit.int .i64 x.dE).wf=true)(h3:(Lit.int .i64 x.ai).wf=true) :
  ∃A2 n2 c2 A4 n4 c4,e=.returned (.agg #[.int .i64 x.ax,.int .i64 x.dE,.slice A2 n2 c2,.int .i64 x.ai,.slice A4 n4 c4])∧mV (fun g=>w.heap.size≤g∧g<w'.heap.size) x w' A2 n2 c2 A4 n4 c4∧yT w w':=by
 obtain⟨hb,A2,c2,A4,c4,F2,F4,rfl,o2,o4,hF,hd⟩:=h;exact⟨A2,_,c2,A4,_,c4,rfl,⟨h0,h1,h3,rfl,rfl,F2,F4,o2,o4,fun g hg=>⟨hF g hg,(hF g hg).2⟩,hd⟩,hb⟩
theorem mV.copied{F:Nat→Prop}{x:bY}{w W:World}{A2 A4:Option Addr}{n2 c2 n4 c4:Nat}(h:mV F x W A2 n2 c2 A4 n4 c4)(hF:∀k,F k→w.heap.size≤k)(hb:yT w W) :
  mY x w (.returned (.agg #[.int .i64 x.ax,.int .i64 x.dE,.slice A2 n2 c2,.int .i64 x.ai,.slice A4 n4 c4])) W:=by
 obtain⟨h0,h1,h3,rfl,rfl,F2,F4,o2,o4,h5,hd⟩:=h;exact⟨hb,A2,c2,A4,c4,F2,F4,rfl,o2,o4,fun g hg=>⟨hF g (h5 g hg).1,(h5 g hg).2⟩,hd⟩
theorem xN{W:World}{b:Nat}{t:TypeId}{z0 z1 z2 z3 z4 u0 u1 u2 u3 u4:Value}(h:W.heap[b]? =some (.cells #[z0,z1,z2,z3,z4] t (0,0))) :
  (((((W.setCell ⟨b,0,none⟩ u0).setCell ⟨b,1,none⟩ u1).setCell ⟨b,2,none⟩ u2).setCell ⟨b,3,none⟩ u3).setCell ⟨b,4,none⟩ u4).heap[b]? =some (.cells #[u0,u1,u2,u3,u4] t (0,0)) ∧
  (∀k,k≠b→(((((W.setCell ⟨b,0,none⟩ u0).setCell ⟨b,1,none⟩ u1).setCell ⟨b,2,none⟩ u2).setCell ⟨b,3,none⟩ u3).setCell ⟨b,4,none⟩ u4).heap[k]? =W.heap[k]?) ∧
  (((((W.setCell ⟨b,0,none⟩ u0).setCell ⟨b,1,none⟩ u1).setCell ⟨b,2,none⟩ u2).setCell ⟨b,3,none⟩ u3).setCell ⟨b,4,none⟩ u4).heap.size=W.heap.size:=by
 refine⟨az (j:=4) (az (j:=3) (az (j:=2) (az (j:=1) (az (j:=0) h)))),fun k hk => ?_,by simp only[zM]⟩;rw[zN _ _ _ k (by simp only;omega),zN _ _ _ k (by simp only;omega),zN _ _ _ k (by simp only;omega),zN _ _ _ k (by simp only;omega),zN _ _ _ k (by simp only;omega)]
theorem zu{W:World}{b j:Nat}{cur:Array Value}{t:TypeId}{u:Value}(h:W.heap[b]? =some (.cells cur t (0,0))) :
  (W.setCell ⟨b,j,none⟩ u).heap[b]? =some (.cells (cur.setIfInBounds j u) t (0,0))∧(∀k,k≠b→(W.setCell ⟨b,j,none⟩ u).heap[k]? =W.heap[k]?)∧(W.setCell ⟨b,j,none⟩ u).heap.size=W.heap.size :=
 ⟨az h,fun k hk=>zN _ _ _ k (by simp only;omega),by simp only[zM]⟩
theorem wB{B b:Nat}{w w':World}{u0 u1 u2 u3 u4:Value}(h:Below B w w')(hb:B≤b):Below B w (((((w'.setCell ⟨b,0,none⟩ u0).setCell ⟨b,1,none⟩ u1).setCell ⟨b,2,none⟩ u2).setCell ⟨b,3,none⟩ u3).setCell ⟨b,4,none⟩ u4) :=
 aj (p:=⟨b,4,none⟩) (aj (p:=⟨b,3,none⟩) (aj (p:=⟨b,2,none⟩) (aj (p:=⟨b,1,none⟩) (aj (p:=⟨b,0,none⟩) h hb _) hb _) hb _) hb _) hb _
theorem V0{p:aS}{g:bY}(hp:dH p=true)(hat:0≤g.dE∧g.dE<dn p g.ax) :
  (decide ((jb p g).m7=8)||(decide ((jb p g).m7=9)||(decide ((jb p g).m7=12)||(decide ((jb p g).m7=11)&&decide ((l8 p (jb p g)).fV = -1)))))=IE p g:=by
 have h:=(ql hp hat).2.2.1;unfold IE;by_cases h1:(jb p g).m7=11
 ·obtain⟨_,h2,_⟩:=h h1;have h3:decide ((l8 p (jb p g)).fV = -1)=decide ((l8 p (jb p g)).fV<0):=by
   rw[decide_eq_decide];omega
  rw[h3]
 ·rw[yD h1,zX,zX]
theorem L9{n:Int}{g:bY}(h:nJ n g=true):0≤g.dE∧g.dE<n:=by
 unfold nJ at h;rw[zT] at h;exact of_decide_eq_true h.1
theorem OM{w:World}{hi:Nat}{p:aS}{g:bY}{vs us:List Value}(hp:aV.see w hi p vs)(hg:aI.see w hi g us)(cu:hi≤w.heap.size)(nH:dV p≤1048576)(m8:dH p=true)(hat:0≤g.dE∧g.dE<dn p g.ax) :
  Calls Tryz.prog 96 #[.agg vs.toArray,.agg us.toArray] w fun e w'=>e=.returned (.bool (IE p g))∧yT w w':=by
 have HI:=zA (fun (W:World) (hW:yT w W)=>AU (aV.keep hp fun k hk=>hW.block k (by omega)) (aI.keep hg fun k hk=>hW.block k (by omega)) (zJ cu hW.size) nH hat);have CY:=(ql m8 hat).2.2.1;obtain⟨A0,n0,c0,B2,m2,d2,A3,n3,c3,rfl,-,-,⟨hc2,jY,s2⟩,-⟩:=fH hp;have HS:=zA (fun (W:World) (hW:yT w W)=>s2.below hW cu);have o8:m2≤1048576:=by have:=s2.1;unfold dV at nH;omega
 obtain⟨A2,n2,c2,A4,n4,c4,rfl,-⟩:=gK hg;unfold IE;clear hp hg s2 hat m8 nH;generalize jb p g=ins at *;obtain⟨op,a,b,c⟩:=ins;simp only at CY HI ⊢;have lG:=af (ak w #[.slice A0 n0 c0,.int .i64 p.ay,.slice B2 m2 d2,.slice A3 n3 c3] 46) ((zD _ _).alloc (zC _) (.cells #[.int .i64 g.ax,.int .i64 g.dE,.slice A2 n2 c2,.int .i64 g.ai,.slice A4 n4 c4] 69)) (by simp);have hB0:yT w ((w.alloc (.cells #[.slice A0 n0 c0,.int .i64 p.ay,.slice B2 m2 d2,.slice A3 n3 c3] 46)).alloc (.cells #[.int .i64 g.ax,.int .i64 g.dE,.slice A2 n2 c2,.int .i64 g.ai,.slice A4 n4 c4] 69)):=((zD _ _).alloc (zC _) _).alloc (by simp) _;have hz0:w.heap.size+2≤((w.alloc (.cells #[.slice A0 n0 c0,.int .i64 p.ay,.slice B2 m2 d2,.slice A3 n3 c3] 46)).alloc (.cells #[.int .i64 g.ax,.int .i64 g.dE,.slice A2 n2 c2,.int .i64 g.ai,.slice A4 n4 c4] 69)).heap.size:=(by simp);go_enter Tryz.func96,Tryz.ntmps96
 go_wp2_with fail
 refine (HI.out _ hB0).mono ?_;rintro e w1 ⟨rfl,hb1⟩;have hz1:=hb1.size;go_upto_region 2 with (fail)
 have Qn:yT w1 (w1.alloc (.cells #[.int .i64 op,.int .i64 a,.int .i64 b,.int .i64 c] 76)):=(zD _ _).alloc (zC _) _;have hB1:=hB0.trans ((hb1.mono (by omega)).trans (Qn.mono (by omega)));have vS:=af (af lG hb1 (by omega)) Qn (by omega);have wO:=ak w1 #[.int .i64 op,.int .i64 a,.int .i64 b,.int .i64 c] 76;have iC:=zA hB1;have xM:=ae (j:=2) vS rfl;have x0:=ae (j:=0) wO rfl;have x1:=ae (j:=1) wO rfl;by_cases h8:op=8
 ·subst h8;go_wp2_with fail
  go_ret;exact⟨rfl,iC.out⟩
 by_cases h9:op=9
 ·subst h9;go_wp2_with fail
  go_ret;exact⟨rfl,iC.out⟩
 by_cases Bf:op=12
 ·subst Bf;go_wp2_with fail
  go_ret;exact⟨rfl,iC.out⟩
 by_cases h11:op=11
 ·subst h11;obtain⟨⟨ha,hb⟩,-,-⟩:=CY rfl;obtain⟨q,rfl⟩:=yO ha;have hq:q<m2:=by have:=(HS.out _ (zD _ _)).1;omega
  obtain⟨hx,g9,o9,ws,rfl,hg9,aW,hcell⟩:=(HS.out _ iC.out).at_ hq;have sW:l8 p ⟨11,q,b,c⟩=p.dR[q]:=by unfold l8;simp only[yA];rw[zG hx,Option.getD_some]
  have X9:=zA sW;clear sW;generalize p.dR[q]=s at *;obtain⟨B0,m0,d0,rfl,-⟩:=g_ aW;have eu:=hcell 1 _ rfl;simp only[show bM.size=2 from rfl,←zH] at eu;have u_:(q:Int)<(m2:Int):=(by omega);clear hcell aW HS CY hb hB0 lG hb1 vS wO Qn hB1 HI;go_wp2_with fail
  go_ret;exact⟨by rw[X9.out];simp,iC.out⟩
 ·have q8:(op==8)=false:=(by simp[h8]);have q9:(op==9)=false:=(by simp[h9]);have WE:(op==12)=false:=(by simp[Bf]);have q11:(op==11)=false:=(by simp[h11]);have HR:=zA (show (decide (op=8)||(decide (op=9)||(decide (op=12)||(decide (op=11)&&decide ((l8 p ⟨op,a,b,c⟩).fV<0)))))=false by rw[yD h8,yD h9,yD Bf,yD h11];rfl);clear h8 h9 Bf h11;go_wp2_with fail
  go_ret;exact⟨by rw[HR.out];rfl,iC.out⟩
end Go.Proofs.YtjcoapnggojpdaaGreatDoor
