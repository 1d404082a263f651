/- Texts of the proof, laid compactly. -/
import Derived.Test.YtjcoapnggojpdaaGreatDoorGDEng
import Derived.Test.YtjcoapnggojpdaaGreatDoorGDProg
import Derived.Test.YtjcoapnggojpdaaGreatDoorGInv
set_option maxHeartbeats 2000000
set_option maxRecDepth 100000
namespace Go.Proofs.YtjcoapnggojpdaaGreatDoor
set_option linter.unusedSimpArgs false
set_option linter.unusedVariables false
open Go.RowKit
def okV(v:Int):Bool:=decide (0≤v∧v≤999)
def okW(d:di):Bool:=decide (0≤d.fG ∧ -1≤d.bK)&&okV d.bU
def okR(d:di):Bool:=okW d&&decide (d.bU=0)
def Fv(n1 n3:Nat)(cap:Int)(cl:Bool):Bool:=cl||decide (0<n3∨(n1:Int)<cap)
def Fz(n1 n2:Nat)(cl:Bool):Bool:=decide (0<n1∨0<n2)||cl
def JA(n1 n2 n3:Nat)(cap:Int)(cl:Bool):Bool:=decide (0<n2)&&Fv n1 n3 cap cl||decide (0<n3)&&Fz n1 n2 cl
def qI(n1:Nat)(cap:Int):Bool:=decide (0≤cap∧cap≤4∧(n1:Int)≤cap)
def uu(c:gy):Bool :=
 qI c.k6.length c.dC&&(!JA c.k6.length c.dh.length c.dG.length c.dC c.aC&&(c.k6.all okV&&(c.dh.all okW&&c.dG.all okR)))
theorem BV{v:Int}(h:0≤v∧v≤999):okV v=true:=yE h
theorem uN{v:Int}(h:¬(0≤v∧v≤999)):okV v=false:=yD h
theorem PV(c:gy):uu c=(qI c.k6.length c.dC&&(c.dh.all okW&&(c.dG.all okR&&(c.k6.all okV &&
  (!(decide (0<c.dh.length)&&(decide ((c.k6.length:Int)<c.dC∨0<c.dG.length)||c.aC))&&(decide (c.dG.length=0)||(decide (c.k6.length=0) && !c.aC))))))):=by
 unfold uu JA Fv Fz qI;generalize c.dh.all okW=a;generalize c.dG.all okR=b;generalize c.k6.all okV=d;generalize c.aC=e;generalize c.k6.length=n1;generalize c.dh.length=n2;generalize c.dG.length=n3;generalize c.dC=q;by_cases hr:0≤q∧q≤4∧(n1:Int)≤q
 ·rcases Nat.eq_zero_or_pos n2 with h2|h2 <;> rcases Nat.eq_zero_or_pos n3 with h3|h3 <;> rcases Nat.eq_zero_or_pos n1 with h1|h1 <;> by_cases h4:(n1:Int)<q <;>
   cases a <;> cases b <;> cases d <;> cases e <;> simp[hr,h1,h2,h3,h4,Nat.ne_of_gt] <;> omega
 ·simp[hr]
theorem FB(v:Int)(w:World):Calls Tryz.prog 51 #[.int .i64 v] w fun e w'=>e=.returned (.bool (okV v))∧w=w':=by
 by_cases h0:0≤v
 ·by_cases h1:v≤999
  ·rw[BV (by omega)];go_enter Tryz.func51,Tryz.ntmps51
   go_wp2
   go_ret;exact⟨rfl,rfl⟩
  ·rw[uN (by omega)];have h2:decide (v≤999)=false:=yD h1;clear h1;go_enter Tryz.func51,Tryz.ntmps51
   go_wp2
   go_ret;exact⟨rfl,rfl⟩
 ·rw[uN (by omega)];have h2:decide (0≤v)=false:=yD h0;clear h0;go_enter Tryz.func51,Tryz.ntmps51
  go_wp2
  go_ret;exact⟨rfl,rfl⟩
theorem BX(d:di)(w:World):Calls Tryz.prog 268 #[.agg #[.int .i64 d.fG,.int .i64 d.bK,.int .i64 d.bU]] w fun e w'=>e=.returned (.bool (okW d))∧yT w w':=by
 obtain⟨g,q,v⟩:=d;show Calls Tryz.prog 268 #[.agg #[.int .i64 g,.int .i64 q,.int .i64 v]] w fun e w'=>e=.returned (.bool (decide (0≤g ∧ -1≤q)&&okV v))∧yT w w'
 by_cases h0:0≤g
 ·by_cases h1 : -1≤q
  ·rw[yE (show 0≤g ∧ -1≤q from ⟨h0,h1⟩),Bool.true_and];go_enter Tryz.func268,Tryz.ntmps268
   go_wp2_with fail
   refine (FB v _).mono ?_;rintro e w1 ⟨rfl,rfl⟩;go_wp2_with fail
   go_ret;exact⟨rfl,by go_grown⟩
  ·rw[yD (show ¬(0≤g ∧ -1≤q) from fun h=>h1 h.2),zX];have h2:decide (-1≤q)=false:=yD h1;clear h1;go_enter Tryz.func268,Tryz.ntmps268
   go_wp2_with fail
   go_ret;exact⟨rfl,by go_grown⟩
 ·rw[yD (show ¬(0≤g ∧ -1≤q) from fun h=>h0 h.1),zX];have h2:decide (0≤g)=false:=yD h0;clear h0;go_enter Tryz.func268,Tryz.ntmps268
  go_wp2_with fail
  go_ret;exact⟨rfl,by go_grown⟩
theorem FC(d:di)(w:World):Calls Tryz.prog 269 #[.agg #[.int .i64 d.fG,.int .i64 d.bK,.int .i64 d.bU]] w fun e w'=>e=.returned (.bool (okR d))∧yT w w':=by
 obtain⟨g,q,v⟩:=d;have HO:=zA (show ∀W,Calls Tryz.prog 268 #[.agg #[.int .i64 g,.int .i64 q,.int .i64 v]] W fun e w'=>e=.returned (.bool (okW ⟨g,q,v⟩))∧yT W w' from fun W=>BX ⟨g,q,v⟩ W);show Calls Tryz.prog 269 #[.agg #[.int .i64 g,.int .i64 q,.int .i64 v]] w fun e w'=>e=.returned (.bool (okW ⟨g,q,v⟩&&decide (v=0)))∧yT w w'
 generalize okW ⟨g,q,v⟩=b at *;have HB:=zA ((zD w.heap.size w).alloc (zC _) (.cells #[.int .i64 g,.int .i64 q,.int .i64 v] 49));have HX:=zA (ak w #[.int .i64 g,.int .i64 q,.int .i64 v] 49);by_cases h0:v=0
 ·subst h0;go_enter Tryz.func269,Tryz.ntmps269
  go_wp2_with fail
  refine (HO.out _).mono ?_;rintro e w1 ⟨rfl,hb⟩;have hx2:=ae (j:=2) (af HX.out hb (by simp)) rfl;have hB:=HB.out.trans (hb.mono (by simp));cases b
  ·go_wp2_with fail
   go_ret;exact⟨rfl,hB⟩
  ·go_wp2_with fail
   go_ret;exact⟨by simp,hB⟩
 ·go_enter Tryz.func269,Tryz.ntmps269
  go_wp2_with fail
  refine (HO.out _).mono ?_;rintro e w1 ⟨rfl,hb⟩;have hx2:=ae (j:=2) (af HX.out hb (by simp)) rfl;have hB:=HB.out.trans (hb.mono (by simp));cases b
  ·go_wp2_with fail
   go_ret;exact⟨rfl,hB⟩
  ·go_wp2_with fail
   go_ret;exact⟨by simp[h0],hB⟩
theorem SS{A1 A2 A3:Option Addr}{n1 c1 n2 c2 n3 c3:Nat}{cap:Int}{cl:Bool}(w:World) :
  Calls Tryz.prog 303 #[.agg #[.int .i64 cap,.slice A1 n1 c1,.slice A2 n2 c2,.slice A3 n3 c3,.bool cl]] w fun e w'=>e=.returned (.bool (Fv n1 n3 cap cl))∧yT w w':=by
 unfold Fv;cases cl
 ·by_cases h3:0<n3
  ·rw[yE (show 0<n3∨(n1:Int)<cap from .inl h3)];go_enter Tryz.func303,Tryz.ntmps303
   go_wp2_with fail
   go_ret;exact⟨rfl,by go_grown⟩
  ·obtain rfl:n3=0:=(by omega);by_cases h1:(n1:Int)<cap
   ·rw[yE (show 0<0∨(n1:Int)<cap from .inr h1)];go_enter Tryz.func303,Tryz.ntmps303
    go_wp2_with fail
    go_ret;exact⟨rfl,by go_grown⟩
   ·rw[yD (show ¬(0<0∨(n1:Int)<cap) by omega)];have h2:decide ((n1:Int)<cap)=false:=yD h1;clear h1;go_enter Tryz.func303,Tryz.ntmps303
    go_wp2_with fail
    go_ret;exact⟨rfl,by go_grown⟩
 ·go_enter Tryz.func303,Tryz.ntmps303
  go_wp2_with fail
  go_ret;exact⟨rfl,by go_grown⟩
theorem SV{A1 A2 A3:Option Addr}{n1 c1 n2 c2 n3 c3:Nat}{cap:Int}{cl:Bool}(w:World) :
  Calls Tryz.prog 304 #[.agg #[.int .i64 cap,.slice A1 n1 c1,.slice A2 n2 c2,.slice A3 n3 c3,.bool cl]] w fun e w'=>e=.returned (.bool (Fz n1 n2 cl))∧yT w w':=by
 unfold Fz;by_cases h1:0<n1
 ·rw[yE (show 0<n1∨0<n2 from .inl h1)];go_enter Tryz.func304,Tryz.ntmps304
  go_wp2_with fail
  go_ret;exact⟨rfl,by go_grown⟩
 ·obtain rfl:n1=0:=(by omega);by_cases h2:0<n2
  ·rw[yE (show 0<0∨0<n2 from .inr h2)];go_enter Tryz.func304,Tryz.ntmps304
   go_wp2_with fail
   go_ret;exact⟨rfl,by go_grown⟩
  ·obtain rfl:n2=0:=(by omega);rw[yD (show ¬(0<0∨0<0) by omega)];cases cl
   ·go_enter Tryz.func304,Tryz.ntmps304
    go_wp2_with fail
    go_ret;exact⟨rfl,by go_grown⟩
   ·go_enter Tryz.func304,Tryz.ntmps304
    go_wp2_with fail
    go_ret;exact⟨rfl,by go_grown⟩
theorem DW{A1 A2 A3:Option Addr}{n1 c1 n2 c2 n3 c3:Nat}{cap:Int}{cl:Bool}(w:World) :
  Calls Tryz.prog 266 #[.agg #[.int .i64 cap,.slice A1 n1 c1,.slice A2 n2 c2,.slice A3 n3 c3,.bool cl]] w fun e w'=>e=.returned (.bool (JA n1 n2 n3 cap cl))∧yT w w':=by
 have HT:=zA (fun W=>SS (A1:=A1) (A2:=A2) (A3:=A3) (n1:=n1) (c1:=c1) (n2:=n2) (c2:=c2) (n3:=n3) (c3:=c3) (cap:=cap) (cl:=cl) W);have HG:=zA (fun W=>SV (A1:=A1) (A2:=A2) (A3:=A3) (n1:=n1) (c1:=c1) (n2:=n2) (c2:=c2) (n3:=n3) (c3:=c3) (cap:=cap) (cl:=cl) W);unfold JA;generalize Fv n1 n3 cap cl=tk at *;generalize Fz n1 n2 cl=gv at *;have HB:=zA ((zD w.heap.size w).alloc (zC _) (.cells #[.int .i64 cap,.slice A1 n1 c1,.slice A2 n2 c2,.slice A3 n3 c3,.bool cl] 135));have HX:=zA (ak w #[.int .i64 cap,.slice A1 n1 c1,.slice A2 n2 c2,.slice A3 n3 c3,.bool cl] 135);by_cases h2:0<n2
 ·rw[yE h2,Bool.true_and];go_enter Tryz.func266,Tryz.ntmps266
  go_wp2_with fail
  refine (HT.out _).mono ?_;rintro e w1 ⟨rfl,hb⟩;have qE:=zA (af HX.out hb (by simp));have q0:=ae (j:=0) qE.out rfl;have q1:=ae (j:=1) qE.out rfl;have q2:=ae (j:=2) qE.out rfl;have q3:=ae (j:=3) qE.out rfl;have q4:=ae (j:=4) qE.out rfl;have Rk:w.heap.size<w1.heap.size:=by have:=hb.size;simp at this;omega
  have iC:=zA (HB.out.trans (hb.mono (by simp)));clear hb;cases tk
  ·by_cases h3:0<n3
   ·go_wp2_with fail
    refine (HG.out _).mono ?_;rintro e w2 ⟨rfl,hb2⟩;have lK:=zA (iC.out.trans (hb2.mono (by omega)));clear hb2;go_wp2_with fail
    go_ret;exact⟨by simp[h3],lK.out⟩
   ·obtain rfl:n3=0:=(by omega);go_wp2_with fail
    go_ret;exact⟨rfl,iC.out⟩
  ·go_wp2_with fail
   go_ret;exact⟨rfl,iC.out⟩
 ·obtain rfl:n2=0:=(by omega);by_cases h3:0<n3
  ·rw[yE h3,Bool.true_and];go_enter Tryz.func266,Tryz.ntmps266
   go_wp2_with fail
   refine (HG.out _).mono ?_;rintro e w2 ⟨rfl,hb2⟩;have lK:=zA (HB.out.trans (hb2.mono (by simp)));clear hb2;go_wp2_with fail
   go_ret;exact⟨rfl,lK.out⟩
  ·obtain rfl:n3=0:=(by omega);go_enter Tryz.func266,Tryz.ntmps266
   go_wp2_with fail
   go_ret;exact⟨rfl,by go_grown⟩
def dn(p:aS)(q:Int):Int:=if 0≤q∧q<p.dP.length then (match p.dP[q.toNat]? with|some x=>(x.jT.length:Int)|none=>0) else 0
theorem Dw(v c:Int)(w:World):Calls Tryz.prog 117 #[.int .i64 v,.int .i64 c] w fun e w'=>e=.returned (.bool (decide (0≤v∧v<c)))∧w=w':=by
 by_cases h0:0≤v
 ·by_cases h1:v<c
  ·rw[yE (show 0≤v∧v<c from ⟨h0,h1⟩)];go_enter Tryz.func117,Tryz.ntmps117
   go_wp2
   go_ret;exact⟨rfl,rfl⟩
  ·rw[yD (show ¬(0≤v∧v<c) by omega)];have h2:decide (v<c)=false:=yD h1;clear h1;go_enter Tryz.func117,Tryz.ntmps117
   go_wp2
   go_ret;exact⟨rfl,rfl⟩
 ·rw[yD (show ¬(0≤v∧v<c) by omega)];have h2:decide (0≤v)=false:=yD h0;clear h0;go_enter Tryz.func117,Tryz.ntmps117
  go_wp2
  go_ret;exact⟨rfl,rfl⟩
theorem Gj{w:World}{hi:Nat}{p:aS}{vs:List Value}{q:Int}(h:aV.see w hi p vs)(cu:hi≤w.heap.size)(hn:dV p≤1048576) :
  Calls Tryz.prog 188 #[.agg vs.toArray,.int .i64 q] w fun e w'=>e=.returned (.int .i64 (dn p q))∧yT w w':=by
 obtain⟨A0,n0,c0,A2,n2,c2,A3,n3,c3,rfl,⟨hc0,hm0,s0⟩,hw1,⟨hc2,jY,s2⟩,⟨hc3,Be,s3⟩⟩:=fH h;have L3:=zA s3.1;clear h hw1;by_cases hq:0≤q∧q<(n3:Int)
 ·obtain⟨m,rfl⟩:∃m:Nat,q=m:=⟨q.toNat,by omega⟩
  have hlt:m<n3:=(by omega);obtain⟨hx,g,o,vs,rfl,hg,aW,hcell⟩:=s3.at_ hlt;have hz:=zA (show dn p (m:Int)=(p.dP[m].jT.length:Int) by
   unfold dn;rw[yG (by rw[L3.out];omega)];simp[zG hx])
  generalize p.dP[m]=x at *;obtain⟨B0,m0,b0,rfl,hd0,he0,t0⟩:=mr aW;have hzz:dn p (m:Int)=(m0:Int):=by rw[hz.out,t0.1]
  have dK:=hcell 0 _ rfl;simp only[show eU.size=1 from rfl,←zH,zI,zK] at dK;clear hcell aW t0 hx;have hm1:(m:Int)<(n3:Int):=(by omega);have hgw:g<w.heap.size:=(by omega);have jY:decide ((m:Int)<0)=false:=yD (by omega);have Be:decide ((n3:Int)≤(m:Int))=false:=yD (by omega);rw[hzz];clear hzz hz hq s0 s2 s3;go_enter Tryz.func188,Tryz.ntmps188
  go_wp2_with fail
  try (go_quiet (fail);go_wp2_with fail)
  go_ret;exact⟨rfl,by first|go_grown|exact gz (by go_grown) _⟩
 ·have hz:dn p q=0:=by unfold dn;rw[yF (by rw[L3.out];exact hq)]
  rw[hz];clear hz s0 s2 s3;by_cases h1:q<0
  ·clear hq;go_enter Tryz.func188,Tryz.ntmps188
   go_wp2_with fail
   go_ret;exact⟨rfl,by go_grown⟩
  ·have h2:(n3:Int)≤q:=(by omega);have h3:decide (q<0)=false:=yD h1;clear hq h1;go_enter Tryz.func188,Tryz.ntmps188
   go_wp2_with fail
   go_ret;exact⟨rfl,by go_grown⟩
theorem Gl{w:World}{hi:Nat}{p:aS}{vs:List Value}{q:Int}(h:aV.see w hi p vs)(cu:hi≤w.heap.size)(hn:dV p≤1048576) :
  Calls Tryz.prog 177 #[.agg vs.toArray,.int .i64 q] w fun e w'=>e=.returned (.int .i64 (dn p q))∧yT w w':=by
 obtain⟨A0,n0,c0,A2,n2,c2,A3,n3,c3,rfl,⟨hc0,hm0,s0⟩,hw1,⟨hc2,jY,s2⟩,⟨hc3,Be,s3⟩⟩:=fH h;have L3:=zA s3.1;clear h hw1;by_cases hq:0≤q∧q<(n3:Int)
 ·have hd:=zA (yE hq);obtain⟨m,rfl⟩:∃m:Nat,q=m:=⟨q.toNat,by omega⟩
  have hlt:m<n3:=(by omega);obtain⟨hx,g,o,vs,rfl,hg,aW,hcell⟩:=s3.at_ hlt;have hz:=zA (show dn p (m:Int)=(p.dP[m].jT.length:Int) by
   unfold dn;rw[yG (by rw[L3.out];omega)];simp[zG hx])
  generalize p.dP[m]=x at *;obtain⟨B0,m0,b0,rfl,hd0,he0,t0⟩:=mr aW;have hzz:dn p (m:Int)=(m0:Int):=by rw[hz.out,t0.1]
  have dK:=hcell 0 _ rfl;simp only[show eU.size=1 from rfl,←zH,zI,zK] at dK;clear hcell aW t0 hx;have hm1:(m:Int)<(n3:Int):=(by omega);have hgw:g<w.heap.size:=(by omega);rw[hzz];clear hzz hz hq s0 s2 s3;go_enter Tryz.func177,Tryz.ntmps177
  go_wp2_with fail
  refine (Dw _ _ _).mono ?_;rw[hd.out];rintro e w1 ⟨rfl,rfl⟩;go_wp2_with fail
  try (go_quiet (fail);go_wp2_with fail)
  go_ret;exact⟨rfl,by first|go_grown|exact gz (by go_grown) _⟩
 ·have hd:=zA (yD hq);have hz:dn p q=0:=by unfold dn;rw[yF (by rw[L3.out];exact hq)]
  rw[hz];clear hz s0 s2 s3 hq;go_enter Tryz.func177,Tryz.ntmps177
  go_wp2_with fail
  refine (Dw _ _ _).mono ?_;rw[hd.out];rintro e w1 ⟨rfl,rfl⟩;go_wp2_with fail
  go_ret;exact⟨rfl,by go_grown⟩
section
variable {P:Program} {ops:Array Oper} {Q:Exit→Act→World→Prop}
def mJ(ops:Array Oper):Bool :=
 (List.range ops.size).all fun i=>((ops[i]?).map fun o=>o.after.all fun e=>decide (e.on<i) || !Region.binds .any e).getD true
theorem oU(h:mJ ops=true){i:Nat}{o:Oper}(ho:ops[i]? =some o):∀e∈o.after,Region.binds .any e=true→e.on<i:=by
 have hi:=(Array.getElem?_eq_some_iff.1 ho).1;have h1:=zY.1 h i (List.mem_range.2 hi);rw[ho] at h1;intro e he hb;have h2:=Array.all_eq_true_iff_forall_mem.1 h1 e he;rw[hb] at h2;simpa using h2
theorem Xa(h:mJ ops=true){listed:Array Bool}(hs:listed.size=ops.size)(hr:Region.ready .any ops listed=[]) :
  ∀n i,i<n→i<ops.size→Ba listed i:=by
 intro n;induction n with
 |zero=>intro i hi _;omega
 |succ n ih =>
  intro i hi hio;by_cases hin:i<n
  ·exact ih i hin hio
  ·have Sz:i=n:=(by omega);subst Sz;apply Classical.byContradiction
   intro hno;have hmem:i∈Region.ready .any ops listed:=mem_ready.2 ⟨by
     have hlt:i<listed.size:=(by omega);have BN:¬listed.getD i false=true:=hno;simp[hlt] at BN ⊢;exact BN,ops[i],Array.getElem?_eq_getElem hio,fun e he hb =>
     have hlt:=oU h (Array.getElem?_eq_getElem hio) e he hb;ih e.on hlt (by omega)⟩
   rw[hr] at hmem;cases hmem
end
section
variable {P:Program} {ops:Array Oper} {Q:Exit→Act→World→Prop} {I:(Nat→Prop)→Act→World→Prop}
theorem vW(A_:mJ ops=true)(hsteps:vk P .any ops Q I (List.range ops.size))(hend:∀L a w,(∀i,i<ops.size→L i)→I L a w→Q .normal a w) :
  ∀(fuel:Nat) (listed:Array Bool) (a:Act) (w:World),listed.size=ops.size→listed.toList.count false≤fuel→I (Ba listed) a w→wpAny P .any ops Q fuel listed a w:=by
 have UN:∀(listed:Array Bool) (a:Act) (w:World),listed.size=ops.size→I (Ba listed) a w→Region.ready .any ops listed=[]→Q .normal a w:=fun listed a w hs hI hr =>
  hend _ a w (fun i hi=>Xa A_ hs hr (i+1) i (by omega) hi) hI
 intro fuel;induction fuel with
 |zero =>
  intro listed a w hs hc hI;have hr:Region.ready .any ops listed=[]:=by
   apply List.eq_nil_iff_forall_not_mem.2
   intro j hj;obtain⟨h0,o,ho,-⟩:=mem_ready.1 hj;have hlt:j<listed.size:=by have:=(Array.getElem?_eq_some_iff.1 ho).1;omega
   have hm:false∈listed.toList:=by
    have:listed[j]=false:=by simpa[hlt] using h0
    exact this ▸ Array.getElem_mem_toList hlt
   have:=List.count_pos_iff.2 hm;omega
  exact⟨hr,UN listed a w hs hI hr⟩
 |succ fuel ih =>
  intro listed a w hs hc hI;refine⟨UN listed a w hs hI,fun i hi => ?_⟩;obtain⟨h0,o,ho,hall⟩:=mem_ready.1 hi;have hlt:i<listed.size:=by have:=(Array.getElem?_eq_some_iff.1 ho).1;omega
  have hf:listed[i]=false:=by simpa[hlt] using h0
  have hn:¬Ba listed i:=by unfold Ba;simp[hlt,hf]
  refine wpOp_mono (fun a' w' hI'=>ih (listed.setIfInBounds i true) a' w' (by simpa using hs) ?_ (by rw[Nh hlt];exact hI')) (hsteps i (List.mem_range.2 (by omega)) _ a w hI hn (fun o' BH e he hb => ?_))
  ·have hcs:=List.count_set (a:=true) (b:=false) (l:=listed.toList) (i:=i) (by simpa using hlt);have hg:listed.toList[i]'(by simpa using hlt)=false:=by simpa using hf
   rw[hg] at hcs;have Xb:0<listed.toList.count false:=List.count_pos_iff.2 (hg ▸ zS _);rw[Array.toList_setIfInBounds,hcs];simp only[beq_self_eq_true,if_true,show (true==false)=false from rfl,Bool.false_eq_true,if_false];omega
  ·have:o'=o:=by rw[ho] at BH;exact (zW BH).symm
   subst this;exact hall e he hb
theorem r8{l:List Oper}{id:Nat}{a:Act}{w:World}(I:Act→(Nat→Prop)→Act→World→Prop)(hm:P.follows .mixedOrders=true)(A_:mJ l.toArray=true)
  (h0:I a (fun _=>False) a w.drew)(hsteps:∀Q',ag P .any l.toArray Q' (I a) 0 l)(hend:∀L a' w',(∀i,i<l.length→L i)→I a L a' w'→Kept (Q .normal a' w')):(Code.region id l.toArray true).wp P Q a w :=
 wp_region_any hm (vW A_ (vk.Rq (hsteps Q)) (fun L a w hL hI=>(hend L a w (fun i hi=>hL i (by simpa using hi)) hI).out) _ _ _ _ (by simp) (by simp) (by rw[vg];exact h0))
end
end Go.Proofs.YtjcoapnggojpdaaGreatDoor
