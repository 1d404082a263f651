/- Texts of the proof, laid compactly. -/
import Derived.Test.YtjcoapnggojpdaaGreatDoorFlow
set_option maxHeartbeats 4000000
set_option maxRecDepth 100000
namespace Go.Proofs.YtjcoapnggojpdaaGreatDoor
set_option linter.unusedSimpArgs false
set_option linter.unusedVariables false
open Go.RowKit
def JX(P:Program)(l:List Oper)(D:List (Option Tmp))(S:List SP)(Rl:Nat→(Nat→Value)→Prop)(w0:World)(a0:Act)(Q:Exit→Act→World→Prop)(k:Nat)(o:Oper):Prop :=
 ∀(V:Nat→Value) (lo hi:Nat→Nat) (W:World),yT w0 W→(∀j,jD l l.length k j=true→Pv S w0 W V lo hi j) →
  (∀j d,(j=k∨jD l l.length j k=true)→D[j]? =some (some d)→V j=a0.tmps.getD d undef) →
  ∀A:Act,Reads D V a0 A.eval→∀K:Act→World→Prop,Shut (∀v W',yT W W'→(S.getD k SP.any).p W.heap.size W'.heap.size W' v→Rl k (uK V k v)→K (A.put o.dst v) W') →
   Kept (if Region.wanted o (yielded l.toArray A.tmps)=true then Oper.wp P o A W K Q else K (A.put o.dst undef) W)
def nz(P:Program)(l:List Oper)(D:List (Option Tmp))(S:List SP)(Rl:Nat→(Nat→Value)→Prop)(w0:World)(a0:Act)(Q:Exit→Act→World→Prop):Nat→List Oper→Prop
 |_,[]=>True
 |n,o::os=>JX P l D S Rl w0 a0 Q n o∧nz P l D S Rl w0 a0 Q (n+1) os
section
variable {P:Program} {l:List Oper} {D:List (Option Tmp)} {S:List SP} {Rl:Nat→(Nat→Value)→Prop} {w0:World} {a0:Act} {Q:Exit→Act→World→Prop}
theorem fnR{n:Nat}:nz P l D S Rl w0 a0 Q n []:=trivial
theorem Z2{n:Nat}{o:Oper}{os:List Oper}(h:mG P l D S w0 a0 Q n o)(hr:∀V,Rl n V)(hs:nz P l D S Rl w0 a0 Q (n+1) os):nz P l D S Rl w0 a0 Q n (o::os) :=
 ⟨fun V lo hi W hB hD hH A hR K hK=>h V lo hi W hB hD hH A hR K (show Shut _ from fun v W' hb hp=>hK.out v W' hb hp (hr _)),hs⟩
theorem fcV{k:Nat}{o:Oper}{os:List Oper}(hg:o.guard=none)(hS:S.getD k SP.any=SP.any)
  (h:∀(V:Nat→Value) (lo hi:Nat→Nat) (W:World),yT w0 W→(∀j,jD l l.length k j=true→Pv S w0 W V lo hi j) →
   ∀ρ:Operand→Value,Reads D V a0 ρ→∃v,(execOp ρ o).run P W=.ok (.value v) W∧Rl k (uK V k v))(hs:nz P l D S Rl w0 a0 Q (k+1) os):nz P l D S Rl w0 a0 Q k (o::os):=by
 refine⟨?_,hs⟩;intro V lo hi W hB hD hH A hR K hK;refine⟨?_⟩;rw[yG (by simp[Region.wanted,hg])];unfold Oper.wp;obtain⟨v,h1,h2⟩:=h V lo hi W hB hD A.eval hR;rw[h1];exact hK.out v W (zD _ _) (by rw[hS];exact True.intro) h2
theorem nz.at:∀(os:List Oper) (n:Nat),nz P l D S Rl w0 a0 Q n os→∀i o,os[i]? =some o→JX P l D S Rl w0 a0 Q (n+i) o:=by
 intro os;induction os with
 |nil=>intro n _ i o h;simp at h
 |cons o' os ih =>
  intro n h i o ho;cases i with
  |zero =>
   have:o'=o:=by simpa using ho
   exact this ▸ h.1
  |succ i =>
   have h1:=ih (n+1) h.2 i o (by simpa using ho);rwa [show n+1+i=n+(i+1) by omega] at h1
def Yi(l:List Oper)(D:List (Option Tmp))(S:List SP)(Rl:Nat→(Nat→Value)→Prop)(w0:World)(a0:Act)(L:Nat→Prop)(a:Act)(W:World):Prop :=
 ∃(V:Nat→Value) (lo hi:Nat→Nat),a=oD V 0 D a0∧yT w0 W∧(∀k,L k→Pv S w0 W V lo hi k)∧(∀j k,L j→L k→j≠k→hi j≤lo k∨hi k≤lo j) ∧
  (∀k d,¬L k→D[k]? =some (some d)→V k=a0.tmps.getD d undef)∧(∀k,L k→k<D.length)∧vV l L∧(∀k,L k→Rl k V)
theorem xm{id:Nat}(D:List (Option Tmp))(S:List SP)(Rl:Nat→(Nat→Value)→Prop)(hRl:∀k V V',(∀j,j=k∨jD l l.length k j=true→V j=V' j)→Rl k V→Rl k V')(hm:P.follows .mixedOrders=true)(m8:KA l D=true)(hsz:D.all (fun d=>d.all (· <a0.tmps.size))=true)(hsteps:∀Q',nz P l D S Rl w0 a0 Q' 0 (l.take D.length))
  (hend:∀(V:Nat→Value) (lo hi:Nat→Nat) (W:World),yT w0 W→(∀k,k<D.length→Pv S w0 W V lo hi k)→(∀j k,j<D.length→k<D.length→j≠k→hi j≤lo k∨hi k≤lo j)→(∀k,k<D.length→Rl k V)→Kept (wpList P l.toArray Q (l.drop D.length) (oD V 0 D a0) W)) :
  (Code.region id l.toArray true).wp P Q a0 w0:=by
 simp only[KA,zT,decide_eq_true_eq] at m8;obtain⟨⟨⟨A_,ET⟩,hD⟩,EU⟩:=m8;have EW:∀k j,k<l.length→D.length≤k→j<k→jD l l.length k j=true:=fun k j hk hd hj=>by
  have h1:=zY.1 EU k (List.mem_range.2 hk);simp only[Bool.or_eq_true,decide_eq_true_eq] at h1;rcases h1 with h1|h1
  ·omega
  ·exact zY.1 h1 j (List.mem_range.2 hj)
 have hDl:D.length≤l.length:=by
  have h1:=congrArg List.length hD;simp only[yL,List.length_take] at h1;omega
 have hDo:∀k o,k<D.length→l[k]? =some o→D[k]? =some o.dst:=fun k o hk ho=>by
  rw[←hD,yM,List.getElem?_take_of_lt hk,ho];rfl
 let I:(Nat→Prop)→Act→World→Prop:=fun L a W=>Yi l D S Rl w0 a0 L a W∨∃i,0<i∧D.length+i≤l.length∧(∀j,L j↔j<D.length+i)∧wpList P l.toArray Q (l.drop (D.length+i)) a W
 refine wp_region_any hm (vW (I:=I) A_ ?_ ?_ _ _ _ _ (by simp) (by simp) ?_)
 ·intro i hir L a W hI hn BM;have Jy:i<l.length:=by simpa using hir
  have ho:l[i]? =some l[i]:=zG Jy;have BH:l.toArray[i]? =some l[i]:=by simp
  have htail:∀m,i=D.length+m→(∀j,L j↔j<D.length+m)→wpList P l.toArray Q (l.drop (D.length+m)) a W→wpOp P l.toArray Q i (I fun j=>L j∨j=i) a W:=by
   intro m him CQ hw;subst him;rw[List.drop_eq_getElem_cons Jy] at hw;unfold wpList at hw;unfold wpOp;rw[BH];have hgo:∀a W,wpList P l.toArray Q (l.drop (D.length+m+1)) a W→I (fun j=>L j∨j=D.length+m) a W:=fun a W h => .inr ⟨m+1,by omega,by omega,fun j=>by show (L j∨_)↔_;rw[CQ];omega,h⟩
   show if Region.wanted _ _=true then _ else _
   split
   ·rename_i hwt
    rw[yG hwt] at hw;exact hw.imp (Oper.wp_mono hgo) fun h=>h
   ·rename_i hwt
    rw[yF hwt] at hw;exact hgo _ _ hw
  rcases hI with⟨V,lo,hi,rfl,hB,hG,hA,hU,MQ,hC,hX⟩|⟨m,hm0,Py,CQ,hw⟩
  ·by_cases hit:i<D.length
   ·refine wpOp_step BH fun K hK => ?_
    have hstep:=nz.at _ 0 (hsteps Q) i l[i] (by rw[List.getElem?_take_of_lt hit,ho]);rw[yH] at hstep;have hcl:∀o,l[i]? =some o→∀e∈o.after,Region.binds .any e=true→L e.on:=fun o h1 e he hb=>BM o (by simpa using h1) e he hb
    have hR:Reads D V a0 (oD V 0 D a0).eval:=⟨fun j d hj=>by
      have h1:=Px (V:=V) D 0 j a0 d ET hj (by
       have h2:=zY.1 hsz _ (List.mem_of_getElem? hj);simpa using h2)
      rwa [yH] at h1,fun t ht=>Ep D 0 a0 ht,fun _=>rfl,fun _=>rfl,fun _=>rfl⟩
    refine (hstep V lo hi W hB (fun j hj=>hG j (lV hC _ i j hj hcl)) (fun j d hj hd=>hU j d (fun Wv => ?_) hd) _ hR K (show Shut _ from fun v W' hb hp ZT=>hK _ _ (.inl ?_))).out
    ·rcases hj with rfl|hj
     ·exact hn Wv
     ·exact hn (lV hC _ j i hj fun o h1 e he hb=>hC j Wv o h1 e he hb)
    ·refine⟨uK V i v,uK lo i W.heap.size,uK hi i W'.heap.size,?_,hB.trans (hb.mono hB.size),?_,?_,?_,?_,?_,?_⟩
     ·have:=Kz (V:=V) (v:=v) D 0 i a0 _ ET (hDo i _ hit ho);rwa [yH] at this
     ·intro k hk;by_cases rE:k=i
      ·subst rE;exact⟨by rw[eY];exact hB.size,by rw[eY,eY];exact hb.size,by rw[eY];exact zC _,by rw[eY,eY,eY];exact hp⟩
      ·have h1:=(hG k (hk.resolve_right rE)).up hb;exact⟨by rw[dF rE];exact h1.b0,by rw[dF rE,dF rE];exact h1.b1,by rw[dF rE];exact h1.b2,by rw[dF rE,dF rE,dF rE];exact h1.p⟩
     ·intro j k hj hk hjk;by_cases rF:j=i
      ·subst rF;have hkL:=hk.resolve_right (Ne.symm hjk);rw[eY,eY,dF (Ne.symm hjk),dF (Ne.symm hjk)];exact .inr (hG k hkL).b2
      ·by_cases rE:k=i
       ·subst rE;rw[eY,eY,dF rF,dF rF];exact .inl (hG j (hj.resolve_right rF)).b2
       ·rw[dF rF,dF rF,dF rE,dF rE];exact hA j k (hj.resolve_right rF) (hk.resolve_right rE) hjk
     ·intro k d hk hd;rw[dF fun h=>hk (.inr h)];exact hU k d (fun h=>hk (.inl h)) hd
     ·intro k hk;rcases hk with hk|rfl
      ·exact MQ k hk
      ·exact hit
     ·intro k hk o h1 e he hb';rcases hk with hk|rfl
      ·exact .inl (hC k hk o h1 e he hb')
      ·exact .inl (hcl o h1 e he hb')
     ·intro k hk;rcases hk with hk|rfl
      ·refine hRl k V _ (fun j hj => ?_) (hX k hk);have Wv:L j:=by
        rcases hj with rfl|hj
        ·exact hk
        ·exact lV hC _ k j hj fun o h1 e he hb=>hC k hk o h1 e he hb
       exact (dF (fun h=>hn (by rw[←h];exact Wv))).symm
      ·exact ZT
   ·have hcl:∀o,l[i]? =some o→∀e∈o.after,Region.binds .any e=true→L e.on:=fun o h1 e he hb=>BM o (by simpa using h1) e he hb
    have hall:∀j,j<i→L j:=fun j hj=>lV hC _ i j (EW i j Jy (by omega) hj) hcl
    have jJ:i=D.length:=by
     by_cases h:D.length<i
     ·have:=MQ _ (hall _ h);omega
     ·omega
    have hw:=(hend V lo hi W hB (fun k hk=>hG k (hall k (by omega))) (fun j k hj hk hjk=>hA j k (hall j (by omega)) (hall k (by omega)) hjk) (fun k hk=>hX k (hall k (by omega)))).out;exact htail 0 (by omega) (fun j=>⟨fun h=>MQ j h,fun h=>hall j (by omega)⟩) hw
  ·have hge:D.length+m≤i:=by
    apply Classical.byContradiction
    intro h;exact hn ((CQ i).2 (by omega))
   have jJ:i=D.length+m:=by
    by_cases h:D.length+m<i
    ·have hC:vV l L:=fun k hk o h1 e he hb=>(CQ _).2 (by
      have h2:=oU A_ (i:=k) (o:=o) (by simpa using h1) e he hb;have h3:=(CQ k).1 hk;omega)
     exact absurd ((CQ _).1 (lV hC _ i (D.length+m) (EW i _ Jy (by omega) h) fun o h1 e he hb=>BM o (by simpa using h1) e he hb)) (by omega)
    ·omega
   exact htail m jJ CQ hw
 ·intro L a W hL hI;rcases hI with⟨V,lo,hi,rfl,hB,hG,hA,hU,MQ,hC,hX⟩|⟨m,hm0,Py,CQ,hw⟩
  ·have hnl:l.length≤D.length:=by
    apply Classical.byContradiction
    intro h;have:=MQ _ (hL D.length (by simpa using h));omega
   have hw:=(hend V lo hi W hB (fun k hk=>hG k (hL k (by simpa using (by omega:k<l.length)))) (fun j k hj hk hjk=>hA j k (hL j (by simpa using (by omega:j<l.length))) (hL k (by simpa using (by omega:k<l.length))) hjk) (fun k hk=>hX k (hL k (by simpa using (by omega:k<l.length))))).out;rwa [List.drop_eq_nil_of_le hnl] at hw
  ·have hnl:l.length≤D.length+m:=by
    apply Classical.byContradiction
    intro h;have:=(CQ (D.length+m)).1 (hL _ (by simpa using (by omega:D.length+m<l.length)));omega
   rwa [List.drop_eq_nil_of_le hnl] at hw
 ·rw[vg];refine .inl ⟨fun k=>BL a0 ((D[k]?).getD none),fun _=>0,fun _=>0,?_,Below.drew (zD _ _),fun k h=>h.elim,fun j k h=>h.elim,?_,fun k h=>h.elim,fun i h=>h.elim,fun k h=>h.elim⟩
  ·exact (ES D 0 a0 fun i d hi _=>by rw[yH,hi];rfl).symm
  ·intro k d _ hd;simp only[hd,Option.getD_some];rfl
end
theorem xJ(v:Int)(w:World):Calls Tryz.prog 39 #[.int .i64 v] w fun e w'=>e=.returned (.bool (okV v))∧w=w':=by
 by_cases h0:0≤v
 ·by_cases h1:v≤999
  ·rw[BV (by omega)];go_enter Tryz.func39,Tryz.ntmps39
   go_wp2
   go_ret;exact⟨rfl,rfl⟩
  ·rw[uN (by omega)];have h2:decide (v≤999)=false:=yD h1;clear h1;go_enter Tryz.func39,Tryz.ntmps39
   go_wp2
   go_ret;exact⟨rfl,rfl⟩
 ·rw[uN (by omega)];have h2:decide (0≤v)=false:=yD h0;clear h0;go_enter Tryz.func39,Tryz.ntmps39
  go_wp2
  go_ret;exact⟨rfl,rfl⟩
def okS(send:Bool)(d:di):Bool:=okW d&&(send||decide (d.bU=0))
theorem VM:okS true=okW:=by funext d;simp[okS]
theorem TD:okS false=okR:=by funext d;simp[okS,okR]
theorem Oo{α:Type}{p:α→Bool}{l:List α}{k:Nat}{x:α}(h:l[k]? =some x):(l.take (k+1)).all p=((l.take k).all p&&p x):=by
 rw[List.take_add_one,h];simp
theorem RS{α:Type}{p:α→Bool}{l:List α}{k:Nat}{x:α}(h:l[k]? =some x)(hx:p x=false):l.all p=false:=by
 rw[List.all_eq_false];exact⟨x,List.mem_of_getElem? h,by simp[hx]⟩
theorem yh{w:World}{hi n c:Nat}{A:Option Addr}{ds:List di}{send:Bool}(h:a_ aN w hi A n ds)(cu:hi≤w.heap.size)(hn:n≤maxLen) :
  Calls Tryz.prog 260 #[.slice A n c,.bool send] w fun e w'=>e=.returned (.bool (ds.all (okS send)))∧yT w w':=by
 have HL:=zA h.1;unfold maxLen at hn;go_enter Tryz.func260,Tryz.ntmps260
 go_wp2_with fail
 go_loopw[9] (fun i wr=>∃k:Nat,k≤n∧i=.int .i64 k∧(ds.take k).all (okS send)=true∧yT w wr) (fun i _=>n-(intOf i).toNat)
 case atStart=>exact⟨0,zL _,rfl,by simp,zD _ _⟩
 case round =>
  obtain⟨k,hk,rfl,hall,hb⟩:=hrel;by_cases hlt:k<n
  ·obtain⟨hx,g,o,vs,rfl,hg,⟨rfl,hw⟩,hcell⟩:=(h.below hb cu).at_ hlt;have HD:=zA (zG hx);have hz:=hb.size;generalize ds[k]=d at *;have HT:=zA (Oo (p:=okS send) HD.out);have HN:=zA (fun hx=>RS (p:=okS send) HD.out hx);have HA:=zA hall;have dK:=hcell 0 _ rfl;have eu:=hcell 1 _ rfl;have ig:=hcell 2 _ rfl;simp only[show aN.size=3 from rfl,←zH,zI,zK] at dK eu ig;clear hcell hw h hall;have HB:=zA (hb.alloc (by omega) (.cells #[.int .i64 d.fG,.int .i64 d.bK,.int .i64 d.bU] 49));have HV:=zA (fun W=>xJ d.bU W);have HE:okS send d=(decide (0≤d.fG ∧ -1≤d.bK)&&okV d.bU&&(send||decide (d.bU=0))):=rfl;obtain⟨g1,q1,v1⟩:=d;simp only at *;by_cases h0:0≤g1
   ·by_cases h1 : -1≤q1
    ·rw[yE (show 0≤g1 ∧ -1≤q1 from ⟨h0,h1⟩),Bool.true_and] at HE;go_wp2_with fail
     refine (HV.out _).mono ?_;rintro e w1 ⟨rfl,rfl⟩;cases hv:okV v1
     ·rw[hv,zX] at HE;go_wp2_with fail
      go_ret;exact⟨by rw[HN.out HE];rfl,HB.out⟩
     ·rw[hv,Bool.true_and] at HE;cases send
      ·by_cases hz1:v1=0
       ·subst hz1;go_wp2_with fail
        go_roundw
        case rel=>exact⟨k+1,by omega,by go_num,by rw[HT.out,HA.out,HE];rfl,HB.out⟩
        case measure=>simp[intOf];omega
       ·rw[yD hz1] at HE;have hz3:(v1 != 0)=true:=by simpa using hz1
        go_wp2_with fail
        go_ret;exact⟨by rw[HN.out HE];rfl,HB.out⟩
      ·go_wp2_with fail
       go_roundw
       case rel=>exact⟨k+1,by omega,by go_num,by rw[HT.out,HA.out,HE];rfl,HB.out⟩
       case measure=>simp[intOf];omega
    ·rw[yD (show ¬(0≤g1 ∧ -1≤q1) from fun h=>h1 h.2),zX,zX] at HE;have h2:q1 < -1:=(by omega);go_wp2_with fail
     go_ret;exact⟨by rw[HN.out HE];rfl,HB.out⟩
   ·rw[yD (show ¬(0≤g1 ∧ -1≤q1) from fun h=>h0 h.1),zX,zX] at HE;have h2:g1<0:=(by omega);go_wp2_with fail
    go_ret;exact⟨by rw[HN.out HE];rfl,HB.out⟩
  ·go_wp2_with fail
   go_ret;obtain rfl:k=n:=(by omega);rw[zU (by rw[HL.out];exact zC _)] at hall;exact⟨by rw[hall];rfl,hb⟩
def lastB(n1 n2 n3:Nat)(cap:Int)(cl:Bool):Bool := !(decide (0<n2)&&(decide ((n1:Int)<cap∨0<n3)||cl))&&(decide (n3=0)||(decide (n1=0) && !cl))
theorem Gq{w:World}{hi:Nat}{x:gy}{vs:List Value}(h:bD.see w hi x vs)(cu:hi≤w.heap.size) :
  Calls Tryz.prog 186 #[.agg vs.toArray] w fun e w'=>e=.returned (.bool (uu x))∧yT w w':=by
 rw[PV];obtain⟨A1,n1,c1,A2,n2,c2,A3,n3,c3,rfl,hw0,⟨hc1,hm1,s1⟩,⟨hc2,jY,s2⟩,⟨hc3,Be,s3⟩⟩:=jF h;obtain⟨cap,buf,sends,recvs,cl⟩:=x;have l1:=s1.1;have l2:=s2.1;have l3:=s3.1;simp only at l1 l2 l3 s1 s2 s3 hw0;subst l1 l2 l3;show Calls Tryz.prog 186 #[.agg #[.int .i64 cap,.slice A1 buf.length c1,.slice A2 sends.length c2,.slice A3 recvs.length c3,.bool cl]] w fun e w'=>e=.returned (.bool (qI buf.length cap&&(sends.all okW&&(recvs.all okR&&(buf.all okV&&lastB buf.length sends.length recvs.length cap cl)))))∧yT w w'
 have HB:=zA ((zD w.heap.size w).alloc (zC _) (.cells #[.int .i64 cap,.slice A1 buf.length c1,.slice A2 sends.length c2,.slice A3 recvs.length c3,.bool cl] 135));have HX:=zA (ak w #[.int .i64 cap,.slice A1 buf.length c1,.slice A2 sends.length c2,.slice A3 recvs.length c3,.bool cl] 135);have H2:=zA (fun (W:World) (hW:yT w W)=>show Calls Tryz.prog 260 #[.slice A2 sends.length c2,.bool true] W fun e w'=>e=.returned (.bool (sends.all okW))∧yT W w' from by have:=yh (c:=c2) (send:=true) (s2.below hW cu) (by have:=hW.size;omega) (zJ hc2 jY);rwa [VM] at this);have H3:=zA (fun (W:World) (hW:yT w W)=>show Calls Tryz.prog 260 #[.slice A3 recvs.length c3,.bool false] W fun e w'=>e=.returned (.bool (recvs.all okR))∧yT W w' from by have:=yh (c:=c3) (send:=false) (s3.below hW cu) (by have:=hW.size;omega) (zJ hc3 Be);rwa [TD] at this);have O5:=zA (fun (W:World) (hW:yT w W)=>s1.below hW cu);have NC:=zJ hc1 hm1;clear s1 s2 s3 h hw0;generalize sends.all okW=b2 at *;generalize recvs.all okR=b3 at *;generalize sends.length=n2 at *;generalize recvs.length=n3 at *;generalize hN:buf.length=n1 at *;unfold maxLen at NC;by_cases h0:0≤cap
 ·by_cases h4:cap≤4
  ·by_cases h5:(n1:Int)≤cap
   ·have hr:qI n1 cap=true:=yE ⟨h0,h4,h5⟩;rw[hr,Bool.true_and];go_enter Tryz.func186,Tryz.ntmps186
    go_wp2_with fail
    refine (H2.out _ HB.out).mono ?_;rintro e w1 ⟨rfl,hb1⟩;have iC:=zA (HB.out.trans (hb1.mono (by simp)));have qE:=zA (af HX.out hb1 (by simp));have p3:=ae (j:=3) qE.out rfl;have z1:w.heap.size<w1.heap.size:=by have:=hb1.size;simp at this;omega
    clear hb1;cases b2
    ·go_wp2_with fail
     go_ret;exact⟨rfl,iC.out⟩
    ·go_wp2_with fail
     refine (H3.out _ iC.out).mono ?_;rintro e w2 ⟨rfl,hb2⟩;have lK:=zA (iC.out.trans (hb2.mono (by omega)));have Fh:=zA (af qE.out hb2 z1);have q0:=ae (j:=0) Fh.out rfl;have q1:=ae (j:=1) Fh.out rfl;have q2:=ae (j:=2) Fh.out rfl;have q3:=ae (j:=3) Fh.out rfl;have q4:=ae (j:=4) Fh.out rfl;have z2:w.heap.size<w2.heap.size:=by have:=hb2.size;omega
     have s1:=O5.out _ lK.out;clear hb2;cases b3
     ·go_wp2_with fail
      go_ret;exact⟨rfl,lK.out⟩
     ·go_wp2_with fail
      go_loop[36] (fun i=>∃k:Nat,k≤n1∧i=.int .i64 k∧(buf.take k).all okV=true) (fun i=>n1-(intOf i).toNat)
      case atStart=>exact⟨0,zL _,rfl,by simp⟩
      case round =>
       obtain⟨k,hk,rfl,hall⟩:=hrel;by_cases hlt:k<n1
       ·obtain⟨hx,g,o,vs,rfl,hg,⟨rfl,hw⟩,hcell⟩:=s1.at_ hlt;have HD:=zA (zG hx);generalize buf[k]=d at *;have HT:=zA (Oo (p:=okV) HD.out);have HN:=zA (fun hx=>RS (p:=okV) HD.out hx);have HA:=zA hall;have dK:=hcell 0 _ rfl;simp only[show Lay.int.size=1 from rfl,←zH,zI,zK] at dK;clear hcell hw hall s1;have HV:=zA (fun W=>xJ d W);go_wp2_with fail
        refine (HV.out _).mono ?_;rintro e w3 ⟨rfl,rfl⟩;cases hv:okV d
        ·go_wp2_with fail
         go_ret;exact⟨by rw[HN.out hv];rfl,lK.out⟩
        ·go_wp2_with fail
         go_round
         case rel=>exact⟨k+1,by omega,by go_num,by rw[HT.out,HA.out,hv];rfl⟩
         case measure=>simp[intOf];omega
       ·obtain rfl:k=n1:=(by omega);rw[zU (by omega)] at hall;have Qx:=zA hall;clear s1 hall hN;rcases Nat.eq_zero_or_pos n2 with h2|h2
        ·subst h2;rcases Nat.eq_zero_or_pos n3 with h3|h3
         ·subst h3;go_wp2_with fail
          go_ret;exact⟨by simp[Qx.out,lastB],lK.out⟩
         ·have h3':¬n3=0:=(by omega);have aoW:¬(n3:Int)=0:=(by omega);rcases Nat.eq_zero_or_pos k with h1|h1
          ·subst h1;cases cl <;>
           ·go_wp2_with fail
            go_ret;exact⟨by simp[Qx.out,lastB,h3'],lK.out⟩
          ·have h1':¬k=0:=(by omega);have aoX:¬(k:Int)=0:=(by omega);go_wp2_with fail
           go_ret;exact⟨by simp[Qx.out,lastB,h3',h1'],lK.out⟩
        ·by_cases h6:(k:Int)<cap
         ·go_wp2_with fail
          go_ret;exact⟨by simp[Qx.out,lastB,h2,h6],lK.out⟩
         ·have h6':decide ((k:Int)<cap)=false:=yD h6;rcases Nat.eq_zero_or_pos n3 with h3|h3
          ·subst h3;cases cl
           ·go_wp2_with fail
            go_ret;exact⟨by simp[Qx.out,lastB,h6];try omega,lK.out⟩
           ·go_wp2_with fail
            go_ret;exact⟨by simp[Qx.out,lastB,h2],lK.out⟩
          ·go_wp2_with fail
           go_ret;exact⟨by simp[Qx.out,lastB,h2,h3],lK.out⟩
   ·have hr:qI n1 cap=false:=yD (fun h=>h5 h.2.2);rw[hr,zX];go_enter Tryz.func186,Tryz.ntmps186
    go_wp2_with fail
    go_ret;exact⟨rfl,HB.out⟩
  ·have hr:qI n1 cap=false:=yD (fun h=>h4 h.2.1);rw[hr,zX];go_enter Tryz.func186,Tryz.ntmps186
   go_wp2_with fail
   go_ret;exact⟨rfl,HB.out⟩
 ·have hr:qI n1 cap=false:=yD (fun h=>h0 h.1);rw[hr,zX];go_enter Tryz.func186,Tryz.ntmps186
  go_wp2_with fail
  go_ret;exact⟨rfl,HB.out⟩
end Go.Proofs.YtjcoapnggojpdaaGreatDoor
