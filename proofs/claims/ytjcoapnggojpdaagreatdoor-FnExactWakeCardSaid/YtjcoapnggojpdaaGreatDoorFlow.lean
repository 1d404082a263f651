/- Texts of the proof, laid compactly. -/
import Derived.Test.YtjcoapnggojpdaaGreatDoorGChanI
namespace Go.Proofs.YtjcoapnggojpdaaGreatDoor
set_option linter.unusedSimpArgs false
set_option linter.unusedVariables false
open Go.RowKit
structure SP where
 p:Nat→Nat→World→Value→Prop
 up:∀{lo hi:Nat} {W W':World} {v:Value},hi≤W.heap.size→yT W W'→p lo hi W v→p lo hi W' v
def SP.any:SP:=⟨fun _ _ _ _=>True,fun _ _ h=>h⟩
def SP.eq(x:Value):SP:=⟨fun _ _ _ v=>v=x,fun _ _ h=>h⟩
def SP.of(f:World→Value→Prop)(h:∀{W W':World} {v:Value},yT W W'→f W v→f W' v):SP:=⟨fun _ _ W v=>f W v,fun _ hb hf=>h hb hf⟩
def SP.see{α:Type}(L:Lay α)(x:α):SP:=⟨fun _ _ W v=>Ad L W x v,fun _ hb h=>h.up hb⟩
def SP.own{α:Type}(L:Lay α)(x:α):SP:=⟨fun lo hi W v=>∃(vs:List Value) (F:Nat→Prop),v=.agg vs.toArray∧L.own W F x vs∧∀g,F g→lo≤g∧g<hi,fun hh hb ⟨vs,F,hv,ho,hF⟩=>⟨vs,F,hv,L.stay ho (fun k hk _=>hb.block k (zV (hF k hk).2 hh)) hb.size,hF⟩⟩
def SP.box(t:TypeId)(Z:List Value):SP:=⟨fun lo hi W v=>v=.pointer (some ⟨lo,0,none⟩)∧lo<hi∧W.heap[lo]? =some (.cells Z.toArray t (0,0)),fun hh hb ⟨h1,h2,h3⟩=>⟨h1,h2,(hb.block _ (zV h2 hh)).trans h3⟩⟩
theorem SP.eP{x v:Value}{lo hi:Nat}{W:World}(h:(SP.eq x).p lo hi W v):v=x:=h
theorem SP.of_{f:World→Value→Prop}{hf}{v:Value}{lo hi:Nat}{W:World}(h:(SP.of f hf).p lo hi W v):f W v:=h
theorem SP.W8{t:TypeId}{Z:List Value}{v:Value}{lo hi:Nat}{W:World}(h:(SP.box t Z).p lo hi W v):v=.pointer (some ⟨lo,0,none⟩)∧lo<hi∧W.heap[lo]? =some (.cells Z.toArray t (0,0)):=h
def oD(V:Nat→Value):Nat→List (Option Tmp)→Act→Act
 |_,[],a=>a
 |n,d::ds,a=>oD V (n+1) ds (a.put d (V n))
def BL(a:Act):Option Tmp→Value
 |some d=>a.tmps.getD d undef
 |none=>undef
def uK{α:Type}(V:Nat→α)(k:Nat)(v:α):Nat→α:=fun j=>if j=k then v else V j
theorem eY{α:Type}{V:Nat→α}{k:Nat}{v:α}:uK V k v k=v:=yG rfl
theorem dF{α:Type}{V:Nat→α}{k j:Nat}{v:α}(h:j≠k):uK V k v j=V j:=yF h
theorem UJ(a:Act)(d:Option Tmp):a.put d (BL a d)=a:=by
 cases d with
 |none=>rfl
 |some d =>
  obtain⟨t,df⟩:=a;simp only[Act.put,BL];congr 1
  by_cases h:d<t.size
  ·apply Array.ext
   ·simp
   ·intro i h1 h2;by_cases hd:d=i
    ·subst hd;simp[h]
    ·simp only[Array.getElem_setIfInBounds_ne h2 hd]
  ·simp[Array.setIfInBounds,h]
theorem W_(a:Act)(d:Option Tmp)(u v:Value):(a.put d u).put d v=a.put d v:=by
 cases d with
 |none=>rfl
 |some d=>simp[Act.put]
theorem put_comm(a:Act){d e:Option Tmp}(h:d=none∨e=none∨d≠e)(u v:Value):(a.put d u).put e v=(a.put e v).put d u:=by
 cases d with
 |none=>rfl
 |some d =>
  cases e with
  |none=>rfl
  |some e =>
   have hde:d≠e:=fun h1=>by subst h1;rcases h with h|h|h <;> simp at h
   simp only[Act.put];rw[Array.setIfInBounds_comm _ _ hde]
def Ky(d:Option Tmp)(ds:List (Option Tmp)):Bool:=ds.all fun e=>d.isNone||e.isNone||d != e
def A8:List (Option Tmp)→Bool
 |[]=>true
 |d::ds=>Ky d ds&&A8 ds
theorem ES{V:Nat→Value}:∀(ds:List (Option Tmp)) (n:Nat) (a:Act),(∀i d,ds[i]? =some d→d.isSome→V (n+i)=BL a d)→oD V n ds a=a:=by
 intro ds;induction ds with
 |nil=>intro n a _;rfl
 |cons d ds ih =>
  intro n a h;have hp:a.put d (V n)=a:=by
   cases d with
   |none=>rfl
   |some d'=>rw[show V n=BL a (some d') from h 0 _ rfl rfl];exact UJ a _
  show oD V (n+1) ds (a.put d (V n))=a
  rw[hp];exact ih (n+1) a fun i e hi hs=>by rw[zH,Nat.add_comm 1 i];exact h (i+1) e (by simpa using hi) hs
theorem UK{V:Nat→Value}{e:Option Tmp}{v:Value}:∀(ds:List (Option Tmp)) (n:Nat) (a:Act),Ky e ds=true→(oD V n ds a).put e v=oD V n ds (a.put e v):=by
 intro ds;induction ds with
 |nil=>intro n a _;rfl
 |cons d ds ih =>
  intro n a h;simp only[Ky,List.all_cons,zT] at h;show (oD V (n+1) ds (a.put d (V n))).put e v=oD V (n+1) ds ((a.put e v).put d (V n))
  rw[ih (n+1) _ h.2,put_comm];have h1:=h.1;simp only[Bool.or_eq_true,Option.isNone_iff_eq_none,bne_iff_ne,ne_eq] at h1;rcases h1 with (h1|h1)|h1
  ·exact .inr (.inl h1)
  ·exact .inl h1
  ·exact .inr (.inr fun h2=>h1 h2.symm)
theorem Sv{V V':Nat→Value}:∀(ds:List (Option Tmp)) (n:Nat) (a:Act),(∀j,n≤j→V j=V' j)→oD V n ds a=oD V' n ds a:=by
 intro ds;induction ds with
 |nil=>intro n a _;rfl
 |cons d ds ih =>
  intro n a h;show oD V (n+1) ds _=oD V' (n+1) ds _
  rw[h n (zC _)];exact ih (n+1) _ fun j hj=>h j (by omega)
theorem Kz{V:Nat→Value}{v:Value}:∀(ds:List (Option Tmp)) (n i:Nat) (a:Act) (d:Option Tmp),A8 ds=true→ds[i]? =some d→(oD V n ds a).put d v=oD (uK V (n+i) v) n ds a:=by
 intro ds;induction ds with
 |nil=>intro n i a d _ h;simp at h
 |cons d0 ds ih =>
  intro n i a d m8 h;simp only[A8,zT] at m8;cases i with
  |zero =>
   have hd:d0=d:=by simpa using h
   subst hd;show (oD V (n+1) ds (a.put d0 (V n))).put d0 v=oD (uK V (n+0) v) (n+1) ds (a.put d0 (uK V (n+0) v n))
   simp only[zI];rw[UK ds _ _ m8.1,W_,eY];exact Sv ds _ _ fun j hj=>(dF (by omega)).symm
  |succ i =>
   show (oD V (n+1) ds (a.put d0 (V n))).put d v=oD (uK V (n+(i+1)) v) (n+1) ds (a.put d0 (uK V (n+(i+1)) v n))
   rw[ih (n+1) i _ d m8.2 (by simpa using h),dF (by omega),zH,Nat.add_comm 1 i]
def jD(l:List Oper):Nat→Nat→Nat→Bool
 |0,_,_=>false
 |f+1,k,j=>match l[k]? with
  |none=>false
  |some o=>o.after.any fun e=>Region.binds .any e&&(e.on==j||jD l f e.on j)
def vV(l:List Oper)(L:Nat→Prop):Prop:=∀i,L i→∀o,l[i]? =some o→∀e∈o.after,Region.binds .any e=true→L e.on
theorem lV{l:List Oper}{L:Nat→Prop}(hc:vV l L):∀f k j,jD l f k j=true→(∀o,l[k]? =some o→∀e∈o.after,Region.binds .any e=true→L e.on)→L j:=by
 intro f;induction f with
 |zero=>intro k j h;cases h
 |succ f ih =>
  intro k j h hk;simp only[jD] at h;split at h
  ·cases h
  ·rename_i o ho
   obtain⟨e,he,hb⟩:=Array.any_eq_true'.1 h;simp only[zT,Bool.or_eq_true,beq_iff_eq] at hb;have hL:=hk o ho e he hb.1;rcases hb.2 with h1|h1
   ·exact h1 ▸ hL
   ·exact ih e.on j h1 fun o' BH e' he' hb'=>hc e.on hL o' BH e' he' hb'
structure Pv (S:List SP) (w0 W:World) (V:Nat→Value) (lo hi:Nat→Nat) (j:Nat):Prop where
 b0:w0.heap.size≤lo j
 b1:lo j≤hi j
 b2:hi j≤W.heap.size
 p:(S.getD j SP.any).p (lo j) (hi j) W (V j)
theorem Pv.up{S:List SP}{w0 W W':World}{V:Nat→Value}{lo hi:Nat→Nat}{j:Nat}(h:Pv S w0 W V lo hi j)(hb:yT W W'):Pv S w0 W' V lo hi j :=
 ⟨h.b0,h.b1,zJ h.b2 hb.size,SP.up _ h.b2 hb h.p⟩
structure Reads (D:List (Option Tmp)) (V:Nat→Value) (a0:Act) (ρ:Operand→Value):Prop where
 at_:∀j d,D[j]? =some (some d)→ρ (.tmp d)=V j
 off:∀t,D.all (· != some t)=true→ρ (.tmp t)=a0.eval (.tmp t)
 const:∀c,ρ (.const c)=c
 global:∀g,ρ (.global g)=.pointer (some ⟨g,0,none⟩)
 func:∀f,ρ (.func f)=.func (.func f) #[] #[]
theorem UL{d e:Tmp}{ds:List (Option Tmp)}(h:Ky (some d) ds=true)(hm:some e∈ds):d≠e:=by
 have h1:=zY.1 h _ hm;simpa using h1
theorem Ij(a:Act)(d:Option Tmp)(v:Value):(a.put d v).tmps.size=a.tmps.size:=by
 cases d <;> simp[Act.put]
theorem Ep{V:Nat→Value}{t:Tmp}:∀(ds:List (Option Tmp)) (n:Nat) (a:Act),ds.all (· != some t)=true→(oD V n ds a).eval (.tmp t)=a.eval (.tmp t):=by
 intro ds;induction ds with
 |nil=>intro n a _;rfl
 |cons d ds ih =>
  intro n a h;simp only[List.all_cons,zT] at h;show (oD V (n+1) ds (a.put d (V n))).eval (.tmp t)=_
  rw[ih _ _ h.2];cases d with
  |none=>rfl
  |some d =>
   have hdt:d≠t:=by simpa using h.1
   simp[Act.eval,Act.put,hdt]
theorem Px{V:Nat→Value}:∀(ds:List (Option Tmp)) (n j:Nat) (a:Act) (d:Tmp),A8 ds=true→ds[j]? =some (some d)→d<a.tmps.size→(oD V n ds a).eval (.tmp d)=V (n+j):=by
 intro ds;induction ds with
 |nil=>intro n j a d _ h;simp at h
 |cons d0 ds ih =>
  intro n j a d m8 h hs;simp only[A8,zT] at m8;show (oD V (n+1) ds (a.put d0 (V n))).eval (.tmp d)=_
  cases j with
  |zero =>
   have hd:d0=some d:=by simpa using h
   subst hd;rw[Ep]
   ·simp[Act.eval,Act.put,hs]
   ·refine zY.2 fun x hx => ?_
    cases x with
    |none=>rfl
    |some e=>have:=UL m8.1 hx;simp[Ne.symm this]
  |succ j =>
   rw[ih (n+1) j _ d m8.2 (by simpa using h) (by rw[Ij];exact hs),zH,Nat.add_comm 1 j]
def mG(P:Program)(l:List Oper)(D:List (Option Tmp))(S:List SP)(w0:World)(a0:Act)(Q:Exit→Act→World→Prop)(k:Nat)(o:Oper):Prop :=
 ∀(V:Nat→Value) (lo hi:Nat→Nat) (W:World),yT w0 W→(∀j,jD l l.length k j=true→Pv S w0 W V lo hi j) →
  (∀j d,(j=k∨jD l l.length j k=true)→D[j]? =some (some d)→V j=a0.tmps.getD d undef) →
  ∀A:Act,Reads D V a0 A.eval→∀K:Act→World→Prop,Shut (∀v W',yT W W'→(S.getD k SP.any).p W.heap.size W'.heap.size W' v→K (A.put o.dst v) W') →
   Kept (if Region.wanted o (yielded l.toArray A.tmps)=true then Oper.wp P o A W K Q else K (A.put o.dst undef) W)
def lC(P:Program)(l:List Oper)(D:List (Option Tmp))(S:List SP)(w0:World)(a0:Act)(Q:Exit→Act→World→Prop):Nat→List Oper→Prop
 |_,[]=>True
 |n,o::os=>mG P l D S w0 a0 Q n o∧lC P l D S w0 a0 Q (n+1) os
def KA(l:List Oper)(D:List (Option Tmp)):Bool :=
 mJ l.toArray&&A8 D&&decide ((l.take D.length).map (·.dst)=D) &&
 (List.range l.length).all fun k=>decide (k<D.length)||(List.range k).all fun j=>jD l l.length k j
section
variable {P:Program} {l:List Oper} {D:List (Option Tmp)} {S:List SP} {w0:World} {a0:Act} {Q:Exit→Act→World→Prop}
theorem lC.nil{n:Nat}:lC P l D S w0 a0 Q n []:=trivial
theorem fn{n:Nat}:lC P l D S w0 a0 Q n []:=trivial
theorem lC.cons{n:Nat}{o:Oper}{os:List Oper}(h:mG P l D S w0 a0 Q n o)(hs:lC P l D S w0 a0 Q (n+1) os):lC P l D S w0 a0 Q n (o::os):=⟨h,hs⟩
theorem fc{n:Nat}{o:Oper}{os:List Oper}(h:mG P l D S w0 a0 Q n o)(hs:lC P l D S w0 a0 Q (n+1) os):lC P l D S w0 a0 Q n (o::os):=⟨h,hs⟩
theorem lC.at:∀(os:List Oper) (n:Nat),lC P l D S w0 a0 Q n os→∀i o,os[i]? =some o→mG P l D S w0 a0 Q (n+i) o:=by
 intro os;induction os with
 |nil=>intro n _ i o h;simp at h
 |cons o' os ih =>
  intro n h i o ho;cases i with
  |zero =>
   have:o'=o:=by simpa using ho
   exact this ▸ h.1
  |succ i =>
   have h1:=ih (n+1) h.2 i o (by simpa using ho);rwa [show n+1+i=n+(i+1) by omega] at h1
def UM(l:List Oper)(D:List (Option Tmp))(S:List SP)(w0:World)(a0:Act)(L:Nat→Prop)(a:Act)(W:World):Prop :=
 ∃(V:Nat→Value) (lo hi:Nat→Nat),a=oD V 0 D a0∧yT w0 W∧(∀k,L k→Pv S w0 W V lo hi k)∧(∀j k,L j→L k→j≠k→hi j≤lo k∨hi k≤lo j) ∧
  (∀k d,¬L k→D[k]? =some (some d)→V k=a0.tmps.getD d undef)∧(∀k,L k→k<D.length)∧vV l L
theorem dL{id:Nat}(D:List (Option Tmp))(S:List SP)(hm:P.follows .mixedOrders=true)(m8:KA l D=true)(hsz:D.all (fun d=>d.all (· <a0.tmps.size))=true)(hsteps:∀Q',lC P l D S w0 a0 Q' 0 (l.take D.length))
  (hend:∀(V:Nat→Value) (lo hi:Nat→Nat) (W:World),yT w0 W→(∀k,k<D.length→Pv S w0 W V lo hi k)→(∀j k,j<D.length→k<D.length→j≠k→hi j≤lo k∨hi k≤lo j)→Kept (wpList P l.toArray Q (l.drop D.length) (oD V 0 D a0) W)) :
  (Code.region id l.toArray true).wp P Q a0 w0:=by
 simp only[KA,zT,decide_eq_true_eq] at m8;obtain⟨⟨⟨A_,ET⟩,hD⟩,EU⟩:=m8;have EW:∀k j,k<l.length→D.length≤k→j<k→jD l l.length k j=true:=fun k j hk hd hj=>by
  have h1:=zY.1 EU k (List.mem_range.2 hk);simp only[Bool.or_eq_true,decide_eq_true_eq] at h1;rcases h1 with h1|h1
  ·omega
  ·exact zY.1 h1 j (List.mem_range.2 hj)
 have hDl:D.length≤l.length:=by
  have h1:=congrArg List.length hD;simp only[yL,List.length_take] at h1;omega
 have hDo:∀k o,k<D.length→l[k]? =some o→D[k]? =some o.dst:=fun k o hk ho=>by
  rw[←hD,yM,List.getElem?_take_of_lt hk,ho];rfl
 let I:(Nat→Prop)→Act→World→Prop:=fun L a W=>UM l D S w0 a0 L a W∨∃i,0<i∧D.length+i≤l.length∧(∀j,L j↔j<D.length+i)∧wpList P l.toArray Q (l.drop (D.length+i)) a W
 refine wp_region_any hm (vW (I:=I) A_ ?_ ?_ _ _ _ _ (by simp) (by simp) ?_)
 ·intro i hir L a W hI hn BM;have Jy:i<l.length:=by simpa using hir
  have ho:l[i]? =some l[i]:=zG Jy;have BH:l.toArray[i]? =some l[i]:=by simp
  have htail:∀m,i=D.length+m→(∀j,L j↔j<D.length+m)→wpList P l.toArray Q (l.drop (D.length+m)) a W→wpOp P l.toArray Q i (I fun j=>L j∨j=i) a W:=by
   intro m him CQ hw;subst him;rw[List.drop_eq_getElem_cons Jy] at hw;unfold wpList at hw;unfold wpOp;rw[BH];have hgo:∀a W,wpList P l.toArray Q (l.drop (D.length+m+1)) a W→I (fun j=>L j∨j=D.length+m) a W:=fun a W h => .inr ⟨m+1,by omega,by omega,fun j=>by show (L j∨_)↔_;rw[CQ];omega,h⟩
   show if Region.wanted _ _=true then _ else _
   split
   ·rename_i hwt
    rw[yG hwt] at hw;exact hw.imp (Oper.wp_mono hgo) fun h=>h
   ·rename_i hwt
    rw[yF hwt] at hw;exact hgo _ _ hw
  rcases hI with⟨V,lo,hi,rfl,hB,hG,hA,hU,MQ,hC⟩|⟨m,hm0,Py,CQ,hw⟩
  ·by_cases hit:i<D.length
   ·refine wpOp_step BH fun K hK => ?_
    have hstep:=lC.at _ 0 (hsteps Q) i l[i] (by rw[List.getElem?_take_of_lt hit,ho]);rw[yH] at hstep;have hcl:∀o,l[i]? =some o→∀e∈o.after,Region.binds .any e=true→L e.on:=fun o h1 e he hb=>BM o (by simpa using h1) e he hb
    have hR:Reads D V a0 (oD V 0 D a0).eval:=⟨fun j d hj=>by
      have h1:=Px (V:=V) D 0 j a0 d ET hj (by
       have h2:=zY.1 hsz _ (List.mem_of_getElem? hj);simpa using h2)
      rwa [yH] at h1,fun t ht=>Ep D 0 a0 ht,fun _=>rfl,fun _=>rfl,fun _=>rfl⟩
    refine (hstep V lo hi W hB (fun j hj=>hG j (lV hC _ i j hj hcl)) (fun j d hj hd=>hU j d (fun Wv => ?_) hd) _ hR K (show Shut _ from fun v W' hb hp=>hK _ _ (.inl ?_))).out
    ·rcases hj with rfl|hj
     ·exact hn Wv
     ·exact hn (lV hC _ j i hj fun o h1 e he hb=>hC j Wv o h1 e he hb)
    ·refine⟨uK V i v,uK lo i W.heap.size,uK hi i W'.heap.size,?_,hB.trans (hb.mono hB.size),?_,?_,?_,?_,?_⟩
     ·have:=Kz (V:=V) (v:=v) D 0 i a0 _ ET (hDo i _ hit ho);rwa [yH] at this
     ·intro k hk;by_cases rE:k=i
      ·subst rE;exact⟨by rw[eY];exact hB.size,by rw[eY,eY];exact hb.size,by rw[eY];exact zC _,by rw[eY,eY,eY];exact hp⟩
      ·have h1:=(hG k (hk.resolve_right rE)).up hb;exact⟨by rw[dF rE];exact h1.b0,by rw[dF rE,dF rE];exact h1.b1,by rw[dF rE];exact h1.b2,by rw[dF rE,dF rE,dF rE];exact h1.p⟩
     ·intro j k hj hk hjk;by_cases rF:j=i
      ·subst rF;have hkL:=hk.resolve_right (Ne.symm hjk);rw[eY,eY,dF (Ne.symm hjk),dF (Ne.symm hjk)];exact .inr (hG k hkL).b2
      ·by_cases rE:k=i
       ·subst rE;rw[eY,eY,dF rF,dF rF];exact .inl (hG j (hj.resolve_right rF)).b2
       ·rw[dF rF,dF rF,dF rE,dF rE];exact hA j k (hj.resolve_right rF) (hk.resolve_right rE) hjk
     ·intro k d hk hd;rw[dF fun h=>hk (.inr h)];exact hU k d (fun h=>hk (.inl h)) hd
     ·intro k hk;rcases hk with hk|rfl
      ·exact MQ k hk
      ·exact hit
     ·intro k hk o h1 e he hb';rcases hk with hk|rfl
      ·exact .inl (hC k hk o h1 e he hb')
      ·exact .inl (hcl o h1 e he hb')
   ·have hcl:∀o,l[i]? =some o→∀e∈o.after,Region.binds .any e=true→L e.on:=fun o h1 e he hb=>BM o (by simpa using h1) e he hb
    have hall:∀j,j<i→L j:=fun j hj=>lV hC _ i j (EW i j Jy (by omega) hj) hcl
    have jJ:i=D.length:=by
     by_cases h:D.length<i
     ·have:=MQ _ (hall _ h);omega
     ·omega
    have hw:=(hend V lo hi W hB (fun k hk=>hG k (hall k (by omega))) (fun j k hj hk hjk=>hA j k (hall j (by omega)) (hall k (by omega)) hjk)).out;exact htail 0 (by omega) (fun j=>⟨fun h=>MQ j h,fun h=>hall j (by omega)⟩) hw
  ·have hge:D.length+m≤i:=by
    apply Classical.byContradiction
    intro h;exact hn ((CQ i).2 (by omega))
   have jJ:i=D.length+m:=by
    by_cases h:D.length+m<i
    ·have hC:vV l L:=fun k hk o h1 e he hb=>(CQ _).2 (by
      have h2:=oU A_ (i:=k) (o:=o) (by simpa using h1) e he hb;have h3:=(CQ k).1 hk;omega)
     exact absurd ((CQ _).1 (lV hC _ i (D.length+m) (EW i _ Jy (by omega) h) fun o h1 e he hb=>BM o (by simpa using h1) e he hb)) (by omega)
    ·omega
   exact htail m jJ CQ hw
 ·intro L a W hL hI;rcases hI with⟨V,lo,hi,rfl,hB,hG,hA,hU,MQ,hC⟩|⟨m,hm0,Py,CQ,hw⟩
  ·have hnl:l.length≤D.length:=by
    apply Classical.byContradiction
    intro h;have:=MQ _ (hL D.length (by simpa using h));omega
   have hw:=(hend V lo hi W hB (fun k hk=>hG k (hL k (by simpa using (by omega:k<l.length)))) (fun j k hj hk hjk=>hA j k (hL j (by simpa using (by omega:j<l.length))) (hL k (by simpa using (by omega:k<l.length))) hjk)).out;rwa [List.drop_eq_nil_of_le hnl] at hw
  ·have hnl:l.length≤D.length+m:=by
    apply Classical.byContradiction
    intro h;have:=(CQ (D.length+m)).1 (hL _ (by simpa using (by omega:D.length+m<l.length)));omega
   rwa [List.drop_eq_nil_of_le hnl] at hw
 ·rw[vg];refine .inl ⟨fun k=>BL a0 ((D[k]?).getD none),fun _=>0,fun _=>0,?_,Below.drew (zD _ _),fun k h=>h.elim,fun j k h=>h.elim,?_,fun k h=>h.elim,fun i h=>h.elim⟩
  ·exact (ES D 0 a0 fun i d hi _=>by rw[yH,hi];rfl).symm
  ·intro k d _ hd;simp only[hd,Option.getD_some];rfl
theorem mG.plain{k:Nat}{o:Oper}(v:Value)(hg:o.guard=none)(hS:S.getD k SP.any=SP.eq v)
  (h:∀(V:Nat→Value) (lo hi:Nat→Nat) (W:World),yT w0 W→(∀j,jD l l.length k j=true→Pv S w0 W V lo hi j) →
   (∀j d,(j=k∨jD l l.length j k=true)→D[j]? =some (some d)→V j=a0.tmps.getD d undef)→∀ρ:Operand→Value,Reads D V a0 ρ→(execOp ρ o).run P W=.ok (.value v) W):mG P l D S w0 a0 Q k o:=by
 intro V lo hi W hB hD hH A hR K hK;refine⟨?_⟩;rw[yG (by simp[Region.wanted,hg])];unfold Oper.wp;rw[h V lo hi W hB hD hH A.eval hR];exact hK.out v W (zD _ _) (by rw[hS];exact rfl)
theorem mG.call{k:Nat}{o:Oper}{args:Array Operand}{wY:Array TypeId}(hg:o.guard=none)(f:FuncId)(hop:o.op=.call {callee := .value (.func f),args:=args,argTypes:=wY})
  (hf:∀(args:Array Value) (w:World),Sem.run P (callFunc f args) w=.ok (.enter f args) w)
  (h:∀(V:Nat→Value) (lo hi:Nat→Nat) (W:World),yT w0 W→(∀j,jD l l.length k j=true→Pv S w0 W V lo hi j) →
   (∀j d,(j=k∨jD l l.length j k=true)→D[j]? =some (some d)→V j=a0.tmps.getD d undef)→∀ρ:Operand→Value,Reads D V a0 ρ →
    Calls P f (args.map ρ) W fun e W'=>∃v,e=.returned v∧yT W W'∧(S.getD k SP.any).p W.heap.size W'.heap.size W' v):mG P l D S w0 a0 Q k o:=by
 intro V lo hi W hB hD hH A hR K hK;refine⟨?_⟩;rw[yG (by simp[Region.wanted,hg])];have hA:(fun x=>A.eval x)=A.eval:=rfl;unfold Oper.wp;simp only[execOp,hop,resolve,Act.eval,Deferred.ofValue,invoke,Sem.run_bind,Sem.run_pure,Result.andThen_ok,hf,Array.append_empty,Array.empty_append,yS,yQ,yR,Oper.upon_enter];refine (h V lo hi W hB hD hH A.eval hR).mono ?_;rintro e W' ⟨v,rfl,hb,hp⟩;exact hK.out v W' hb hp
theorem mG.alloc{k:Nat}{o:Oper}{t:TypeId}{Z:List Value}(hg:o.guard=none)(hS:S.getD k SP.any=SP.box t Z)
  (h:∀(ρ:Operand→Value) (W:World),(execOp ρ o).run P W=.ok (.value (.pointer (some ⟨W.heap.size,0,none⟩))) (W.alloc (.cells Z.toArray t))):mG P l D S w0 a0 Q k o:=by
 intro V lo hi W hB hD hH A hR K hK;refine⟨?_⟩;rw[yG (by simp[Region.wanted,hg])];unfold Oper.wp;rw[h A.eval W];exact hK.out _ _ ((zD _ _).alloc (zC _) _) (by rw[hS];exact⟨rfl,by simp,ak W Z.toArray t⟩)
theorem mG.make{k:Nat}{o:Oper}(hg:o.guard=none)
  (h:∀(V:Nat→Value) (lo hi:Nat→Nat) (W:World),yT w0 W→(∀j,jD l l.length k j=true→Pv S w0 W V lo hi j)→∀ρ:Operand→Value,Reads D V a0 ρ →
   ∃v W',(execOp ρ o).run P W=.ok (.value v) W'∧yT W W'∧(S.getD k SP.any).p W.heap.size W'.heap.size W' v):mG P l D S w0 a0 Q k o:=by
 intro V lo hi W hB hD hH A hR K hK;refine⟨?_⟩;rw[yG (by simp[Region.wanted,hg])];obtain⟨v,W',hrun,hb,hp⟩:=h V lo hi W hB hD A.eval hR;unfold Oper.wp;rw[hrun];exact hK.out v W' hb hp
end
end Go.Proofs.YtjcoapnggojpdaaGreatDoor
