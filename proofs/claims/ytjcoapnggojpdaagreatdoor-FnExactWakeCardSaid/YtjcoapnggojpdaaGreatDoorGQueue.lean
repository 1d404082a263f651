/- Texts of the proof, laid compactly. -/
import Derived.Test.YtjcoapnggojpdaaGreatDoorGChanI
set_option maxHeartbeats 4000000
set_option maxRecDepth 100000
namespace Go.Proofs.YtjcoapnggojpdaaGreatDoor
set_option linter.unusedSimpArgs false
set_option linter.unusedVariables false
open Go.RowKit
def Enters(f:Nat):Prop:=∀(args:Array Value) (w:World),Sem.run Tryz.prog (callFunc f args) w=.ok (.enter f args) w
theorem enters_of{f:Nat}{fn:Func}(h:Tryz.prog.funcs[f]? =some fn)(h1:(fn.name == "runtime.NumGoroutine")=false)(h2:fn.body.isNone=false):Enters f:=fun args w=>by
 have h3:¬fn.name = "runtime.NumGoroutine" :=by simpa using h1
 have h4:¬fn.body=none:=fun h=>by rw[h] at h2;simp at h2
 simp[callFunc,go_sem,h,h3,h4]
theorem PT{f:Nat}(hf:Enters f){cap:Array Value}{p:Int→Bool}{w:World}{hi n c:Nat}{A:Option Addr}{ds:List Int}(h:a_ Lay.int w hi A n ds)(cu:hi≤w.heap.size)(hn:n≤maxLen)
  (hp:∀W d,yT w W→Calls Tryz.prog f (#[.int .i64 d]++cap) W fun e W'=>e=.returned (.bool (p d))∧yT W W') :
  Calls Tryz.prog 258 #[.slice A n c,.func (.func f) #[] cap] w fun e w'=>e=.returned (.int .i64 (ds.countP p:Int))∧yT w w':=by
 have HL:=zA h.1;unfold maxLen at hn;go_enter Tryz.func258,Tryz.ntmps258
 go_wp2_with fail
 go_loopw[5,10] (fun q i wr=>∃k:Nat,k≤n∧i=.int .i64 k∧q=.int .i64 ((ds.take k).countP p:Int)∧yT w wr) (fun _ i _=>n-(intOf i).toNat)
 case atStart=>exact⟨0,zL _,rfl,by simp,zD _ _⟩
 case round =>
  obtain⟨k,hk,rfl,rfl,hb⟩:=hrel;by_cases hlt:k<n
  ·obtain⟨hx,g,o,vs,rfl,hg,⟨rfl,hw⟩,hcell⟩:=(h.below hb cu).at_ hlt;have HD:=zA (zG hx);have HC:=zA (List.countP_le_length (p:=p) (l:=ds.take k));have HCn:(ds.take k).countP p≤k:=by have:=HC.out;rw[List.length_take] at this;omega
   have hz:=hb.size;have HP:=zA hp;generalize ds[k]=d at *;have HT:=zA (show (ds.take (k+1)).countP p=(ds.take k).countP p+if p d then 1 else 0 by rw[List.take_add_one,HD.out,List.countP_append];simp[List.countP_cons]);generalize (ds.take k).countP p=m at *;have dK:=hcell 0 _ rfl;simp only[show Lay.int.size=1 from rfl,←zH,zI,zK] at dK;clear hcell hw hp h;have HB:=zA hb;go_wp2_with fail
   rw[hf,Oper.upon_enter];refine (HP.out _ d HB.out).mono ?_;rintro e w1 ⟨rfl,hb1⟩;have iC:=zA (HB.out.trans (hb1.mono (by omega)));clear hb1 dK;cases hq:p d
   ·rw[hq] at HT;go_wp2_with fail
    go_roundw
    case rel=>exact⟨k+1,by omega,by go_num,by rw[HT.out];simp,iC.out⟩
    case measure=>simp[intOf];omega
   ·rw[hq] at HT;go_wp2_with fail
    go_roundw
    case rel=>exact⟨k+1,by omega,by go_num,by rw[HT.out];simp,iC.out⟩
    case measure=>simp[intOf];omega
  ·go_wp2_with fail
   go_ret;obtain rfl:k=n:=(by omega);rw[zU (by rw[HL.out];exact zC _)];exact⟨rfl,hb⟩
theorem NF{f:Nat}(hf:Enters f){cap:Array Value}{p:Int→Bool}{w:World}{hi n c:Nat}{A:Option Addr}{ds:List Int}(h:a_ Lay.int w hi A n ds)(cu:hi≤w.heap.size)(hn:n≤maxLen)
  (hp:∀W d,yT w W→Calls Tryz.prog f (#[.int .i64 d]++cap) W fun e W'=>e=.returned (.bool (p d))∧yT W W') :
  Calls Tryz.prog 178 #[.slice A n c,.func (.func f) #[] cap] w fun e w'=>e=.returned (.bool (ds.all p))∧yT w w':=by
 have HC:=zA (PT (c:=c) hf h cu hn hp);have hl:=h.1;have hq:ds.all p=decide (ds.countP p=n):=by
  rw[←hl,Bool.eq_iff_iff,zY,decide_eq_true_eq,List.countP_eq_length]
 have HQ:=zA hq;generalize ds.countP p=m at *;clear hq h hl hp;go_enter Tryz.func178,Tryz.ntmps178
 go_wp2_with fail
 refine HC.out.mono ?_;rintro e w1 ⟨rfl,hb⟩;by_cases he:m=n
 ·subst he;go_wp2_with fail
  go_ret;exact⟨by rw[HQ.out];simp,hb⟩
 ·have he2:¬(m:Int)=(n:Int):=(by omega);go_wp2_with fail
  go_ret;exact⟨by rw[HQ.out];simp[he];try omega,hb⟩
theorem l9{α:Type}{w:World}{hi size n:Nat}{A:Option Addr}{cells:α→List Value}{wf:α→Prop}{hl:∀x,(cells x).length=size}{xs:List α}(h:a_ (Lay.flat size cells wf hl) w hi A n xs) :
  Seen w hi size A n ((xs.map cells).flatten)∧∀x∈xs,wf x:=by
 obtain⟨hlen,rfl|⟨g,o,rfl,hg,f,hf⟩⟩:=h
 ·simp at hlen;subst hlen;exact⟨⟨by simp,.inl rfl⟩,fun x hx=>by simp at hx⟩
 ·refine⟨⟨by rw[zg hl,hlen],?_⟩,fun x hx => ?_⟩
  ·refine .inr ⟨g,o,rfl,hg,fun j u hu => ?_⟩;have hj:j<n*size:=by
    have:=(zO.1 hu).1;rwa [zg hl,hlen] at this
   have hs:0<size:=by
    rcases Nat.eq_zero_or_pos size with h0|h0
    ·rw[h0] at hj;omega
    ·exact h0
   have hq:j / size<n:=Nat.div_lt_of_lt_mul (by rw[Nat.mul_comm];exact hj);have hx:xs[j / size]? =some (xs[j / size]'(by omega)):=zG _;have h1:=hf _ _ hx;have h2:=BQ hl hx;have e1:=h1.1.1;have h3:(cells (xs[j / size]'(by omega)))[j%size]? =some u:=by
    rw[←h2,List.getElem?_take,yG (Nat.mod_lt _ hs),List.getElem?_drop,show j / size*size+j%size=j by rw[Nat.mul_comm];exact Nat.div_add_mod j size];exact hu
   have h4:=h1.2 (j%size) u (by rw[e1];exact h3);have h5:j / size*(Lay.flat size cells wf hl).size+j%size=j:=by
    show j / size*size+j%size=j
    rw[Nat.mul_comm];exact Nat.div_add_mod j size
   rw[h5] at h4;exact h4
  ·obtain⟨i,hi⟩:=List.mem_iff_getElem?.1 hx;exact (hf i x hi).1.2
theorem xU:(Tryz.prog.info? 3).map (fun i=>(i.zero,i.size,i.bytes))=some (some (.int .i64 0),1,8):=by kernel_rfl
theorem v_(xs:List Int):∀u∈(xs.map fun x=>[Value.int .i64 x]).flatten,u.oneCell'=true:=by
 intro u hu;simp only[List.mem_flatten,List.mem_map] at hu;obtain⟨l,⟨x,_,rfl⟩,hu⟩:=hu;simp at hu;subst hu;rfl
theorem Di{w:World}{hi n c:Nat}{A:Option Addr}{xs:List Int}(h:a_ Lay.int w hi A n xs)(hn:n≤1048576) :
  Calls Tryz.prog 211 #[.slice A n c] w (vw Lay.int 3 w n xs):=by
 obtain⟨i0,jJ,hz0,hz1,hz2⟩:=info_parts xU;obtain⟨hs,hw⟩:=l9 h;have hl:=h.1;have HW:=zA hw;have HL:=zA hl;clear h hw hl;go_enter Tryz.func211,Tryz.ntmps211
 go_wp2_with (at_builtin;refine dB rfl (.const (.slice none 0 0)) (.tmp 3) _ rfl w.heap.size w.heap.size 3 i0 _ 1 8 Tryz.underlying232 jJ hz0 hz1 hz2 rfl (by omega) none 0 0 [] rfl (Own.nil_ _ _ _ _ _) hi A n c _ rfl hs (v_ _) (by simp only[maxLen];omega) (by omega) (zC _) ?_;intro A' c' w' hown hb)
 go_ret;rw[yH] at hown;simp only[List.nil_append] at hown;exact⟨A',c',rfl,kF hown HL.out HW.out,hb⟩
theorem U9:∀w,(Go.sizeOf 3).run Tryz.prog w=.ok 1 w:=fun _=>by kernel_rfl
theorem aB.blk{α:Type}{L:Lay α}{e:TypeId}{w:World}{F:Nat→Prop}{A:Option Addr}{n c:Nat}{xs:List α}(h:aB L e w F A n c xs)(g:Nat)(hg:jk A=some g):F g:=by
 obtain⟨_,_,_,_,hA,_⟩:=h;exact hA g hg
theorem UY{α:Type}{w:World}{hi size n:Nat}{A:Option Addr}{cells:α→List Value}{wf:α→Prop}{hl:∀x,(cells x).length=size}{xs:List α}(h:a_ (Lay.flat size cells wf hl) w hi A n xs):∀x∈xs,wf x:=by
 obtain⟨hlen,rfl|⟨g,o,rfl,hg,f,hf⟩⟩:=h
 ·intro x hx;simp at hx
 ·intro x hx;obtain⟨i,hi⟩:=List.mem_iff_getElem?.1 hx;exact (hf i x hi).1.2
def rH(o:Int)(l:List Int)(k:Nat):Bool:=match l[k]? with
 |some d=>decide (0≤d) && !(o::l.take k).contains d
 |none=>false
theorem NG{o:Int}{l:List Int}{k:Nat}{d:Int}(h:l[k]? =some d):rH o l k=(decide (0≤d) && !(o::l.take k).contains d):=by
 unfold rH;rw[h]
def ownB(o:Int)(n:Nat):Bool:=decide (-1≤o∧(o = -1→n=0))
def Bg(x:eQ):Bool:=ownB x.dm x.iW.length&&(List.range x.iW.length).all (rH x.dm x.iW)
theorem cells_one(xs:List di):∀u∈(xs.map fun x=>[Value.int .i64 x.fG,.int .i64 x.bK,.int .i64 x.bU]).flatten,u.oneCell'=true:=by
 intro u hu;simp only[List.mem_flatten,List.mem_map] at hu;obtain⟨l,⟨x,_,rfl⟩,hu⟩:=hu;simp at hu;rcases hu with rfl|rfl|rfl <;> rfl
theorem Dj{w:World}{hi n c:Nat}{A:Option Addr}{xs:List di}(h:a_ aN w hi A n xs)(hn:n≤1048576) :
  Calls Tryz.prog 212 #[.slice A n c] w (vw aN 49 w n xs):=by
 obtain⟨i0,jJ,hz0,hz1,hz2⟩:=info_parts sD;obtain⟨hs,hw⟩:=l9 h;have hl:=h.1;have HW:=zA hw;have HL:=zA hl;clear h hw hl;go_enter Tryz.func212,Tryz.ntmps212
 go_wp2_with (at_builtin;refine dB rfl (.const (.slice none 0 0)) (.tmp 3) _ rfl w.heap.size w.heap.size 49 i0 _ 3 24 Tryz.underlying266 jJ hz0 hz1 hz2 rfl (by omega) none 0 0 [] rfl (Own.nil_ _ _ _ _ _) hi A n c _ rfl hs (cells_one _) (by simp only[maxLen];omega) (by omega) (zC _) ?_;intro A' c' w' hown hb)
 go_ret;rw[yH] at hown;simp only[List.nil_append] at hown;exact⟨A',c',rfl,kF hown HL.out HW.out,hb⟩
def Rx(x:gy)(w:World)(e:Ending)(w':World):Prop :=
 yT w w'∧∃A1 c1 A2 c2 A3 c3 F1 F2 F3,e=.returned (.agg #[.int .i64 x.dC,.slice A1 x.k6.length c1,.slice A2 x.dh.length c2,.slice A3 x.dG.length c3,.bool x.aC]) ∧
  aB Lay.int 3 w' F1 A1 x.k6.length c1 x.k6∧aB aN 49 w' F2 A2 x.dh.length c2 x.dh∧aB aN 49 w' F3 A3 x.dG.length c3 x.dG ∧
  (∀g,F1 g∨F2 g∨F3 g→w.heap.size≤g∧g<w'.heap.size)∧(∀g,F1 g→¬F2 g)∧(∀g,F1 g→¬F3 g)∧∀g,F2 g→¬F3 g
theorem KO{w:World}{hi:Nat}{x:gy}{vs:List Value}(h:bD.see w hi x vs)(cu:hi≤w.heap.size)(hn:dN x≤1048576) :
  Calls Tryz.prog 122 #[.agg vs.toArray] w (Rx x w):=by
 obtain⟨A1,n1,c1,A2,n2,c2,A3,n3,c3,rfl,hw0,⟨hc1,hm1,s1⟩,⟨hc2,jY,s2⟩,⟨hc3,Be,s3⟩⟩:=jF h;have L1:=zA s1.1;have L2:=zA s2.1;have L3:=zA s3.1;have jS:=hn;unfold dN at jS;rw[L1.out] at jS;rw[L2.out] at jS;rw[L3.out] at jS;have Jz:=zA (show ((w.alloc (.cells #[.int .i64 x.dC,.slice A1 n1 c1,.slice A2 n2 c2,.slice A3 n3 c3,.bool x.aC] 135)).alloc (.cells #[.int .i64 0,.slice none 0 0,.slice none 0 0,.slice none 0 0,.bool false] 135)).heap[w.heap.size]? =some (.cells #[.int .i64 x.dC,.slice A1 n1 c1,.slice A2 n2 c2,.slice A3 n3 c3,.bool x.aC] 135 (0,0)) from (Below.heap_alloc (w.alloc (.cells #[.int .i64 x.dC,.slice A1 n1 c1,.slice A2 n2 c2,.slice A3 n3 c3,.bool x.aC] 135)) _ _ (by simp)).trans (ak w #[.int .i64 x.dC,.slice A1 n1 c1,.slice A2 n2 c2,.slice A3 n3 c3,.bool x.aC] 135));have qi:=zA (show ((w.alloc (.cells #[.int .i64 x.dC,.slice A1 n1 c1,.slice A2 n2 c2,.slice A3 n3 c3,.bool x.aC] 135)).alloc (.cells #[.int .i64 0,.slice none 0 0,.slice none 0 0,.slice none 0 0,.bool false] 135)).heap[w.heap.size+1]? =some (.cells #[.int .i64 0,.slice none 0 0,.slice none 0 0,.slice none 0 0,.bool false] 135 (0,0)) from by have:=ak (w.alloc (.cells #[.int .i64 x.dC,.slice A1 n1 c1,.slice A2 n2 c2,.slice A3 n3 c3,.bool x.aC] 135)) #[.int .i64 0,.slice none 0 0,.slice none 0 0,.slice none 0 0,.bool false] 135;simpa using this);have gW:=zA (show yT w ((w.alloc (.cells #[.int .i64 x.dC,.slice A1 n1 c1,.slice A2 n2 c2,.slice A3 n3 c3,.bool x.aC] 135)).alloc (.cells #[.int .i64 0,.slice none 0 0,.slice none 0 0,.slice none 0 0,.bool false] 135)) by go_grown);have O5:=zA (fun (W:World) (hW:yT w W)=>s1.below hW cu);have Fa:=zA (fun (W:World) (hW:yT w W)=>s2.below hW cu);have PU:=zA (fun (W:World) (hW:yT w W)=>s3.below hW cu);have zz0:w.heap.size+2≤((w.alloc (.cells #[.int .i64 x.dC,.slice A1 n1 c1,.slice A2 n2 c2,.slice A3 n3 c3,.bool x.aC] 135)).alloc (.cells #[.int .i64 0,.slice none 0 0,.slice none 0 0,.slice none 0 0,.bool false] 135)).heap.size:=(by simp);clear s1 s2 s3 h;go_enter Tryz.func122,Tryz.ntmps122
 go_wp2_with fail
 refine (Di (O5.out _ gW.out) (by omega)).mono ?_;rintro e w1 ⟨B1,e1,rfl,dU,hb1⟩;have ha1:=hb1.size;simp only[zF] at ha1 dU;have zz1:w.heap.size+2≤w1.heap.size:=zJ zz0 hb1.size;have hx1:=af Jz.out hb1 (by omega);have hr1:=af qi.out hb1 (by omega);have p1:=ae (j:=1) hx1 rfl;have f1:=ah hx1 1;have Fb:=zA (gW.out.trans (hb1.mono (by omega)));have Fe:=zA dU;clear dU hb1;go_upto_region 2 with (fail)
 have qE:=zA (show (w1.setCell ⟨w.heap.size,1,none⟩ (.slice B1 n1 e1)).heap[w.heap.size]? =some (.cells #[.int .i64 x.dC,.slice B1 n1 e1,.slice A2 n2 c2,.slice A3 n3 c3,.bool x.aC] 135 (0,0)) from az (j:=1) (u := .slice B1 n1 e1) hx1);have DV:=zA ((zN w1 ⟨w.heap.size,1,none⟩ (.slice B1 n1 e1) (w.heap.size+1) (by simp only;omega)).trans hr1);have iC:=zA (aj (p:=⟨w.heap.size,1,none⟩) Fb.out (zC _) (.slice B1 n1 e1));replace Fe:=zA (aB.setCell (o:=1) Fe.out (g:=w.heap.size) (by omega) (.slice B1 n1 e1));have hz1:=zA (show (w1.setCell ⟨w.heap.size,1,none⟩ (.slice B1 n1 e1)).heap.size=w1.heap.size by simp[World.setCell]);clear hx1 hr1 p1 f1 Fb;generalize w1.setCell ⟨w.heap.size,1,none⟩ (.slice B1 n1 e1)=MR at *;replace zz1:w.heap.size+2≤MR.heap.size:=by have:=hz1.out;omega
 have pa2:=ae (j:=2) qE.out rfl;go_wp2_with fail
 refine (Dj (Fa.out _ iC.out) (by omega)).mono ?_;rintro e w2 ⟨B2,e2,rfl,mQ,hb2⟩;have ha2:=hb2.size;have zz2:w.heap.size+2≤w2.heap.size:=zJ zz1 hb2.size;clear pa2;have hx2:=af qE.out hb2 (by omega);have hr2:=af DV.out hb2 (by omega);have p2:=ae (j:=2) hx2 rfl;have f2:=ah hx2 2;have NH:=zA (iC.out.trans (hb2.mono (by omega)));have Ff:=zA (Fe.out.stay (w':=w2) (fun g hg hlt=>hb2.block g hlt) hb2.size);have Fg:=zA mQ;clear mQ hb2;go_upto_region 3 with (fail)
 have Fh:=zA (show (w2.setCell ⟨w.heap.size,2,none⟩ (.slice B2 n2 e2)).heap[w.heap.size]? =some (.cells #[.int .i64 x.dC,.slice B1 n1 e1,.slice B2 n2 e2,.slice A3 n3 c3,.bool x.aC] 135 (0,0)) from az (j:=2) (u := .slice B2 n2 e2) hx2);have rZ:=zA ((zN w2 ⟨w.heap.size,2,none⟩ (.slice B2 n2 e2) (w.heap.size+1) (by simp only;omega)).trans hr2);have lK:=zA (aj (p:=⟨w.heap.size,2,none⟩) NH.out (zC _) (.slice B2 n2 e2));replace Ff:=zA (aB.setCell (o:=2) Ff.out (g:=w.heap.size) (by omega) (.slice B2 n2 e2));replace Fg:=zA (aB.setCell (o:=2) Fg.out (g:=w.heap.size) (by omega) (.slice B2 n2 e2));have hz2:=zA (show (w2.setCell ⟨w.heap.size,2,none⟩ (.slice B2 n2 e2)).heap.size=w2.heap.size by simp[World.setCell]);clear hx2 hr2 p2 f2 NH;generalize w2.setCell ⟨w.heap.size,2,none⟩ (.slice B2 n2 e2)=SQ at *;replace zz2:w.heap.size+2≤SQ.heap.size:=by have:=hz2.out;omega
 have pa3:=ae (j:=3) Fh.out rfl;go_wp2_with fail
 refine (Dj (PU.out _ lK.out) (by omega)).mono ?_;rintro e w3 ⟨B3,e3,rfl,xx,hb3⟩;have ha3:=hb3.size;have zz3:w.heap.size+2≤w3.heap.size:=zJ zz2 hb3.size;clear pa3;have hx3:=af Fh.out hb3 (by omega);have hr3:=af rZ.out hb3 (by omega);have p3:=ae (j:=3) hx3 rfl;have f3:=ah hx3 3;have U_:=zA (lK.out.trans (hb3.mono (by omega)));have Fj:=zA (Ff.out.stay (w':=w3) (fun g hg hlt=>hb3.block g hlt) hb3.size);have Fp:=zA (Fg.out.stay (w':=w3) (fun g hg hlt=>hb3.block g hlt) hb3.size);have Fq:=zA xx;clear xx hb3;go_upto_region 4 with (fail)
 have O6:=zA (show (w3.setCell ⟨w.heap.size,3,none⟩ (.slice B3 n3 e3)).heap[w.heap.size]? =some (.cells #[.int .i64 x.dC,.slice B1 n1 e1,.slice B2 n2 e2,.slice B3 n3 e3,.bool x.aC] 135 (0,0)) from az (j:=3) (u := .slice B3 n3 e3) hx3);have xy:=zA ((zN w3 ⟨w.heap.size,3,none⟩ (.slice B3 n3 e3) (w.heap.size+1) (by simp only;omega)).trans hr3);have xW:=zA (aj (p:=⟨w.heap.size,3,none⟩) U_.out (zC _) (.slice B3 n3 e3));replace Fj:=zA (aB.setCell (o:=3) Fj.out (g:=w.heap.size) (by omega) (.slice B3 n3 e3));replace Fp:=zA (aB.setCell (o:=3) Fp.out (g:=w.heap.size) (by omega) (.slice B3 n3 e3));replace Fq:=zA (aB.setCell (o:=3) Fq.out (g:=w.heap.size) (by omega) (.slice B3 n3 e3));have hz3:=zA (show (w3.setCell ⟨w.heap.size,3,none⟩ (.slice B3 n3 e3)).heap.size=w3.heap.size by simp[World.setCell]);clear hx3 hr3 p3 f3 U_;generalize w3.setCell ⟨w.heap.size,3,none⟩ (.slice B3 n3 e3)=w3b at *;replace zz3:w.heap.size+2≤w3b.heap.size:=by have:=hz3.out;omega
 have q0:=ae (j:=0) O6.out rfl;have q1:=ae (j:=1) O6.out rfl;have q2:=ae (j:=2) O6.out rfl;have q3:=ae (j:=3) O6.out rfl;have q4:=ae (j:=4) O6.out rfl;have r0:=ae (j:=0) xy.out rfl;have r1:=ae (j:=1) xy.out rfl;have r2:=ae (j:=2) xy.out rfl;have r3:=ae (j:=3) xy.out rfl;have r4:=ae (j:=4) xy.out rfl;have g0:=ah xy.out 0;have g1:=ah xy.out 1;have g2:=ah xy.out 2;have g3:=ah xy.out 3;have g4:=ah xy.out 4;go_wp2_with fail
 have ahT:=hz1.out;have ahU:=hz2.out;have ahV:=hz3.out;have bT:=az (j:=4) (u := .bool x.aC) (az (j:=3) (u := .slice B3 n3 e3) (az (j:=2) (u := .slice B2 n2 e2) (az (j:=1) (u := .slice B1 n1 e1) (az (j:=0) (u := .int .i64 x.dC) xy.out))));have y0:=ae (j:=0) bT rfl;have y1:=ae (j:=1) bT rfl;have y2:=ae (j:=2) bT rfl;have y3:=ae (j:=3) bT rfl;have y4:=ae (j:=4) bT rfl;clear q0 q1 q2 q3 q4 r0 r1 r2 r3 r4 g0 g1 g2 g3 g4;refine bodyPost_ret (v := .agg #[.int .i64 x.dC,.slice B1 n1 e1,.slice B2 n2 e2,.slice B3 n3 e3,.bool x.aC]) (by simp[results,Tryz.results122,go_sem,y0,y1,y2,y3,y4]) rfl ?_;refine⟨aj (aj (aj (aj (aj xW.out (by simp only;omega) _) (by simp only;omega) _) (by simp only;omega) _) (by simp only;omega) _) (by simp only;omega) _,B1,e1,B2,e2,B3,e3,_,_,_,by rw[L1.out,L2.out,L3.out],by rw[L1.out];exact aB.setCell (o:=4) (aB.setCell (o:=3) (aB.setCell (o:=2) (aB.setCell (o:=1) (aB.setCell (o:=0) Fj.out (g:=w.heap.size+1) (by omega) _) (by omega) _) (by omega) _) (by omega) _) (by omega) _,by rw[L2.out];exact aB.setCell (o:=4) (aB.setCell (o:=3) (aB.setCell (o:=2) (aB.setCell (o:=1) (aB.setCell (o:=0) Fp.out (g:=w.heap.size+1) (by omega) _) (by omega) _) (by omega) _) (by omega) _) (by omega) _,by rw[L3.out];exact aB.setCell (o:=4) (aB.setCell (o:=3) (aB.setCell (o:=2) (aB.setCell (o:=1) (aB.setCell (o:=0) Fq.out (g:=w.heap.size+1) (by omega) _) (by omega) _) (by omega) _) (by omega) _) (by omega) _,?_,fun g hg nI=>by omega,fun g hg nI=>by omega,fun g hg nI=>by omega⟩;rintro g (hg|hg|hg) <;> (simp only[zM];omega)

end Go.Proofs.YtjcoapnggojpdaaGreatDoor
