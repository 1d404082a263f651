/- Texts of the proof, laid compactly. -/
import Derived.Test.YtjcoapnggojpdaaGreatDoorGTabs
import Derived.Test.YtjcoapnggojpdaaGreatDoorGGorX
import Derived.Test.YtjcoapnggojpdaaGreatDoorGM
set_option maxHeartbeats 4000000
set_option maxRecDepth 100000
namespace Go.Proofs.YtjcoapnggojpdaaGreatDoor
set_option linter.unusedSimpArgs false
set_option linter.unusedVariables false
open Go.RowKit
def Wy(g:Int)(d:di):Bool:=decide (d.fG=g)
def iZ(g:Int)(l:List di):List di:=l.filter fun d => !Wy g d
abbrev wc(d:di):List Value:=[.int .i64 d.fG,.int .i64 d.bK,.int .i64 d.bU]
theorem FD(w:World)(a b c:Value)(t:TypeId):Seen (w.alloc (.cells #[a,b,c] t)) (w.heap.size+1) 3 (some ⟨w.heap.size,0,none⟩) 1 [a,b,c]:=by
 refine⟨rfl,.inr ⟨w.heap.size,0,rfl,by omega,fun j u hu => ?_⟩⟩;have hx:=ak w #[a,b,c] t;match j,hu with
 |0,hu=>simp at hu;subst hu;exact ae hx rfl
 |1,hu=>simp at hu;subst hu;exact ae hx rfl
 |2,hu=>simp at hu;subst hu;exact ae hx rfl
 |k+3,hu=>simp at hu
theorem Dk{α:Type}{q:α→Bool}{l:List α}{k:Nat}{x:α}(h:l[k]? =some x):(l.take (k+1)).filter q=(l.take k).filter q++if q x then [x] else []:=by
 rw[List.take_add_one,h,List.filter_append];congr 1
 cases hq:q x <;> simp[hq]
def Va(w:World)(l:List di)(e:Ending)(w':World):Prop :=
 ∃B c',e=.returned (.slice B l.length c')∧Own w' w.heap.size w'.heap.size 49 3 B l.length c' ((l.map wc).flatten)∧yT w w'
theorem Ir{f:Nat}(hf:Enters f){cap:Array Value}{p:di→Bool}{w:World}{hi n c:Nat}{A:Option Addr}{ds:List di}(h:a_ aN w hi A n ds)(cu:hi≤w.heap.size)(hn:n≤1048600)
  (hp:∀W d,yT w W→Calls Tryz.prog f (#[.agg #[.int .i64 d.fG,.int .i64 d.bK,.int .i64 d.bU]]++cap) W fun e W'=>e=.returned (.bool (p d))∧yT W W') :
  Calls Tryz.prog 271 #[.slice A n c,.func (.func f) #[] cap] w (Va w (ds.filter fun d => !p d)):=by
 obtain⟨i0,jJ,hz0,hz1,hz2⟩:=info_parts sD;have HL:=zA h.1;go_enter Tryz.func271,Tryz.ntmps271
 go_wp2_with fail
 go_loopw[5,10] (fun q i wr=>∃(k:Nat) (B:Option Addr) (c':Nat) (done:List di),k≤n∧i=.int .i64 k∧q=.slice B done.length c'∧Hid (done=(ds.take k).filter fun d => !p d)∧Own wr w.heap.size wr.heap.size 49 3 B done.length c' ((done.map wc).flatten)∧yT w wr) (fun _ i _=>n-(intOf i).toNat)
 case atStart=>exact⟨0,none,0,[],zL _,rfl,rfl,zA (by simp),Own.nil_ _ _ _ _ _,zD _ _⟩
 case round =>
  obtain⟨k,B,c',done,hk,rfl,rfl,Xu,hown,hb⟩:=hrel;by_cases hlt:k<n
  ·obtain⟨hx,g,o,vs,rfl,hg,⟨rfl,hw⟩,hcell⟩:=(h.below hb cu).at_ hlt;have HD:=zA (zG hx);have hz:=hb.size;have HP:=zA hp;have hdl:done.length≤k:=by
    have h1:=Xu.out;have h2:=List.length_filter_le (fun d => !p d) (ds.take k);rw[←h1,List.length_take] at h2;omega
   generalize ds[k]=d at *;have HT:=zA (Dk (q:=fun d => !p d) HD.out);have dK:=hcell 0 _ rfl;have eu:=hcell 1 _ rfl;have ig:=hcell 2 _ rfl;simp only[show aN.size=3 from rfl,←zH,zI,zK] at dK eu ig;clear hcell hw hp h;have jg:yT wr (wr.alloc (.cells #[.int .i64 d.fG,.int .i64 d.bK,.int .i64 d.bU] 49)):=(zD _ _).alloc (zC _) _;have HB:=zA (hb.trans (jg.mono hz));have HX:=zA (ak wr #[.int .i64 d.fG,.int .i64 d.bK,.int .i64 d.bU] 49);have HO:=zA (hown.below jg (zC _));clear hown jg;go_wp2_with fail
   rw[hf,Oper.upon_enter];refine (HP.out _ d HB.out).mono ?_;rintro e w1 ⟨rfl,hb1⟩;have ahW:=hb1.size;simp only[zF] at ahW;have iC:=zA (HB.out.trans (hb1.mono (by simp;omega)));have qE:=zA (af HX.out hb1 (by simp));have Zx:=zA ((HO.out.below hb1 (by simp)).wider (zC _) (show wr.heap.size≤w1.heap.size by omega));clear hb1 dK eu ig;cases hq:p d
   ·rw[hq] at HT;have q0:=ae (j:=0) qE.out rfl;have q1:=ae (j:=1) qE.out rfl;have q2:=ae (j:=2) qE.out rfl;have hown:=Zx.out.alloc (.cells #[.int .i64 d.fG,.int .i64 d.bK,.int .i64 d.bU] 49);go_wp2_with (at_builtin;refine dB rfl (.tmp 18) (.tmp 20) _ rfl w.heap.size _ 49 i0 _ 3 24 Tryz.underlying266 jJ hz0 hz1 hz2 rfl (by omega) B done.length c' _ rfl hown _ (some ⟨w1.heap.size,0,none⟩) 1 1 _ rfl (FD w1 (.int .i64 d.fG) (.int .i64 d.bK) (.int .i64 d.bU) 49) (by simp[Value.oneCell']) (by simp only[maxLen];omega) (by omega) (by simp;omega) ?_;intro B4 c4 w2 mQ hb2)
    go_roundw
    case rel =>
     refine⟨k+1,B4,c4,done++[d],by omega,by go_num,by simp,zA ?_,?_,?_⟩
     ·rw[HT.out,←Xu.out];rfl
     ·rw[EX,zZ];exact mQ
     ·exact iC.out.trans (((zD _ _).alloc (zC _) _ |>.mono (by omega)).trans (hb2.mono (zC _)))
    case measure=>simp[intOf];omega
   ·rw[hq] at HT;go_wp2_with fail
    go_roundw
    case rel =>
     refine⟨k+1,B,c',done,by omega,by go_num,rfl,zA ?_,Zx.out,iC.out⟩;rw[HT.out,←Xu.out];simp
    case measure=>simp[intOf];omega
  ·go_wp2_with fail
   go_ret;obtain rfl:k=n:=(by omega);have h9:=Xu.out;rw[zU (by rw[HL.out];exact zC _)] at h9;rw[←h9];exact⟨B,c',rfl,hown,hb⟩
theorem SX(d:di)(g:Int)(b:Nat)(w:World)(hb:w.cell? ⟨b,0,none⟩=some (.int .i64 g))(hlt:b<w.heap.size) :
  Calls Tryz.prog 307 #[.agg #[.int .i64 d.fG,.int .i64 d.bK,.int .i64 d.bU],.pointer (some ⟨b,0,none⟩)] w fun e w'=>e=.returned (.bool (Wy g d))∧yT w w':=by
 obtain⟨g1,q1,v1⟩:=d;show Calls Tryz.prog 307 #[.agg #[.int .i64 g1,.int .i64 q1,.int .i64 v1],.pointer (some ⟨b,0,none⟩)] w fun e w'=>e=.returned (.bool (decide (g1=g)))∧yT w w'
 go_enter Tryz.func307,Tryz.ntmps307
 go_wp2_with fail
 go_ret;exact⟨by first|rfl|(simp;rfl),by go_grown⟩
theorem Vb(g:Int)(w:World):Calls Tryz.prog 272 #[.int .i64 g] w fun e w'=>e=.returned (.func (.func 307) #[] #[.pointer (some ⟨w.heap.size,0,none⟩)])∧w'=w.alloc (.cells #[.int .i64 g] 3):=by
 go_enter Tryz.func272,Tryz.ntmps272
 go_wp2_with fail
 go_ret;exact⟨rfl,rfl⟩
theorem Ai{w:World}{hi n c:Nat}{A:Option Addr}{ds:List di}{g:Int}(h:a_ aN w hi A n ds)(cu:hi≤w.heap.size)(hn:n≤1048600) :
  Calls Tryz.prog 213 #[.slice A n c,.int .i64 g] w (Va w (iZ g ds)):=by
 have jg:yT w (w.alloc (.cells #[.int .i64 g] 3)):=(zD _ _).alloc (zC _) _;have HX:=zA (ak w #[.int .i64 g] 3);have HW:=zA (Ir (c:=c) (w:=w.alloc (.cells #[.int .i64 g] 3)) PW (p:=Wy g) (cap := #[.pointer (some ⟨w.heap.size,0,none⟩)]) (h.below jg cu) (by simp;omega) hn (fun W d hW=>by
  exact SX d g w.heap.size W (ae (af HX.out hW (by simp)) rfl) (by have:=hW.size;simp at this;omega)))
 go_enter Tryz.func213,Tryz.ntmps213
 go_wp2_with fail
 refine (Vb g w).mono ?_;rintro e w1 ⟨rfl,rfl⟩;go_wp2_with fail
 refine HW.out.mono ?_;rintro e w2 ⟨B,c',rfl,hown,hb⟩;go_wp2_with fail
 go_ret;exact⟨B,c',rfl,hown.wider (by simp) (zC _),jg.trans (hb.mono (by simp))⟩
theorem Aj{w:World}{hi n c:Nat}{A:Option Addr}{ds:List di}{g:Int}(h:a_ aN w hi A n ds)(cu:hi≤w.heap.size)(hn:n≤1048600) :
  Calls Tryz.prog 191 #[.slice A n c,.int .i64 g] w (Va w (iZ g ds)):=by
 obtain⟨i0,jJ,hz0,hz1,hz2⟩:=info_parts sD;have HL:=zA h.1;unfold iZ;go_enter Tryz.func191,Tryz.ntmps191
 go_wp2_with fail
 go_loopw[5,11] (fun q i wr=>∃(k:Nat) (B:Option Addr) (c':Nat) (done:List di),k≤n∧i=.int .i64 k∧q=.slice B done.length c'∧Hid (done=(ds.take k).filter fun d => !Wy g d)∧Own wr w.heap.size wr.heap.size 49 3 B done.length c' ((done.map wc).flatten)∧yT w wr) (fun _ i _=>n-(intOf i).toNat)
 case atStart=>exact⟨0,_,0,[],zL _,rfl,rfl,zA (by simp),by simpa using Own.made (size:=3) (e:=49) w #[] 0 0 (by decide) rfl (zC _),(zD _ _).alloc (zC _) _⟩
 case round =>
  obtain⟨k,B,c',done,hk,rfl,rfl,Xu,hown,hb⟩:=hrel;by_cases hlt:k<n
  ·obtain⟨hx,g0,o,vs,rfl,hg,⟨rfl,hw⟩,hcell⟩:=(h.below hb cu).at_ hlt;have HD:=zA (zG hx);have hz:=hb.size;have hdl:done.length≤k:=by
    have h1:=Xu.out;have h2:=List.length_filter_le (fun d => !Wy g d) (ds.take k);rw[←h1,List.length_take] at h2;omega
   generalize ds[k]=d at *;have HT:=zA (Dk (q:=fun d => !Wy g d) HD.out);have dK:=hcell 0 _ rfl;have eu:=hcell 1 _ rfl;have ig:=hcell 2 _ rfl;simp only[show aN.size=3 from rfl,←zH,zI,zK] at dK eu ig;clear hcell hw h;have jg:yT wr (wr.alloc (.cells #[.int .i64 d.fG,.int .i64 d.bK,.int .i64 d.bU] 49)):=(zD _ _).alloc (zC _) _;have HB:=zA (hb.trans (jg.mono hz));have HO:=zA ((hown.below jg (zC _)).wider (zC _) (show wr.heap.size≤(wr.alloc (.cells #[.int .i64 d.fG,.int .i64 d.bK,.int .i64 d.bU] 49)).heap.size by simp));clear hown;by_cases hq:d.fG=g
   ·have hqq:Wy g d=true:=yE hq;rw[hqq] at HT;subst hq;go_wp2_with fail
    go_roundw
    case rel =>
     refine⟨k+1,B,c',done,by omega,by go_num,rfl,zA ?_,HO.out,HB.out⟩;rw[HT.out,←Xu.out];simp
    case measure=>simp[intOf];omega
   ·have hqq:Wy g d=false:=yD hq;rw[hqq] at HT;have hne:(d.fG != g)=true:=by simpa using hq
    have hown:=HO.out.alloc (.cells #[.int .i64 d.fG,.int .i64 d.bK,.int .i64 d.bU] 49);have hzz:(wr.alloc (.cells #[.int .i64 d.fG,.int .i64 d.bK,.int .i64 d.bU] 49)).heap.size=wr.heap.size+1:=(by simp);have PU:=zA (FD (wr.alloc (.cells #[.int .i64 d.fG,.int .i64 d.bK,.int .i64 d.bU] 49)) (.int .i64 d.fG) (.int .i64 d.bK) (.int .i64 d.bU) 49);rw[hzz] at PU;have HZ:=zA hzz;clear hzz;go_wp2_with (at_builtin;refine dB rfl (.tmp 19) (.tmp 21) _ rfl w.heap.size _ 49 i0 _ 3 24 Tryz.underlying133 jJ hz0 hz1 hz2 rfl (by omega) B done.length c' _ rfl hown _ (some ⟨wr.heap.size+1,0,none⟩) 1 1 _ rfl PU.out (by simp[Value.oneCell']) (by simp only[maxLen];omega) (by omega) (by simp;omega) ?_;intro B4 c4 w2 mQ hb2)
    go_roundw
    case rel =>
     refine⟨k+1,B4,c4,done++[d],by omega,by go_num,by simp,zA ?_,?_,?_⟩
     ·rw[HT.out,←Xu.out];rfl
     ·rw[EX,zZ];exact mQ
     ·exact HB.out.trans (((zD _ _).alloc (zC _) _ |>.mono (by have:=HZ.out;omega)).trans (hb2.mono (zC _)))
    case measure=>simp[intOf];omega
  ·go_wp2_with fail
   go_ret;obtain rfl:k=n:=(by omega);have h9:=Xu.out;rw[zU (by rw[HL.out];exact zC _)] at h9;rw[←h9];exact⟨B,c',rfl,hown,hb⟩
theorem LQ{w:World}{hi:Nat}{x:bY}{vs:List Value}{r:Int}(h:aI.see w hi x vs)(cu:hi≤w.heap.size)(hn:bV x≤1048600)(hv:(Lit.int .i64 r).wf=true) :
  Calls Tryz.prog 242 #[.agg vs.toArray,.int .i64 r] w fun e w'=>e=.returned (.int .i64 (ji x r))∧yT w w':=by
 obtain⟨A2,n2,c2,A4,n4,c4,rfl,hw0,hw1,⟨hc2,jY,s2⟩,hw3,⟨hc4,hm4,s4⟩⟩:=gK h;obtain⟨pr,pc,regs,st,tr⟩:=x;have l2:=s2.1;have l4:=s4.1;simp only at l2 l4 s2 s4 hw0 hw1 hw3;subst l2 l4;have o8:regs.length≤1048600:=by unfold bV at hn;simp at hn;omega
 have hX:=ak w #[.int .i64 pr,.int .i64 pc,.slice A2 regs.length c2,.int .i64 st,.slice A4 tr.length c4] 69;have HB:=zA ((zD w.heap.size w).alloc (zC _) (.cells #[.int .i64 pr,.int .i64 pc,.slice A2 regs.length c2,.int .i64 st,.slice A4 tr.length c4] 69));have x2:=ae (j:=2) hX rfl;clear hw0 hw1 hw3 hv h hn hX;have hcase:(∃k:Nat,k<regs.length∧r=k)∨r<0∨(0≤r∧(regs.length:Int)≤r):=by
  by_cases h0:r<0
  ·exact .inr (.inl h0)
  ·by_cases h1:r<regs.length
   ·exact .inl ⟨r.toNat,by omega,by omega⟩
   ·exact .inr (.inr ⟨by omega,by omega⟩)
 rcases hcase with⟨k,hk,rfl⟩|hr|⟨hr,hr2⟩
 ·skip
  obtain⟨hx,g,o,us,rfl,hg,⟨hu,_⟩,hc⟩:=s2.at_ hk;have HQ:=zA (show ji ⟨pr,pc,regs,st,tr⟩ (k:Int)=regs[k] by unfold ji;rw[yG (by simp;omega)];simp[hk]);have cc:=hc 0 (.int .i64 regs[k]) (by rw[hu];rfl);simp only[show Lay.int.size=1 from rfl,←zH,zI,zK] at cc;have hgw:g<w.heap.size:=(by omega);have hlk:(k:Int)<(regs.length:Int):=(by omega);have hk0:(0:Int)≤(k:Int):=(by omega);clear hc s2 s4 hu;rw[HQ.out];generalize regs[k]=z at *;have hp:=zA (show decide (0≤(k:Int)∧(k:Int)<(regs.length:Int))=true from yE (by omega));go_enter Tryz.func242,Tryz.ntmps242
  go_wp2_with fail
  refine (pG _ _ _).mono ?_;rw[hp.out];rintro e w5 ⟨rfl,rfl⟩;go_wp2_with fail
  go_ret;exact⟨rfl,HB.out⟩
 ·skip
  rw[show ji ⟨pr,pc,regs,st,tr⟩ r=0 from yF (by simp only;omega)];have hp:=zA (show decide (0≤r∧r<(regs.length:Int))=false from yD (by omega));go_enter Tryz.func242,Tryz.ntmps242
  go_wp2_with fail
  refine (pG _ _ _).mono ?_;rw[hp.out];rintro e w5 ⟨rfl,rfl⟩;go_wp2_with fail
  go_ret;exact⟨rfl,HB.out⟩
 ·skip
  rw[show ji ⟨pr,pc,regs,st,tr⟩ r=0 from yF (by simp only;omega)];have hp:=zA (show decide (0≤r∧r<(regs.length:Int))=false from yD (by omega));go_enter Tryz.func242,Tryz.ntmps242
  go_wp2_with fail
  refine (pG _ _ _).mono ?_;rw[hp.out];rintro e w5 ⟨rfl,rfl⟩;go_wp2_with fail
  go_ret;exact⟨rfl,HB.out⟩
theorem LU{w:World}{hi:Nat}{x:bY}{vs:List Value}{r:Int}(h:aI.see w hi x vs)(cu:hi≤w.heap.size)(hn:bV x≤1048600)(hv:(Lit.int .i64 r).wf=true) :
  Calls Tryz.prog 150 #[.agg vs.toArray,.int .i64 r] w fun e w'=>e=.returned (.int .i64 (ji x r))∧yT w w':=by
 obtain⟨A2,n2,c2,A4,n4,c4,rfl,hw0,hw1,⟨hc2,jY,s2⟩,hw3,⟨hc4,hm4,s4⟩⟩:=gK h;obtain⟨pr,pc,regs,st,tr⟩:=x;have l2:=s2.1;have l4:=s4.1;simp only at l2 l4 s2 s4 hw0 hw1 hw3;subst l2 l4;have o8:regs.length≤1048600:=by unfold bV at hn;simp at hn;omega
 have hX:=ak w #[.int .i64 pr,.int .i64 pc,.slice A2 regs.length c2,.int .i64 st,.slice A4 tr.length c4] 69;have HB:=zA ((zD w.heap.size w).alloc (zC _) (.cells #[.int .i64 pr,.int .i64 pc,.slice A2 regs.length c2,.int .i64 st,.slice A4 tr.length c4] 69));have x2:=ae (j:=2) hX rfl;clear hw0 hw1 hw3 hv h hn hX;have hcase:(∃k:Nat,k<regs.length∧r=k)∨r<0∨(0≤r∧(regs.length:Int)≤r):=by
  by_cases h0:r<0
  ·exact .inr (.inl h0)
  ·by_cases h1:r<regs.length
   ·exact .inl ⟨r.toNat,by omega,by omega⟩
   ·exact .inr (.inr ⟨by omega,by omega⟩)
 rcases hcase with⟨k,hk,rfl⟩|hr|⟨hr,hr2⟩
 ·skip
  obtain⟨hx,g,o,us,rfl,hg,⟨hu,_⟩,hc⟩:=s2.at_ hk;have HQ:=zA (show ji ⟨pr,pc,regs,st,tr⟩ (k:Int)=regs[k] by unfold ji;rw[yG (by simp;omega)];simp[hk]);have cc:=hc 0 (.int .i64 regs[k]) (by rw[hu];rfl);simp only[show Lay.int.size=1 from rfl,←zH,zI,zK] at cc;have hgw:g<w.heap.size:=(by omega);have hlk:(k:Int)<(regs.length:Int):=(by omega);have hk0:(0:Int)≤(k:Int):=(by omega);clear hc s2 s4 hu;rw[HQ.out];generalize regs[k]=z at *;have hp:=zA (show decide (0≤(k:Int)∧(k:Int)<(regs.length:Int))=true from yE (by omega));go_enter Tryz.func150,Tryz.ntmps150
  go_wp2_with fail
  go_ret;exact⟨rfl,HB.out⟩
 ·skip
  rw[show ji ⟨pr,pc,regs,st,tr⟩ r=0 from yF (by simp only;omega)];have hp:=zA (show decide (0≤r∧r<(regs.length:Int))=false from yD (by omega));go_enter Tryz.func150,Tryz.ntmps150
  go_wp2_with fail
  go_ret;exact⟨rfl,HB.out⟩
 ·skip
  rw[show ji ⟨pr,pc,regs,st,tr⟩ r=0 from yF (by simp only;omega)];have hp:=zA (show decide (0≤r∧r<(regs.length:Int))=false from yD (by omega));have hr3:decide (r<0)=false:=yD (by omega);go_enter Tryz.func150,Tryz.ntmps150
  go_wp2_with fail
  go_ret;exact⟨rfl,HB.out⟩
theorem DF{w:World}{hi:Nat}{x:bY}{vs:List Value}{r:Int}(h:aI.see w hi x vs)(cu:hi≤w.heap.size)(hn:bV x≤1048576)(hv:(Lit.int .i64 r).wf=true) :
  Calls Tryz.prog 150 #[.agg vs.toArray,.int .i64 r] w fun e w'=>e=.returned (.int .i64 (ji x r))∧yT w w':=LU h cu (zJ hn (by decide)) hv

theorem B_{w w':World}{g j:Nat}{u:Value}(h:w.cell? ⟨g,j,none⟩=some u)(hb:yT w w'):w'.cell? ⟨g,j,none⟩=some u:=by
 rw[←h];rcases Nat.lt_or_ge g w.heap.size with h1|h1
 ·exact World.cell?_of_block (hb.block _ h1)
 ·simp[World.cell?,Array.getElem?_eq_none h1] at h
section
variable {P:Program} {ops:Array Oper} {o:Oper} {a:Act} {w:World} {K:Act→World→Prop} {Q:Exit→Act→World→Prop} {E:Prop} {R:Ending→World→Prop}
end
def Xx(good:dY→Prop)(q:dY→Bool)(w:World)(f:Nat)(caps:Array Value):Prop :=
 Enters f∧∀(W:World),yT w W→∀(hi:Nat) (x:dY) (vs:List Value),bZ.see W hi x vs→hi≤W.heap.size→dS x≤1048576→good x →
  Calls Tryz.prog f (#[.agg vs.toArray]++caps) W fun e W'=>e=.returned (.bool (q x))∧yT W W'
theorem Xx.up{good:dY→Prop}{q:dY→Bool}{w w':World}{f:Nat}{caps:Array Value}(h:Xx good q w f caps)(hb:yT w w'):Xx good q w' f caps :=
 ⟨h.1,fun W hW=>h.2 W (hb.trans (hW.mono hb.size))⟩
def Vm(good:dY→Prop)(q:dY→Bool)(w:World)(v:Value):Prop:=∃(f:Nat) (caps:Array Value),v=.func (.func f) #[] caps∧Xx good q w f caps
theorem Vm.up{good:dY→Prop}{q:dY→Bool}{w w':World}{v:Value}(h:Vm good q w v)(hb:yT w w'):Vm good q w' v :=
 let ⟨f,caps,h1,h2⟩:=h;⟨f,caps,h1,h2.up hb⟩
section
variable {α:Type} {L:Lay α} {B:Nat} {W W':World} {x:α} {bx v v2:Value}
def oh(L:Lay α)(B:Nat)(W:World)(x:α)(bx v v2:Value):Prop:=∃u,v=.tuple #[u,v2]∧OwnAt L B W x bx u
theorem oh.up(h:oh L B W x bx v v2)(hb:yT W W'):oh L B W' x bx v v2:=let ⟨u,h1,h2⟩:=h;⟨u,h1,h2.up hb⟩
theorem oh.boxed(h:oh L B W x bx v v2)(hb:yT W W'):oh L B W' x (.pointer (some ⟨W.heap.size,0,none⟩)) v v2:=let ⟨u,h1,h2⟩:=h;⟨u,h1,h2.boxed hb⟩
theorem oh.BO{w0:World}{F:Nat→Prop}{vs:List Value}(hl:qC w0 bx)(hB:B≤w0.heap.size)(ho:L.own W F x vs)(hF:∀g,F g→w0.heap.size≤g∧g<W.heap.size):oh L B W x bx (.tuple #[.agg vs.toArray,v2]) v2 :=
 ⟨_,rfl,OwnAt.BO hl hB ho hF⟩
def Zj(L:Lay α)(w:World)(r:α)(v2:Value)(e:Ending)(w':World):Prop :=
 ∃(vs:List Value) (F:Nat→Prop),e=.returned (.tuple #[.agg vs.toArray,v2])∧L.own w' F r vs∧(∀g,F g→w.heap.size≤g∧g<w'.heap.size)∧yT w w'
end
theorem QU{x:aS}(h:dV x≤1048580):0≤mO x∧mO x≤5243000:=by
 have g1:=r7 (f:=jA) (s:=dJ) (a:=5) (b:=5) (fun g=>by unfold jA dJ;omega) x.dR;have g2:=r7 (f:=m5) (s:=g7) (a:=5) (b:=5) (fun g=>by unfold m5 g7;omega) x.dP;have p1:=jr qO x.dR;have p2:=jr uF x.dP;unfold dV at h;unfold mO;omega
end Go.Proofs.YtjcoapnggojpdaaGreatDoor
