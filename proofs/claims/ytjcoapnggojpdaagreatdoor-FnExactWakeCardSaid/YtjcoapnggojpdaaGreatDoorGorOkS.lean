/- Texts of the proof, laid compactly. -/
import Derived.Test.YtjcoapnggojpdaaGreatDoorGGorX
import Derived.Test.YtjcoapnggojpdaaGreatDoorGorFits
set_option maxHeartbeats 4000000
set_option maxRecDepth 100000
namespace Go.Proofs.YtjcoapnggojpdaaGreatDoor
set_option linter.unusedSimpArgs false
set_option linter.unusedVariables false
open Go.RowKit
theorem JM{w:World}{hi:Nat}{p:aS}{g:bY}{vs us:List Value}(hp:aV.see w hi p vs)(hg:aI.see w hi g us)(cu:hi≤w.heap.size)(nH:dV p≤1048576)(Gm:bV g≤1048576) :
  Calls Tryz.prog 95 #[.agg vs.toArray,.agg us.toArray] w fun e w'=>e=.returned (.bool (nJ (dn p g.ax) g))∧yT w w':=by
 have HI:=zA (fun (W:World) (hW:yT w W) (q:Int)=>Gj (q:=q) (aV.keep hp fun k hk=>hW.block k (by omega)) (zJ cu hW.size) nH);have HT:=zA (fun (W:World) (hW:yT w W)=>K9 (aI.keep hg fun k hk=>hW.block k (by omega)) (zJ cu hW.size) Gm);obtain⟨A0,n0,c0,B2,m2,d2,A3,n3,c3,rfl,-⟩:=fH hp;obtain⟨A2,n2,c2,A4,n4,c4,rfl,-,-,⟨hc2,jY,s2⟩,-,⟨hc4,hm4,-⟩⟩:=gK hg;obtain⟨pr,pc,regs,st,tr⟩:=g;have o8:n2≤1048576:=by have:=s2.1;unfold bV at Gm;simp at Gm this;omega
 simp only at s2 HT ⊢;have HL:=zA s2.1;clear hp hg nH Gm;have hB0:yT w ((w.alloc (.cells #[.slice A0 n0 c0,.int .i64 p.ay,.slice B2 m2 d2,.slice A3 n3 c3] 46)).alloc (.cells #[.int .i64 pr,.int .i64 pc,.slice A2 n2 c2,.int .i64 st,.slice A4 n4 c4] 69)):=((zD _ _).alloc (zC _) _).alloc (by simp) _;have lG:=af (ak w #[.slice A0 n0 c0,.int .i64 p.ay,.slice B2 m2 d2,.slice A3 n3 c3] 46) ((zD _ _).alloc (zC _) (.cells #[.int .i64 pr,.int .i64 pc,.slice A2 n2 c2,.int .i64 st,.slice A4 n4 c4] 69)) (by simp);have qW:=ak (w.alloc (.cells #[.slice A0 n0 c0,.int .i64 p.ay,.slice B2 m2 d2,.slice A3 n3 c3] 46)) #[.int .i64 pr,.int .i64 pc,.slice A2 n2 c2,.int .i64 st,.slice A4 n4 c4] 69;rw[zF] at qW;have hz0:w.heap.size+2≤((w.alloc (.cells #[.slice A0 n0 c0,.int .i64 p.ay,.slice B2 m2 d2,.slice A3 n3 c3] 46)).alloc (.cells #[.int .i64 pr,.int .i64 pc,.slice A2 n2 c2,.int .i64 st,.slice A4 n4 c4] 69)).heap.size:=(by simp);obtain⟨R,hR⟩:∃R,R=nJ (dn p pr) ⟨pr,pc,regs,st,tr⟩:=⟨_,rfl⟩
 rw[←hR];unfold nJ at hR;simp only at hR;have HR:=zA hR;clear hR;go_enter Tryz.func95,Tryz.ntmps95
 go_upto_region 1 with (fail)
 generalize ((w.alloc (.cells #[.slice A0 n0 c0,.int .i64 p.ay,.slice B2 m2 d2,.slice A3 n3 c3] 46)).alloc (.cells #[.int .i64 pr,.int .i64 pc,.slice A2 n2 c2,.int .i64 st,.slice A4 n4 c4] 69))=W0 at *;have y0:=ae (j:=0) lG rfl;have y1:=ae (j:=1) lG rfl;have y2:=ae (j:=2) lG rfl;have y3:=ae (j:=3) lG rfl;have g0:=ae (j:=0) qW rfl;have TA:=zA qW;have gW:=zA hB0;clear qW lG hB0;go_wp2_with fail
 refine (HI.out _ gW.out _).mono ?_;rintro e w1 ⟨rfl,hb1⟩;have hz1:=hb1.size;have p_:=af TA.out hb1 (by omega);have iC:=zA (gW.out.trans (hb1.mono (by have:=gW.out.size;omega)));clear hb1 y0 y1 y2 y3 g0 HI TA gW;generalize hN:dn p pr=N at *;clear hN;have g1:=ae (j:=1) p_ rfl;have g2:=ae (j:=2) p_ rfl;have g3:=ae (j:=3) p_ rfl;have Ap:=zA p_;clear p_;have hs2:=s2.below iC.out cu;clear s2;have Fa:=zA hs2;clear hs2;by_cases q1:pc<0
 ·go_wp2_with fail
  go_ret;exact⟨by rw[HR.out,show decide (0≤pc∧pc<N)=false from yD (by omega)];rfl,iC.out⟩
 have b1:decide (pc<0)=false:=yD q1;by_cases q2:pc≥N
 ·go_wp2_with fail
  go_ret;exact⟨by rw[HR.out,show decide (0≤pc∧pc<N)=false from yD (by omega)];rfl,iC.out⟩
 have b2:decide (pc≥N)=false:=yD q2;replace HR:=zA (HR.out.trans (by rw[show decide (0≤pc∧pc<N)=true from yE (by omega)]));clear q1 q2;by_cases q3:n2=6
 ·by_cases q4:st<1
  ·go_wp2_with fail
   go_ret;exact⟨by rw[HR.out,show decide (1≤st∧st≤4)=false from yD (by omega)];simp,iC.out⟩
  have b4:decide (st<1)=false:=yD q4;by_cases q5:st > 4
  ·go_wp2_with fail
   go_ret;exact⟨by rw[HR.out,show decide (1≤st∧st≤4)=false from yD (by omega)];simp,iC.out⟩
  have b5:decide (st > 4)=false:=yD q5;have rZ:=zA (show R=(regs.all okV&&wI tr st) by rw[HR.out,HL.out,q3,show decide (1≤st∧st≤4)=true from yE (by omega)];simp);clear q4 q5 HR;have adO:((n2:Nat):Int)=6:=(by omega);have b6:((n2:Int) != 6)=false:=(by simp[adO]);clear adO q3;go_wp2_with fail
  clear g1 g2 g3;go_loopw[40] (fun i wr=>∃k:Nat,k≤n2∧i=.int .i64 k∧RowKit.Hid ((regs.take k).all okV=true)∧wr=w1) (fun i _=>n2-(intOf i).toNat)
  case atStart=>exact⟨0,zL _,rfl,zA (by simp),rfl⟩
  case round =>
   obtain⟨k,hk,rfl,hm,rfl⟩:=hrel;by_cases hlt:k<n2
   ·obtain⟨hx,g,o,vs,rfl,hg,⟨rfl,hw⟩,hcell⟩:=Fa.out.at_ hlt;have HD:=zA (zG hx);generalize regs[k]=d at *;have dK:=hcell 0 _ rfl;simp only[show Lay.int.size=1 from rfl,←zH,zI,zK] at dK;clear hcell hw;have hgw:g<wr.heap.size:=(by omega);go_wp2_with fail
    refine (Dt d _).mono ?_;rintro e w5 ⟨rfl,rfl⟩;cases hq:okV d
    ·have HF:=zA (show R=false by rw[rZ.out,show regs.all okV=false from List.all_eq_false.2 ⟨d,List.mem_of_getElem? HD.out,by simp[hq]⟩];rfl);go_wp2_with fail
     go_ret;exact⟨by rw[HF.out];rfl,iC.out⟩
    ·have HN:=zA (show (regs.take (k+1)).all okV=true by rw[List.take_add_one,HD.out];simp only[Option.toList_some,List.all_append,hm.out,List.all_cons,List.all_nil,hq];rfl);go_wp2_with fail
     go_roundw
     case rel=>exact⟨k+1,by omega,by go_num,HN,trivial⟩
     case measure=>simp[intOf];omega
   ·obtain rfl:k=n2:=(by omega);have HF:=zA (show R=wI tr st by rw[rZ.out,show regs.all okV=true by (have:=hm.out;rwa [zU (by rw[HL.out];exact zC _)] at this)];rfl);have x0:=ae (j:=0) Ap.out rfl;have x1:=ae (j:=1) Ap.out rfl;have x2:=ae (j:=2) Ap.out rfl;have x3:=ae (j:=3) Ap.out rfl;have x4:=ae (j:=4) Ap.out rfl;go_wp2_with fail
    refine (HT.out _ iC.out).mono ?_;rintro e w6 ⟨rfl,qB⟩;have EL:=zA (iC.out.trans (qB.mono iC.out.size));clear qB x0 x1 x2 x3 x4;go_wp2_with fail
    go_ret;exact⟨by rw[HF.out];rfl,EL.out⟩
 ·have b3:((n2:Int) != 6)=true:=by simp;omega
  have HF:=zA (show R=false by rw[HR.out,show decide (regs.length=6)=false from yD (by rw[HL.out];exact q3)];simp);clear HR;go_wp2_with fail
  go_ret;exact⟨by rw[HF.out];rfl,iC.out⟩
theorem I0{w:World}{hi:Nat}{p:aS}{g:bY}{vs us:List Value}(hp:aV.see w hi p vs)(hg:aI.see w hi g us)(cu:hi≤w.heap.size)(nH:dV p≤1048576)(Gm:bV g≤1048576) :
  Calls Tryz.prog 100 #[.agg vs.toArray,.agg us.toArray] w fun e w'=>e=.returned (.bool (dH p&&nJ (dn p g.ax) g))∧yT w w':=by
 have HI:=zA (fun (W:World) (hW:yT w W)=>xZ (aV.keep hp fun k hk=>hW.block k (by omega)) (zJ cu hW.size) nH);have HT:=zA (fun (W:World) (hW:yT w W)=>JM (aV.keep hp fun k hk=>hW.block k (by omega)) (aI.keep hg fun k hk=>hW.block k (by omega)) (zJ cu hW.size) nH Gm);obtain⟨A0,n0,c0,B2,m2,d2,A3,n3,c3,rfl,-⟩:=fH hp;obtain⟨A2,n2,c2,A4,n4,c4,rfl,-,-,-,-,-⟩:=gK hg;obtain⟨pr,pc,regs,st,tr⟩:=g;simp only at HT ⊢;clear hp hg nH Gm;have hB0:yT w ((w.alloc (.cells #[.slice A0 n0 c0,.int .i64 p.ay,.slice B2 m2 d2,.slice A3 n3 c3] 46)).alloc (.cells #[.int .i64 pr,.int .i64 pc,.slice A2 n2 c2,.int .i64 st,.slice A4 n4 c4] 69)):=((zD _ _).alloc (zC _) _).alloc (by simp) _;have lG:=af (ak w #[.slice A0 n0 c0,.int .i64 p.ay,.slice B2 m2 d2,.slice A3 n3 c3] 46) ((zD _ _).alloc (zC _) (.cells #[.int .i64 pr,.int .i64 pc,.slice A2 n2 c2,.int .i64 st,.slice A4 n4 c4] 69)) (by simp);have qW:=ak (w.alloc (.cells #[.slice A0 n0 c0,.int .i64 p.ay,.slice B2 m2 d2,.slice A3 n3 c3] 46)) #[.int .i64 pr,.int .i64 pc,.slice A2 n2 c2,.int .i64 st,.slice A4 n4 c4] 69;rw[zF] at qW;have hz0:w.heap.size+2≤((w.alloc (.cells #[.slice A0 n0 c0,.int .i64 p.ay,.slice B2 m2 d2,.slice A3 n3 c3] 46)).alloc (.cells #[.int .i64 pr,.int .i64 pc,.slice A2 n2 c2,.int .i64 st,.slice A4 n4 c4] 69)).heap.size:=(by simp);generalize nJ (dn p pr) ⟨pr,pc,regs,st,tr⟩=b2 at *;generalize dH p=b1 at *;go_enter Tryz.func100,Tryz.ntmps100
 go_upto_region 1 with (fail)
 generalize ((w.alloc (.cells #[.slice A0 n0 c0,.int .i64 p.ay,.slice B2 m2 d2,.slice A3 n3 c3] 46)).alloc (.cells #[.int .i64 pr,.int .i64 pc,.slice A2 n2 c2,.int .i64 st,.slice A4 n4 c4] 69))=W0 at *;have x8:=zA lG;have TA:=zA qW;have gW:=zA hB0;have y0:=ae (j:=0) lG rfl;have y1:=ae (j:=1) lG rfl;have y2:=ae (j:=2) lG rfl;have y3:=ae (j:=3) lG rfl;clear qW lG hB0;go_wp2_with fail
 refine (HI.out _ gW.out).mono ?_;rintro e w1 ⟨rfl,hb1⟩;have hz1:=hb1.size;have vS:=af x8.out hb1 (by omega);have p_:=af TA.out hb1 (by omega);have iC:=zA (gW.out.trans (hb1.mono (by have:=gW.out.size;omega)));clear hb1 y0 y1 y2 y3;have y0:=ae (j:=0) vS rfl;have y1:=ae (j:=1) vS rfl;have y2:=ae (j:=2) vS rfl;have y3:=ae (j:=3) vS rfl;have x0:=ae (j:=0) p_ rfl;have x1:=ae (j:=1) p_ rfl;have x2:=ae (j:=2) p_ rfl;have x3:=ae (j:=3) p_ rfl;have x4:=ae (j:=4) p_ rfl;clear vS p_;cases b1
 ·go_wp2_with fail
  go_ret;exact⟨rfl,iC.out⟩
 ·go_wp2_with fail
  refine (HT.out _ iC.out).mono ?_;rintro e w6 ⟨rfl,qB⟩;have EL:=zA (iC.out.trans (qB.mono iC.out.size));clear qB x0 x1 x2 x3 x4 y0 y1 y2 y3;go_wp2_with fail
  go_ret;exact⟨rfl,EL.out⟩
structure b7 where
 nS:Bool
 iq:Int
 gI:Bool
 fG:Int
 bK:Int
 bU:Int
deriving DecidableEq
def lU:Lay b7:=Lay.flat 6 (fun x=>[.bool x.nS,.int .i64 x.iq,.bool x.gI,.int .i64 x.fG,.int .i64 x.bK,.int .i64 x.bU]) (fun x=>(Lit.int .i64 x.iq).wf=true∧(Lit.int .i64 x.fG).wf=true∧(Lit.int .i64 x.bK).wf=true∧(Lit.int .i64 x.bU).wf=true) (fun _=>rfl)
def jb(p:aS)(g:bY):iG:=(((p.dP[g.ax.toNat]?).getD ⟨[]⟩).jT[g.dE.toNat]?).getD ⟨0,0,0,0⟩
def l8(p:aS)(i:iG):eG:=(p.dR[i.fA.toNat]?).getD ⟨[],0⟩
def IE(p:aS)(g:bY):Bool:=decide ((jb p g).m7=8)||(decide ((jb p g).m7=9)||(decide ((jb p g).m7=12)||(decide ((jb p g).m7=11)&&decide ((l8 p (jb p g)).fV<0))))
def iL(g:bY)(n k:Int)(c:ja):List b7:=if c.gU<0 then [] else [⟨false,c.gU,c.gI,n,k,if c.gI then ji g c.mg else 0⟩]
def jy(g:bY)(n:Int)(cs:List ja)(k:Nat):List b7:=(List.range k).flatMap fun (j:Nat)=>match cs[j]? with|some c=>iL g n j c|none=>[]
def jR(p:aS)(g:bY)(n:Int):List b7 :=
 if (jb p g).m7=8 then (if (jb p g).fA<0 then [] else [⟨false,(jb p g).fA,true,n,-1,ji g (jb p g).fB⟩])
 else if (jb p g).m7=9 then (if (jb p g).fA<0 then [] else [⟨false,(jb p g).fA,false,n,-1,0⟩])
 else if (jb p g).m7=11 then jy g n (l8 p (jb p g)).dw (l8 p (jb p g)).dw.length
 else if (jb p g).m7=12 then [⟨true,(jb p g).fA,false,n,-1,0⟩]
 else []
def toldOf(p:aS)(g:bY)(n:Int):List b7:=if g.ai=2 then jR p g n else []
def sH(p:aS)(g:bY):Bool:=dH p&&nJ (dn p g.ax) g
def mi(p:aS)(g:bY)(n:Int):List b7:=if sH p g=true∧0≤n then toldOf p g n else []
def nX(p:aS)(gs:List bY)(k:Nat):List b7:=(List.range k).flatMap fun (j:Nat)=>match gs[j]? with|some g=>toldOf p g j|none=>[]
def um(o:Int)(s:Bool)(w:di):b7:=⟨false,o,s,w.fG,w.bK,w.bU⟩
def IG(o g:Int):b7:=⟨true,o,false,g,-1,0⟩
def wH(k:Int)(c:gy):List b7:=c.dh.map (um k true)++c.dG.map (um k false)
def k7(cs:List gy)(k:Nat):List b7:=(List.range k).flatMap fun (j:Nat)=>match cs[j]? with|some c=>wH j c|none=>[]
def oW(ms:List eQ)(k:Nat):List b7:=(List.range k).flatMap fun (j:Nat)=>match ms[j]? with|some m=>m.iW.map (IG j)|none=>[]
def qm(e:dY):List b7:=k7 e.aA e.aA.length++oW e.ay e.ay.length
def Cb(p:aS)(e:dY):List b7:=nX p e.bJ e.bJ.length
def wF(p:aS)(g:bY):Bool:=nJ (dn p g.ax) g&&(!decide (g.ai=2)||IE p g)
def nD(p:aS)(gs:List bY):Bool:=decide (1≤gs.length∧gs.length≤10)&&gs.all (wF p)
def wZ(p:aS)(cs:List gy)(j:Nat):Bool:=match cs[j]?,p.iD[j]? with|some c,some v=>uu c&&decide (c.dC=v)|_,_=>false
def nU(p:aS)(cs:List gy):Bool:=decide (cs.length=p.iD.length)&&(List.range cs.length).all (wZ p cs)
def CW(n:Nat)(m:eQ):Bool:=Bg m&&decide (m.dm<(n:Int))
def xX(p:aS)(n:Nat)(ms:List eQ):Bool:=decide ((ms.length:Int)=p.ay)&&ms.all (CW n)
def sV(p:aS)(e:dY):Bool:=dH p&&(nD p e.bJ&&(nU p e.aA&&(xX p e.bJ.length e.ay&&decide ((Cb p e).Perm (qm e)))))
theorem vF{α:Type}(f:Nat→List α)(k:Nat):(List.range (k+1)).flatMap f=(List.range k).flatMap f++f k:=by
 rw[List.range_succ,List.flatMap_append];simp
theorem Tq(a b:List b7):(a.all (fun x=>a.count x==b.count x)&&(a.length==b.length))=decide (a.Perm b):=by
 by_cases hp:a.Perm b
 ·rw[yE hp];simp only[zT,zY,beq_iff_eq];exact⟨fun x _=>List.Perm.count_eq hp x,hp.length_eq⟩
 ·rw[yD hp,Bool.eq_false_iff];intro h;simp only[zT,zY,beq_iff_eq] at h;obtain⟨h1,h2⟩:=h;apply hp
  have hq:a.Perm (b.filter fun x=>decide (x∈a)):=by
   rw[List.perm_iff_count];intro x;by_cases hx:x∈a
   ·rw[h1 x hx,List.count_filter (by simpa using hx)]
   ·rw[List.count_eq_zero.2 hx,eq_comm,List.count_eq_zero];intro hm;exact hx (by simpa using (List.mem_filter.1 hm).2)
  have hl:(b.filter fun x=>decide (x∈a)).length=b.length:=by rw[←hq.length_eq,h2]
  have hall:=List.length_filter_eq_length_iff.1 hl;rw[List.filter_eq_self.2 hall] at hq;exact hq
theorem JE(a b:List b7):a.Perm b↔∀x,(a.count x:Int)-(b.count x:Int)=0:=by
 rw[List.perm_iff_count];exact⟨fun h x=>by rw[h x];omega,fun h x=>by have:=h x;omega⟩
theorem kV(w:World)(xs:List Value)(t:TypeId):Seen (w.alloc (.cells xs.toArray t)) (w.heap.size+1) xs.length (some ⟨w.heap.size,0,none⟩) 1 xs:=by
 refine⟨by simp,.inr ⟨w.heap.size,0,rfl,by omega,fun j u hu => ?_⟩⟩;rw[yH];exact ae (ak w xs.toArray t) (by simpa using hu)
theorem Own.jE{w w':World}{lo hi size n c:Nat}{e:TypeId}{A:Option Addr}{xs:List Value}{G:Nat→Prop}(h:Own w lo hi e size A n c xs)(ht:au G w w')(hG:∀g,lo≤g→g<hi→¬G g):Own w' lo hi e size A n c xs :=
 h.keep fun k h1 h2 h3=>ht.block k h3 (hG k h1 h2)
theorem Own.setCell{w:World}{lo hi size n c g o:Nat}{e:TypeId}{A:Option Addr}{xs:List Value}(h:Own w lo hi e size A n c xs)(hg:g<lo∨hi≤g)(u:Value):Own (w.setCell ⟨g,o,none⟩ u) lo hi e size A n c xs :=
 h.keep fun k h1 h2 h3=>zN w ⟨g,o,none⟩ u k (by show k≠g;omega)
theorem JF:(Tryz.prog.info? 135).map (fun i=>(i.zero,i.size,i.bytes))=some (some (.agg #[.int .i64 0,.slice none 0 0,.slice none 0 0,.slice none 0 0,.bool false]),5,88):=by kernel_rfl
theorem FU:(Tryz.prog.info? 137).map (fun i=>(i.zero,i.size,i.bytes))=some (some (.agg #[.int .i64 0,.slice none 0 0]),2,32):=by kernel_rfl
section
variable {P:Program} {ops:Array Oper} {o:Oper} {a:Act} {w:World} {K:Act→World→Prop} {Q:Exit→Act→World→Prop} {E:Prop} {R:Ending→World→Prop}
end
def Cc(lo:Nat)(W:World)(xs:List Value)(v:Value):Prop:=∃b,v=.slice (some ⟨b,0,none⟩) 1 1∧lo≤b∧b<W.heap.size∧Seen W (b+1) xs.length (some ⟨b,0,none⟩) 1 xs
theorem Cc.new{lo:Nat}{W:World}{xs:List Value}{t:TypeId}(h:lo≤W.heap.size):Cc lo (W.alloc (.cells xs.toArray t)) xs (.slice (some ⟨W.heap.size,0,none⟩) 1 1):=⟨_,rfl,h,by simp,kV W xs t⟩
theorem Cc.up{lo:Nat}{W W':World}{xs:List Value}{v:Value}(h:Cc lo W xs v)(hb:yT W W'):Cc lo W' xs v:=by
 obtain⟨b,h1,h2,h3,h4⟩:=h;exact⟨b,h1,h2,zV h3 hb.size,h4.below hb (by omega)⟩
theorem Am{p:aS}(h:dH p=true):p.iD.length≤6∧0≤p.ay∧p.ay≤4∧p.dR.length≤6∧1≤p.dP.length∧p.dP.length≤6:=by
 unfold dH at h;rw[zT] at h;exact of_decide_eq_true h.1


theorem jm{B b:Nat}{w w':World}{u0 u1 u2:Value}(h:Below B w w')(hb:B≤b):Below B w (((w'.setCell ⟨b,0,none⟩ u0).setCell ⟨b,1,none⟩ u1).setCell ⟨b,2,none⟩ u2) :=
 aj (p:=⟨b,2,none⟩) (aj (p:=⟨b,1,none⟩) (aj (p:=⟨b,0,none⟩) h hb _) hb _) hb _
theorem Bj{B b:Nat}{w w':World}{u0 u1 u2 u3:Value}(h:Below B w w')(hb:B≤b):Below B w ((((w'.setCell ⟨b,0,none⟩ u0).setCell ⟨b,1,none⟩ u1).setCell ⟨b,2,none⟩ u2).setCell ⟨b,3,none⟩ u3) :=
 aj (p:=⟨b,3,none⟩) (jm h hb) hb _
theorem K7{p:aS}{g:bY}(h:0≤g.dE∧g.dE<dn p g.ax) :
  ∃(q c:Nat) (hq:q<p.dP.length) (hc:c<p.dP[q].jT.length),g.ax=q∧g.dE=c∧jb p g=p.dP[q].jT[c]:=by
 obtain⟨h1,h2⟩:=h;unfold dn at h2;split at h2
 ·rename_i h3
  obtain⟨q,hq⟩:=yO h3.1;obtain⟨c,hc⟩:=yO h1;rw[hq] at h2 h3;have h4:q<p.dP.length:=(by omega);rw[yA,zG h4] at h2;simp only at h2;have h5:c<p.dP[q].jT.length:=(by omega);refine⟨q,c,h4,h5,hq,hc,?_⟩;unfold jb;rw[hq,hc,yA,yA,zG h4,Option.getD_some,zG h5,Option.getD_some]
 ·omega
theorem Bl{w:World}{hi:Nat}{p:aS}{g:bY}{vs us:List Value}(hp:aV.see w hi p vs)(hg:aI.see w hi g us)(cu:hi≤w.heap.size)(nH:dV p≤1048576)(hat:0≤g.dE∧g.dE<dn p g.ax) :
  Calls Tryz.prog 86 #[.agg vs.toArray,.agg us.toArray] w fun e w'=>e=.returned (.agg #[.int .i64 (jb p g).m7,.int .i64 (jb p g).fA,.int .i64 (jb p g).fB,.int .i64 (jb p g).fC])∧yT w w':=by
 obtain⟨q,c,hq,hc,e1,e2,e3⟩:=K7 hat;rw[e3];obtain⟨A0,n0,c0,B2,m2,d2,A3,n3,c3,rfl,-,-,-,⟨hc3,Be,s3⟩⟩:=fH hp;obtain⟨A2,n2,c2,A4,n4,c4,rfl,-⟩:=gK hg;obtain⟨pr,pc,regs,st,tr⟩:=g;simp only at e1 e2;subst e1 e2;have hqn:q<n3:=by have:=s3.1;omega
 have wG:n3≤1048576:=by have:=s3.1;unfold dV at nH;omega
 have hcl:p.dP[q].jT.length≤1048576:=by have h1:=dI g7 (zS hq);unfold dV at nH;unfold g7 at h1 nH;omega
 have hb0:yT w (((w.alloc (.cells #[.slice A0 n0 c0,.int .i64 p.ay,.slice B2 m2 d2,.slice A3 n3 c3] 46)).alloc (.cells #[.int .i64 (q:Int),.int .i64 (c:Int),.slice A2 n2 c2,.int .i64 st,.slice A4 n4 c4] 69)).alloc (.cells #[.int .i64 0,.int .i64 0,.int .i64 0,.int .i64 0] 76)):=(((zD _ _).alloc (zC _) _).alloc (by simp) _).alloc (by simp;omega) _;obtain⟨hx,gP,oP,ws,rfl,hgP,aW,hcell⟩:=(s3.below hb0 cu).at_ hqn;obtain⟨AC,nC,cC,rfl,hcC,hmC,sC⟩:=mr aW;have dK:=hcell 0 _ rfl;have hcn:c<nC:=by have:=sC.1;omega
 obtain⟨hy,gC,oC,us,rfl,hgC,⟨rfl,-⟩,hcell2⟩:=sC.at_ hcn;have xw:=hcell2 0 _ rfl;have zh:=hcell2 1 _ rfl;have CS:=hcell2 2 _ rfl;have H_:=hcell2 3 _ rfl;simp only[show eU.size=1 from rfl,show dX.size=4 from rfl,←zH,zI,zK] at dK xw zh CS H_;have Qk:=zA hb0;generalize p.dP[q].jT[c]=ins at *;clear hcell hcell2 aW s3 sC hb0 hat hp hg e3;have jJ:(0:Int)≤(q:Int):=(by omega);have u_:(q:Int)<(n3:Int):=(by omega);have hi2:(0:Int)≤(c:Int):=(by omega);have hi3:(c:Int)<(nC:Int):=(by omega);have kT:=ak ((w.alloc (.cells #[.slice A0 n0 c0,.int .i64 p.ay,.slice B2 m2 d2,.slice (some ⟨gP,oP,none⟩) n3 c3] 46)).alloc (.cells #[.int .i64 (q:Int),.int .i64 (c:Int),.slice A2 n2 c2,.int .i64 st,.slice A4 n4 c4] 69)) #[.int .i64 0,.int .i64 0,.int .i64 0,.int .i64 0] 76;simp only[zF] at kT;have HR:=zA kT;clear kT;go_enter Tryz.func86,Tryz.ntmps86
 go_wp2_with fail
 go_region
 all_goals
  have bT:=(az (j:=3) (u := .int .i64 ins.fC) (az (j:=2) (u := .int .i64 ins.fB) (az (j:=1) (u := .int .i64 ins.fA) (az (j:=0) (u := .int .i64 ins.m7) HR.out))))
  have y0:=ae (j:=0) bT rfl;have y1:=ae (j:=1) bT rfl;have y2:=ae (j:=2) bT rfl;have y3:=ae (j:=3) bT rfl;clear dK xw zh CS H_;go_wp2_with fail
  refine bodyPost_ret (v := .agg #[.int .i64 ins.m7,.int .i64 ins.fA,.int .i64 ins.fB,.int .i64 ins.fC]) (by simp[results,Tryz.results86,go_sem,y0,y1,y2,y3]) rfl ?_;exact⟨rfl,by go_grown⟩
theorem AU{w:World}{hi:Nat}{p:aS}{g:bY}{vs us:List Value}(hp:aV.see w hi p vs)(hg:aI.see w hi g us)(cu:hi≤w.heap.size)(nH:dV p≤1048576)(hat:0≤g.dE∧g.dE<dn p g.ax) :
  Calls Tryz.prog 72 #[.agg vs.toArray,.agg us.toArray] w fun e w'=>e=.returned (.agg #[.int .i64 (jb p g).m7,.int .i64 (jb p g).fA,.int .i64 (jb p g).fB,.int .i64 (jb p g).fC])∧yT w w':=by
 obtain⟨q,c,hq,hc,e1,e2,e3⟩:=K7 hat;rw[e3];obtain⟨A0,n0,c0,B2,m2,d2,A3,n3,c3,rfl,-,-,-,⟨hc3,Be,s3⟩⟩:=fH hp;obtain⟨A2,n2,c2,A4,n4,c4,rfl,-⟩:=gK hg;obtain⟨pr,pc,regs,st,tr⟩:=g;simp only at e1 e2;subst e1 e2;have hqn:q<n3:=by have:=s3.1;omega
 have wG:n3≤1048576:=by have:=s3.1;unfold dV at nH;omega
 have hcl:p.dP[q].jT.length≤1048576:=by have h1:=dI g7 (zS hq);unfold dV at nH;unfold g7 at h1 nH;omega
 have hb0:yT w (((w.alloc (.cells #[.slice A0 n0 c0,.int .i64 p.ay,.slice B2 m2 d2,.slice A3 n3 c3] 46)).alloc (.cells #[.int .i64 (q:Int),.int .i64 (c:Int),.slice A2 n2 c2,.int .i64 st,.slice A4 n4 c4] 69)).alloc (.cells #[.int .i64 0,.int .i64 0,.int .i64 0,.int .i64 0] 76)):=(((zD _ _).alloc (zC _) _).alloc (by simp) _).alloc (by simp;omega) _;obtain⟨hx,gP,oP,ws,rfl,hgP,aW,hcell⟩:=(s3.below hb0 cu).at_ hqn;obtain⟨AC,nC,cC,rfl,hcC,hmC,sC⟩:=mr aW;have dK:=hcell 0 _ rfl;have hcn:c<nC:=by have:=sC.1;omega
 obtain⟨hy,gC,oC,us,rfl,hgC,⟨rfl,-⟩,hcell2⟩:=sC.at_ hcn;have xw:=hcell2 0 _ rfl;have zh:=hcell2 1 _ rfl;have CS:=hcell2 2 _ rfl;have H_:=hcell2 3 _ rfl;simp only[show eU.size=1 from rfl,show dX.size=4 from rfl,←zH,zI,zK] at dK xw zh CS H_;have Qk:=zA hb0;generalize p.dP[q].jT[c]=ins at *;clear hcell hcell2 aW s3 sC hb0 hat hp hg e3;have jJ:(0:Int)≤(q:Int):=(by omega);have u_:(q:Int)<(n3:Int):=(by omega);have hi2:(0:Int)≤(c:Int):=(by omega);have hi3:(c:Int)<(nC:Int):=(by omega);have kT:=ak ((w.alloc (.cells #[.slice A0 n0 c0,.int .i64 p.ay,.slice B2 m2 d2,.slice (some ⟨gP,oP,none⟩) n3 c3] 46)).alloc (.cells #[.int .i64 (q:Int),.int .i64 (c:Int),.slice A2 n2 c2,.int .i64 st,.slice A4 n4 c4] 69)) #[.int .i64 0,.int .i64 0,.int .i64 0,.int .i64 0] 76;simp only[zF] at kT;have HR:=zA kT;clear kT;go_enter Tryz.func72,Tryz.ntmps72
 go_wp2_with fail
 go_region
 all_goals
  have bT:=(az (j:=3) (u := .int .i64 ins.fC) (az (j:=2) (u := .int .i64 ins.fB) (az (j:=1) (u := .int .i64 ins.fA) (az (j:=0) (u := .int .i64 ins.m7) HR.out))))
  have y0:=ae (j:=0) bT rfl;have y1:=ae (j:=1) bT rfl;have y2:=ae (j:=2) bT rfl;have y3:=ae (j:=3) bT rfl;clear dK xw zh CS H_;go_wp2_with fail
  refine bodyPost_ret (v := .agg #[.int .i64 ins.m7,.int .i64 ins.fA,.int .i64 ins.fB,.int .i64 ins.fC]) (by simp[results,Tryz.results72,go_sem,y0,y1,y2,y3]) rfl ?_;exact⟨rfl,by go_grown⟩
theorem XG{p:aS}{g:bY}(hp:dH p=true)(hat:0≤g.dE∧g.dE<dn p g.ax):∃n:Int,nV p n (jb p g)=true:=by
 obtain⟨q,c,hq,hc,e1,e2,e3⟩:=K7 hat;unfold dH at hp;simp only[zT,zY] at hp;have h1:=hp.2.2.2 _ (zS hq);unfold oN at h1;simp only[zT,zY] at h1;exact⟨_,e3 ▸ h1.2.1 _ (zS hc)⟩
theorem Vr{p:aS}(hp:dH p=true){s:eG}(hs:s∈p.dR) : -1≤s.fV:=by
 unfold dH at hp;simp only[zT,zY] at hp;have h1:=hp.2.2.1 _ hs;unfold jw at h1;simp only[zT] at h1;have h2:=h1.2.2;unfold iY inB at h2;simp only[zT] at h2;exact (of_decide_eq_true h2.2).1
theorem ql{p:aS}{g:bY}(hp:dH p=true)(hat:0≤g.dE∧g.dE<dn p g.ax) :
  ((jb p g).m7=8→(-1≤(jb p g).fA∧(jb p g).fA<p.iD.length)∧0≤(jb p g).fB∧(jb p g).fB≤5) ∧
  ((jb p g).m7=9→(-1≤(jb p g).fA∧(jb p g).fA<p.iD.length)∧0≤(jb p g).fB∧(jb p g).fB≤5) ∧
  ((jb p g).m7=11→(0≤(jb p g).fA∧(jb p g).fA<p.dR.length) ∧ -1≤(l8 p (jb p g)).fV∧l8 p (jb p g)∈p.dR) ∧
  ((jb p g).m7=12→0≤(jb p g).fA∧(jb p g).fA<p.ay):=by
 obtain⟨n,hn⟩:=XG hp hat;generalize jb p g=i at *;unfold nV at hn;rw[zT] at hn;have h1:=hn.1;unfold zl fP at h1;refine⟨fun h => ?_,fun h => ?_,fun h => ?_,fun h => ?_⟩
 ·rw[h] at h1;simp[inB,jC] at h1;omega
 ·rw[h] at h1;simp[inB,jC] at h1;omega
 ·rw[h] at h1;simp[inB,jC] at h1;have h2:0≤i.fA∧i.fA<p.dR.length:=(by omega);have h3:i.fA.toNat<p.dR.length:=(by omega);have h4:l8 p i=p.dR[i.fA.toNat]:=by unfold l8;rw[zG h3,Option.getD_some]
  exact⟨h2,by rw[h4];exact Vr hp (zS h3),by rw[h4];exact zS h3⟩
 ·rw[h] at h1;simp[inB,jC] at h1;omega
theorem Tn{w:World}{hi:Nat}{p:aS}{vs:List Value}(hp:aV.see w hi p vs)(cu:hi≤w.heap.size)(nH:dV p≤1048576){op a b c:Int}(aay:op=11→0≤a∧a<p.dR.length) :
  Calls Tryz.prog 198 #[.agg vs.toArray,.agg #[.int .i64 op,.int .i64 a,.int .i64 b,.int .i64 c]] w fun e w'=>e=.returned (.bool (decide (op=8)||(decide (op=9)||(decide (op=12)||(decide (op=11)&&decide ((l8 p ⟨op,a,b,c⟩).fV = -1))))))∧yT w w':=by
 obtain⟨A0,n0,c0,A2,n2,c2,A3,n3,c3,rfl,-,-,⟨hc2,jY,s2⟩,-⟩:=fH hp;have hb0:yT w ((w.alloc (.cells #[.slice A0 n0 c0,.int .i64 p.ay,.slice A2 n2 c2,.slice A3 n3 c3] 46)).alloc (.cells #[.int .i64 op,.int .i64 a,.int .i64 b,.int .i64 c] 76)):=((zD _ _).alloc (zC _) _).alloc (by simp) _;by_cases h8:op=8
 ·subst h8;clear hp s2;go_enter Tryz.func198,Tryz.ntmps198
  go_wp2_with fail
  go_ret;exact⟨rfl,hb0⟩
 by_cases h9:op=9
 ·subst h9;clear hp s2;go_enter Tryz.func198,Tryz.ntmps198
  go_wp2_with fail
  go_ret;exact⟨rfl,hb0⟩
 by_cases Bf:op=12
 ·subst Bf;clear hp s2;go_enter Tryz.func198,Tryz.ntmps198
  go_wp2_with fail
  go_ret;exact⟨rfl,hb0⟩
 by_cases h11:op=11
 ·subst h11;obtain⟨ha,hb⟩:=aay rfl;obtain⟨q,rfl⟩:=yO ha;have hq:q<n2:=by have:=s2.1;omega
  have o8:n2≤1048576:=by have:=s2.1;unfold dV at nH;omega
  obtain⟨hx,g,o,ws,rfl,hg,aW,hcell⟩:=(s2.below hb0 cu).at_ hq;have sW:l8 p ⟨11,q,b,c⟩=p.dR[q]:=by unfold l8;simp only[yA];rw[zG hx,Option.getD_some]
  rw[sW];clear sW;generalize p.dR[q]=s at *;obtain⟨B0,m0,d0,rfl,-⟩:=g_ aW;have eu:=hcell 1 _ rfl;simp only[show bM.size=2 from rfl,←zH] at eu;have u_:(q:Int)<(n2:Int):=(by omega);have HB:=zA hb0;clear hcell aW hp s2 aay hb0 hb;go_enter Tryz.func198,Tryz.ntmps198
  go_wp2_with fail
  go_ret;exact⟨by simp;rfl,HB.out⟩
 ·have q8:(op==8)=false:=(by simp[h8]);have q9:(op==9)=false:=(by simp[h9]);have WE:(op==12)=false:=(by simp[Bf]);have q11:(op==11)=false:=(by simp[h11]);have HR:=zA (show (decide (op=8)||(decide (op=9)||(decide (op=12)||(decide (op=11)&&decide ((l8 p ⟨op,a,b,c⟩).fV = -1)))))=false by rw[yD h8,yD h9,yD Bf,yD h11];rfl);clear hp s2 aay h8 h9 Bf h11;go_enter Tryz.func198,Tryz.ntmps198
  go_wp2_with fail
  go_ret;exact⟨by rw[HR.out];rfl,hb0⟩
end Go.Proofs.YtjcoapnggojpdaaGreatDoor
