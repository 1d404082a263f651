/- Texts of the proof, laid compactly. -/
import Derived.Test.YtjcoapnggojpdaaGreatDoorPlaceS
import Derived.Test.YtjcoapnggojpdaaGreatDoorGEngI
import Derived.Test.YtjcoapnggojpdaaGreatDoorFlowR
set_option maxHeartbeats 16000000
set_option maxRecDepth 100000
namespace Go.Proofs.YtjcoapnggojpdaaGreatDoor
set_option linter.unusedSimpArgs false
set_option linter.unusedVariables false
open Go.RowKit
theorem uT{α β:Type}{l:List α}{j:Nat}{y:α}(f:α→β)(h:l[j]? =some y):(l.take (j+1)).map f=(l.take j).map f++[f y]:=by
 rw[List.take_add_one,h,Option.toList_some,List.map_append];rfl
theorem yV{α β:Type}(l:List α)(f:α→β)(j:Nat):((l.take j).map f).length≤l.length:=by
 rw[yL,List.length_take];omega
theorem wR{α β:Type}{l:List α}{j:Nat}(f:α→β)(h:l.length=j):(l.take j).map f=l.map f:=by
 rw[zU (by omega)]
theorem own_ne{w:World}{lo hi size n c:Nat}{e:TypeId}{A:Option Addr}{xs:List Value}(h:Own w lo hi e size A n c xs):jk A≠some hi:=by
 cases A with
 |none=>simp[jk]
 |some a =>
  have hlt:=h.2 a rfl;intro h2;have h3:some a.block=some hi:=h2;injection h3 with h3
  omega
theorem LW{A B:Option Addr}{b s:Nat}(h:jk A≠some b)(h2:jk B=jk A∨jk B=some s)(hs:b<s):jk B≠some b:=by
 rcases h2 with h2|h2
 ·rw[h2];exact h
 ·rw[h2];intro h3;injection h3 with h3
  omega
theorem OH{w:World}{hi:Nat}{x:dY}{us:List Value}(he:bZ.see w hi x us)(cu:hi≤w.heap.size)(hne:dS x≤1048576) :
  Calls Tryz.prog 99 #[.agg us.toArray] w (N0 w w.heap.size (qm x)):=by
 obtain⟨i0,jJ,QG,QH,QI⟩:=info_parts sJ;obtain⟨A4,n4,c4,A5,n5,c5,A6,n6,c6,rfl,-,⟨-,-,s5⟩,⟨-,-,s6⟩⟩:=iV he;have OI:=zA cu;have WL:=zA (fun (W:World) (hW:yT w W)=>s5.below hW cu);have HS6:=zA (fun (W:World) (hW:yT w W)=>s6.below hW cu);obtain⟨gs,cs,ms⟩:=x;have R7:=zA (show cs.length=n5 from s5.1);have VV:=zA (show ms.length=n6 from s6.1);have HZ:=zA (show (cs.map dN).sum+(ms.map dO).sum≤1048576 by unfold dS at hne;simp only at hne;omega);have hm5:n5≤1048576:=by have:=R7.out;unfold dS at hne;simp only at hne;omega
 have hm6:n6≤1048576:=by have:=VV.out;unfold dS at hne;simp only at hne;omega
 simp only at WL HS6;clear he cu hne s5 s6;have hb0:yT w (w.alloc (.cells #[.slice A4 n4 c4,.slice A5 n5 c5,.slice A6 n6 c6] 40)):=(zD _ _).alloc (zC _) _;have mX:=ak w #[.slice A4 n4 c4,.slice A5 n5 c5,.slice A6 n6 c6] 40;have hz0:(w.alloc (.cells #[.slice A4 n4 c4,.slice A5 n5 c5,.slice A6 n6 c6] 40)).heap.size=w.heap.size+1:=(by simp);go_enter Tryz.func99,Tryz.ntmps99
 go_upto_region 1 with (fail)
 generalize (w.alloc (.cells #[.slice A4 n4 c4,.slice A5 n5 c5,.slice A6 n6 c6] 40))=W0 at *;have QB:=zA mX;have gW:=zA hb0;have s1:=ae (j:=1) (af mX ((zD _ _).alloc (zC _) (.cells #[] 94)) (by omega)) rfl;clear mX hb0;go_wp2_with fail
 clear s1;go_loopw[3,18] (fun l i wr=>∃(k:Nat) (B:Option Addr) (c':Nat) (ps:List b7),k≤n5∧i=.int .i64 k∧l=.slice B ps.length c'∧Hid (ps=k7 cs k)∧Own wr (w.heap.size+1) wr.heap.size 94 6 B ps.length c' ((ps.map uZ).flatten)∧Below (w.heap.size+1) W0 wr) (fun _ i _=>n5-(intOf i).toNat)
 case atStart =>
  have h9:=zt W0 6 94;exact⟨0,_,0,[],zL _,rfl,rfl,zA rfl,by rw[hz0] at h9;simpa[hz0] using h9,(zD _ _).alloc (by omega) _⟩
 case round =>
  rename World=>wr
  obtain⟨k,B,c',ps,hk,rfl,rfl,rM,hown,hbr⟩:=hrel;have Eu:=hbr.size;by_cases hlt:k<n5
  ·obtain⟨hx,gC,oC,ws,rfl,hgC,aW,hcell⟩:=(WL.out wr (gW.out.trans (hbr.mono (by omega)))).at_ hlt;have yX:=zA (zG hx);generalize cs[k]=d at *;obtain⟨E1,k1,v1,E2,k2,v2,E3,k3,v3,rfl,-,-,⟨-,-,s2⟩,⟨-,-,s3⟩⟩:=jF aW;have HW2:=zA (fun (W:World) (hW:Below (w.heap.size+1) W0 W)=>s2.keep (w':=W) fun q hq=>(hW.block q (by have:=OI.out;omega)).trans (hbr.block q (by have:=OI.out;omega)).symm);have HW3:=zA (fun (W:World) (hW:Below (w.heap.size+1) W0 W)=>s3.keep (w':=W) fun q hq=>(hW.block q (by have:=OI.out;omega)).trans (hbr.block q (by have:=OI.out;omega)).symm);have WM:=zA s2.1;have HL3:=zA s3.1;have HBD:=zA (show (k7 cs k).length+d.dh.length+d.dG.length≤1048576 by
    have h1:=qK (cs:=cs) (k+1) (by rw[R7.out];omega);have h2:=lh dN cs (k+1);have h3:=HZ.out;rw[uB yX.out] at h1;unfold wH at h1;simp only[zZ,yL] at h1;omega)
   clear s2 s3;have dK:=hcell 0 _ rfl;have eu:=hcell 1 _ rfl;have ig:=hcell 2 _ rfl;have jf:=hcell 3 _ rfl;have lS:=hcell 4 _ rfl;simp only[show bD.size=5 from rfl,←zH,zI] at dK eu ig jf lS;have mZ:yT wr (wr.alloc (.cells #[.int .i64 d.dC,.slice E1 k1 v1,.slice E2 k2 v2,.slice E3 k3 v3,.bool d.aC] 135)):=(zD _ _).alloc (zC _) _;have Lr:=ak wr #[.int .i64 d.dC,.slice E1 k1 v1,.slice E2 k2 v2,.slice E3 k3 v3,.bool d.aC] 135;have Ia:=zA (hown.alloc (.cells #[.int .i64 d.dC,.slice E1 k1 v1,.slice E2 k2 v2,.slice E3 k3 v3,.bool d.aC] 135));have uO:=zA (hbr.trans (mZ.mono (by omega)));have WN:=zA (own_ne hown);have Ox:(wr.alloc (.cells #[.int .i64 d.dC,.slice E1 k1 v1,.slice E2 k2 v2,.slice E3 k3 v3,.bool d.aC] 135)).heap.size=wr.heap.size+1:=(by simp);replace Ia:=zA (Ia.out.wider (zC _) (show wr.heap.size≤(wr.alloc (.cells #[.int .i64 d.dC,.slice E1 k1 v1,.slice E2 k2 v2,.slice E3 k3 v3,.bool d.aC] 135)).heap.size by omega));go_upto_region 5 with (fail)
   generalize (wr.alloc (.cells #[.int .i64 d.dC,.slice E1 k1 v1,.slice E2 k2 v2,.slice E3 k3 v3,.bool d.aC] 135))=WA at *;clear dK eu ig jf lS hcell aW mZ hown hbr;have O8:=zA Lr;have x2:=ae (j:=2) Lr rfl;clear Lr;go_wp2_with fail
   clear x2;have aet:=zA (show (k7 cs k).length+d.dh.length≤1048576 by have:=HBD.out;omega);have aeu:=zA (show (k7 cs k++d.dh.map (um k true)).length+d.dG.length≤1048576 by have:=HBD.out;simp only[zZ,yL];omega);have hkb:k2≤1048576:=by have h1:=WM.out;have h2:=aet.out;omega
   go_loopw[3,26] (fun l i wq=>∃(j:Nat) (B:Option Addr) (c':Nat) (ps:List b7),j≤k2∧i=.int .i64 j∧l=.slice B ps.length c'∧Hid (ps=k7 cs k++(d.dh.take j).map (um k true))∧Own wq (w.heap.size+1) wq.heap.size 94 6 B ps.length c' ((ps.map uZ).flatten)∧Below (w.heap.size+1) W0 wq∧jk B≠some wr.heap.size∧wq.heap[wr.heap.size]? =some (.cells #[.int .i64 d.dC,.slice E1 k1 v1,.slice E2 k2 v2,.slice E3 k3 v3,.bool d.aC] 135 (0,0))) (fun _ i _=>k2-(intOf i).toNat)
   case atStart=>exact⟨0,B,c',ps,zL _,rfl,rfl,zA (by rw[rM.out];simp),Ia.out,uO.out,WN.out,O8.out⟩
   case round =>
    rename World=>wq
    clear rM Ia uO WN O8;obtain⟨j,B,c',ps,hj,rfl,rfl,rM,hown,JP,EC,oG⟩:=hrel;have hzj:=JP.size;have hlb:=lt_of_block oG;by_cases hlj:j<k2
    ·obtain⟨hy,gY,oY,wy,rfl,hgY,⟨rfl,-⟩,xh⟩:=(HW2.out _ JP).at_ hlj;have HST:=zA (uT (um k true) (zG hy));have hln:=yV d.dh (um k true) j;have hpl:ps.length≤1048576:=by
      have ZF:=aet.out;rw[rM.out];simp only[zZ] at ZF ⊢;omega
     generalize d.dh[j]=y at *;have X_:=xh 0 _ rfl;have yc1:=xh 1 _ rfl;have yc2:=xh 2 _ rfl;simp only[show aN.size=3 from rfl,←zH,zI] at X_ yc1 yc2;have hbY:yT wq (wq.alloc (.cells #[.int .i64 y.fG,.int .i64 y.bK,.int .i64 y.bU] 49)):=(zD _ _).alloc (zC _) _;have hYB:=ak wq #[.int .i64 y.fG,.int .i64 y.bK,.int .i64 y.bU] 49;have hOY:=hown.alloc (.cells #[.int .i64 y.fG,.int .i64 y.bK,.int .i64 y.bU] 49);have HBY:=zA (JP.trans (hbY.mono (by omega)));have ZU:=af oG hbY hlb;have hzY:(wq.alloc (.cells #[.int .i64 y.fG,.int .i64 y.bK,.int .i64 y.bU] 49)).heap.size=wq.heap.size+1:=(by simp);go_upto_region 8 with (fail)
     generalize (wq.alloc (.cells #[.int .i64 y.fG,.int .i64 y.bK,.int .i64 y.bU] 49))=WB at *;clear X_ yc1 yc2 xh hown JP oG hbY;have y0:=ae (j:=0) hYB rfl;have y1:=ae (j:=1) hYB rfl;have y2:=ae (j:=2) hYB rfl;have ru:=kV WB [.bool false,.int .i64 (k:Int),.bool true,.int .i64 y.fG,.int .i64 y.bK,.int .i64 y.bU] 94;rw[hzY] at ru;have hownA:=hOY.alloc (.cells ([.bool false,.int .i64 (k:Int),.bool true,.int .i64 y.fG,.int .i64 y.bK,.int .i64 y.bU]).toArray 94);have Ya:=zA (HBY.out.trans (((zD WB.heap.size WB).alloc (zC _) (.cells ([.bool false,.int .i64 (k:Int),.bool true,.int .i64 y.fG,.int .i64 y.bK,.int .i64 y.bU]).toArray 94)).mono (by omega)));have HXC:=zA (af ZU ((zD WB.heap.size WB).alloc (zC _) (.cells ([.bool false,.int .i64 (k:Int),.bool true,.int .i64 y.fG,.int .i64 y.bK,.int .i64 y.bU]).toArray 94)) (by omega));have ZV:=zA EC;clear ZU EC;go_wp2_with (at_builtin;refine kE rfl (.tmp 30) (.tmp 34) _ rfl (w.heap.size+1) _ 94 i0 _ 6 48 Tryz.underlying90 jJ QG QH QI rfl (by omega) B ps.length c' _ rfl hownA _ _ 1 1 _ rfl ru (by simp[Value.oneCell']) (by simp only[maxLen];omega) (by omega) (by simp;omega) ?_;intro B4 CU w6 I7 qB X5 Sm)
     go_roundw
     case rel=>exact⟨j+1,B4,CU,ps++[um k true y],by omega,by go_num,by simp,zA (by rw[HST.out,rM.out];simp only[List.append_assoc]),by rw[List.map_append,List.flatten_append,zZ];exact I7,Ya.out.trans qB,LW ZV.out Sm (by simp only[zF];omega),by rw[X5 _ (by simp only[zF];omega) ZV.out];exact HXC.out⟩
     case measure=>simp[intOf];omega
    ·obtain rfl:k2=j:=(by omega);replace rM:=zA (show ps=k7 cs k++d.dh.map (um k true) from rM.out.trans (by rw[wR (um k true) WM.out]));have Ia:=zA hown;have uO:=zA JP;have WN:=zA EC;have O8:=zA oG;clear hown EC;have x3:=ae (j:=3) oG rfl;clear oG;go_wp2_with fail
     clear x3 JP;have hkb:k3≤1048576:=by have h1:=HL3.out;have h2:=aeu.out;omega
     go_loopw[3,40] (fun l i wq=>∃(j:Nat) (B:Option Addr) (c':Nat) (ps:List b7),j≤k3∧i=.int .i64 j∧l=.slice B ps.length c'∧Hid (ps=(k7 cs k++d.dh.map (um k true))++(d.dG.take j).map (um k false))∧Own wq (w.heap.size+1) wq.heap.size 94 6 B ps.length c' ((ps.map uZ).flatten)∧Below (w.heap.size+1) W0 wq∧jk B≠some wr.heap.size∧wq.heap[wr.heap.size]? =some (.cells #[.int .i64 d.dC,.slice E1 k1 v1,.slice E2 k2 v2,.slice E3 k3 v3,.bool d.aC] 135 (0,0))) (fun _ i _=>k3-(intOf i).toNat)
     case atStart=>exact⟨0,B,c',ps,zL _,rfl,rfl,zA (by rw[rM.out];simp),Ia.out,uO.out,WN.out,O8.out⟩
     case round =>
      rename World=>wq
      clear rM Ia uO WN O8;obtain⟨j,B,c',ps,hj,rfl,rfl,rM,hown,JP,EC,oG⟩:=hrel;have hzj:=JP.size;have hlb:=lt_of_block oG;by_cases hlj:j<k3
      ·obtain⟨hy,gY,oY,wy,rfl,hgY,⟨rfl,-⟩,xh⟩:=(HW3.out _ JP).at_ hlj;have HST:=zA (uT (um k false) (zG hy));have hln:=yV d.dG (um k false) j;have hpl:ps.length≤1048576:=by
        have ZF:=aeu.out;rw[rM.out];simp only[zZ] at ZF ⊢;omega
       generalize d.dG[j]=y at *;have X_:=xh 0 _ rfl;have yc1:=xh 1 _ rfl;have yc2:=xh 2 _ rfl;simp only[show aN.size=3 from rfl,←zH,zI] at X_ yc1 yc2;have hbY:yT wq (wq.alloc (.cells #[.int .i64 y.fG,.int .i64 y.bK,.int .i64 y.bU] 49)):=(zD _ _).alloc (zC _) _;have hYB:=ak wq #[.int .i64 y.fG,.int .i64 y.bK,.int .i64 y.bU] 49;have hOY:=hown.alloc (.cells #[.int .i64 y.fG,.int .i64 y.bK,.int .i64 y.bU] 49);have HBY:=zA (JP.trans (hbY.mono (by omega)));have ZU:=af oG hbY hlb;have hzY:(wq.alloc (.cells #[.int .i64 y.fG,.int .i64 y.bK,.int .i64 y.bU] 49)).heap.size=wq.heap.size+1:=(by simp);go_upto_region 13 with (fail)
       generalize (wq.alloc (.cells #[.int .i64 y.fG,.int .i64 y.bK,.int .i64 y.bU] 49))=WB at *;clear X_ yc1 yc2 xh hown JP oG hbY;have y0:=ae (j:=0) hYB rfl;have y1:=ae (j:=1) hYB rfl;have y2:=ae (j:=2) hYB rfl;have ru:=kV WB [.bool false,.int .i64 (k:Int),.bool false,.int .i64 y.fG,.int .i64 y.bK,.int .i64 y.bU] 94;rw[hzY] at ru;have hownA:=hOY.alloc (.cells ([.bool false,.int .i64 (k:Int),.bool false,.int .i64 y.fG,.int .i64 y.bK,.int .i64 y.bU]).toArray 94);have Ya:=zA (HBY.out.trans (((zD WB.heap.size WB).alloc (zC _) (.cells ([.bool false,.int .i64 (k:Int),.bool false,.int .i64 y.fG,.int .i64 y.bK,.int .i64 y.bU]).toArray 94)).mono (by omega)));have HXC:=zA (af ZU ((zD WB.heap.size WB).alloc (zC _) (.cells ([.bool false,.int .i64 (k:Int),.bool false,.int .i64 y.fG,.int .i64 y.bK,.int .i64 y.bU]).toArray 94)) (by omega));have ZV:=zA EC;clear ZU EC;go_wp2_with (at_builtin;refine kE rfl (.tmp 44) (.tmp 48) _ rfl (w.heap.size+1) _ 94 i0 _ 6 48 Tryz.underlying90 jJ QG QH QI rfl (by omega) B ps.length c' _ rfl hownA _ _ 1 1 _ rfl ru (by simp[Value.oneCell']) (by simp only[maxLen];omega) (by omega) (by simp;omega) ?_;intro B4 CU w6 I7 qB X5 Sm)
       go_roundw
       case rel=>exact⟨j+1,B4,CU,ps++[um k false y],by omega,by go_num,by simp,zA (by rw[HST.out,rM.out];simp only[List.append_assoc]),by rw[List.map_append,List.flatten_append,zZ];exact I7,Ya.out.trans qB,LW ZV.out Sm (by simp only[zF];omega),by rw[X5 _ (by simp only[zF];omega) ZV.out];exact HXC.out⟩
       case measure=>simp[intOf];omega
      ·obtain rfl:k3=j:=(by omega);replace rM:=zA (show ps=(k7 cs k++d.dh.map (um k true))++d.dG.map (um k false) from rM.out.trans (by rw[wR (um k false) HL3.out]));have Ia:=zA hown;have uO:=zA JP;have WN:=zA EC;have O8:=zA oG;clear hown EC;clear oG JP;go_wp2_with fail
       go_roundw
       case rel=>exact⟨k+1,B,c',ps,by omega,by go_num,rfl,zA (by rw[rM.out,uB yX.out];unfold wH;simp only[List.append_assoc]),Ia.out,uO.out⟩
       case measure=>simp[intOf];omega
  ·obtain rfl:k=n5:=(by omega);have MS:=zA hown;have Qk:=zA hbr;have s2:=ae (j:=2) (af QB.out hbr (by omega)) rfl;have HF5:=zA (show ps=k7 cs cs.length from rM.out.trans (by rw[R7.out]));clear hown hbr rM;go_wp2_with fail
   clear s2;go_loopw[3,55] (fun l i wr=>∃(k:Nat) (B:Option Addr) (c':Nat) (ps:List b7),k≤n6∧i=.int .i64 k∧l=.slice B ps.length c'∧Hid (ps=k7 cs cs.length++oW ms k)∧Own wr (w.heap.size+1) wr.heap.size 94 6 B ps.length c' ((ps.map uZ).flatten)∧Below (w.heap.size+1) W0 wr) (fun _ i _=>n6-(intOf i).toNat)
   case atStart =>
    exact⟨0,B,c',ps,zL _,rfl,rfl,zA (by rw[HF5.out];simp[oW]),MS.out,Qk.out⟩
   case round =>
    rename World=>wr
    obtain⟨k,B,c',ps,hk,rfl,rfl,rM,hown,hbr⟩:=hrel;have Eu:=hbr.size;by_cases hlt:k<n6
    ·obtain⟨hx,gC,oC,ws,rfl,hgC,aW,hcell⟩:=(HS6.out wr (gW.out.trans (hbr.mono (by omega)))).at_ hlt;have yX:=zA (zG hx);generalize ms[k]=d at *;obtain⟨E1,k1,v1,rfl,-,⟨-,-,s2⟩⟩:=iQ aW;have HW2:=zA (fun (W:World) (hW:Below (w.heap.size+1) W0 W)=>s2.keep (w':=W) fun q hq=>(hW.block q (by have:=OI.out;omega)).trans (hbr.block q (by have:=OI.out;omega)).symm);have WM:=zA s2.1;have HBD:=zA (show (k7 cs cs.length++oW ms k).length+d.iW.length≤1048576 by
      have h0:=qK (cs:=cs) cs.length (zC _);rw[List.take_length] at h0;have h1:=wS (ms:=ms) (k+1) (by rw[VV.out];omega);have h2:=lh dO ms (k+1);have h3:=HZ.out;rw[uC yX.out] at h1;simp only[zZ,yL] at h1 ⊢;omega)
     clear s2;have dK:=hcell 0 _ rfl;have eu:=hcell 1 _ rfl;simp only[show aX.size=2 from rfl,←zH,zI] at dK eu;have mZ:yT wr (wr.alloc (.cells #[.int .i64 d.dm,.slice E1 k1 v1] 137)):=(zD _ _).alloc (zC _) _;have Lr:=ak wr #[.int .i64 d.dm,.slice E1 k1 v1] 137;have Ia:=zA (hown.alloc (.cells #[.int .i64 d.dm,.slice E1 k1 v1] 137));have uO:=zA (hbr.trans (mZ.mono (by omega)));have WN:=zA (own_ne hown);have Ox:(wr.alloc (.cells #[.int .i64 d.dm,.slice E1 k1 v1] 137)).heap.size=wr.heap.size+1:=(by simp);replace Ia:=zA (Ia.out.wider (zC _) (show wr.heap.size≤(wr.alloc (.cells #[.int .i64 d.dm,.slice E1 k1 v1] 137)).heap.size by omega));go_upto_region 19 with (fail)
     generalize (wr.alloc (.cells #[.int .i64 d.dm,.slice E1 k1 v1] 137))=WA at *;clear dK eu hcell aW mZ hown hbr;have O8:=zA Lr;have x1:=ae (j:=1) Lr rfl;clear Lr;go_wp2_with fail
     clear x1;have hkb:k1≤1048576:=by have h1:=WM.out;have h2:=HBD.out;omega
     go_loopw[3,63] (fun l i wq=>∃(j:Nat) (B:Option Addr) (c':Nat) (ps:List b7),j≤k1∧i=.int .i64 j∧l=.slice B ps.length c'∧Hid (ps=(k7 cs cs.length++oW ms k)++(d.iW.take j).map (IG k))∧Own wq (w.heap.size+1) wq.heap.size 94 6 B ps.length c' ((ps.map uZ).flatten)∧Below (w.heap.size+1) W0 wq∧jk B≠some wr.heap.size∧wq.heap[wr.heap.size]? =some (.cells #[.int .i64 d.dm,.slice E1 k1 v1] 137 (0,0))) (fun _ i _=>k1-(intOf i).toNat)
     case atStart=>exact⟨0,B,c',ps,zL _,rfl,rfl,zA (by rw[rM.out];simp),Ia.out,uO.out,WN.out,O8.out⟩
     case round =>
      rename World=>wq
      clear rM Ia uO WN O8;obtain⟨j,B,c',ps,hj,rfl,rfl,rM,hown,JP,EC,oG⟩:=hrel;have hzj:=JP.size;have hlb:=lt_of_block oG;by_cases hlj:j<k1
      ·obtain⟨hy,gY,oY,wy,rfl,hgY,⟨rfl,-⟩,xh⟩:=(HW2.out _ JP).at_ hlj;have HST:=zA (uT (IG k) (zG hy));have hln:=yV d.iW (IG k) j;have hpl:ps.length≤1048576:=by
        have ZF:=HBD.out;rw[rM.out];simp only[zZ] at ZF ⊢;omega
       generalize d.iW[j]=y at *;have X_:=xh 0 _ rfl;simp only[Lay.int,Lay.flat,zI,zK] at X_;have hOY:=hown;have HBY:=zA JP;have ZU:=oG;have y0:=cell_kept ((zD wq.heap.size wq).alloc (zC _) (.cells #[] 94)) X_;go_upto_region 22 with (fail)
       clear X_ y0 xh hown JP oG;have ru:=kV wq [.bool true,.int .i64 (k:Int),.bool false,.int .i64 y,.int .i64 (-1),.int .i64 0] 94;skip
       have hownA:=hOY.alloc (.cells ([.bool true,.int .i64 (k:Int),.bool false,.int .i64 y,.int .i64 (-1),.int .i64 0]).toArray 94);have Ya:=zA (HBY.out.trans (((zD wq.heap.size wq).alloc (zC _) (.cells ([.bool true,.int .i64 (k:Int),.bool false,.int .i64 y,.int .i64 (-1),.int .i64 0]).toArray 94)).mono (by omega)));have HXC:=zA (af ZU ((zD wq.heap.size wq).alloc (zC _) (.cells ([.bool true,.int .i64 (k:Int),.bool false,.int .i64 y,.int .i64 (-1),.int .i64 0]).toArray 94)) (by omega));have ZV:=zA EC;clear ZU EC;go_wp2_with (at_builtin;refine kE rfl (.tmp 67) (.tmp 72) _ rfl (w.heap.size+1) _ 94 i0 _ 6 48 Tryz.underlying90 jJ QG QH QI rfl (by omega) B ps.length c' _ rfl hownA _ _ 1 1 _ rfl ru (by simp[Value.oneCell']) (by simp only[maxLen];omega) (by omega) (by simp;omega) ?_;intro B4 CU w6 I7 qB X5 Sm)
       go_roundw
       case rel=>exact⟨j+1,B4,CU,ps++[IG k y],by omega,by go_num,by simp,zA (by rw[HST.out,rM.out];simp only[List.append_assoc]),by rw[List.map_append,List.flatten_append,zZ];exact I7,Ya.out.trans qB,LW ZV.out Sm (by simp only[zF];omega),by rw[X5 _ (by simp only[zF];omega) ZV.out];exact HXC.out⟩
       case measure=>simp[intOf];omega
      ·obtain rfl:k1=j:=(by omega);replace rM:=zA (show ps=(k7 cs cs.length++oW ms k)++d.iW.map (IG k) from rM.out.trans (by rw[wR (IG k) WM.out]));have Ia:=zA hown;have uO:=zA JP;have WN:=zA EC;have O8:=zA oG;clear hown EC;clear oG JP;go_wp2_with fail
       go_roundw
       case rel=>exact⟨k+1,B,c',ps,by omega,by go_num,rfl,zA (by rw[rM.out,uC yX.out];simp only[List.append_assoc]),Ia.out,uO.out⟩
       case measure=>simp[intOf];omega
    ·obtain rfl:k=n6:=(by omega);have h9:ps=qm ⟨gs,cs,ms⟩:=rM.out.trans (by unfold qm;simp only[VV.out]);have HOW:=zA hown;have ajx:=zA (gW.out.trans (hbr.mono (by omega)));clear hown hbr;go_wp2_with fail
     go_ret;rw[←h9];exact⟨B,c',rfl,HOW.out.wider (by omega) (zC _),ajx.out⟩
theorem qL{w:World}{hi n c:Nat}{A:Option Addr}{ps:List b7}{x:b7}(hs:a_ lU w hi A n ps)(cu:hi≤w.heap.size)(hn:n≤4194304) :
  Calls Tryz.prog 41 #[.slice A n c,.agg (uZ x).toArray] w fun e w'=>e=.returned (.int .i64 (ps.count x:Nat))∧yT w w':=by
 have HL:=zA hs.1;have HS:=zA (fun (W:World) (hW:yT w W)=>hs.below hW cu);have hB0:yT w (w.alloc (.cells (uZ x).toArray 94)):=(zD _ _).alloc (zC _) _;have jK:=ak w (uZ x).toArray 94;have hz0:(w.alloc (.cells (uZ x).toArray 94)).heap.size=w.heap.size+1:=(by simp);clear hs;go_enter Tryz.func41,Tryz.ntmps41
 go_upto_region 1 with (fail)
 generalize (w.alloc (.cells (uZ x).toArray 94))=W0 at *;have Jz:=zA jK;have gW:=zA hB0;clear jK hB0;go_wp2_with fail
 go_loopw[5,10] (fun q i wr=>∃k:Nat,k≤n∧i=.int .i64 k∧q=.int .i64 ((ps.take k).count x:Nat)∧Below (w.heap.size+1) W0 wr) (fun _ i _=>n-(intOf i).toNat)
 case atStart=>exact⟨0,zL _,rfl,rfl,by rw[←hz0];exact zD _ _⟩
 case round =>
  obtain⟨k,hk,rfl,rfl,hbr⟩:=hrel;have Eu:=hbr.size;by_cases hlt:k<n
  ·have oO:=gW.out.trans (hbr.mono (by omega));obtain⟨hx,g,o,ws,rfl,hg,⟨rfl,-⟩,hcell⟩:=(HS.out wr oO).at_ hlt;have jh:=zG hx;have hc1:=List.count_le_length (a:=x) (l:=ps.take k);rw[List.length_take] at hc1;have hst:(ps.take (k+1)).count x=(ps.take k).count x+(if ps[k]=x then 1 else 0):=by rw[List.take_add_one,jh,Option.toList_some,List.count_append];simp[List.count_cons]
   generalize ps[k]=y at *;generalize (ps.take k).count x=N at *;have HST:=zA hst;clear hst;have dK:=hcell 0 _ rfl;have eu:=hcell 1 _ rfl;have ig:=hcell 2 _ rfl;have jf:=hcell 3 _ rfl;have lS:=hcell 4 _ rfl;have WJ:=hcell 5 _ rfl;simp only[show lU.size=6 from rfl,←zH,zI] at dK eu ig jf lS WJ;have mZ:yT wr (wr.alloc (.cells (uZ y).toArray 94)):=(zD _ _).alloc (zC _) _;have hY:=ak wr (uZ y).toArray 94;have hX:=af (af Jz.out hbr (by omega)) mZ (by omega);have uO:=zA (hbr.trans (mZ.mono (by omega)));go_upto_region 5 with (fail)
   generalize (wr.alloc (.cells (uZ y).toArray 94))=WA at *;clear dK eu ig jf lS WJ hcell mZ hbr oO jh;have x0:=ae (j:=0) hX rfl;have x1:=ae (j:=1) hX rfl;have x2:=ae (j:=2) hX rfl;have x3:=ae (j:=3) hX rfl;have x4:=ae (j:=4) hX rfl;have x5:=ae (j:=5) hX rfl;have y0:=ae (j:=0) hY rfl;have y1:=ae (j:=1) hY rfl;have y2:=ae (j:=2) hY rfl;have y3:=ae (j:=3) hY rfl;have y4:=ae (j:=4) hY rfl;have y5:=ae (j:=5) hY rfl;by_cases hxy:x=y
   ·replace HST:Hid ((ps.take (k+1)).count x=N+1):=zA (by rw[HST.out,yG hxy.symm]);subst hxy;clear hX hY;go_wp2_with fail
    go_roundw
    case rel=>exact⟨k+1,by omega,by go_num,by rw[HST.out];go_num,uO.out⟩
    case measure=>simp[intOf];omega
   ·replace HST:Hid ((ps.take (k+1)).count x=N):=zA (by rw[HST.out,yF (fun h=>hxy h.symm)];rfl);have HXY:=zA hxy;clear hxy hX hY;go_wp2_with fail
    all_goals
     refine⟨⟨k+1,by omega,by go_num,by first|(rw[HST.out];done)|exact absurd (by cases x;cases y;simp_all) HXY.out,uO.out⟩,by simp[intOf];omega⟩
  ·obtain rfl:k=n:=(by omega);have uU:=zA (gW.out.trans (hbr.mono (by omega)));have HT:=zA (show ps.take k=ps from zU (by rw[HL.out];exact zC _));clear hbr;go_wp2_with fail
   go_ret;exact⟨by rw[HT.out];rfl,uU.out⟩
theorem VW{ps qs:List b7}(h:∀(j:Nat) (x:b7),j<ps.length→ps[j]? =some x→ps.count x=qs.count x):decide (ps.Perm qs)=decide (ps.length=qs.length):=by
 rw[←Tq];have h1:ps.all (fun x=>ps.count x==qs.count x)=true:=by
  rw[zY];intro x hx;obtain⟨j,hj⟩:=List.getElem?_of_mem hx;rw[h j x (zO.1 hj).1 hj];simp
 rw[h1,Bool.true_and];by_cases hl:ps.length=qs.length <;> simp[hl]
theorem Yb{ps qs:List b7}{x:b7}(h:ps.count x≠qs.count x):decide (ps.Perm qs)=false :=
 yD fun hp=>h (List.Perm.count_eq hp x)
theorem LX{w:World}{hi n c m cB:Nat}{A B:Option Addr}{ps qs:List b7}(hs:a_ lU w hi A n ps)(ht:a_ lU w hi B m qs)(cu:hi≤w.heap.size)(hn:n≤4194304)(hm:m≤4194304) :
  Calls Tryz.prog 98 #[.slice A n c,.slice B m cB] w fun e w'=>e=.returned (.bool (decide (ps.Perm qs)))∧yT w w':=by
 have HL:=zA hs.1;have WM:=zA ht.1;have HS:=zA (fun (W:World) (hW:yT w W)=>hs.below hW cu);have HC1:=zA (fun (x:b7) (W:World) (hW:yT w W)=>qL (c:=c) (x:=x) (hs.below hW cu) (zJ cu hW.size) hn);have HC2:=zA (fun (x:b7) (W:World) (hW:yT w W)=>qL (c:=cB) (x:=x) (ht.below hW cu) (zJ cu hW.size) hm);clear hs ht;go_enter Tryz.func98,Tryz.ntmps98
 go_wp2_with fail
 go_loopw[9] (fun i wr=>∃k:Nat,k≤n∧i=.int .i64 k∧Hid (∀(j:Nat) (x:b7),j<k→ps[j]? =some x→ps.count x=qs.count x)∧yT w wr) (fun i _=>n-(intOf i).toNat)
 case atStart=>exact⟨0,zL _,rfl,zA (fun j x hj=>by omega),zD _ _⟩
 case round =>
  obtain⟨k,hk,rfl,HA,hbr⟩:=hrel;have Eu:=hbr.size;by_cases hlt:k<n
  ·obtain⟨hx,g,o,ws,rfl,hg,⟨rfl,-⟩,hcell⟩:=(HS.out wr hbr).at_ hlt;have yX:=zA (zG hx);generalize ps[k]=y at *;have dK:=hcell 0 _ rfl;have eu:=hcell 1 _ rfl;have ig:=hcell 2 _ rfl;have jf:=hcell 3 _ rfl;have lS:=hcell 4 _ rfl;have WJ:=hcell 5 _ rfl;simp only[show lU.size=6 from rfl,←zH,zI] at dK eu ig jf lS WJ;have mZ:yT wr (wr.alloc (.cells #[.bool y.nS,.int .i64 y.iq,.bool y.gI,.int .i64 y.fG,.int .i64 y.bK,.int .i64 y.bU] 94)):=(zD _ _).alloc (zC _) _;have ED:=ak wr #[.bool y.nS,.int .i64 y.iq,.bool y.gI,.int .i64 y.fG,.int .i64 y.bK,.int .i64 y.bU] 94;have Ox:(wr.alloc (.cells #[.bool y.nS,.int .i64 y.iq,.bool y.gI,.int .i64 y.fG,.int .i64 y.bK,.int .i64 y.bU] 94)).heap.size=wr.heap.size+1:=(by simp);go_upto_region 4 with (fail)
   generalize (wr.alloc (.cells #[.bool y.nS,.int .i64 y.iq,.bool y.gI,.int .i64 y.fG,.int .i64 y.bK,.int .i64 y.bU] 94))=WA at *;clear dK eu ig jf lS WJ hcell;have oZ:=zA ED;have nK:=zA (hbr.trans (mZ.mono (by omega)));clear ED mZ hbr;have HK1:=zA (fun (W:World) (hW:yT WA W)=>HC1.out y W (nK.out.trans (hW.mono (by have:=nK.out.size;omega))));have HK2:=zA (fun (W:World) (hW:yT WA W)=>HC2.out y W (nK.out.trans (hW.mono (by have:=nK.out.size;omega))));obtain⟨ca,hca⟩:∃q:Int,q=((ps.count y:Nat):Int):=⟨_,rfl⟩
   obtain⟨cb,hcb⟩:∃q:Int,q=((qs.count y:Nat):Int):=⟨_,rfl⟩
   rw[←hca] at HK1;rw[←hcb] at HK2;have QK:=zA hca;have HCB:=zA hcb;clear hca hcb;obtain⟨b2,hb2⟩:∃b,b=(ca != cb):=⟨_,rfl⟩
   have lK:=zA hb2;have hqb:(ca != cb)=b2:=hb2.symm;clear hb2;refine fM (fun xC L a W=>∃Bz jL kY BA BB kW lu:Value,a=(((((((xC.put (some 13) Bz).put (some 14) jL).put (some 15) kY).put (some 16) BA).put (some 17) BB).put (some 18) kW).put (some 19) lu)∧yT WA W∧((L 0→Bz=(.slice (some ⟨g,o,none⟩) n c))∧(L 1→jL=(.agg #[.bool y.nS,.int .i64 y.iq,.bool y.gI,.int .i64 y.fG,.int .i64 y.bK,.int .i64 y.bU]))∧(L 2→kY=(.int .i64 ca))∧(L 3→BA=(.slice B m cB))∧(L 4→BB=(.agg #[.bool y.nS,.int .i64 y.iq,.bool y.gI,.int .i64 y.fG,.int .i64 y.bK,.int .i64 y.bU]))∧(L 5→kW=(.int .i64 cb))∧(L 6→lu=(.bool b2)))) (by kernel_rfl) (by kernel_rfl) ?_ ?_ ?_
   ·exact⟨u13,u14,u15,u16,u17,u18,u19,by kernel_rfl,Below.drew (zD _ _),fun h=>absurd h id,fun h=>absurd h id,fun h=>absurd h id,fun h=>absurd h id,fun h=>absurd h id,fun h=>absurd h id,fun h=>absurd h id⟩
   ·intro Q9;refine ag.cons ?_ ?_
    ·rintro L a W ⟨Bz,jL,kY,BA,BB,kW,lu,ha,hB,f0,f1,f2,f3,f4,f5,f6⟩ hN hD K hK;subst ha;have hz:=hB.size;refine Kept.mk ?_;simp only[Act.put,pA,pZ,pS];go_simp;refine hK.out _ _ ?_;exact⟨(.slice (some ⟨g,o,none⟩) n c),jL,kY,BA,BB,kW,lu,by kernel_rfl,hB,fun _=>rfl,nf f1,nf f2,nf f3,nf f4,nf f5,nf f6⟩
    refine ag.cons ?_ ?_
    ·rintro L a W ⟨Bz,jL,kY,BA,BB,kW,lu,ha,hB,f0,f1,f2,f3,f4,f5,f6⟩ hN hD K hK;subst ha;have hz:=hB.size;have Ul:=ae (j:=0) (af oZ.out hB (by omega)) rfl;have Um:=ae (j:=1) (af oZ.out hB (by omega)) rfl;have Un:=ae (j:=2) (af oZ.out hB (by omega)) rfl;have Uo:=ae (j:=3) (af oZ.out hB (by omega)) rfl;have Ur:=ae (j:=4) (af oZ.out hB (by omega)) rfl;have pg5:=ae (j:=5) (af oZ.out hB (by omega)) rfl;refine Kept.mk ?_;simp only[Act.put,pA,pZ,pS];go_simp;refine hK.out _ _ ?_;exact⟨Bz,(.agg #[.bool y.nS,.int .i64 y.iq,.bool y.gI,.int .i64 y.fG,.int .i64 y.bK,.int .i64 y.bU]),kY,BA,BB,kW,lu,by kernel_rfl,hB,nf f0,fun _=>rfl,nf f2,nf f3,nf f4,nf f5,nf f6⟩
    refine ag.cons ?_ ?_
    ·rintro L a W ⟨Bz,jL,kY,BA,BB,kW,lu,ha,hB,f0,f1,f2,f3,f4,f5,f6⟩ hN hD K hK;subst ha;have hz:=hB.size;have d0:=f0 (hD 0 (by kernel_rfl));subst d0;have d1:=f1 (hD 1 (by kernel_rfl));subst d1;refine rP rfl 41 _ _ _ rfl (aJ Tryz.func41 (by kernel_rfl) (by kernel_rfl)) (.slice (some ⟨g,o,none⟩) n c) (.agg #[.bool y.nS,.int .i64 y.iq,.bool y.gI,.int .i64 y.fG,.int .i64 y.bK,.int .i64 y.bU]) (by kernel_rfl) (by kernel_rfl) (HK1.out W hB) ?_;rintro e W1 ⟨rfl,hb1⟩;refine⟨_,rfl,hK.out _ _ ?_⟩;exact⟨(.slice (some ⟨g,o,none⟩) n c),(.agg #[.bool y.nS,.int .i64 y.iq,.bool y.gI,.int .i64 y.fG,.int .i64 y.bK,.int .i64 y.bU]),(.int .i64 ca),BA,BB,kW,lu,by kernel_rfl,hB.trans ((hb1.mono (zC _)).mono hz),nf f0,nf f1,fun _=>rfl,nf f3,nf f4,nf f5,nf f6⟩
    refine ag.cons ?_ ?_
    ·rintro L a W ⟨Bz,jL,kY,BA,BB,kW,lu,ha,hB,f0,f1,f2,f3,f4,f5,f6⟩ hN hD K hK;subst ha;have hz:=hB.size;refine Kept.mk ?_;simp only[Act.put,pA,pZ,pS];go_simp;refine hK.out _ _ ?_;exact⟨Bz,jL,kY,(.slice B m cB),BB,kW,lu,by kernel_rfl,hB,nf f0,nf f1,nf f2,fun _=>rfl,nf f4,nf f5,nf f6⟩
    refine ag.cons ?_ ?_
    ·rintro L a W ⟨Bz,jL,kY,BA,BB,kW,lu,ha,hB,f0,f1,f2,f3,f4,f5,f6⟩ hN hD K hK;subst ha;have hz:=hB.size;have Ul:=ae (j:=0) (af oZ.out hB (by omega)) rfl;have Um:=ae (j:=1) (af oZ.out hB (by omega)) rfl;have Un:=ae (j:=2) (af oZ.out hB (by omega)) rfl;have Uo:=ae (j:=3) (af oZ.out hB (by omega)) rfl;have Ur:=ae (j:=4) (af oZ.out hB (by omega)) rfl;have pg5:=ae (j:=5) (af oZ.out hB (by omega)) rfl;refine Kept.mk ?_;simp only[Act.put,pA,pZ,pS];go_simp;refine hK.out _ _ ?_;exact⟨Bz,jL,kY,BA,(.agg #[.bool y.nS,.int .i64 y.iq,.bool y.gI,.int .i64 y.fG,.int .i64 y.bK,.int .i64 y.bU]),kW,lu,by kernel_rfl,hB,nf f0,nf f1,nf f2,nf f3,fun _=>rfl,nf f5,nf f6⟩
    refine ag.cons ?_ ?_
    ·rintro L a W ⟨Bz,jL,kY,BA,BB,kW,lu,ha,hB,f0,f1,f2,f3,f4,f5,f6⟩ hN hD K hK;subst ha;have hz:=hB.size;have d2:=f2 (hD 2 (by kernel_rfl));subst d2;have d3:=f3 (hD 3 (by kernel_rfl));subst d3;have d4:=f4 (hD 4 (by kernel_rfl));subst d4;refine rP rfl 41 _ _ _ rfl (aJ Tryz.func41 (by kernel_rfl) (by kernel_rfl)) (.slice B m cB) (.agg #[.bool y.nS,.int .i64 y.iq,.bool y.gI,.int .i64 y.fG,.int .i64 y.bK,.int .i64 y.bU]) (by kernel_rfl) (by kernel_rfl) (HK2.out W hB) ?_;rintro e W1 ⟨rfl,hb1⟩;refine⟨_,rfl,hK.out _ _ ?_⟩;exact⟨Bz,jL,(.int .i64 ca),(.slice B m cB),(.agg #[.bool y.nS,.int .i64 y.iq,.bool y.gI,.int .i64 y.fG,.int .i64 y.bK,.int .i64 y.bU]),(.int .i64 cb),lu,by kernel_rfl,hB.trans ((hb1.mono (zC _)).mono hz),nf f0,nf f1,nf f2,nf f3,nf f4,fun _=>rfl,nf f6⟩
    refine ag.cons ?_ ?_
    ·rintro L a W ⟨Bz,jL,kY,BA,BB,kW,lu,ha,hB,f0,f1,f2,f3,f4,f5,f6⟩ hN hD K hK;subst ha;have hz:=hB.size;have d2:=f2 (hD 2 (by kernel_rfl));subst d2;have d5:=f5 (hD 5 (by kernel_rfl));subst d5;refine Kept.mk ?_;simp only[Act.put,pA,pZ,pS];go_simp;refine hK.out _ _ ?_;exact⟨Bz,jL,(.int .i64 ca),BA,BB,(.int .i64 cb),(.bool b2),by kernel_rfl,hB,nf f0,nf f1,nf f2,nf f3,nf f4,nf f5,fun _=>rfl⟩
    exact ag.nil
   intro L a w9 hL hI;obtain⟨Bz,jL,kY,BA,BB,kW,lu,ha,pI,hI⟩:=hI;subst ha;have bT:=hI.2.2.2.2.2.2 (hL 6 (by decide));subst bT;clear hL hI;refine Kept.mk ?_;simp only[Act.put,pA,pZ,pS];cases b2
   ·have hcc:ca=cb:=by have:=lK.out;simp at this;exact this
    have HCC:=zA (show ps.count y=qs.count y by have h1:=QK.out;have h2:=HCB.out;omega);have uU:=zA (nK.out.trans (pI.mono (by have:=nK.out.size;omega)));clear pI hcc;go_wp2_with fail
    go_roundw
    case rel=>exact⟨k+1,by omega,by go_num,zA (fun j x hj hjx=>by
     by_cases hjk:j=k
     ·subst hjk;rw[yX.out] at hjx;injection hjx with hjx
      rw[←hjx];exact HCC.out
     ·exact HA.out j x (by omega) hjx),uU.out⟩
    case measure=>simp[intOf];omega
   ·have hcc:ca≠cb:=by have:=lK.out;simp at this;exact this
    have HR:=zA (Yb (ps:=ps) (qs:=qs) (x:=y) (fun h=>hcc (by rw[QK.out,HCB.out,h])));have uU:=zA (nK.out.trans (pI.mono (by have:=nK.out.size;omega)));clear pI hcc;go_wp2_with fail
    go_ret;exact⟨by rw[HR.out] <;> rfl,uU.out⟩
  ·obtain rfl:k=n:=(by omega);have HR:=zA (VW (ps:=ps) (qs:=qs) (by rw[HL.out];exact HA.out));have uU:=zA hbr;clear hbr;go_wp2_with fail
   go_ret;exact⟨by rw[HR.out,HL.out,WM.out];by_cases hq:k=m <;> simp[hq] <;> omega,uU.out⟩
theorem Yc(l:List b7):∀u∈(l.map uZ).flatten,u.oneCell'=true:=by
 intro u hu;obtain⟨r,hr,hu⟩:=List.mem_flatten.1 hu;obtain⟨x,_,rfl⟩:=List.mem_map.1 hr;simp only[uZ,List.mem_cons,List.mem_nil_iff,or_false] at hu;rcases hu with rfl|rfl|rfl|rfl|rfl|rfl <;> rfl
theorem QP{p:aS}{gs:List bY}(h:nD p gs=true):∀g∈gs,nJ (dn p g.ax) g=true:=by
 unfold nD at h;rw[zT,zY] at h;intro g hg;have:=h.2 g hg;unfold wF at this;rw[zT] at this;exact this.1
theorem Ec{w:World}{hi:Nat}{p:aS}{x:dY}{vs us:List Value}(hp:aV.see w hi p vs)(he:bZ.see w hi x us)(cu:hi≤w.heap.size)(nH:dV p≤1048576)(hne:dS x≤1048576) :
  Calls Tryz.prog 94 #[.agg vs.toArray,.agg us.toArray] w fun e w'=>e=.returned (.bool (nU p x.aA&&xX p x.bJ.length x.ay))∧yT w w':=by
 obtain⟨A0,n0,c0,B2,m2,d2,A3,n3,c3,rfl,⟨hc0,hm0,s0⟩,-⟩:=fH hp;obtain⟨A4,n4,c4,A5,n5,c5,A6,n6,c6,rfl,⟨-,-,s4⟩,⟨-,-,s5⟩,⟨-,-,s6⟩⟩:=iV he;have HL0:=zA s0.1;have Ut:=zA s4.1;have R7:=zA s5.1;have VV:=zA s6.1;have XZ:=zA (fun (W:World) (hW:yT w W)=>s0.below hW cu);have WL:=zA (fun (W:World) (hW:yT w W)=>s5.below hW cu);have HS6:=zA (fun (W:World) (hW:yT w W)=>s6.below hW cu);have OI:=zA cu;have jS:n0≤1048576:=by have:=s0.1;unfold dV at nH;omega
 have KR:n4≤1048576:=by have:=s4.1;unfold dS at hne;omega
 have hn5:n5≤1048576:=by have:=s5.1;unfold dS at hne;omega
 have Sm:n6≤1048576:=by have:=s6.1;unfold dS at hne;omega
 rw[s4.1];obtain⟨gs,cs,ms⟩:=x;simp only at Ut R7 VV WL HS6 ⊢;clear hp he s0 s4 s5 s6 nH hne cu;have hB0:yT w ((w.alloc (.cells #[.slice A0 n0 c0,.int .i64 p.ay,.slice B2 m2 d2,.slice A3 n3 c3] 46)).alloc (.cells #[.slice A4 n4 c4,.slice A5 n5 c5,.slice A6 n6 c6] 40)):=((zD _ _).alloc (zC _) _).alloc (by simp) _;have lG:=af (ak w #[.slice A0 n0 c0,.int .i64 p.ay,.slice B2 m2 d2,.slice A3 n3 c3] 46) ((zD _ _).alloc (zC _) (.cells #[.slice A4 n4 c4,.slice A5 n5 c5,.slice A6 n6 c6] 40)) (by simp);have mX:=ak (w.alloc (.cells #[.slice A0 n0 c0,.int .i64 p.ay,.slice B2 m2 d2,.slice A3 n3 c3] 46)) #[.slice A4 n4 c4,.slice A5 n5 c5,.slice A6 n6 c6] 40;rw[zF] at mX;have hz0:((w.alloc (.cells #[.slice A0 n0 c0,.int .i64 p.ay,.slice B2 m2 d2,.slice A3 n3 c3] 46)).alloc (.cells #[.slice A4 n4 c4,.slice A5 n5 c5,.slice A6 n6 c6] 40)).heap.size=w.heap.size+2:=(by simp);go_enter Tryz.func94,Tryz.ntmps94
 go_upto_region 1 with (fail)
 generalize ((w.alloc (.cells #[.slice A0 n0 c0,.int .i64 p.ay,.slice B2 m2 d2,.slice A3 n3 c3] 46)).alloc (.cells #[.slice A4 n4 c4,.slice A5 n5 c5,.slice A6 n6 c6] 40))=W0 at *;have x8:=zA lG;have QB:=zA mX;have gW:=zA hB0;have p0:=ae (j:=0) lG rfl;have p1:=ae (j:=1) lG rfl;have x1:=ae (j:=1) mX rfl;have x2:=ae (j:=2) mX rfl;clear lG mX hB0;by_cases hlen:n5=n0
 rotate_left
 ·have HR:=zA (show nU p cs=false by unfold nU;rw[yD (by rw[R7.out,HL0.out];exact hlen),zX]);have q1:((n5:Int) != (n0:Int))=true:=by simp;omega
  clear hlen;go_wp2_with fail
  go_ret;exact⟨by rw[HR.out];rfl,gW.out⟩
 by_cases TP:(n6:Int)=p.ay
 rotate_left
 ·have HR:=zA (show xX p n4 ms=false by unfold xX;rw[yD (by rw[VV.out];exact TP),zX]);have q1:((n5:Int) != (n0:Int))=false:=by simp;omega
  have q2:((n6:Int) != p.ay)=true:=(by simp[TP]);clear hlen TP;go_wp2_with fail
  go_ret;exact⟨by rw[HR.out,Bool.and_false] <;> rfl,gW.out⟩
 have q1:((n5:Int) != (n0:Int))=false:=by simp;omega
 have q2:((n6:Int) != p.ay)=false:=(by simp[TP]);have HLEN:=zA hlen;have ajy:=zA TP;clear hlen TP;go_wp2_with fail
 clear q1 q2 p0 p1 x1 x2;go_loopw[27] (fun i wr=>∃k:Nat,k≤n5∧i=.int .i64 k∧Hid (yY (fun j _=>wZ p cs j) cs k)∧Below (w.heap.size+2) W0 wr) (fun i _=>n5-(intOf i).toNat)
 case atStart=>exact⟨0,zL _,rfl,zA (fun j x hj=>by omega),by rw[←hz0];exact zD _ _⟩
 case round =>
  obtain⟨k,hk,rfl,HA,hbr⟩:=hrel;have Eu:=hbr.size;by_cases hlt:k<n5
  ·have oO:=gW.out.trans (hbr.mono (by omega));obtain⟨hx,g,o,ws,rfl,hg,aW,hcell⟩:=(WL.out wr oO).at_ hlt;have yX:=zA (zG hx);generalize cs[k]=d at *;have OJ:=zA (fun (W:World) (hW:yT wr W)=>bD.keep aW (w':=W) fun k hk=>hW.block k (by have:=OI.out;have:=oO.size;omega));obtain⟨E1,k1,v1,E2,k2,v2,E3,k3,v3,rfl,-⟩:=jF aW;have dK:=hcell 0 _ rfl;have eu:=hcell 1 _ rfl;have ig:=hcell 2 _ rfl;have jf:=hcell 3 _ rfl;have lS:=hcell 4 _ rfl;simp only[show bD.size=5 from rfl,←zH,zI,zK] at dK eu ig jf lS;have mZ:yT wr (wr.alloc (.cells #[.int .i64 d.dC,.slice E1 k1 v1,.slice E2 k2 v2,.slice E3 k3 v3,.bool d.aC] 135)):=(zD _ _).alloc (zC _) _;have ED:=ak wr #[.int .i64 d.dC,.slice E1 k1 v1,.slice E2 k2 v2,.slice E3 k3 v3,.bool d.aC] 135;have ZW:=af (af x8.out hbr (by omega)) mZ (by omega);have Ox:(wr.alloc (.cells #[.int .i64 d.dC,.slice E1 k1 v1,.slice E2 k2 v2,.slice E3 k3 v3,.bool d.aC] 135)).heap.size=wr.heap.size+1:=(by simp);have hk0:k<n0:=by have:=HLEN.out;omega
   obtain⟨hx0,gV,oV,ws0,rfl,hgV,⟨rfl,-⟩,hcell0⟩:=(XZ.out wr oO).at_ hk0;have HDV:=zA (zG hx0);have hv0:=hcell0 0 _ rfl;simp only[Lay.int,Lay.flat,zI,zK] at hv0;generalize p.iD[k]=v at *;have u_:(k:Int)<(n0:Int):=(by omega);have hiq:(0:Int)≤(k:Int):=(by omega);go_upto_region 6 with (fail)
   have HVA:=zA (fun (W:World) (hW:Below (wr.alloc (.cells #[.int .i64 d.dC,.slice E1 k1 v1,.slice E2 k2 v2,.slice E3 k3 v3,.bool d.aC] 135)).heap.size (wr.alloc (.cells #[.int .i64 d.dC,.slice E1 k1 v1,.slice E2 k2 v2,.slice E3 k3 v3,.bool d.aC] 135)) W)=>cell_kept (mZ.trans (hW.mono (by omega))) hv0);generalize (wr.alloc (.cells #[.int .i64 d.dC,.slice E1 k1 v1,.slice E2 k2 v2,.slice E3 k3 v3,.bool d.aC] 135))=WA at *;clear dK eu ig jf lS hcell aW hcell0 hv0;have oZ:=zA ED;have EE:=zA ZW;have uO:=zA (hbr.trans (mZ.mono (by omega)));have nK:=zA (oO.trans (mZ.mono (by have:=oO.size;omega)));have Uu:=zA (fun (W:World) (hW:yT WA W)=>Gq (OJ.out W (mZ.trans (hW.mono (by omega)))) (by have:=nK.out.size;have:=hW.size;have:=OI.out;omega));have yZ:=zA (OL yX.out HDV.out);clear ED ZW mZ hbr oO OJ;generalize uu d=b1 at *;cases b1
   ·replace yZ:Hid (wZ p cs k=false):=zA (by rw[yZ.out];rfl);refine fM (fun xC L a W=>∃aG a8 b8 bQ bG bz f_ gB gm gp gq gu fQ:Value,a=(((((((((((((xC.put (some 32) aG).put (some 33) a8).put (some 34) b8).put (some 35) bQ).put (some 36) bG).put (some 37) bz).put (some 38) f_).put (some 39) gB).put (some 40) gm).put (some 41) gp).put (some 42) gq).put (some 43) gu).put (some 44) fQ)∧yT WA W∧((L 0→aG=(.agg #[.int .i64 d.dC,.slice E1 k1 v1,.slice E2 k2 v2,.slice E3 k3 v3,.bool d.aC]))∧(L 1→a8=(.bool false))∧(L 2→b8=(.bool true))∧(L 3→bQ=(.bool true))∧(L 4→bG=undef)∧(L 5→bz=undef)∧(L 6→f_=undef)∧(L 7→gB=undef)∧(L 8→gm=undef)∧(L 9→gp=undef)∧(L 10→gq=undef)∧(L 11→gu=undef)∧(L 12→fQ=(.bool true)))) (by kernel_rfl) (by kernel_rfl) ?_ ?_ ?_
    ·exact⟨u32,u33,u34,u35,u36,u37,u38,u39,u40,u41,u42,u43,u44,by kernel_rfl,Below.drew (zD _ _),fun h=>absurd h id,fun h=>absurd h id,fun h=>absurd h id,fun h=>absurd h id,fun h=>absurd h id,fun h=>absurd h id,fun h=>absurd h id,fun h=>absurd h id,fun h=>absurd h id,fun h=>absurd h id,fun h=>absurd h id,fun h=>absurd h id,fun h=>absurd h id⟩
    ·intro Q9;refine ag.cons ?_ ?_
     ·rintro L a W ⟨aG,a8,b8,bQ,bG,bz,f_,gB,gm,gp,gq,gu,fQ,ha,hB,f0,f1,f2,f3,f4,f5,f6,f7,f8,f9,f10,f11,f12⟩ hN hD K hK;subst ha;have hz:=hB.size;have Ul:=ae (j:=0) (af oZ.out hB (by omega)) rfl;have Um:=ae (j:=1) (af oZ.out hB (by omega)) rfl;have Un:=ae (j:=2) (af oZ.out hB (by omega)) rfl;have Uo:=ae (j:=3) (af oZ.out hB (by omega)) rfl;have Ur:=ae (j:=4) (af oZ.out hB (by omega)) rfl;refine Kept.mk ?_;simp only[Act.put,pA,pZ,pS];go_simp;refine hK.out _ _ ?_;exact⟨(.agg #[.int .i64 d.dC,.slice E1 k1 v1,.slice E2 k2 v2,.slice E3 k3 v3,.bool d.aC]),a8,b8,bQ,bG,bz,f_,gB,gm,gp,gq,gu,fQ,by kernel_rfl,hB,fun _=>rfl,nf f1,nf f2,nf f3,nf f4,nf f5,nf f6,nf f7,nf f8,nf f9,nf f10,nf f11,nf f12⟩
     refine ag.cons ?_ ?_
     ·rintro L a W ⟨aG,a8,b8,bQ,bG,bz,f_,gB,gm,gp,gq,gu,fQ,ha,hB,f0,f1,f2,f3,f4,f5,f6,f7,f8,f9,f10,f11,f12⟩ hN hD K hK;subst ha;have hz:=hB.size;have d0:=f0 (hD 0 (by kernel_rfl));subst d0;refine lX rfl 186 _ _ rfl (aJ Tryz.func186 (by kernel_rfl) (by kernel_rfl)) (.agg #[.int .i64 d.dC,.slice E1 k1 v1,.slice E2 k2 v2,.slice E3 k3 v3,.bool d.aC]) (by kernel_rfl) (Uu.out W hB) ?_;rintro e W1 ⟨rfl,hb1⟩;refine⟨_,rfl,hK.out _ _ ?_⟩;exact⟨(.agg #[.int .i64 d.dC,.slice E1 k1 v1,.slice E2 k2 v2,.slice E3 k3 v3,.bool d.aC]),(.bool false),b8,bQ,bG,bz,f_,gB,gm,gp,gq,gu,fQ,by kernel_rfl,hB.trans ((hb1.mono (zC _)).mono hz),nf f0,fun _=>rfl,nf f2,nf f3,nf f4,nf f5,nf f6,nf f7,nf f8,nf f9,nf f10,nf f11,nf f12⟩
     refine ag.cons ?_ ?_
     ·rintro L a W ⟨aG,a8,b8,bQ,bG,bz,f_,gB,gm,gp,gq,gu,fQ,ha,hB,f0,f1,f2,f3,f4,f5,f6,f7,f8,f9,f10,f11,f12⟩ hN hD K hK;subst ha;have hz:=hB.size;have d1:=f1 (hD 1 (by kernel_rfl));subst d1;refine Kept.mk ?_;simp only[Act.put,pA,pZ,pS];go_simp;refine hK.out _ _ ?_;exact⟨aG,(.bool false),(.bool true),bQ,bG,bz,f_,gB,gm,gp,gq,gu,fQ,by kernel_rfl,hB,nf f0,nf f1,fun _=>rfl,nf f3,nf f4,nf f5,nf f6,nf f7,nf f8,nf f9,nf f10,nf f11,nf f12⟩
     refine ag.cons ?_ ?_
     ·rintro L a W ⟨aG,a8,b8,bQ,bG,bz,f_,gB,gm,gp,gq,gu,fQ,ha,hB,f0,f1,f2,f3,f4,f5,f6,f7,f8,f9,f10,f11,f12⟩ hN hD K hK;subst ha;have hz:=hB.size;have d1:=f1 (hD 1 (by kernel_rfl));subst d1;have d2:=f2 (hD 2 (by kernel_rfl));subst d2;refine Kept.mk ?_;simp only[Act.put,pA,pZ,pS];go_simp;refine hK.out _ _ ?_;exact⟨aG,(.bool false),(.bool true),(.bool true),bG,bz,f_,gB,gm,gp,gq,gu,fQ,by kernel_rfl,hB,nf f0,nf f1,nf f2,fun _=>rfl,nf f4,nf f5,nf f6,nf f7,nf f8,nf f9,nf f10,nf f11,nf f12⟩
     refine ag.cons ?_ ?_
     ·rintro L a W ⟨aG,a8,b8,bQ,bG,bz,f_,gB,gm,gp,gq,gu,fQ,ha,hB,f0,f1,f2,f3,f4,f5,f6,f7,f8,f9,f10,f11,f12⟩ hN hD K hK;subst ha;have hz:=hB.size;have d3:=f3 (hD 3 (by kernel_rfl));subst d3;refine Kept.mk ?_;simp only[Act.put,pA,pZ,pS];go_simp;refine hK.out _ _ ?_;exact⟨aG,a8,b8,(.bool true),undef,bz,f_,gB,gm,gp,gq,gu,fQ,by kernel_rfl,hB,nf f0,nf f1,nf f2,nf f3,fun _=>rfl,nf f5,nf f6,nf f7,nf f8,nf f9,nf f10,nf f11,nf f12⟩
     refine ag.cons ?_ ?_
     ·rintro L a W ⟨aG,a8,b8,bQ,bG,bz,f_,gB,gm,gp,gq,gu,fQ,ha,hB,f0,f1,f2,f3,f4,f5,f6,f7,f8,f9,f10,f11,f12⟩ hN hD K hK;subst ha;have hz:=hB.size;have d3:=f3 (hD 3 (by kernel_rfl));subst d3;have d4:=f4 (hD 4 (by kernel_rfl));subst d4;refine Kept.mk ?_;simp only[Act.put,pA,pZ,pS];go_simp;refine hK.out _ _ ?_;exact⟨aG,a8,b8,(.bool true),undef,undef,f_,gB,gm,gp,gq,gu,fQ,by kernel_rfl,hB,nf f0,nf f1,nf f2,nf f3,nf f4,fun _=>rfl,nf f6,nf f7,nf f8,nf f9,nf f10,nf f11,nf f12⟩
     refine ag.cons ?_ ?_
     ·rintro L a W ⟨aG,a8,b8,bQ,bG,bz,f_,gB,gm,gp,gq,gu,fQ,ha,hB,f0,f1,f2,f3,f4,f5,f6,f7,f8,f9,f10,f11,f12⟩ hN hD K hK;subst ha;have hz:=hB.size;have d3:=f3 (hD 3 (by kernel_rfl));subst d3;refine Kept.mk ?_;simp only[Act.put,pA,pZ,pS];go_simp;refine hK.out _ _ ?_;exact⟨aG,a8,b8,(.bool true),bG,bz,undef,gB,gm,gp,gq,gu,fQ,by kernel_rfl,hB,nf f0,nf f1,nf f2,nf f3,nf f4,nf f5,fun _=>rfl,nf f7,nf f8,nf f9,nf f10,nf f11,nf f12⟩
     refine ag.cons ?_ ?_
     ·rintro L a W ⟨aG,a8,b8,bQ,bG,bz,f_,gB,gm,gp,gq,gu,fQ,ha,hB,f0,f1,f2,f3,f4,f5,f6,f7,f8,f9,f10,f11,f12⟩ hN hD K hK;subst ha;have hz:=hB.size;have d3:=f3 (hD 3 (by kernel_rfl));subst d3;have d6:=f6 (hD 6 (by kernel_rfl));subst d6;refine Kept.mk ?_;simp only[Act.put,pA,pZ,pS];go_simp;refine hK.out _ _ ?_;exact⟨aG,a8,b8,(.bool true),bG,bz,undef,undef,gm,gp,gq,gu,fQ,by kernel_rfl,hB,nf f0,nf f1,nf f2,nf f3,nf f4,nf f5,nf f6,fun _=>rfl,nf f8,nf f9,nf f10,nf f11,nf f12⟩
     refine ag.cons ?_ ?_
     ·rintro L a W ⟨aG,a8,b8,bQ,bG,bz,f_,gB,gm,gp,gq,gu,fQ,ha,hB,f0,f1,f2,f3,f4,f5,f6,f7,f8,f9,f10,f11,f12⟩ hN hD K hK;subst ha;have hz:=hB.size;have d3:=f3 (hD 3 (by kernel_rfl));subst d3;refine Kept.mk ?_;simp only[Act.put,pA,pZ,pS];go_simp;refine hK.out _ _ ?_;exact⟨aG,a8,b8,(.bool true),bG,bz,f_,gB,undef,gp,gq,gu,fQ,by kernel_rfl,hB,nf f0,nf f1,nf f2,nf f3,nf f4,nf f5,nf f6,nf f7,fun _=>rfl,nf f9,nf f10,nf f11,nf f12⟩
     refine ag.cons ?_ ?_
     ·rintro L a W ⟨aG,a8,b8,bQ,bG,bz,f_,gB,gm,gp,gq,gu,fQ,ha,hB,f0,f1,f2,f3,f4,f5,f6,f7,f8,f9,f10,f11,f12⟩ hN hD K hK;subst ha;have hz:=hB.size;have d3:=f3 (hD 3 (by kernel_rfl));subst d3;have d7:=f7 (hD 7 (by kernel_rfl));subst d7;have d8:=f8 (hD 8 (by kernel_rfl));subst d8;refine Kept.mk ?_;simp only[Act.put,pA,pZ,pS];go_simp;refine hK.out _ _ ?_;exact⟨aG,a8,b8,(.bool true),bG,bz,f_,undef,undef,undef,gq,gu,fQ,by kernel_rfl,hB,nf f0,nf f1,nf f2,nf f3,nf f4,nf f5,nf f6,nf f7,nf f8,fun _=>rfl,nf f10,nf f11,nf f12⟩
     refine ag.cons ?_ ?_
     ·rintro L a W ⟨aG,a8,b8,bQ,bG,bz,f_,gB,gm,gp,gq,gu,fQ,ha,hB,f0,f1,f2,f3,f4,f5,f6,f7,f8,f9,f10,f11,f12⟩ hN hD K hK;subst ha;have hz:=hB.size;have d3:=f3 (hD 3 (by kernel_rfl));subst d3;have d9:=f9 (hD 9 (by kernel_rfl));subst d9;refine Kept.mk ?_;simp only[Act.put,pA,pZ,pS];go_simp;refine hK.out _ _ ?_;exact⟨aG,a8,b8,(.bool true),bG,bz,f_,gB,gm,undef,undef,gu,fQ,by kernel_rfl,hB,nf f0,nf f1,nf f2,nf f3,nf f4,nf f5,nf f6,nf f7,nf f8,nf f9,fun _=>rfl,nf f11,nf f12⟩
     refine ag.cons ?_ ?_
     ·rintro L a W ⟨aG,a8,b8,bQ,bG,bz,f_,gB,gm,gp,gq,gu,fQ,ha,hB,f0,f1,f2,f3,f4,f5,f6,f7,f8,f9,f10,f11,f12⟩ hN hD K hK;subst ha;have hz:=hB.size;have d3:=f3 (hD 3 (by kernel_rfl));subst d3;have d5:=f5 (hD 5 (by kernel_rfl));subst d5;have d10:=f10 (hD 10 (by kernel_rfl));subst d10;refine Kept.mk ?_;simp only[Act.put,pA,pZ,pS];go_simp;refine hK.out _ _ ?_;exact⟨aG,a8,b8,(.bool true),bG,undef,f_,gB,gm,gp,undef,undef,fQ,by kernel_rfl,hB,nf f0,nf f1,nf f2,nf f3,nf f4,nf f5,nf f6,nf f7,nf f8,nf f9,nf f10,fun _=>rfl,nf f12⟩
     refine ag.cons ?_ ?_
     ·rintro L a W ⟨aG,a8,b8,bQ,bG,bz,f_,gB,gm,gp,gq,gu,fQ,ha,hB,f0,f1,f2,f3,f4,f5,f6,f7,f8,f9,f10,f11,f12⟩ hN hD K hK;subst ha;have hz:=hB.size;have d3:=f3 (hD 3 (by kernel_rfl));subst d3;have d11:=f11 (hD 11 (by kernel_rfl));subst d11;refine Kept.mk ?_;simp only[Act.put,pA,pZ,pS];go_simp;refine hK.out _ _ ?_;exact⟨aG,a8,b8,(.bool true),bG,bz,f_,gB,gm,gp,gq,undef,(.bool true),by kernel_rfl,hB,nf f0,nf f1,nf f2,nf f3,nf f4,nf f5,nf f6,nf f7,nf f8,nf f9,nf f10,nf f11,fun _=>rfl⟩
     exact ag.nil
    intro L a w9 hL hI;obtain⟨aG,a8,b8,bQ,bG,bz,f_,gB,gm,gp,gq,gu,fQ,ha,pI,hI⟩:=hI;subst ha;have bT:=hI.2.2.2.2.2.2.2.2.2.2.2.2 (hL 12 (by decide));subst bT;clear hL hI;refine Kept.mk ?_;simp only[Act.put,pA,pZ,pS];have uU:=zA (nK.out.trans (pI.mono (by have:=nK.out.size;omega)));clear pI;go_wp2_with fail
    go_ret;exact⟨by rw[Cm (by rw[R7.out];exact hlt) yZ.out];rfl,uU.out⟩
   obtain⟨b2,hb2⟩:∃b,b=(d.dC != v):=⟨_,rfl⟩
   replace yZ:Hid (wZ p cs k = !b2):=zA (by rw[yZ.out,hb2,Bool.true_and];by_cases hq:d.dC=v <;> simp[hq]);have hqb:(d.dC != v)=b2:=hb2.symm;clear hb2;refine fM (fun xC L a W=>∃aG a8 b8 bQ bG bz f_ gB gm gp gq gu fQ:Value,a=(((((((((((((xC.put (some 32) aG).put (some 33) a8).put (some 34) b8).put (some 35) bQ).put (some 36) bG).put (some 37) bz).put (some 38) f_).put (some 39) gB).put (some 40) gm).put (some 41) gp).put (some 42) gq).put (some 43) gu).put (some 44) fQ)∧yT WA W∧((L 0→aG=(.agg #[.int .i64 d.dC,.slice E1 k1 v1,.slice E2 k2 v2,.slice E3 k3 v3,.bool d.aC]))∧(L 1→a8=(.bool true))∧(L 2→b8=(.bool false))∧(L 3→bQ=(.bool false))∧(L 4→bG=(.pointer (some ⟨wr.heap.size,0,none⟩)))∧(L 5→bz=(.int .i64 d.dC))∧(L 6→f_=(.pointer (some ⟨w.heap.size,0,none⟩)))∧(L 7→gB=(.slice (some ⟨gV,oV,none⟩) n0 c0))∧(L 8→gm=(.int .i64 (k:Int)))∧(L 9→gp=(.pointer (some ⟨gV,oV+k,none⟩)))∧(L 10→gq=(.int .i64 v))∧(L 11→gu=(.bool b2))∧(L 12→fQ=(.bool b2)))) (by kernel_rfl) (by kernel_rfl) ?_ ?_ ?_
   ·exact⟨u32,u33,u34,u35,u36,u37,u38,u39,u40,u41,u42,u43,u44,by kernel_rfl,Below.drew (zD _ _),fun h=>absurd h id,fun h=>absurd h id,fun h=>absurd h id,fun h=>absurd h id,fun h=>absurd h id,fun h=>absurd h id,fun h=>absurd h id,fun h=>absurd h id,fun h=>absurd h id,fun h=>absurd h id,fun h=>absurd h id,fun h=>absurd h id,fun h=>absurd h id⟩
   ·intro Q9;refine ag.cons ?_ ?_
    ·rintro L a W ⟨aG,a8,b8,bQ,bG,bz,f_,gB,gm,gp,gq,gu,fQ,ha,hB,f0,f1,f2,f3,f4,f5,f6,f7,f8,f9,f10,f11,f12⟩ hN hD K hK;subst ha;have hz:=hB.size;have Ul:=ae (j:=0) (af oZ.out hB (by omega)) rfl;have Um:=ae (j:=1) (af oZ.out hB (by omega)) rfl;have Un:=ae (j:=2) (af oZ.out hB (by omega)) rfl;have Uo:=ae (j:=3) (af oZ.out hB (by omega)) rfl;have Ur:=ae (j:=4) (af oZ.out hB (by omega)) rfl;refine Kept.mk ?_;simp only[Act.put,pA,pZ,pS];go_simp;refine hK.out _ _ ?_;exact⟨(.agg #[.int .i64 d.dC,.slice E1 k1 v1,.slice E2 k2 v2,.slice E3 k3 v3,.bool d.aC]),a8,b8,bQ,bG,bz,f_,gB,gm,gp,gq,gu,fQ,by kernel_rfl,hB,fun _=>rfl,nf f1,nf f2,nf f3,nf f4,nf f5,nf f6,nf f7,nf f8,nf f9,nf f10,nf f11,nf f12⟩
    refine ag.cons ?_ ?_
    ·rintro L a W ⟨aG,a8,b8,bQ,bG,bz,f_,gB,gm,gp,gq,gu,fQ,ha,hB,f0,f1,f2,f3,f4,f5,f6,f7,f8,f9,f10,f11,f12⟩ hN hD K hK;subst ha;have hz:=hB.size;have d0:=f0 (hD 0 (by kernel_rfl));subst d0;refine lX rfl 186 _ _ rfl (aJ Tryz.func186 (by kernel_rfl) (by kernel_rfl)) (.agg #[.int .i64 d.dC,.slice E1 k1 v1,.slice E2 k2 v2,.slice E3 k3 v3,.bool d.aC]) (by kernel_rfl) (Uu.out W hB) ?_;rintro e W1 ⟨rfl,hb1⟩;refine⟨_,rfl,hK.out _ _ ?_⟩;exact⟨(.agg #[.int .i64 d.dC,.slice E1 k1 v1,.slice E2 k2 v2,.slice E3 k3 v3,.bool d.aC]),(.bool true),b8,bQ,bG,bz,f_,gB,gm,gp,gq,gu,fQ,by kernel_rfl,hB.trans ((hb1.mono (zC _)).mono hz),nf f0,fun _=>rfl,nf f2,nf f3,nf f4,nf f5,nf f6,nf f7,nf f8,nf f9,nf f10,nf f11,nf f12⟩
    refine ag.cons ?_ ?_
    ·rintro L a W ⟨aG,a8,b8,bQ,bG,bz,f_,gB,gm,gp,gq,gu,fQ,ha,hB,f0,f1,f2,f3,f4,f5,f6,f7,f8,f9,f10,f11,f12⟩ hN hD K hK;subst ha;have hz:=hB.size;have d1:=f1 (hD 1 (by kernel_rfl));subst d1;refine Kept.mk ?_;simp only[Act.put,pA,pZ,pS];go_simp;refine hK.out _ _ ?_;exact⟨aG,(.bool true),(.bool false),bQ,bG,bz,f_,gB,gm,gp,gq,gu,fQ,by kernel_rfl,hB,nf f0,nf f1,fun _=>rfl,nf f3,nf f4,nf f5,nf f6,nf f7,nf f8,nf f9,nf f10,nf f11,nf f12⟩
    refine ag.cons ?_ ?_
    ·rintro L a W ⟨aG,a8,b8,bQ,bG,bz,f_,gB,gm,gp,gq,gu,fQ,ha,hB,f0,f1,f2,f3,f4,f5,f6,f7,f8,f9,f10,f11,f12⟩ hN hD K hK;subst ha;have hz:=hB.size;have d1:=f1 (hD 1 (by kernel_rfl));subst d1;have d2:=f2 (hD 2 (by kernel_rfl));subst d2;refine Kept.mk ?_;simp only[Act.put,pA,pZ,pS];go_simp;refine hK.out _ _ ?_;exact⟨aG,(.bool true),(.bool false),(.bool false),bG,bz,f_,gB,gm,gp,gq,gu,fQ,by kernel_rfl,hB,nf f0,nf f1,nf f2,fun _=>rfl,nf f4,nf f5,nf f6,nf f7,nf f8,nf f9,nf f10,nf f11,nf f12⟩
    refine ag.cons ?_ ?_
    ·rintro L a W ⟨aG,a8,b8,bQ,bG,bz,f_,gB,gm,gp,gq,gu,fQ,ha,hB,f0,f1,f2,f3,f4,f5,f6,f7,f8,f9,f10,f11,f12⟩ hN hD K hK;subst ha;have hz:=hB.size;have d3:=f3 (hD 3 (by kernel_rfl));subst d3;refine Kept.mk ?_;simp only[Act.put,pA,pZ,pS];go_simp;refine hK.out _ _ ?_;exact⟨aG,a8,b8,(.bool false),(.pointer (some ⟨wr.heap.size,0,none⟩)),bz,f_,gB,gm,gp,gq,gu,fQ,by kernel_rfl,hB,nf f0,nf f1,nf f2,nf f3,fun _=>rfl,nf f5,nf f6,nf f7,nf f8,nf f9,nf f10,nf f11,nf f12⟩
    refine ag.cons ?_ ?_
    ·rintro L a W ⟨aG,a8,b8,bQ,bG,bz,f_,gB,gm,gp,gq,gu,fQ,ha,hB,f0,f1,f2,f3,f4,f5,f6,f7,f8,f9,f10,f11,f12⟩ hN hD K hK;subst ha;have hz:=hB.size;have d3:=f3 (hD 3 (by kernel_rfl));subst d3;have d4:=f4 (hD 4 (by kernel_rfl));subst d4;have pg:=ae (j:=0) (af oZ.out hB (by omega)) rfl;refine Kept.mk ?_;simp only[Act.put,pA,pZ,pS];go_simp;refine hK.out _ _ ?_;exact⟨aG,a8,b8,(.bool false),(.pointer (some ⟨wr.heap.size,0,none⟩)),(.int .i64 d.dC),f_,gB,gm,gp,gq,gu,fQ,by kernel_rfl,hB,nf f0,nf f1,nf f2,nf f3,nf f4,fun _=>rfl,nf f6,nf f7,nf f8,nf f9,nf f10,nf f11,nf f12⟩
    refine ag.cons ?_ ?_
    ·rintro L a W ⟨aG,a8,b8,bQ,bG,bz,f_,gB,gm,gp,gq,gu,fQ,ha,hB,f0,f1,f2,f3,f4,f5,f6,f7,f8,f9,f10,f11,f12⟩ hN hD K hK;subst ha;have hz:=hB.size;have d3:=f3 (hD 3 (by kernel_rfl));subst d3;refine Kept.mk ?_;simp only[Act.put,pA,pZ,pS];go_simp;refine hK.out _ _ ?_;exact⟨aG,a8,b8,(.bool false),bG,bz,(.pointer (some ⟨w.heap.size,0,none⟩)),gB,gm,gp,gq,gu,fQ,by kernel_rfl,hB,nf f0,nf f1,nf f2,nf f3,nf f4,nf f5,fun _=>rfl,nf f7,nf f8,nf f9,nf f10,nf f11,nf f12⟩
    refine ag.cons ?_ ?_
    ·rintro L a W ⟨aG,a8,b8,bQ,bG,bz,f_,gB,gm,gp,gq,gu,fQ,ha,hB,f0,f1,f2,f3,f4,f5,f6,f7,f8,f9,f10,f11,f12⟩ hN hD K hK;subst ha;have hz:=hB.size;have d3:=f3 (hD 3 (by kernel_rfl));subst d3;have d6:=f6 (hD 6 (by kernel_rfl));subst d6;have pp:=ae (j:=0) (af EE.out hB (by omega)) rfl;refine Kept.mk ?_;simp only[Act.put,pA,pZ,pS];go_simp;refine hK.out _ _ ?_;exact⟨aG,a8,b8,(.bool false),bG,bz,(.pointer (some ⟨w.heap.size,0,none⟩)),(.slice (some ⟨gV,oV,none⟩) n0 c0),gm,gp,gq,gu,fQ,by kernel_rfl,hB,nf f0,nf f1,nf f2,nf f3,nf f4,nf f5,nf f6,fun _=>rfl,nf f8,nf f9,nf f10,nf f11,nf f12⟩
    refine ag.cons ?_ ?_
    ·rintro L a W ⟨aG,a8,b8,bQ,bG,bz,f_,gB,gm,gp,gq,gu,fQ,ha,hB,f0,f1,f2,f3,f4,f5,f6,f7,f8,f9,f10,f11,f12⟩ hN hD K hK;subst ha;have hz:=hB.size;have d3:=f3 (hD 3 (by kernel_rfl));subst d3;refine Kept.mk ?_;simp only[Act.put,pA,pZ,pS];go_simp;refine hK.out _ _ ?_;exact⟨aG,a8,b8,(.bool false),bG,bz,f_,gB,(.int .i64 (k:Int)),gp,gq,gu,fQ,by kernel_rfl,hB,nf f0,nf f1,nf f2,nf f3,nf f4,nf f5,nf f6,nf f7,fun _=>rfl,nf f9,nf f10,nf f11,nf f12⟩
    refine ag.cons ?_ ?_
    ·rintro L a W ⟨aG,a8,b8,bQ,bG,bz,f_,gB,gm,gp,gq,gu,fQ,ha,hB,f0,f1,f2,f3,f4,f5,f6,f7,f8,f9,f10,f11,f12⟩ hN hD K hK;subst ha;have hz:=hB.size;have d3:=f3 (hD 3 (by kernel_rfl));subst d3;have d7:=f7 (hD 7 (by kernel_rfl));subst d7;have d8:=f8 (hD 8 (by kernel_rfl));subst d8;refine Kept.mk ?_;simp only[Act.put,pA,pZ,pS];go_simp;refine hK.out _ _ ?_;exact⟨aG,a8,b8,(.bool false),bG,bz,f_,(.slice (some ⟨gV,oV,none⟩) n0 c0),(.int .i64 (k:Int)),(.pointer (some ⟨gV,oV+k,none⟩)),gq,gu,fQ,by kernel_rfl,hB,nf f0,nf f1,nf f2,nf f3,nf f4,nf f5,nf f6,nf f7,nf f8,fun _=>rfl,nf f10,nf f11,nf f12⟩
    refine ag.cons ?_ ?_
    ·rintro L a W ⟨aG,a8,b8,bQ,bG,bz,f_,gB,gm,gp,gq,gu,fQ,ha,hB,f0,f1,f2,f3,f4,f5,f6,f7,f8,f9,f10,f11,f12⟩ hN hD K hK;subst ha;have hz:=hB.size;have d3:=f3 (hD 3 (by kernel_rfl));subst d3;have d9:=f9 (hD 9 (by kernel_rfl));subst d9;have pv:=HVA.out W hB;refine Kept.mk ?_;simp only[Act.put,pA,pZ,pS];go_simp;refine hK.out _ _ ?_;exact⟨aG,a8,b8,(.bool false),bG,bz,f_,gB,gm,(.pointer (some ⟨gV,oV+k,none⟩)),(.int .i64 v),gu,fQ,by kernel_rfl,hB,nf f0,nf f1,nf f2,nf f3,nf f4,nf f5,nf f6,nf f7,nf f8,nf f9,fun _=>rfl,nf f11,nf f12⟩
    refine ag.cons ?_ ?_
    ·rintro L a W ⟨aG,a8,b8,bQ,bG,bz,f_,gB,gm,gp,gq,gu,fQ,ha,hB,f0,f1,f2,f3,f4,f5,f6,f7,f8,f9,f10,f11,f12⟩ hN hD K hK;subst ha;have hz:=hB.size;have d3:=f3 (hD 3 (by kernel_rfl));subst d3;have d5:=f5 (hD 5 (by kernel_rfl));subst d5;have d10:=f10 (hD 10 (by kernel_rfl));subst d10;refine Kept.mk ?_;simp only[Act.put,pA,pZ,pS];go_simp;refine hK.out _ _ ?_;exact⟨aG,a8,b8,(.bool false),bG,(.int .i64 d.dC),f_,gB,gm,gp,(.int .i64 v),(.bool b2),fQ,by kernel_rfl,hB,nf f0,nf f1,nf f2,nf f3,nf f4,nf f5,nf f6,nf f7,nf f8,nf f9,nf f10,fun _=>rfl,nf f12⟩
    refine ag.cons ?_ ?_
    ·rintro L a W ⟨aG,a8,b8,bQ,bG,bz,f_,gB,gm,gp,gq,gu,fQ,ha,hB,f0,f1,f2,f3,f4,f5,f6,f7,f8,f9,f10,f11,f12⟩ hN hD K hK;subst ha;have hz:=hB.size;have d3:=f3 (hD 3 (by kernel_rfl));subst d3;have d11:=f11 (hD 11 (by kernel_rfl));subst d11;refine Kept.mk ?_;simp only[Act.put,pA,pZ,pS];go_simp;refine hK.out _ _ ?_;exact⟨aG,a8,b8,(.bool false),bG,bz,f_,gB,gm,gp,gq,(.bool b2),(.bool b2),by kernel_rfl,hB,nf f0,nf f1,nf f2,nf f3,nf f4,nf f5,nf f6,nf f7,nf f8,nf f9,nf f10,nf f11,fun _=>rfl⟩
    exact ag.nil
   intro L a w9 hL hI;obtain⟨aG,a8,b8,bQ,bG,bz,f_,gB,gm,gp,gq,gu,fQ,ha,pI,hI⟩:=hI;subst ha;have bT:=hI.2.2.2.2.2.2.2.2.2.2.2.2 (hL 12 (by decide));subst bT;clear hL hI;refine Kept.mk ?_;simp only[Act.put,pA,pZ,pS];cases b2
   rotate_left
   ·have uU:=zA (nK.out.trans (pI.mono (by have:=nK.out.size;omega)));clear pI;go_wp2_with fail
    go_ret;exact⟨by rw[Cm (by rw[R7.out];exact hlt) yZ.out];rfl,uU.out⟩
   ·have uU:=zA (uO.out.trans (pI.mono (by omega)));clear pI;go_wp2_with fail
    go_roundw
    case rel=>exact⟨k+1,by omega,by go_num,zA (oq HA.out yX.out yZ.out),uU.out⟩
    case measure=>simp[intOf];omega
  ·obtain rfl:k=n5:=(by omega);have HRC:=zA (JQ (p:=p) (cs:=cs) (by rw[R7.out,HL0.out];exact HLEN.out) (by rw[R7.out];exact HA.out));have x2:=ae (j:=2) (af QB.out hbr (by omega)) rfl;have HBR:=zA hbr;clear hbr HA;go_wp2_with fail
   clear x2;go_loopw[49] (fun i wr=>∃k:Nat,k≤n6∧i=.int .i64 k∧Hid (yY (fun _ m=>CW n4 m) ms k)∧Below (w.heap.size+2) W0 wr) (fun i _=>n6-(intOf i).toNat)
   case atStart=>exact⟨0,zL _,rfl,zA (fun j x hj=>by omega),HBR.out⟩
   case round =>
    rename World=>wr
    clear HBR;obtain⟨k,hk,rfl,HA,hbr⟩:=hrel;have Eu:=hbr.size;by_cases hlt:k<n6
    ·have oO:=gW.out.trans (hbr.mono (by omega));obtain⟨hx,g,o,ws,rfl,hg,aW,hcell⟩:=(HS6.out wr oO).at_ hlt;have yX:=zA (zG hx);generalize ms[k]=d at *;have OJ:=zA (fun (W:World) (hW:yT wr W)=>aX.keep aW (w':=W) fun k hk=>hW.block k (by have:=OI.out;have:=oO.size;omega));obtain⟨E1,k1,v1,rfl,-⟩:=iQ aW;have dK:=hcell 0 _ rfl;have eu:=hcell 1 _ rfl;simp only[show aX.size=2 from rfl,←zH,zI,zK] at dK eu;have mZ:yT wr (wr.alloc (.cells #[.int .i64 d.dm,.slice E1 k1 v1] 137)):=(zD _ _).alloc (zC _) _;have ED:=ak wr #[.int .i64 d.dm,.slice E1 k1 v1] 137;have hEA:=af (af QB.out hbr (by omega)) mZ (by omega);have Ox:(wr.alloc (.cells #[.int .i64 d.dm,.slice E1 k1 v1] 137)).heap.size=wr.heap.size+1:=(by simp);go_upto_region 12 with (fail)
     generalize (wr.alloc (.cells #[.int .i64 d.dm,.slice E1 k1 v1] 137))=WA at *;clear dK eu hcell aW;have Uu:=zA (D9 (OJ.out WA mZ) (by have:=OI.out;have:=oO.size;omega));have yZ:=zA (show CW n4 d=(Bg d&&decide (d.dm<(n4:Int))) from rfl);have uO:=zA (hbr.trans (mZ.mono (by omega)));have nK:=zA (oO.trans (mZ.mono (by have:=oO.size;omega)));have g0:=ae (j:=0) ED rfl;have g1:=ae (j:=1) ED rfl;clear mZ hbr oO OJ;generalize Bg d=b1 at *;go_wp2_with fail
     refine Uu.out.mono ?_;rintro e w9 ⟨rfl,jU⟩;have WI:=af ED jU (by omega);have vP:=af hEA jU (by omega);have uU:=zA (nK.out.trans (jU.mono (by have:=nK.out.size;omega)));have HC9:=zA (uO.out.trans (jU.mono (by omega)));clear g0 g1 jU ED hEA;cases b1
     ·replace yZ:Hid (CW n4 d=false):=zA (by rw[yZ.out];rfl);go_wp2_with fail
      go_ret;exact⟨by rw[HRC.out,LY yX.out yZ.out] <;> rfl,uU.out⟩
     have g0:=ae (j:=0) WI rfl;have x0:=ae (j:=0) vP rfl;by_cases ho:d.dm<(n4:Int)
     ·replace yZ:Hid (CW n4 d=true):=zA (by rw[yZ.out,yE ho];rfl);have qo:decide (d.dm≥(n4:Int))=false:=yD (by omega);clear ho;go_wp2_with fail
      go_roundw
      case rel=>exact⟨k+1,by omega,by go_num,zA (oq HA.out yX.out yZ.out),HC9.out⟩
      case measure=>simp[intOf];omega
     ·replace yZ:Hid (CW n4 d=false):=zA (by rw[yZ.out,yD ho];rfl);have qo:decide (d.dm≥(n4:Int))=true:=yE (by omega);clear ho;go_wp2_with fail
      go_ret;exact⟨by rw[HRC.out,LY yX.out yZ.out] <;> rfl,uU.out⟩
    ·obtain rfl:k=n6:=(by omega);have uU:=zA (gW.out.trans (hbr.mono (by omega)));clear hbr;go_wp2_with fail
     go_ret;exact⟨by rw[HRC.out,R9 (by rw[VV.out];exact ajy.out) (by rw[VV.out];exact HA.out)] <;> rfl,uU.out⟩
theorem Ib{w:World}{hi:Nat}{p:aS}{x:dY}{vs us:List Value}(hp:aV.see w hi p vs)(he:bZ.see w hi x us)(cu:hi≤w.heap.size)(nH:dV p≤1048576)(hne:dS x≤1048576) :
  Calls Tryz.prog 38 #[.agg vs.toArray,.agg us.toArray] w fun e w'=>e=.returned (.bool (sV p x))∧yT w w':=by
 obtain⟨i0,jJ,QG,QH,QI⟩:=info_parts sJ;have rM:=zA (fun (W:World) (hW:yT w W)=>aV.keep hp (w':=W) fun k hk=>hW.block k (by omega));have HES:=zA (fun (W:World) (hW:yT w W)=>bZ.keep he (w':=W) fun k hk=>hW.block k (by omega));have HPK:=zA (fun (W:World) (hW:yT w W)=>xZ (rM.out W hW) (zJ cu hW.size) nH);have HOB:=zA (fun (W:World) (hW:yT w W)=>Ec (rM.out W hW) (HES.out W hW) (zJ cu hW.size) nH hne);have HAL:=zA (fun (W:World) (hW:yT w W)=>OH (HES.out W hW) (zJ cu hW.size) hne);have OI:=zA cu;have HNP:=zA nH;have HR:=zA (show sV p x=(dH p&&((nU p x.aA&&xX p x.bJ.length x.ay)&&(nD p x.bJ&&decide ((nX p x.bJ x.bJ.length).Perm (qm x))))) from by unfold sV Cb;cases dH p <;> cases nD p x.bJ <;> cases nU p x.aA <;> cases xX p x.bJ.length x.ay <;> simp);obtain⟨A0,n0,c0,B2,m2,d2,A3,n3,c3,rfl,-⟩:=fH hp;obtain⟨A4,n4,c4,A5,n5,c5,A6,n6,c6,rfl,⟨-,-,s4⟩,⟨-,-,s5⟩,⟨-,-,s6⟩⟩:=iV he;have Ut:=zA s4.1;have HZ:=zA (show n4+(x.bJ.map bV).sum≤1048576 by have:=s4.1;unfold dS at hne;omega);have HS4:=zA (fun (W:World) (hW:yT w W)=>s4.below hW cu);have HWF:=zA (show ∀y∈qm x,DY y from fun y hy=>by
  have hn5:n5≤1048576:=by have:=s5.1;unfold dS at hne;omega
  have Sm:n6≤1048576:=by have:=s6.1;unfold dS at hne;omega
  unfold qm at hy;rcases List.mem_append.1 hy with hy|hy
  ·exact JR s5 hn5 y hy
  ·exact JS s6 Sm y hy)
 have HFL:=zA (show (qm x).length≤4194304 by
  have h1:=qK (cs:=x.aA) x.aA.length (zC _);have h2:=wS (ms:=x.ay) x.ay.length (zC _);rw[List.take_length] at h1 h2;unfold qm;unfold dS at hne;rw[zZ];omega)
 clear hp he s4 s5 s6 hne cu nH HES;generalize qm x=fl at *;generalize sV p x=eb at *;generalize (nU p x.aA&&xX p x.bJ.length x.ay)=b3 at *;generalize x.bJ=gs at *;obtain⟨b1,hpk⟩:∃b,dH p=b:=⟨_,rfl⟩
 rw[hpk] at HPK HR;have HPE:=zA hpk;clear hpk;have hB0:yT w ((w.alloc (.cells #[.slice A0 n0 c0,.int .i64 p.ay,.slice B2 m2 d2,.slice A3 n3 c3] 46)).alloc (.cells #[.slice A4 n4 c4,.slice A5 n5 c5,.slice A6 n6 c6] 40)):=((zD _ _).alloc (zC _) _).alloc (by simp) _;have lG:=af (ak w #[.slice A0 n0 c0,.int .i64 p.ay,.slice B2 m2 d2,.slice A3 n3 c3] 46) ((zD _ _).alloc (zC _) (.cells #[.slice A4 n4 c4,.slice A5 n5 c5,.slice A6 n6 c6] 40)) (by simp);have mX:=ak (w.alloc (.cells #[.slice A0 n0 c0,.int .i64 p.ay,.slice B2 m2 d2,.slice A3 n3 c3] 46)) #[.slice A4 n4 c4,.slice A5 n5 c5,.slice A6 n6 c6] 40;rw[zF] at mX;have hz0:((w.alloc (.cells #[.slice A0 n0 c0,.int .i64 p.ay,.slice B2 m2 d2,.slice A3 n3 c3] 46)).alloc (.cells #[.slice A4 n4 c4,.slice A5 n5 c5,.slice A6 n6 c6] 40)).heap.size=w.heap.size+2:=(by simp);go_enter Tryz.func38,Tryz.ntmps38
 go_upto_region 1 with (fail)
 generalize ((w.alloc (.cells #[.slice A0 n0 c0,.int .i64 p.ay,.slice B2 m2 d2,.slice A3 n3 c3] 46)).alloc (.cells #[.slice A4 n4 c4,.slice A5 n5 c5,.slice A6 n6 c6] 40))=W0 at *;have x8:=zA lG;have QB:=zA mX;have gW:=zA hB0;clear lG mX hB0;have p0:=ae (j:=0) (x8.out) rfl;have p1:=ae (j:=1) (x8.out) rfl;have p2:=ae (j:=2) (x8.out) rfl;have p3:=ae (j:=3) (x8.out) rfl;go_wp2_with fail
 refine (HPK.out _ gW.out).mono ?_;rintro e w1 ⟨rfl,hb1⟩;clear p0 p1 p2 p3;have hz1:=hb1.size;have qE:=zA (hb1.mono (show w.heap.size+2≤W0.heap.size by omega));have iC:=zA (gW.out.trans (hb1.mono (by omega)));clear hb1;cases b1
 ·replace HR:Hid (eb=false):=zA (by rw[HR.out];simp);go_wp2_with fail
  go_ret;exact⟨by rw[HR.out] <;> rfl,iC.out⟩
 have x0:=ae (j:=0) (af QB.out qE.out (by omega)) rfl;by_cases h1:n4<1
 ·replace HR:Hid (eb=false):=zA (by rw[HR.out,show nD p gs=false from by unfold nD;rw[yD (by rw[Ut.out];omega),zX]];simp);have q1:decide ((n4:Int)<1)=true:=yE (by omega);clear h1;go_wp2_with fail
  go_ret;exact⟨by rw[HR.out] <;> rfl,iC.out⟩
 by_cases h2:10<n4
 ·replace HR:Hid (eb=false):=zA (by rw[HR.out,show nD p gs=false from by unfold nD;rw[yD (by rw[Ut.out];omega),zX]];simp);have q1:decide ((n4:Int)<1)=false:=yD (by omega);have q2:decide ((n4:Int) > 10)=true:=yE (by omega);clear h1 h2;go_wp2_with fail
  go_ret;exact⟨by rw[HR.out] <;> rfl,iC.out⟩
 have q1:decide ((n4:Int)<1)=false:=yD (by omega);have q2:decide ((n4:Int) > 10)=false:=yD (by omega);have HN4:=zA (show 1≤n4∧n4≤10 by omega);clear h1 h2;have p0:=ae (j:=0) (af x8.out qE.out (by omega)) rfl;have p1:=ae (j:=1) (af x8.out qE.out (by omega)) rfl;have p2:=ae (j:=2) (af x8.out qE.out (by omega)) rfl;have p3:=ae (j:=3) (af x8.out qE.out (by omega)) rfl;have x1:=ae (j:=1) (af QB.out qE.out (by omega)) rfl;have x2:=ae (j:=2) (af QB.out qE.out (by omega)) rfl;go_wp2_with fail
 refine (HOB.out _ iC.out).mono ?_;rintro e w2 ⟨rfl,hb2⟩;clear p0 p1 p2 p3 x0 x1 x2;have hz2:=hb2.size;have Fh:=zA (qE.out.trans (hb2.mono (by omega)));have lK:=zA (gW.out.trans (Fh.out.mono (by omega)));clear hb2;cases b3
 ·replace HR:Hid (eb=false):=zA (by rw[HR.out];simp);go_wp2_with fail
  go_ret;exact⟨by rw[HR.out] <;> rfl,lK.out⟩
 have x0:=ae (j:=0) (af QB.out (Fh.out.alloc (by omega) (.cells #[] 94)) (by omega)) rfl;go_wp2_with fail
 clear x0 q1 q2;have aqh:=HN4.out.2;go_loopw[5,33] (fun l i wr=>∃(k:Nat) (B:Option Addr) (c':Nat) (ps:List b7),k≤n4∧i=.int .i64 k∧l=.slice B ps.length c'∧Hid (ps=nX p gs k)∧Hid (yY (fun _ g=>wF p g) gs k)∧ps.length≤4*k∧Own wr (w.heap.size+2) wr.heap.size 94 6 B ps.length c' ((ps.map uZ).flatten)∧Below (w.heap.size+2) W0 wr) (fun _ i _=>n4-(intOf i).toNat)
 case atStart =>
  have h9:=(zt w2 6 94).wider (show w.heap.size+2≤w2.heap.size by omega) (zC _);exact⟨0,_,0,[],zL _,rfl,rfl,zA rfl,zA (fun j x hj=>by omega),zL _,by simpa using h9,Fh.out.alloc (by omega) _⟩
 case round =>
  obtain⟨k,B,c',ps,hk,rfl,rfl,HTS,HA,hpl,hown,hbr⟩:=hrel;have Eu:=hbr.size;have oO:=gW.out.trans (hbr.mono (by omega));by_cases hlt:k<n4
  ·obtain⟨hx,g,o,ws,rfl,hg,aW,hcell⟩:=(HS4.out wr oO).at_ hlt;have yX:=zA (zG hx);have hsz:bV gs[k]≤1048576:=zJ (dI bV (zS hx)) (by have:=HZ.out;omega);generalize gs[k]=d at *;have OJ:=zA (fun (W:World) (hW:yT wr W)=>aI.keep aW (w':=W) fun k hk=>hW.block k (by have:=OI.out;have:=oO.size;omega));obtain⟨E2,k2,v2,E4,k4,v4,rfl,-⟩:=gK aW;have dK:=hcell 0 _ rfl;have eu:=hcell 1 _ rfl;have ig:=hcell 2 _ rfl;have jf:=hcell 3 _ rfl;have lS:=hcell 4 _ rfl;simp only[show aI.size=5 from rfl,←zH,zI,zK] at dK eu ig jf lS;have mZ:yT wr (wr.alloc (.cells #[.int .i64 d.ax,.int .i64 d.dE,.slice E2 k2 v2,.int .i64 d.ai,.slice E4 k4 v4] 69)):=(zD _ _).alloc (zC _) _;have ED:=ak wr #[.int .i64 d.ax,.int .i64 d.dE,.slice E2 k2 v2,.int .i64 d.ai,.slice E4 k4 v4] 69;have hOA:=hown.alloc (.cells #[.int .i64 d.ax,.int .i64 d.dE,.slice E2 k2 v2,.int .i64 d.ai,.slice E4 k4 v4] 69);have Ox:(wr.alloc (.cells #[.int .i64 d.ax,.int .i64 d.dE,.slice E2 k2 v2,.int .i64 d.ai,.slice E4 k4 v4] 69)).heap.size=wr.heap.size+1:=(by simp);go_upto_region 7 with (fail)
   generalize (wr.alloc (.cells #[.int .i64 d.ax,.int .i64 d.dE,.slice E2 k2 v2,.int .i64 d.ai,.slice E4 k4 v4] 69))=WA at *;clear dK eu ig jf lS hcell aW hown;have oZ:=zA ED;have Ia:=zA hOA;have O8:=zA (hbr.trans (mZ.mono (by omega)));have nK:=zA (oO.trans (mZ.mono (by have:=oO.size;omega)));have HSA:=zA (fun (W:World) (hW:yT WA W)=>OJ.out W (mZ.trans (hW.mono (by omega))));have Uu:=zA (JM (rM.out WA nK.out) (HSA.out WA (zD _ _)) (by have:=OI.out;have:=nK.out.size;omega) HNP.out hsz);have HSZ:=zA hsz;clear ED hOA mZ hbr oO OJ hsz;obtain⟨b4,hgb⟩:∃b,nJ (dn p d.ax) d=b:=⟨_,rfl⟩
   rw[hgb] at Uu;have HGB:=zA hgb;clear hgb;have p0:=ae (j:=0) (af x8.out O8.out (by omega)) rfl;have p1:=ae (j:=1) (af x8.out O8.out (by omega)) rfl;have p2:=ae (j:=2) (af x8.out O8.out (by omega)) rfl;have p3:=ae (j:=3) (af x8.out O8.out (by omega)) rfl;have g0:=ae (j:=0) (oZ.out) rfl;have g1:=ae (j:=1) (oZ.out) rfl;have g2:=ae (j:=2) (oZ.out) rfl;have g3:=ae (j:=3) (oZ.out) rfl;have g4:=ae (j:=4) (oZ.out) rfl;go_wp2_with fail
   refine Uu.out.mono ?_;rintro e w5 ⟨rfl,hb5⟩;clear p0 p1 p2 p3 g0 g1 g2 g3 g4;have Vf:=hb5.size;have HX5:=zA (O8.out.trans (hb5.mono (by omega)));have Dl:=zA (gW.out.trans (HX5.out.mono (by omega)));have I8:=zA (af oZ.out hb5 (by omega));have MS:=zA (Ia.out.below hb5 (by omega));have WL:=zA (HSA.out w5 hb5);clear hb5;cases b4
   ·have MX:=zA (show wF p d=false by unfold wF;rw[HGB.out];rfl);replace HR:Hid (eb=false):=zA (by rw[HR.out,EF yX.out MX.out];simp);go_wp2_with fail
    go_ret;exact⟨by rw[HR.out] <;> rfl,Dl.out⟩
   have HGM:=zA (VX HPE.out HGB.out);have g3:=ae (j:=3) I8.out rfl;by_cases hst:d.ai=2
   rotate_left
   ·have q1:(d.ai != 2)=true:=(by simp[hst]);have MX:=zA (show wF p d=true by rw[HGM.out,yD hst];rfl);have HTD:=zA (show toldOf p d k=[] from yF hst);clear hst;go_wp2_with fail
    go_roundw
    case rel=>exact⟨k+1,B,c',ps,by omega,by go_num,rfl,zA (by rw[HTS.out,uD yX.out,HTD.out,List.append_nil]),zA (oq HA.out yX.out MX.out),by omega,MS.out.wider (zC _) (by omega),HX5.out⟩
    case measure=>simp[intOf];omega
   have q1:(d.ai != 2)=false:=(by simp[hst]);have HST:=zA hst;have HMY:=zA (OM (rM.out w5 Dl.out) WL.out (by have:=OI.out;have:=Dl.out.size;omega) HNP.out HPE.out (nT HGB.out).1);clear hst g3;obtain⟨b5,hmy⟩:∃b,IE p d=b:=⟨_,rfl⟩
   rw[hmy] at HMY;have HMB:=zA hmy;clear hmy;have p0:=ae (j:=0) (af x8.out HX5.out (by omega)) rfl;have p1:=ae (j:=1) (af x8.out HX5.out (by omega)) rfl;have p2:=ae (j:=2) (af x8.out HX5.out (by omega)) rfl;have p3:=ae (j:=3) (af x8.out HX5.out (by omega)) rfl;have g0:=ae (j:=0) (I8.out) rfl;have g1:=ae (j:=1) (I8.out) rfl;have g2:=ae (j:=2) (I8.out) rfl;have g3:=ae (j:=3) (I8.out) rfl;have g4:=ae (j:=4) (I8.out) rfl;go_wp2_with fail
   refine HMY.out.mono ?_;rintro e w6 ⟨rfl,qB⟩;clear p0 p1 p2 p3 g0 g1 g2 g3 g4;have hz6:=qB.size;have HX6:=zA (HX5.out.trans (qB.mono (by omega)));have EL:=zA (gW.out.trans (HX6.out.mono (by omega)));have I_:=zA (af I8.out qB (by omega));have QC:=zA (MS.out.below qB (by omega));have HSS:=zA (aI.keep WL.out (w':=w6) fun q hq=>qB.block q (by have:=OI.out;have:=Dl.out.size;omega));clear qB;cases b5
   ·have MX:=zA (show wF p d=false by rw[HGM.out,HMB.out,yE HST.out];rfl);replace HR:Hid (eb=false):=zA (by rw[HR.out,EF yX.out MX.out];simp);go_wp2_with fail
    go_ret;exact⟨by rw[HR.out] <;> rfl,EL.out⟩
   have MX:=zA (show wF p d=true by rw[HGM.out,HMB.out,Bool.or_true]);have HTD:=zA (show toldOf p d k=jR p d k from yG HST.out);have HLN:=zA (BC (n:=k) HPE.out HGB.out);have HPL:=zA (xk (n:=(k:Int)) (rM.out w6 EL.out) HSS.out (by have:=OI.out;have:=EL.out.size;omega) HNP.out HSZ.out HPE.out HGB.out);rw[HTD.out] at HLN;generalize jR p d k=nl at *;have hnl:=HLN.out;have p0:=ae (j:=0) (af x8.out HX6.out (by omega)) rfl;have p1:=ae (j:=1) (af x8.out HX6.out (by omega)) rfl;have p2:=ae (j:=2) (af x8.out HX6.out (by omega)) rfl;have p3:=ae (j:=3) (af x8.out HX6.out (by omega)) rfl;have g0:=ae (j:=0) (I_.out) rfl;have g1:=ae (j:=1) (I_.out) rfl;have g2:=ae (j:=2) (I_.out) rfl;have g3:=ae (j:=3) (I_.out) rfl;have g4:=ae (j:=4) (I_.out) rfl;go_wp2_with fail
   refine HPL.out.mono ?_;rintro e w7 ⟨B7,c7,rfl,TJ,MO⟩;clear p0 p1 p2 p3 g0 g1 g2 g3 g4;have hz7:=MO.size;have HX7:=zA (HX6.out.trans (MO.mono (by omega)));have hO7:=QC.out.below MO (by omega);clear MO;go_wp2_with (at_builtin;refine dB rfl (.tmp 49) (.tmp 53) _ rfl (w.heap.size+2) _ 94 i0 _ 6 48 Tryz.underlying90 jJ QG QH QI rfl (by omega) B ps.length c' _ rfl hO7 _ B7 nl.length c7 _ rfl TJ.seen (Yc nl) (by simp only[maxLen];omega) (by omega) (by omega) ?_;intro B8 c8 w8 QE QD)
   go_roundw
   case rel=>exact⟨k+1,B8,c8,ps++nl,by omega,by go_num,by simp,zA (by rw[HTS.out,uD yX.out,HTD.out]),zA (oq HA.out yX.out MX.out),by rw[zZ];omega,by rw[List.map_append,List.flatten_append,zZ];exact QE,HX7.out.trans QD⟩
   case measure=>simp[intOf];omega
  ·obtain rfl:k=n4:=(by omega);have Uk:=zA (OO (p:=p) (gs:=gs) (by rw[Ut.out];exact HN4.out) (by rw[Ut.out];exact HA.out));have HTE:=zA (show nX p gs gs.length=ps by rw[HTS.out,Ut.out]);replace HR:Hid (eb=decide (ps.Perm fl)):=zA (by rw[HR.out,Uk.out,HTE.out];simp);have Ri:=zA (show ∀y∈ps,DY y by rw[←HTE.out];exact JU HPE.out (by rw[Ut.out];have:=HN4.out;omega) (QP Uk.out));have HOW:=zA hown;have HXR:=zA hbr;have HBR:=zA oO;have hp4:ps.length≤4194304:=by have:=HN4.out;omega
   have x0:=ae (j:=0) (af QB.out hbr (by omega)) rfl;have x1:=ae (j:=1) (af QB.out hbr (by omega)) rfl;have x2:=ae (j:=2) (af QB.out hbr (by omega)) rfl;clear hown hbr oO;go_wp2_with fail
   refine (HAL.out _ HBR.out).mono ?_;rintro e w8 ⟨B8,c8,rfl,QE,QD⟩;clear x0 x1 x2;have hz8:=QD.size;have HX8:=zA (HXR.out.trans (QD.mono (by omega)));have HSM:=zA (LX (hi:=w8.heap.size) (c:=c') (cB:=c8) ((rowP ((HOW.out.below QD (zC _)).wider (zC _) hz8) Ri.out).seen fun g hg=>hg.2) ((rowP QE HWF.out).seen fun g hg=>hg.2) (zC _) hp4 HFL.out);clear QD QE;go_wp2_with fail
   refine HSM.out.mono ?_;rintro e w9 ⟨rfl,jU⟩;have uU:=zA (gW.out.trans ((HX8.out.trans (jU.mono (by omega))).mono (by omega)));clear jU;go_wp2_with fail
   go_ret;exact⟨by rw[HR.out] <;> rfl,uU.out⟩
end Go.Proofs.YtjcoapnggojpdaaGreatDoor
