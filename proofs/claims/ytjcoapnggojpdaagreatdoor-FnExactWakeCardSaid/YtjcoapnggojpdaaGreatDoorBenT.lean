/- Texts of the proof, laid compactly. -/
import Derived.Test.YtjcoapnggojpdaaGreatDoorOpGot
import Derived.Test.YtjcoapnggojpdaaGreatDoorGorOver
set_option maxHeartbeats 4000000
set_option maxRecDepth 100000
namespace Go.Proofs.YtjcoapnggojpdaaGreatDoor
set_option linter.unusedSimpArgs false
set_option linter.unusedVariables false
open Go.RowKit
theorem uz{p:aS}{hi bb:Nat}{l:PL}{F:Nat→Prop}{x:dY}{w:World}(h:HB p hi bb l F x w)(hsz:dS x≤1048600){k:Nat}(hk:k<x.bJ.length){i:iK}(hi9:(Lit.int .i64 i.d_).wf=true∧(Lit.int .i64 i.iq).wf=true∧(Lit.int .i64 i.bU).wf=true) :
  Calls Tryz.prog 162 #[.pointer (some ⟨bb,0,none⟩),.int .i64 (k:Int),.agg #[.int .i64 i.d_,.int .i64 i.iq,.int .i64 i.bU,.bool i.lM]] w fun e w'=>e=.returned (.tuple #[])∧kU p hi bb l F w {x with bJ:=x.bJ.set k (dW x.bJ[k] i)} w':=by
 have Pg:=rO hsz hk;obtain⟨g,n0,c0,A1,n1,c1,A2,n2,c2,E2,k2,e2,E4,k4,e4,⟨⟨hbl,BG,hl0,hkn,Rk,hl2⟩,b1,⟨q0,q1,q2,q3,q4⟩,hfree⟩,aW,hput,Ro,hst⟩:=h.Eo hk;have hw3:=mF aW;have jJ:(0:Int)≤(k:Int):=(by omega);have u_:(k:Int)<(n0:Int):=(by omega);generalize hgr:x.bJ[k]=gr at *;have je:Below w.heap.size w (w.alloc (.cells #[.int .i64 i.d_,.int .i64 i.iq,.int .i64 i.bU,.bool i.lM] 171)):=(zD _ _).alloc (zC _) _;have iO:=ak w #[.int .i64 i.d_,.int .i64 i.iq,.int .i64 i.bU,.bool i.lM] 171;have OA:w.heap.size+1=(w.alloc (.cells #[.int .i64 i.d_,.int .i64 i.iq,.int .i64 i.bU,.bool i.lM] 171)).heap.size:=(by simp);go_enter Tryz.func162,Tryz.ntmps162
 go_upto_region 1 with (fail)
 generalize (w.alloc (.cells #[.int .i64 i.d_,.int .i64 i.iq,.int .i64 i.bU,.bool i.lM] 171))=w1 at *;generalize o6:w.heap.size=bi at *;have xe:bi<w1.heap.size:=(by omega);have vI:bb<w1.heap.size:=(by omega);have X8:g<w1.heap.size:=(by omega);have Gv:=l5 je;have Jb:=qy je;have xG:=ed iO;refine dL [some 6,some 7,some 8,some 9,some 10,some 11,some 12,some 13,some 14,some 15,some 16,some 17,some 18,some 19,some 20,some 21] [SP.eq (.pointer (some ⟨bb,0,none⟩)),SP.eq (.pointer (some ⟨bb,0,none⟩)),SP.eq (.pointer (some ⟨bb,4,none⟩)),SP.eq (.pointer (some ⟨bb,4,none⟩)),SP.eq (.slice (some ⟨g,0,none⟩) n0 c0),SP.eq (.int .i64 ((k:Int))),SP.eq (.pointer (some ⟨bb,0,none⟩)),SP.eq (.pointer (some ⟨bb,0,none⟩)),SP.eq (.pointer (some ⟨bb,4,none⟩)),SP.eq (.pointer (some ⟨bb,4,none⟩)),SP.eq (.slice (some ⟨g,0,none⟩) n0 c0),SP.eq (.int .i64 ((k:Int))),SP.eq (.pointer (some ⟨g,k*5,none⟩)),SP.eq (.agg #[.int .i64 gr.ax,.int .i64 gr.dE,.slice E2 k2 e2,.int .i64 gr.ai,.slice E4 k4 e4]),SP.eq (.agg #[.int .i64 i.d_,.int .i64 i.iq,.int .i64 i.bU,.bool i.lM]),SP.Eo (dW gr i)] (by kernel_rfl) (by kernel_rfl) (by kernel_rfl) (fun Q9 => ?_) ?_
 ·refine fc (.plain _ rfl rfl ?_) <| fc (.plain _ rfl rfl ?_) <| fc (.plain _ rfl rfl ?_) <| fc (.plain _ rfl rfl ?_) <| fc (.plain _ rfl rfl ?_) <| fc (.plain _ rfl rfl ?_) <| fc (.plain _ rfl rfl ?_) <| fc (.plain _ rfl rfl ?_) <| fc (.plain _ rfl rfl ?_) <| fc (.plain _ rfl rfl ?_) <| fc (.plain _ rfl rfl ?_) <| fc (.plain _ rfl rfl ?_) <| fc (.plain _ rfl rfl ?_) <| fc (.plain _ rfl rfl ?_) <| fc (.plain _ rfl rfl ?_) <| fc (.call rfl 241 rfl (aJ Tryz.func241 (by kernel_rfl) (by kernel_rfl)) ?c15) <| fn
  case c15 =>
   intro V lo up W hB hD hH ρ hR;have Ug:=(hR.at_ 13 _ rfl).trans (SP.eP (hD 13 (by kernel_rfl)).p);have WG:=(hR.at_ 14 _ rfl).trans (SP.eP (hD 14 (by kernel_rfl)).p);simp only[yS,yQ,yR,Ug,WG];have C9:=je.trans (hB.mono (by omega));refine (uQ (aI.keep aW fun b hb=>C9.block b hb) (by have:=hB.size;omega) (by omega) hi9).mono ?_;rintro e W1 hC;obtain⟨J2,l2,f2,J4,l4,f4,rfl,H,hb1⟩:=jO hC hw3.1 hw3.2.1 hw3.2.2;exact⟨_,rfl,hb1,⟨J2,l2,f2,J4,l4,f4,rfl,H⟩⟩
  all_goals
   intro V lo up W hB hD hH ρ hR;have s0:ρ (.tmp 0)=(.pointer (some ⟨bb,0,none⟩)):=hR.off 0 (by kernel_rfl);have s1:ρ (.tmp 1)=(.int .i64 ((k:Int))):=hR.off 1 (by kernel_rfl);have s5:ρ (.tmp 5)=(.pointer (some ⟨bi,0,none⟩)):=hR.off 5 (by kernel_rfl);try have e0:=(hR.at_ 0 _ rfl).trans (SP.eP (hD 0 (by decide +kernel)).p)
   try have e1:=(hR.at_ 1 _ rfl).trans (SP.eP (hD 1 (by decide +kernel)).p)
   try have e2:=(hR.at_ 2 _ rfl).trans (SP.eP (hD 2 (by decide +kernel)).p)
   try have e3:=(hR.at_ 3 _ rfl).trans (SP.eP (hD 3 (by decide +kernel)).p)
   try have e6:=(hR.at_ 6 _ rfl).trans (SP.eP (hD 6 (by decide +kernel)).p)
   try have e7:=(hR.at_ 7 _ rfl).trans (SP.eP (hD 7 (by decide +kernel)).p)
   try have e8:=(hR.at_ 8 _ rfl).trans (SP.eP (hD 8 (by decide +kernel)).p)
   try have e9:=(hR.at_ 9 _ rfl).trans (SP.eP (hD 9 (by decide +kernel)).p)
   try have XU:=(hR.at_ 10 _ rfl).trans (SP.eP (hD 10 (by decide +kernel)).p)
   try have e11:=(hR.at_ 11 _ rfl).trans (SP.eP (hD 11 (by decide +kernel)).p)
   try have e12:=(hR.at_ 12 _ rfl).trans (SP.eP (hD 12 (by decide +kernel)).p)
   have hc:=hR.const;have r1:=l5 hB;go_simp
 ·intro V lo up W1 lN hG hA;have v4:=SP.eP (hG 4 (by decide)).p;have v5:=SP.eP (hG 5 (by decide)).p;obtain⟨J2,l2,f2,J4,l4,f4,GK,LP⟩:=SP.Kw (hG 15 (by decide)).p;refine Kept.mk ?_;simp only[oD,Act.put,pA,pZ,pS,yB,yC,yH,Nat.reduceAdd,List.drop_succ_cons,List.drop_zero,v4,v5,GK];clear hA v4 v5 GK;have r1:=l5 lN;have z1:=qy lN;go_wp2_with fail
  refine bodyPost_end (v := .tuple #[]) ?_ rfl ?_
  ·simp[results,Tryz.results162,go_sem]
  obtain⟨Gy,hown,uJ⟩:=LP.iy;subst o6;exact⟨rfl,hput W1 (dW gr i) _ _ _ _ _ Gy (je.trans (lN.mono (by omega))) hown fun b hb=>⟨by have:=(uJ b hb).1;have:=(hG 15 (by decide)).b0;omega,(uJ b hb).2⟩⟩
theorem DC{p:aS}{hi bb:Nat}{l:PL}{F:Nat→Prop}{x:dY}{w:World}(h:HB p hi bb l F x w)(hsz:dS x≤1048600){k:Nat}(hk:k<x.bJ.length){why:Int}(hi9:(Lit.int .i64 why).wf=true) :
  Calls Tryz.prog 129 #[.pointer (some ⟨bb,0,none⟩),.int .i64 (k:Int),.int .i64 why] w fun e w'=>e=.returned (.tuple #[])∧kU p hi bb l F w {x with bJ:=x.bJ.set k (overR x.bJ[k] why)} w':=by
 have Pg:=rO hsz hk;obtain⟨g,n0,c0,A1,n1,c1,A2,n2,c2,E2,k2,e2,E4,k4,e4,⟨⟨hbl,BG,hl0,hkn,Rk,hl2⟩,b1,⟨q0,q1,q2,q3,q4⟩,hfree⟩,aW,hput,Ro,hst⟩:=h.Eo hk;have hw3:=mF aW;have jJ:(0:Int)≤(k:Int):=(by omega);have u_:(k:Int)<(n0:Int):=(by omega);generalize hgr:x.bJ[k]=gr at *;go_enter Tryz.func129,Tryz.ntmps129
 go_upto_region 0 with (fail)
 refine dL [some 6,some 7,some 8,some 9,some 10,some 11,some 12,some 13,some 14,some 15,some 16,some 17,some 18,some 19,some 20,some 21] [SP.eq (.pointer (some ⟨bb,0,none⟩)),SP.eq (.pointer (some ⟨bb,0,none⟩)),SP.eq (.pointer (some ⟨bb,4,none⟩)),SP.eq (.pointer (some ⟨bb,4,none⟩)),SP.eq (.slice (some ⟨g,0,none⟩) n0 c0),SP.eq (.int .i64 ((k:Int))),SP.eq (.pointer (some ⟨bb,0,none⟩)),SP.eq (.pointer (some ⟨bb,0,none⟩)),SP.eq (.pointer (some ⟨bb,4,none⟩)),SP.eq (.pointer (some ⟨bb,4,none⟩)),SP.eq (.slice (some ⟨g,0,none⟩) n0 c0),SP.eq (.int .i64 ((k:Int))),SP.eq (.pointer (some ⟨g,k*5,none⟩)),SP.eq (.agg #[.int .i64 gr.ax,.int .i64 gr.dE,.slice E2 k2 e2,.int .i64 gr.ai,.slice E4 k4 e4]),SP.eq (.int .i64 why),SP.Eo (overR gr why)] (by kernel_rfl) (by kernel_rfl) (by kernel_rfl) (fun Q9 => ?_) ?_
 ·refine fc (.plain _ rfl rfl ?_) <| fc (.plain _ rfl rfl ?_) <| fc (.plain _ rfl rfl ?_) <| fc (.plain _ rfl rfl ?_) <| fc (.plain _ rfl rfl ?_) <| fc (.plain _ rfl rfl ?_) <| fc (.plain _ rfl rfl ?_) <| fc (.plain _ rfl rfl ?_) <| fc (.plain _ rfl rfl ?_) <| fc (.plain _ rfl rfl ?_) <| fc (.plain _ rfl rfl ?_) <| fc (.plain _ rfl rfl ?_) <| fc (.plain _ rfl rfl ?_) <| fc (.plain _ rfl rfl ?_) <| fc (.plain _ rfl rfl ?_) <| fc (.call rfl 215 rfl (aJ Tryz.func215 (by kernel_rfl) (by kernel_rfl)) ?c15) <| fn
  case c15 =>
   intro V lo up W hB hD hH ρ hR;have Ug:=(hR.at_ 13 _ rfl).trans (SP.eP (hD 13 (by kernel_rfl)).p);have WG:=(hR.at_ 14 _ rfl).trans (SP.eP (hD 14 (by kernel_rfl)).p);simp only[yS,yQ,yR,Ug,WG];have C9:=hB;refine (I9 (aI.keep aW fun b hb=>C9.block b hb) (by have:=hB.size;omega) (by omega) hi9).mono ?_;rintro e W1 hC;obtain⟨J2,l2,f2,J4,l4,f4,rfl,H,hb1⟩:=jO hC (by rw[(oI _ _).1];exact hw3.1) (by rw[(oI _ _).2.1];exact hw3.2.1) (oI _ _).2.2;exact⟨_,rfl,hb1,⟨J2,l2,f2,J4,l4,f4,rfl,H⟩⟩
  all_goals
   intro V lo up W hB hD hH ρ hR;have s0:ρ (.tmp 0)=(.pointer (some ⟨bb,0,none⟩)):=hR.off 0 (by kernel_rfl);have s1:ρ (.tmp 1)=(.int .i64 ((k:Int))):=hR.off 1 (by kernel_rfl);have s2:ρ (.tmp 2)=(.int .i64 why):=hR.off 2 (by kernel_rfl);try have e0:=(hR.at_ 0 _ rfl).trans (SP.eP (hD 0 (by decide +kernel)).p)
   try have e1:=(hR.at_ 1 _ rfl).trans (SP.eP (hD 1 (by decide +kernel)).p)
   try have e2:=(hR.at_ 2 _ rfl).trans (SP.eP (hD 2 (by decide +kernel)).p)
   try have e3:=(hR.at_ 3 _ rfl).trans (SP.eP (hD 3 (by decide +kernel)).p)
   try have e6:=(hR.at_ 6 _ rfl).trans (SP.eP (hD 6 (by decide +kernel)).p)
   try have e7:=(hR.at_ 7 _ rfl).trans (SP.eP (hD 7 (by decide +kernel)).p)
   try have e8:=(hR.at_ 8 _ rfl).trans (SP.eP (hD 8 (by decide +kernel)).p)
   try have e9:=(hR.at_ 9 _ rfl).trans (SP.eP (hD 9 (by decide +kernel)).p)
   try have XU:=(hR.at_ 10 _ rfl).trans (SP.eP (hD 10 (by decide +kernel)).p)
   try have e11:=(hR.at_ 11 _ rfl).trans (SP.eP (hD 11 (by decide +kernel)).p)
   try have e12:=(hR.at_ 12 _ rfl).trans (SP.eP (hD 12 (by decide +kernel)).p)
   have hc:=hR.const;have r1:=l5 hB;go_simp
 ·intro V lo up W1 lN hG hA;have v4:=SP.eP (hG 4 (by decide)).p;have v5:=SP.eP (hG 5 (by decide)).p;obtain⟨J2,l2,f2,J4,l4,f4,GK,LP⟩:=SP.Kw (hG 15 (by decide)).p;refine Kept.mk ?_;simp only[oD,Act.put,pA,pZ,pS,yB,yC,yH,Nat.reduceAdd,List.drop_succ_cons,List.drop_zero,v4,v5,GK];clear hA v4 v5 GK;have r1:=l5 lN;have z1:=qy lN;go_wp2_with fail
  refine bodyPost_end (v := .tuple #[]) ?_ rfl ?_
  ·simp[results,Tryz.results129,go_sem]
  obtain⟨Gy,hown,uJ⟩:=LP.iy;exact⟨rfl,hput W1 (overR gr why) _ _ _ _ _ Gy (lN) hown fun b hb=>⟨by have:=(uJ b hb).1;have:=(hG 15 (by decide)).b0;omega,(uJ b hb).2⟩⟩
theorem LG{p:aS}{hi bb:Nat}{l:PL}{F:Nat→Prop}{x:dY}{w:World}(h:HB p hi bb l F x w)(hsz:dS x≤1048600)(n:Int) :
  Calls Tryz.prog 124 #[.pointer (some ⟨bb,0,none⟩),.int .i64 n] w fun e w'=>e=.returned (.tuple #[])∧kU p hi bb l F w (pM n x) w':=by
 have hlt:=h.lt;have hle:x.aA.length≤1048600:=by unfold dS at hsz;omega
 have h0:=h;obtain⟨-,-,A0,n0,c0,A1,n1,c1,A2,n2,c2,hb,hE⟩:=h0;have Rk:=hE.lens.2.1;have b1:=ed hb;have Zm:n1≤1048600:=(by omega);have hH:=zA h;clear h hE hb;go_enter Tryz.func124,Tryz.ntmps124
 go_wp2_with fail
 go_loopw[12] (fun i wr=>∃k:Nat,k≤n1∧i=.int .i64 k∧kU p hi bb l F w (nP n x k) wr) (fun i _=>n1-(intOf i).toNat)
 case atStart=>exact⟨0,zL _,rfl,by rw[Df];exact kU.of hH.out (zD _ _)⟩
 case round =>
  obtain⟨k,hk,rfl,zf,Fr,hhr,hFr⟩:=hrel;clear b1;by_cases Ez:k<n1
  ·have En:k<x.aA.length:=(by omega);have hce:=E6 (n:=n) En;have hst:=Dh (n:=n) En;have hcz:=BR hsz En;have hkt:k<(nP n x k).aA.length:=by rw[E5];exact En
   obtain⟨a0,m0,d0,g,m1,d1,a2,m2,d2,Gi,E1,k1,e1,E2,k2,e2,E3,k3,e3,⟨⟨hbl,BG,hm1,hkm⟩,b1,⟨q0,q1,q2,q3,q4⟩,hfree⟩,hel,ve,hput⟩:=hhr.chan hkt;rw[hce hkt] at hel q0 q4;rw[E5] at hm1;generalize x.aA[k]=c at *;obtain⟨G1,j1,g1,H1,G2,j2,g2,H2,G3,j3,g3,H3,Bv,r0,⟨r1,Uh⟩,⟨r2,r2F⟩,⟨r3,r3F⟩,d12,d13,d23⟩:=unC hel;injection Bv with _ Bv;injection Bv with h1 Bv;injection Bv with h2 Bv;injection Bv with h3 _
   injection h1 with p1 p2 p3;injection h2 with p4 p5 p6;injection h3 with p7 p8 p9
   subst p1 p2 p3 p4 p5 p6 p7 p8 p9;have s2:=r2.seen (hi:=wr.heap.size) fun b hb=>ve b (r2F b hb)
   have s3:=r3.seen (hi:=wr.heap.size) fun b hb=>ve b (r3F b hb)
   have hl2:k2≤1048600:=by have:=s2.1;unfold dN at hcz;omega
   have hl3:k3≤1048600:=by have:=s3.1;unfold dN at hcz;omega
   have jJ:(0:Int)≤(k:Int):=(by omega);have u_:(k:Int)<(n1:Int):=(by omega);have hi2:(k:Int)<(m1:Int):=(by omega);clear hel hhr;go_upto_region 4 with (fail)
   refine Ea [some 22,some 23,some 24,some 25,some 26,some 27,some 28,some 29,some 30,some 31,some 32,some 33,some 34,some 35,some 36,some 37,none,some 38,some 39,none] 14 [1] [SP.eq (.pointer (some ⟨g,k*5,none⟩)),SP.eq (.pointer (some ⟨g,k*5,none⟩)),SP.eq (.pointer (some ⟨g,k*5,none⟩)),SP.eq (.pointer (some ⟨g,k*5,none⟩)),SP.eq (.pointer (some ⟨g,k*5+2,none⟩)),SP.eq (.slice E2 k2 e2),SP.eq (.int .i64 n),SP.row 49 3 (iZ n c.dh).length (((iZ n c.dh).map wc).flatten),SP.eq (.pointer (some ⟨g,k*5,none⟩)),SP.eq (.pointer (some ⟨g,k*5,none⟩)),SP.eq (.pointer (some ⟨g,k*5+3,none⟩)),SP.eq (.slice E3 k3 e3),SP.eq (.int .i64 n),SP.row 49 3 (iZ n c.dG).length (((iZ n c.dG).map wc).flatten)] (fun _=>(.pointer (some ⟨g,k*5,none⟩))) (by kernel_rfl) (by kernel_rfl) (by kernel_rfl) ?_ (fun Q9 => ?_) ?_
   ·intro j o hj ho;have hj2:j=1:=by simpa using hj
    subst hj2;all_goals
     obtain rfl:=zW ho;refine⟨by decide,rfl,rfl,fun ρ W ajb hc => ?_⟩;have s5:ρ (.tmp 5)=(.pointer (some ⟨g,k*5,none⟩)):=ajb 5 (by kernel_rfl);go_simp
   ·refine fc (.plain _ rfl rfl ?_) <| fc (.plain _ rfl rfl ?_) <| fc (.plain _ rfl rfl ?_) <| fc (.plain _ rfl rfl ?_) <| fc (.plain _ rfl rfl ?_) <| fc (.plain _ rfl rfl ?_) <| fc (.plain _ rfl rfl ?_) <| fc (.call rfl 213 rfl (aJ Tryz.func213 (by kernel_rfl) (by kernel_rfl)) ?c7) <| fc (.plain _ rfl rfl ?_) <| fc (.plain _ rfl rfl ?_) <| fc (.plain _ rfl rfl ?_) <| fc (.plain _ rfl rfl ?_) <| fc (.plain _ rfl rfl ?_) <| fc (.call rfl 213 rfl (aJ Tryz.func213 (by kernel_rfl) (by kernel_rfl)) ?c13) <| fn
    case c7 =>
     intro V lo up W hB hD hH ρ hR;have e5:=(hR.at_ 5 _ rfl).trans (SP.eP (hD 5 (by kernel_rfl)).p);have e6:=(hR.at_ 6 _ rfl).trans (SP.eP (hD 6 (by kernel_rfl)).p);simp only[yS,yQ,yR,e5,e6];refine (Ai (g:=n) (s2.below hB (zC _)) hB.size hl2).mono ?_;rintro e W1 ⟨B9,c9,rfl,iy,jU⟩;exact⟨_,rfl,jU,⟨B9,c9,rfl,iy⟩⟩
    case c13 =>
     intro V lo up W hB hD hH ρ hR;have e11:=(hR.at_ 11 _ rfl).trans (SP.eP (hD 11 (by kernel_rfl)).p);have e12:=(hR.at_ 12 _ rfl).trans (SP.eP (hD 12 (by kernel_rfl)).p);simp only[yS,yQ,yR,e11,e12];refine (Ai (g:=n) (s3.below hB (zC _)) hB.size hl3).mono ?_;rintro e W1 ⟨B9,c9,rfl,iy,jU⟩;exact⟨_,rfl,jU,⟨B9,c9,rfl,iy⟩⟩
    all_goals
     intro V lo up W hB hD hH ρ hR;have s1:ρ (.tmp 1)=(.int .i64 n):=hR.off 1 (by kernel_rfl);have s5:ρ (.tmp 5)=(.pointer (some ⟨g,k*5,none⟩)):=hR.off 5 (by kernel_rfl);try have e2:=(hR.at_ 2 _ rfl).trans (SP.eP (hD 2 (by decide +kernel)).p)
     try have e3:=(hR.at_ 3 _ rfl).trans (SP.eP (hD 3 (by decide +kernel)).p)
     try have e4:=(hR.at_ 4 _ rfl).trans (SP.eP (hD 4 (by decide +kernel)).p)
     try have e8:=(hR.at_ 8 _ rfl).trans (SP.eP (hD 8 (by decide +kernel)).p)
     try have e9:=(hR.at_ 9 _ rfl).trans (SP.eP (hD 9 (by decide +kernel)).p)
     try have XU:=(hR.at_ 10 _ rfl).trans (SP.eP (hD 10 (by decide +kernel)).p)
     have hc:=hR.const;have r1:=l5 hB;go_simp
   ·intro V lo up W1 lN hG X6 hA;obtain⟨D7,f7,hv7,TJ⟩:=SP.acX (hG 7 (by decide) (by decide)).p;obtain⟨D13,f13,ajc,aeh⟩:=SP.acX (hG 13 (by decide) (by decide)).p;have v0:=SP.eP (hG 0 (by decide) (by decide)).p;have v1:=X6 1 (by decide);have r9:=l5 lN;have z9:=qy lN;refine⟨[.val (.pointer (some ⟨g,k*5,none⟩)),.val (.pointer (some ⟨g,k*5+2,none⟩)),.eff (fun W=>W.setCell ⟨g,k*5+2,none⟩ (.slice D7 (iZ n c.dh).length f7)),.val (.pointer (some ⟨g,k*5,none⟩)),.val (.pointer (some ⟨g,k*5+3,none⟩)),.eff (fun W=>W.setCell ⟨g,k*5+3,none⟩ (.slice D13 (iZ n c.dG).length f13))],rfl,fun i o hi ho ρ hR => ?_,?_⟩
    ·have hi2:i=0∨i=1∨i=2∨i=3∨i=4∨i=5:=by simp only[yB,yC] at hi;omega
     rcases hi2 with rfl|rfl|rfl|rfl|rfl|rfl
     ·obtain rfl:=zW ho;have e0:=(hR.at_ 0 _ (by decide +kernel) rfl).trans v0;replace e0:ρ (.tmp 22)=_:=e0;have hc:=hR.const;simp only[List.getElem_cons_zero,List.getElem_cons_succ,Cf.ok,LJ,List.take_succ_cons,List.take_zero,List.foldl_cons,List.foldl_nil,Cf.w];go_simp
     ·obtain rfl:=zW ho;have WG:ρ (.tmp 36)=(.pointer (some ⟨g,k*5,none⟩)):=hR.at_ 14 _ (by decide +kernel) rfl;have hc:=hR.const;simp only[List.getElem_cons_zero,List.getElem_cons_succ,Cf.ok,LJ,List.take_succ_cons,List.take_zero,List.foldl_cons,List.foldl_nil,Cf.w];go_simp
     ·obtain rfl:=zW ho;have e7:=(hR.at_ 7 _ (by decide +kernel) rfl).trans hv7;replace e7:ρ (.tmp 29)=_:=e7;have e15:ρ (.tmp 37)=(.pointer (some ⟨g,k*5+2,none⟩)):=hR.at_ 15 _ (by decide +kernel) rfl;have hc:=hR.const;simp only[List.getElem_cons_zero,List.getElem_cons_succ,Cf.ok,LJ,List.take_succ_cons,List.take_zero,List.foldl_cons,List.foldl_nil,Cf.w];go_simp
     ·obtain rfl:=zW ho;have e1:=(hR.at_ 1 _ (by decide +kernel) rfl).trans v1;replace e1:ρ (.tmp 23)=_:=e1;have hc:=hR.const;simp only[List.getElem_cons_zero,List.getElem_cons_succ,Cf.ok,LJ,List.take_succ_cons,List.take_zero,List.foldl_cons,List.foldl_nil,Cf.w];go_simp
     ·obtain rfl:=zW ho;have e17:ρ (.tmp 38)=(.pointer (some ⟨g,k*5,none⟩)):=hR.at_ 17 _ (by decide +kernel) rfl;have hc:=hR.const;simp only[List.getElem_cons_zero,List.getElem_cons_succ,Cf.ok,LJ,List.take_succ_cons,List.take_zero,List.foldl_cons,List.foldl_nil,Cf.w];go_simp
     ·obtain rfl:=zW ho;have Ug:=(hR.at_ 13 _ (by decide +kernel) rfl).trans ajc;replace Ug:ρ (.tmp 35)=_:=Ug;have e18:ρ (.tmp 39)=(.pointer (some ⟨g,k*5+3,none⟩)):=hR.at_ 18 _ (by decide +kernel) rfl;have hc:=hR.const;simp only[List.getElem_cons_zero,List.getElem_cons_succ,Cf.ok,LJ,List.take_succ_cons,List.take_zero,List.foldl_cons,List.foldl_nil,Cf.w];go_simp
    refine Kept.mk ?_;simp only[oD,QL,LJ,Act.put,pA,pZ,pS,yB,yC,yH,Nat.reduceAdd,Nat.reduceSub,Nat.reduceLT,if_true,if_false,List.take_succ_cons,List.take_zero,List.foldl_cons,List.foldl_nil,Cf.w,Cf.v,List.getElem?_cons_succ,List.getElem?_cons_zero,Option.map_some,Option.getD_some];have X7:=hA 7 13 (by decide) (by decide) (by decide) (by decide) (by decide);have hg7:=hG 7 (by decide) (by decide);obtain⟨hu7,hz7,hw7,-⟩:=hg7;have ajd:=hG 13 (by decide) (by decide);obtain⟨apH,apI,apJ,-⟩:=ajd;clear hA hG X6;generalize lo 7=x0 at *;generalize up 7=x1 at *;generalize lo 13=y0 at *;generalize up 13=y1 at *;go_wp2_with fail
    go_roundw
    case rel =>
     have o2:=Xn s2 TJ;have o3:=Xn s3 aeh;have hown:bD.own W1 (fun b=>H1 b∨(x0≤b∧b<x1)∨(y0≤b∧b<y1)) (rG n c) [.int .i64 c.dC,.slice E1 k1 e1,.slice D7 (iZ n c.dh).length f7,.slice D13 (iZ n c.dG).length f13,.bool c.aC] :=
      zi (x:=rG n c) r0 (r1.stay (fun b hb _=>lN.block b (ve b (Uh b hb))) lN.size) (dD.of o2) (dD.of o3) (fun b hb => .inl hb) (fun b hb => .inr (.inl hb)) (fun b hb => .inr (.inr hb)) (fun b hb hh=>by have:=ve b (Uh b hb);omega) (fun b hb hh=>by have:=ve b (Uh b hb);omega) (fun b hb hh=>by omega)
     have hn:=hput W1 (rG n c) _ _ _ _ _ _ lN hown (fun b hb=>by
      rcases hb with hb|hb|hb
      ·exact⟨by have:=ve b (Uh b hb);have:=lN.size;omega,.inl (Uh b hb)⟩
      ·exact⟨by omega,.inr (by omega)⟩
      ·exact⟨by omega,.inr (by omega)⟩)
     rw[hst,acW (by rw[r9 _ _ BG];exact q0) (by rw[r9 _ _ BG];exact q1) (by rw[r9 _ _ BG];exact q4)] at hn;exact⟨k+1,by omega,by go_num,kU.trans zf hFr hn⟩
    case measure=>simp[intOf];omega
  ·obtain rfl:k=n1:=(by omega);rw[E0 Rk] at hhr;go_wp2_with fail
   refine bodyPost_end (v := .tuple #[]) ?_ rfl ?_
   ·simp[results,Tryz.results124,go_sem]
   exact⟨rfl,zf,Fr,hhr,hFr⟩
end Go.Proofs.YtjcoapnggojpdaaGreatDoor
