/- Texts of the proof, laid compactly. -/
import Derived.Test.YtjcoapnggojpdaaGreatDoorMutLockS
import Derived.Test.YtjcoapnggojpdaaGreatDoorGorTell
import Derived.Test.YtjcoapnggojpdaaGreatDoorGorSet
import Derived.Test.YtjcoapnggojpdaaGreatDoorGorH
set_option maxHeartbeats 4000000
set_option maxRecDepth 100000
namespace Go.Proofs.YtjcoapnggojpdaaGreatDoor
set_option linter.unusedSimpArgs false
set_option linter.unusedVariables false
open Go.RowKit
theorem mF{w:World}{hi:Nat}{x:bY}{vs:List Value}(h:aI.see w hi x vs):(Lit.int .i64 x.ax).wf=true∧(Lit.int .i64 x.dE).wf=true∧(Lit.int .i64 x.ai).wf=true:=by
 obtain⟨A2,n2,c2,A4,n4,c4,-,hw0,hw1,-,hw3,-⟩:=gK h;exact⟨hw0,hw1,hw3⟩
theorem Dy(b:Bool)(w:World):Calls Tryz.prog 193 #[.bool b] w fun e w'=>e=.returned (.int .i64 (Iq b))∧w=w':=by
 cases b <;>
 ·go_enter Tryz.func193,Tryz.ntmps193
  go_wp2
  go_ret;exact⟨rfl,rfl⟩
theorem mV.iy{F:Nat→Prop}{x:bY}{W:World}{A2 A4:Option Addr}{n2 c2 n4 c4:Nat}(h:mV F x W A2 n2 c2 A4 n4 c4) :
  ∃G,aI.own W G x [.int .i64 x.ax,.int .i64 x.dE,.slice A2 n2 c2,.int .i64 x.ai,.slice A4 n4 c4]∧∀g,G g→F g∧g<W.heap.size:=by
 obtain⟨h0,h1,h3,rfl,rfl,F2,F4,o2,o4,hF,hd⟩:=h;exact⟨fun g=>F2 g∨F4 g,E7 h0 h1 (dD.of o2) h3 (dD.of o4) (fun g h => .inl h) (fun g h => .inr h) hd,hF⟩
theorem ng(x:bY)(i:iK):bV (dW x i)=bV x+1:=by
 unfold bV dW;simp only[zZ,yB,yC];omega
theorem fO(x:bY)(r v:Int):(dQ x r v).ax=x.ax∧(dQ x r v).dE=x.dE∧(dQ x r v).ai=x.ai:=by
 unfold dQ;split <;> exact⟨rfl,rfl,rfl⟩
theorem yj(x:bY)(r v:Int):bV (dQ x r v)=bV x:=by
 unfold dQ;split
 ·unfold bV;simp only[List.length_set]
 ·rfl
theorem EO{w:World}{hi:Nat}{g:bY}{us:List Value}(hg:aI.see w hi g us)(cu:hi≤w.heap.size)(hn:bV g≤1048590){ch reg okr v:Int}{ok:Bool}(h1:(Lit.int .i64 ch).wf=true)(h2:(Lit.int .i64 v).wf=true) :
  Calls Tryz.prog 104 #[.agg us.toArray,.int .i64 ch,.int .i64 reg,.int .i64 okr,.int .i64 v,.bool ok] w (mY (BJ g ch reg okr v ok) w):=by
 have hwf:=mF hg;have hvw:(Lit.int .i64 (nR v ok)).wf=true:=by unfold nR;split;exact h2;decide
 have HT:=zA (fun (W:World) (hW:yT w W)=>m_ (i:=⟨2,ch,nR v ok,ok⟩) (aI.keep hg (w':=W) fun k hk=>hW.block k (by omega)) (zJ cu hW.size) (by omega) ⟨(show (Lit.int .i64 2).wf=true by decide),h1,hvw⟩);obtain⟨A2,n2,c2,A4,n4,c4,rfl,-⟩:=gK hg;unfold BJ;have hz1:=ng g ⟨2,ch,nR v ok,ok⟩;have HTP:=zA (show (dW g ⟨2,ch,nR v ok,ok⟩).ax=g.ax∧(dW g ⟨2,ch,nR v ok,ok⟩).dE=g.dE∧(dW g ⟨2,ch,nR v ok,ok⟩).ai=g.ai from ⟨rfl,rfl,rfl⟩);generalize ht:dW g ⟨2,ch,nR v ok,ok⟩=t at *;have hzt:bV t≤1048591:=(by omega);have Ri:=zA (show (Lit.int .i64 t.ax).wf=true∧(Lit.int .i64 t.dE).wf=true∧(Lit.int .i64 t.ai).wf=true from by rw[HTP.out.1,HTP.out.2.1,HTP.out.2.2];exact hwf);have HWS:=zA (show (Lit.int .i64 (dQ t reg (nR v ok)).ax).wf=true∧(Lit.int .i64 (dQ t reg (nR v ok)).dE).wf=true∧(Lit.int .i64 (dQ t reg (nR v ok)).ai).wf=true from by rw[(fO t reg (nR v ok)).1,(fO t reg (nR v ok)).2.1,(fO t reg (nR v ok)).2.2];exact Ri.out);have hzs:bV (dQ t reg (nR v ok))≤1048591:=by rw[yj];exact hzt
 generalize hs:dQ t reg (nR v ok)=s at *;have HWY:=zA (show (Lit.int .i64 (dQ s okr (Iq ok)).ax).wf=true∧(Lit.int .i64 (dQ s okr (Iq ok)).dE).wf=true∧(Lit.int .i64 (dQ s okr (Iq ok)).ai).wf=true from by rw[(fO s okr _).1,(fO s okr _).2.1,(fO s okr _).2.2];exact HWS.out);generalize hy:dQ s okr (Iq ok)=y at *;have HSQ:=zA hs;have HYQ:=zA hy;clear hs hy;obtain⟨pr,pc,regs,st,tr⟩:=g;clear hg ht hn hz1 HTP hwf;have qW:=ak w #[.int .i64 pr,.int .i64 pc,.slice A2 n2 c2,.int .i64 st,.slice A4 n4 c4] 69;have qW:=af qW ((zD _ _).alloc (zC _) (.cells #[.int .i64 0,.int .i64 0,.slice none 0 0,.int .i64 0,.slice none 0 0] 69)) (by simp only[zF];omega);have kT:=ak (w.alloc (.cells #[.int .i64 pr,.int .i64 pc,.slice A2 n2 c2,.int .i64 st,.slice A4 n4 c4] 69)) #[.int .i64 0,.int .i64 0,.slice none 0 0,.int .i64 0,.slice none 0 0] 69;simp only[zF,zH,Nat.reduceAdd] at kT;have hB0:yT w ((w.alloc (.cells #[.int .i64 pr,.int .i64 pc,.slice A2 n2 c2,.int .i64 st,.slice A4 n4 c4] 69)).alloc (.cells #[.int .i64 0,.int .i64 0,.slice none 0 0,.int .i64 0,.slice none 0 0] 69)):=((zD _ _).alloc (zC _) _).alloc (by simp only[zF];omega) _;have hz0:w.heap.size+2≤((w.alloc (.cells #[.int .i64 pr,.int .i64 pc,.slice A2 n2 c2,.int .i64 st,.slice A4 n4 c4] 69)).alloc (.cells #[.int .i64 0,.int .i64 0,.slice none 0 0,.int .i64 0,.slice none 0 0] 69)).heap.size:=by simp only[zF];omega
 have g0:=ae (j:=0) qW rfl;have g1:=ae (j:=1) qW rfl;have g2:=ae (j:=2) qW rfl;have g3:=ae (j:=3) qW rfl;have g4:=ae (j:=4) qW rfl;have gf0:=ah qW 0;have gf1:=ah qW 1;have gf2:=ah qW 2;have gf3:=ah qW 3;have gf4:=ah qW 4;have TA:=zA qW;have qi:=zA kT;have gW:=zA hB0;clear qW kT hB0;have HVW:=zA hvw;clear hvw;have hvv:(if ok then v else 0)=nR v ok:=rfl;cases ok
 ·go_enter Tryz.func104,Tryz.ntmps104
  go_upto_region 1 with (fail)
  generalize ((w.alloc (.cells #[.int .i64 pr,.int .i64 pc,.slice A2 n2 c2,.int .i64 st,.slice A4 n4 c4] 69)).alloc (.cells #[.int .i64 0,.int .i64 0,.slice none 0 0,.int .i64 0,.slice none 0 0] 69))=W0 at *;have hl0:w.heap.size<W0.heap.size:=(by omega);go_wp2_with fail
  refine (HT.out _ gW.out).mono ?_;rintro e w1 hC;obtain⟨D2,q2,f2,D4,q4,f4,rfl,H1,hb1⟩:=jO hC Ri.out.1 Ri.out.2.1 Ri.out.2.2;clear hC;have hz2:=hb1.size;have p_:=af TA.out hb1 (by omega);have hR1:=zA (af qi.out hb1 (by omega));clear g0 gf0 g1 gf1 g2 gf2 g3 gf3 g4 gf4;have g0:=ae (j:=0) p_ rfl;have g1:=ae (j:=1) p_ rfl;have g2:=ae (j:=2) p_ rfl;have g3:=ae (j:=3) p_ rfl;have g4:=ae (j:=4) p_ rfl;have gf0:=ah p_ 0;have gf1:=ah p_ 1;have gf2:=ah p_ 2;have gf3:=ah p_ 3;have gf4:=ah p_ 4;have iC:=zA (gW.out.trans (hb1.mono (by omega)));have HH1:=zA H1;clear H1;have hlw:w.heap.size<w1.heap.size:=(by omega);go_upto_region 4 with (fail)
  have hp:=xN (u0:=(.int .i64 t.ax)) (u1:=(.int .i64 t.dE)) (u2:=(.slice D2 q2 f2)) (u3:=(.int .i64 t.ai)) (u4:=(.slice D4 q4 f4)) p_;have lK:=zA (show yT w (((((w1.setCell ⟨w.heap.size,0,none⟩ (.int .i64 t.ax)).setCell ⟨w.heap.size,1,none⟩ (.int .i64 t.dE)).setCell ⟨w.heap.size,2,none⟩ (.slice D2 q2 f2)).setCell ⟨w.heap.size,3,none⟩ (.int .i64 t.ai)).setCell ⟨w.heap.size,4,none⟩ (.slice D4 q4 f4)) from wB iC.out (zC _));have HH2:=zA (HH1.out.stay (W':=(((((w1.setCell ⟨w.heap.size,0,none⟩ (.int .i64 t.ax)).setCell ⟨w.heap.size,1,none⟩ (.int .i64 t.dE)).setCell ⟨w.heap.size,2,none⟩ (.slice D2 q2 f2)).setCell ⟨w.heap.size,3,none⟩ (.int .i64 t.ai)).setCell ⟨w.heap.size,4,none⟩ (.slice D4 q4 f4))) (fun b hb _=>hp.2.1 b (by have:=hb.1;omega)) (Nat.le_of_eq hp.2.2.symm));have hR2:=zA ((hp.2.1 (w.heap.size+1) (by omega)).trans hR1.out);have hx2:=hp.1;have hz3:=hp.2.2;generalize (((((w1.setCell ⟨w.heap.size,0,none⟩ (.int .i64 t.ax)).setCell ⟨w.heap.size,1,none⟩ (.int .i64 t.dE)).setCell ⟨w.heap.size,2,none⟩ (.slice D2 q2 f2)).setCell ⟨w.heap.size,3,none⟩ (.int .i64 t.ai)).setCell ⟨w.heap.size,4,none⟩ (.slice D4 q4 f4))=w2 at *;clear g0 gf0 g1 gf1 g2 gf2 g3 gf3 g4 gf4 hp p_ hb1 HH1 iC;have g0:=ae (j:=0) hx2 rfl;have g1:=ae (j:=1) hx2 rfl;have g2:=ae (j:=2) hx2 rfl;have g3:=ae (j:=3) hx2 rfl;have g4:=ae (j:=4) hx2 rfl;have hl2:w.heap.size<w2.heap.size:=(by omega);have hl3:w.heap.size+1<w2.heap.size:=(by omega);have hs2:=pq (r:=reg) (v:=nR v false) HH2.out.see (zC _) (by omega) HVW.out;rw[HSQ.out] at hs2;have Fa:=zA hs2;clear hs2;go_wp2_with fail
  refine Fa.out.mono ?_;rintro e w3 hC;obtain⟨K2,p2,r2,K4,p4,r4,rfl,H3,hb3⟩:=jO hC HWS.out.1 HWS.out.2.1 HWS.out.2.2;clear hC;have Ve:=hb3.size;have xW:=zA (lK.out.trans (hb3.mono (by omega)));have xy:=zA (af hR2.out hb3 hl3);have hs3:=pq (r:=okr) (v:=Iq false) H3.see (zC _) (by omega) (by decide);rw[HYQ.out] at hs3;have PU:=zA hs3;clear hs3 H3 hb3 g0 g1 g2 g3 g4;go_wp2_with fail
  refine (Dy false _).mono ?_;rintro e w4 ⟨rfl,rfl⟩;go_wp2_with fail
  refine PU.out.mono ?_;rintro e w5 hC;obtain⟨J2,m2,l2,J4,m4,l4,rfl,H5,hb5⟩:=jO hC HWY.out.1 HWY.out.2.1 HWY.out.2.2;clear hC;have Vf:=hb5.size;have lH:=af xy.out hb5 (by omega);have r0:=ae (j:=0) lH rfl;have r1:=ae (j:=1) lH rfl;have r2:=ae (j:=2) lH rfl;have r3:=ae (j:=3) lH rfl;have r4:=ae (j:=4) lH rfl;have rf0:=ah lH 0;have rf1:=ah lH 1;have rf2:=ah lH 2;have rf3:=ah lH 3;have rf4:=ah lH 4;have Dl:=zA (xW.out.trans (hb5.mono (by omega)));have HH5:=zA H5;have Wu:w.heap.size+1<w5.heap.size:=(by omega);go_wp2_with fail
  have hp:=xN (u0:=(.int .i64 y.ax)) (u1:=(.int .i64 y.dE)) (u2:=(.slice J2 m2 l2)) (u3:=(.int .i64 y.ai)) (u4:=(.slice J4 m4 l4)) lH;have y0:=ae (j:=0) hp.1 rfl;have y1:=ae (j:=1) hp.1 rfl;have y2:=ae (j:=2) hp.1 rfl;have y3:=ae (j:=3) hp.1 rfl;have y4:=ae (j:=4) hp.1 rfl;refine bodyPost_ret (v := .agg #[.int .i64 y.ax,.int .i64 y.dE,.slice J2 m2 l2,.int .i64 y.ai,.slice J4 m4 l4]) (by simp[results,Tryz.results104,go_sem,zH,y0,y1,y2,y3,y4]) rfl ?_;exact mV.copied (F:=fun b=>w3.heap.size≤b∧b<w5.heap.size) (HH5.out.stay (fun b hb _=>hp.2.1 b (by have:=hb.1;omega)) (Nat.le_of_eq hp.2.2.symm)) (fun b hb=>by have:=hb.1;omega) (wB Dl.out (by omega))
 ·go_enter Tryz.func104,Tryz.ntmps104
  go_upto_region 1 with (fail)
  generalize ((w.alloc (.cells #[.int .i64 pr,.int .i64 pc,.slice A2 n2 c2,.int .i64 st,.slice A4 n4 c4] 69)).alloc (.cells #[.int .i64 0,.int .i64 0,.slice none 0 0,.int .i64 0,.slice none 0 0] 69))=W0 at *;have hl0:w.heap.size<W0.heap.size:=(by omega);go_wp2_with fail
  refine (HT.out _ gW.out).mono ?_;rintro e w1 hC;obtain⟨D2,q2,f2,D4,q4,f4,rfl,H1,hb1⟩:=jO hC Ri.out.1 Ri.out.2.1 Ri.out.2.2;clear hC;have hz2:=hb1.size;have p_:=af TA.out hb1 (by omega);have hR1:=zA (af qi.out hb1 (by omega));clear g0 gf0 g1 gf1 g2 gf2 g3 gf3 g4 gf4;have g0:=ae (j:=0) p_ rfl;have g1:=ae (j:=1) p_ rfl;have g2:=ae (j:=2) p_ rfl;have g3:=ae (j:=3) p_ rfl;have g4:=ae (j:=4) p_ rfl;have gf0:=ah p_ 0;have gf1:=ah p_ 1;have gf2:=ah p_ 2;have gf3:=ah p_ 3;have gf4:=ah p_ 4;have iC:=zA (gW.out.trans (hb1.mono (by omega)));have HH1:=zA H1;clear H1;have hlw:w.heap.size<w1.heap.size:=(by omega);go_upto_region 4 with (fail)
  have hp:=xN (u0:=(.int .i64 t.ax)) (u1:=(.int .i64 t.dE)) (u2:=(.slice D2 q2 f2)) (u3:=(.int .i64 t.ai)) (u4:=(.slice D4 q4 f4)) p_;have lK:=zA (show yT w (((((w1.setCell ⟨w.heap.size,0,none⟩ (.int .i64 t.ax)).setCell ⟨w.heap.size,1,none⟩ (.int .i64 t.dE)).setCell ⟨w.heap.size,2,none⟩ (.slice D2 q2 f2)).setCell ⟨w.heap.size,3,none⟩ (.int .i64 t.ai)).setCell ⟨w.heap.size,4,none⟩ (.slice D4 q4 f4)) from wB iC.out (zC _));have HH2:=zA (HH1.out.stay (W':=(((((w1.setCell ⟨w.heap.size,0,none⟩ (.int .i64 t.ax)).setCell ⟨w.heap.size,1,none⟩ (.int .i64 t.dE)).setCell ⟨w.heap.size,2,none⟩ (.slice D2 q2 f2)).setCell ⟨w.heap.size,3,none⟩ (.int .i64 t.ai)).setCell ⟨w.heap.size,4,none⟩ (.slice D4 q4 f4))) (fun b hb _=>hp.2.1 b (by have:=hb.1;omega)) (Nat.le_of_eq hp.2.2.symm));have hR2:=zA ((hp.2.1 (w.heap.size+1) (by omega)).trans hR1.out);have hx2:=hp.1;have hz3:=hp.2.2;generalize (((((w1.setCell ⟨w.heap.size,0,none⟩ (.int .i64 t.ax)).setCell ⟨w.heap.size,1,none⟩ (.int .i64 t.dE)).setCell ⟨w.heap.size,2,none⟩ (.slice D2 q2 f2)).setCell ⟨w.heap.size,3,none⟩ (.int .i64 t.ai)).setCell ⟨w.heap.size,4,none⟩ (.slice D4 q4 f4))=w2 at *;clear g0 gf0 g1 gf1 g2 gf2 g3 gf3 g4 gf4 hp p_ hb1 HH1 iC;have g0:=ae (j:=0) hx2 rfl;have g1:=ae (j:=1) hx2 rfl;have g2:=ae (j:=2) hx2 rfl;have g3:=ae (j:=3) hx2 rfl;have g4:=ae (j:=4) hx2 rfl;have hl2:w.heap.size<w2.heap.size:=(by omega);have hl3:w.heap.size+1<w2.heap.size:=(by omega);have hs2:=pq (r:=reg) (v:=nR v true) HH2.out.see (zC _) (by omega) HVW.out;rw[HSQ.out] at hs2;have Fa:=zA hs2;clear hs2;go_wp2_with fail
  refine Fa.out.mono ?_;rintro e w3 hC;obtain⟨K2,p2,r2,K4,p4,r4,rfl,H3,hb3⟩:=jO hC HWS.out.1 HWS.out.2.1 HWS.out.2.2;clear hC;have Ve:=hb3.size;have xW:=zA (lK.out.trans (hb3.mono (by omega)));have xy:=zA (af hR2.out hb3 hl3);have hs3:=pq (r:=okr) (v:=Iq true) H3.see (zC _) (by omega) (by decide);rw[HYQ.out] at hs3;have PU:=zA hs3;clear hs3 H3 hb3 g0 g1 g2 g3 g4;go_wp2_with fail
  refine (Dy true _).mono ?_;rintro e w4 ⟨rfl,rfl⟩;go_wp2_with fail
  refine PU.out.mono ?_;rintro e w5 hC;obtain⟨J2,m2,l2,J4,m4,l4,rfl,H5,hb5⟩:=jO hC HWY.out.1 HWY.out.2.1 HWY.out.2.2;clear hC;have Vf:=hb5.size;have lH:=af xy.out hb5 (by omega);have r0:=ae (j:=0) lH rfl;have r1:=ae (j:=1) lH rfl;have r2:=ae (j:=2) lH rfl;have r3:=ae (j:=3) lH rfl;have r4:=ae (j:=4) lH rfl;have rf0:=ah lH 0;have rf1:=ah lH 1;have rf2:=ah lH 2;have rf3:=ah lH 3;have rf4:=ah lH 4;have Dl:=zA (xW.out.trans (hb5.mono (by omega)));have HH5:=zA H5;have Wu:w.heap.size+1<w5.heap.size:=(by omega);go_wp2_with fail
  have hp:=xN (u0:=(.int .i64 y.ax)) (u1:=(.int .i64 y.dE)) (u2:=(.slice J2 m2 l2)) (u3:=(.int .i64 y.ai)) (u4:=(.slice J4 m4 l4)) lH;have y0:=ae (j:=0) hp.1 rfl;have y1:=ae (j:=1) hp.1 rfl;have y2:=ae (j:=2) hp.1 rfl;have y3:=ae (j:=3) hp.1 rfl;have y4:=ae (j:=4) hp.1 rfl;refine bodyPost_ret (v := .agg #[.int .i64 y.ax,.int .i64 y.dE,.slice J2 m2 l2,.int .i64 y.ai,.slice J4 m4 l4]) (by simp[results,Tryz.results104,go_sem,zH,y0,y1,y2,y3,y4]) rfl ?_;exact mV.copied (F:=fun b=>w3.heap.size≤b∧b<w5.heap.size) (HH5.out.stay (fun b hb _=>hp.2.1 b (by have:=hb.1;omega)) (Nat.le_of_eq hp.2.2.symm)) (fun b hb=>by have:=hb.1;omega) (wB Dl.out (by omega))
theorem l5{hi:Nat}{w w':World}(h:Below hi w w'):∀b j,b<hi→w'.cell? ⟨b,j,none⟩=w.cell? ⟨b,j,none⟩:=fun b j hb=>h.cell (p:=⟨b,j,none⟩) hb
theorem qy{hi:Nat}{w w':World}(h:Below hi w w'):∀b j,b<hi→w'.frozen? ⟨b,j,none⟩=w.frozen? ⟨b,j,none⟩:=fun b j hb=>h.frozen (p:=⟨b,j,none⟩) hb
theorem rdT{F:Nat→Prop}{w w':World}(h:au F w w'):∀b j,b<w.heap.size→¬F b→w'.cell? ⟨b,j,none⟩=w.cell? ⟨b,j,none⟩:=fun b j hb hn=>World.cell?_of_block (h.block b hb hn)
theorem ed{w:World}{b:Nat}{c:List Value}{t:TypeId}(h:w.heap[b]? =some (.cells c.toArray t (0,0))):∀j,w.cell? ⟨b,j,none⟩=c[j]? :=fun j=>by simp[World.cell?,h]
theorem kX{w:World}{b:Nat}{c:List Value}{t:TypeId}(h:w.heap[b]? =some (.cells c.toArray t (0,0))):∀j,w.frozen? ⟨b,j,none⟩=false:=ah h
theorem dM{w:World}{b:Nat}{o:Obj}(h:w.heap[b]? =some o):b<w.heap.size:=lt_of_block h
theorem iM.low{F:Nat→Prop}{x:dY}{w:World}{A0 A1 A2:Option Addr}{n0 c0 n1 c1 n2 c2:Nat}(h:iM F x w A0 n0 c0 A1 n1 c1 A2 n2 c2):iM (fun b=>F b∧b<w.heap.size) x w A0 n0 c0 A1 n1 c1 A2 n2 c2:=h.wide fun b hb hlt=>⟨hb,hlt⟩
theorem oI(g:bY)(y:Int):(overR g y).ax=g.ax∧(overR g y).dE=g.dE∧(Lit.int .i64 (overR g y).ai).wf=true:=by
 unfold overR;split
 ·exact⟨rfl,rfl,by show (Lit.int .i64 3).wf=true;decide⟩
 ·exact⟨rfl,rfl,by show (Lit.int .i64 4).wf=true;decide⟩
def SP.Eo(x:bY):SP:=⟨fun lo hi W v=>∃A2 n2 c2 A4 n4 c4,v=.agg #[.int .i64 x.ax,.int .i64 x.dE,.slice A2 n2 c2,.int .i64 x.ai,.slice A4 n4 c4]∧mV (fun b=>lo≤b∧b<hi) x W A2 n2 c2 A4 n4 c4,
 fun hh hb ⟨A2,n2,c2,A4,n4,c4,hv,h⟩=>⟨A2,n2,c2,A4,n4,c4,hv,h.stay (fun k hk _=>hb.block k (zV hk.2 hh)) hb.size⟩⟩
theorem SP.Kw{x:bY}{v:Value}{lo hi:Nat}{W:World}(h:(SP.Eo x).p lo hi W v):∃A2 n2 c2 A4 n4 c4,v=.agg #[.int .i64 x.ax,.int .i64 x.dE,.slice A2 n2 c2,.int .i64 x.ai,.slice A4 n4 c4]∧mV (fun b=>lo≤b∧b<hi) x W A2 n2 c2 A4 n4 c4:=h
theorem mV.pcW{F:Nat→Prop}{x:bY}{W:World}{A2 A4:Option Addr}{n2 c2 n4 c4:Nat}(h:mV F x W A2 n2 c2 A4 n4 c4){v:Int}(hv:(Lit.int .i64 v).wf=true):mV F {x with dE:=v} W A2 n2 c2 A4 n4 c4:=by
 obtain⟨h0,h1,h⟩:=h;exact⟨h0,hv,h⟩
structure PL where
 (b0:Option Addr) (m0 d0:Nat) (b2:Option Addr) (m2 d2:Nat) (b3:Option Addr) (m3 d3:Nat)
abbrev PL.vs(l:PL)(p:aS):List Value:=[.slice l.b0 l.m0 l.d0,.int .i64 p.ay,.slice l.b2 l.m2 l.d2,.slice l.b3 l.m3 l.d3]
def HB(p:aS)(hi bb:Nat)(l:PL)(F:Nat→Prop)(x:dY)(w:World):Prop :=
 (aV.see w hi p (l.vs p)∧dV p≤1048576∧hi≤bb∧∀b,F b→hi≤b∧b<w.heap.size)∧¬F bb∧∃A0 n0 c0 A1 n1 c1 A2 n2 c2,
  w.heap[bb]? =some (.cells #[.slice l.b0 l.m0 l.d0,.int .i64 p.ay,.slice l.b2 l.m2 l.d2,.slice l.b3 l.m3 l.d3,.slice A0 n0 c0,.slice A1 n1 c1,.slice A2 n2 c2] 105 (0,0))∧iM F x w A0 n0 c0 A1 n1 c1 A2 n2 c2
def kU(p:aS)(hi bb:Nat)(l:PL)(F:Nat→Prop)(w:World)(x:dY)(w':World):Prop :=
 au (fun b=>F b∨b=bb) w w'∧∃F',HB p hi bb l F' x w'∧∀b,F' b→F b∨w.heap.size≤b
section
variable {p:aS} {hi bb:Nat} {l:PL} {F:Nat→Prop} {x y:dY} {w w' w'':World}
theorem HB.lt(h:HB p hi bb l F x w):bb<w.heap.size:=by
 obtain⟨-,-,A0,n0,c0,A1,n1,c1,A2,n2,c2,hb,-⟩:=h;exact dM hb
theorem HB.up(h:HB p hi bb l F x w)(hb:yT w w'):HB p hi bb l F x w':=by
 have hlt:=h.lt;obtain⟨⟨hp,hn,hh,hF⟩,oQ,A0,n0,c0,A1,n1,c1,A2,n2,c2,hx,hE⟩:=h;exact⟨⟨aV.keep hp fun k hk=>hb.block k (by omega),hn,hh,fun b hb'=>⟨(hF b hb').1,zV (hF b hb').2 hb.size⟩⟩,oQ,A0,n0,c0,A1,n1,c1,A2,n2,c2,af hx hb hlt,hE.stay (fun b _ hlt=>hb.block b hlt) hb.size⟩
theorem kU.of(h:HB p hi bb l F x w)(hb:yT w w'):kU p hi bb l F w x w':=⟨au.of_below hb _,F,h.up hb,fun b hb => .inl hb⟩
theorem kU.trans{F':Nat→Prop}(h:au (fun b=>F b∨b=bb) w w')(hF:∀b,F' b→F b∨w.heap.size≤b)(k:kU p hi bb l F' w' y w''):kU p hi bb l F w y w'':=by
 obtain⟨t,F'',h'',aal⟩:=k;refine⟨⟨t.os.trans h.os,t.tape.trans h.tape,t.output.trans h.output,zJ h.size t.size,fun b hb hn => ?_⟩,F'',h'',fun b hb => ?_⟩
 ·refine (t.block b (zV hb h.size) fun hf => ?_).trans (h.block b hb hn);rcases hf with hf|hf
  ·rcases hF b hf with h1|h1
   ·exact hn (.inl h1)
   ·omega
  ·exact hn (.inr hf)
 ·rcases aal b hb with h1|h1
  ·exact hF b h1
  ·exact .inr (zJ h.size h1)
theorem kU.from_(hb:yT w w')(k:kU p hi bb l F w' y w''):kU p hi bb l F w y w'':=kU.trans (au.of_below hb _) (fun b h => .inl h) k
theorem HB.Eo{k:Nat}(h:HB p hi bb l F x w)(hk:k<x.bJ.length) :
  ∃(g n0 c0:Nat) (A1:Option Addr) (n1 c1:Nat) (A2:Option Addr) (n2 c2:Nat) (E2:Option Addr) (k2 e2:Nat) (E4:Option Addr) (k4 e4:Nat),
   ((bb<w.heap.size∧g<w.heap.size∧x.bJ.length=n0∧k<n0∧x.aA.length=n1∧x.ay.length=n2) ∧
   (∀j,w.cell? ⟨bb,j,none⟩=[.slice l.b0 l.m0 l.d0,.int .i64 p.ay,.slice l.b2 l.m2 l.d2,.slice l.b3 l.m3 l.d3,.slice (some ⟨g,0,none⟩) n0 c0,.slice A1 n1 c1,.slice A2 n2 c2][j]?) ∧
   (w.cell? ⟨g,k*5,none⟩=some (.int .i64 (x.bJ[k]).ax)∧w.cell? ⟨g,k*5+1,none⟩=some (.int .i64 (x.bJ[k]).dE)∧w.cell? ⟨g,k*5+2,none⟩=some (.slice E2 k2 e2)∧w.cell? ⟨g,k*5+3,none⟩=some (.int .i64 (x.bJ[k]).ai)∧w.cell? ⟨g,k*5+4,none⟩=some (.slice E4 k4 e4)) ∧
   (∀j,w.frozen? ⟨g,j,none⟩=false)) ∧
   aI.see w w.heap.size x.bJ[k] [.int .i64 (x.bJ[k]).ax,.int .i64 (x.bJ[k]).dE,.slice E2 k2 e2,.int .i64 (x.bJ[k]).ai,.slice E4 k4 e4] ∧
   (∀(w':World) (x':bY) (u0 u1 u2 u3 u4:Value) (qP:Nat→Prop),yT w w'→aI.own w' qP x' [u0,u1,u2,u3,u4]→(∀b,qP b→w.heap.size≤b∧b<w'.heap.size) →
    kU p hi bb l F w {x with bJ:=x.bJ.set k x'} (((((w'.setCell ⟨g,k*5,none⟩ u0).setCell ⟨g,k*5+1,none⟩ u1).setCell ⟨g,k*5+2,none⟩ u2).setCell ⟨g,k*5+3,none⟩ u3).setCell ⟨g,k*5+4,none⟩ u4)) ∧
   (∀(w':World) (v:Int),yT w w'→(Lit.int .i64 v).wf=true→kU p hi bb l F w {x with bJ:=x.bJ.set k {x.bJ[k] with dE:=v}} (w'.setCell ⟨g,k*5+1,none⟩ (.int .i64 v))) ∧
   (∀(w':World) (v:Int),yT w w'→(Lit.int .i64 v).wf=true→kU p hi bb l F w {x with bJ:=x.bJ.set k {x.bJ[k] with ai:=v}} (w'.setCell ⟨g,k*5+3,none⟩ (.int .i64 v))):=by
 have hlt:=h.lt;obtain⟨⟨hp,hn,hh,hF⟩,oQ,A0,n0,c0,A1,n1,c1,A2,n2,c2,hx,hE⟩:=h;have hl:=hE.lens;obtain⟨hx0,g,Gi,E2,k2,e2,E4,k4,e4,rfl,hFg,BG,MP,hel,ve,hq,hfree,hput,Ro,hst⟩:=hE.acU (k:=k) (by omega);have hgb:g≠bb:=fun h=>oQ (h ▸ hFg)
 have fin:∀(y:dY) (w':World) (F':Nat→Prop),au F w w'→iM F' y w' (some ⟨g,0,none⟩) n0 c0 A1 n1 c1 A2 n2 c2→(∀b,F' b→F b∨w.heap.size≤b)→kU p hi bb l F w y w':=fun y w' F' ht hE' hF' =>
  ⟨ht.wide fun b hb => .inl hb,fun b=>F' b∧b<w'.heap.size,⟨⟨aV.keep hp fun k hk=>ht.block k (by omega) fun hf=>by have:=(hF k hf).1;omega,hn,hh,fun b hb=>⟨by rcases hF' b hb.1 with h1|h1;exact (hF b h1).1;omega,hb.2⟩⟩,
   fun hb=>by rcases hF' bb hb.1 with h1|h1;exact oQ h1;omega,_,_,_,_,_,_,_,_,_,(ht.block bb hlt oQ).trans hx,hE'.low⟩,fun b hb=>hF' b hb.1⟩
 refine⟨g,n0,c0,A1,n1,c1,A2,n2,c2,E2,k2,e2,E4,k4,e4,⟨⟨hlt,BG,hl.1,by omega,hl.2.1,hl.2.2⟩,ed hx,hq,hfree⟩,aI.seen (hi:=w.heap.size) hel fun b hb=>(ve b hb).2,?_,?_,?_⟩
 ·intro w' x' u0 u1 u2 u3 u4 qP hB ho hG;exact fin _ _ _ ((au.of_below hB F).xN (.inl hFg) _ _ _ _ _) (hput w' x' u0 u1 u2 u3 u4 qP (fun b _ hlt=>hB.block b hlt) hB.size ho fun b hb=>⟨(hG b hb).2,.inr (hG b hb).1⟩) fun b hb=>hb.imp_right fun h=>(hG b h).1
 ·intro w' v hB hv;exact fin _ _ _ ((au.of_below hB F).zu (.inl hFg) _) (Ro w' v (fun b _ hlt=>hB.block b hlt) hB.size hv) fun b hb => .inl hb
 ·intro w' v hB hv;exact fin _ _ _ ((au.of_below hB F).zu (.inl hFg) _) (hst w' v (fun b _ hlt=>hB.block b hlt) hB.size hv) fun b hb => .inl hb
end
theorem A7{w:World}{g o:Nat}{v:Value}(h:w.cell? ⟨g,o,none⟩=some v):w.setCell ⟨g,o,none⟩ v=w:=by
 obtain⟨hp,tp,dr,os,out⟩:=w;simp only[World.cell?] at h;split at h
 ·rename_i c e f hh
  have h':c[o]? =some v:=by simpa using h
  simp only[World.setCell];congr 1
  apply Array.ext
  ·simp
  ·intro i h1 h2;by_cases hig:g=i
   ·subst hig;rw[Array.getElem_modify_self];have hgc:hp[g]=.cells c e f:=by rw[Array.getElem?_eq_getElem h2] at hh;exact zW hh
    rw[hgc];simp only[Option.isSome_none,Bool.false_eq_true,if_false];congr 1
    apply Array.ext
    ·simp
    ·intro j h3 h4;by_cases hjo:o=j
     ·subst hjo;rw[Array.getElem?_eq_getElem h4] at h';simp[zW h']
     ·rw[Array.getElem_setIfInBounds_ne h4 hjo]
   ·rw[Array.getElem_modify_of_ne hig]
 ·cases h
theorem acW{w:World}{g o:Nat}{u0 u1 u2 u3 u4:Value}(h0:w.cell? ⟨g,o,none⟩=some u0)(h1:w.cell? ⟨g,o+1,none⟩=some u1)(h4:w.cell? ⟨g,o+4,none⟩=some u4) :
  ((((w.setCell ⟨g,o,none⟩ u0).setCell ⟨g,o+1,none⟩ u1).setCell ⟨g,o+2,none⟩ u2).setCell ⟨g,o+3,none⟩ u3).setCell ⟨g,o+4,none⟩ u4=(w.setCell ⟨g,o+2,none⟩ u2).setCell ⟨g,o+3,none⟩ u3:=by
 rw[A7 h0,A7 h1];refine A7 ?_;rw[←h4];simp[go_sem]
theorem HB.chan{p:aS}{hi bb:Nat}{l:PL}{F:Nat→Prop}{x:dY}{w:World}{k:Nat}(h:HB p hi bb l F x w)(hk:k<x.aA.length) :
  ∃(A0:Option Addr) (n0 c0:Nat) (g n1 c1:Nat) (A2:Option Addr) (n2 c2:Nat) (Gi:Nat→Prop) (E1:Option Addr) (k1 e1:Nat) (E2:Option Addr) (k2 e2:Nat) (E3:Option Addr) (k3 e3:Nat),
   ((bb<w.heap.size∧g<w.heap.size∧x.aA.length=n1∧k<n1) ∧
   (∀j,w.cell? ⟨bb,j,none⟩=[.slice l.b0 l.m0 l.d0,.int .i64 p.ay,.slice l.b2 l.m2 l.d2,.slice l.b3 l.m3 l.d3,.slice A0 n0 c0,.slice (some ⟨g,0,none⟩) n1 c1,.slice A2 n2 c2][j]?) ∧
   (w.cell? ⟨g,k*5,none⟩=some (.int .i64 (x.aA[k]).dC)∧w.cell? ⟨g,k*5+1,none⟩=some (.slice E1 k1 e1)∧w.cell? ⟨g,k*5+2,none⟩=some (.slice E2 k2 e2)∧w.cell? ⟨g,k*5+3,none⟩=some (.slice E3 k3 e3)∧w.cell? ⟨g,k*5+4,none⟩=some (.bool (x.aA[k]).aC)) ∧
   (∀j,w.frozen? ⟨g,j,none⟩=false)) ∧
   bD.own w Gi x.aA[k] [.int .i64 (x.aA[k]).dC,.slice E1 k1 e1,.slice E2 k2 e2,.slice E3 k3 e3,.bool (x.aA[k]).aC]∧(∀b,Gi b→b<w.heap.size) ∧
   (∀(w':World) (x':gy) (u0 u1 u2 u3 u4:Value) (qP:Nat→Prop),yT w w'→bD.own w' qP x' [u0,u1,u2,u3,u4]→(∀b,qP b→b<w'.heap.size∧(Gi b∨w.heap.size≤b)) →
    kU p hi bb l F w {x with aA:=x.aA.set k x'} (((((w'.setCell ⟨g,k*5,none⟩ u0).setCell ⟨g,k*5+1,none⟩ u1).setCell ⟨g,k*5+2,none⟩ u2).setCell ⟨g,k*5+3,none⟩ u3).setCell ⟨g,k*5+4,none⟩ u4)):=by
 have hlt:=h.lt;obtain⟨⟨hp,hn,hh,hF⟩,oQ,A0,n0,c0,A1,n1,c1,A2,n2,c2,hx,hE⟩:=h;have hl:=hE.lens;obtain⟨hx0,g,Gi,E1,k1,e1,E2,k2,e2,E3,k3,e3,rfl,hFg,BG,MP,hel,ve,hq,hfree,hput⟩:=hE.Zw (k:=k) (by omega);have hgb:g≠bb:=fun h=>oQ (h ▸ hFg)
 refine⟨A0,n0,c0,g,n1,c1,A2,n2,c2,Gi,E1,k1,e1,E2,k2,e2,E3,k3,e3,⟨⟨hlt,BG,hl.2.1,by omega⟩,ed hx,hq,hfree⟩,hel,fun b hb=>(ve b hb).2,?_⟩;intro w' x' u0 u1 u2 u3 u4 qP hB ho hG;have ht:au F w _:=(au.of_below hB F).xN (g:=g) (o:=k*5) (.inl hFg) u0 u1 u2 u3 u4;have hE':=hput w' x' u0 u1 u2 u3 u4 qP (fun b _ hlt=>hB.block b hlt) hB.size ho hG;have hF':∀b,F b∨qP b→F b∨w.heap.size≤b:=fun b hb=>by
  rcases hb with hb|hb
  ·exact .inl hb
  ·rcases (hG b hb).2 with h1|h1
   ·exact .inl (ve b h1).1
   ·exact .inr h1
 exact⟨ht.wide fun b hb => .inl hb,fun b=>(F b∨qP b)∧b<_,⟨⟨aV.keep hp fun k hk=>ht.block k (by omega) fun hf=>by have:=(hF k hf).1;omega,hn,hh,fun b hb=>⟨by rcases hF' b hb.1 with h1|h1;exact (hF b h1).1;omega,hb.2⟩⟩,
  fun hb=>by rcases hF' bb hb.1 with h1|h1;exact oQ h1;omega,_,_,_,_,_,_,_,_,_,(ht.block bb hlt oQ).trans hx,hE'.low⟩,fun b hb=>hF' b hb.1⟩
def SP.row(t:TypeId)(sz n:Nat)(xs:List Value):SP:=⟨fun lo hi W v=>∃D f,v=.slice D n f∧Own W lo hi t sz D n f xs,fun hh hb ⟨D,f,hv,h⟩=>⟨D,f,hv,h.below hb hh⟩⟩
theorem SP.acX{t:TypeId}{sz n:Nat}{xs:List Value}{v:Value}{lo hi:Nat}{W:World}(h:(SP.row t sz n xs).p lo hi W v):∃D f,v=.slice D n f∧Own W lo hi t sz D n f xs:=h
end Go.Proofs.YtjcoapnggojpdaaGreatDoor
