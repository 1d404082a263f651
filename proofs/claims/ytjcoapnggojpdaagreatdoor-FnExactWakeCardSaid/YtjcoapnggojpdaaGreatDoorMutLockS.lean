/- Texts of the proof, laid compactly. -/
import Derived.Test.YtjcoapnggojpdaaGreatDoorGMutOk
import Derived.Test.YtjcoapnggojpdaaGreatDoorFlowR
import Derived.Test.YtjcoapnggojpdaaGreatDoorChanCopyS
import Derived.Test.YtjcoapnggojpdaaGreatDoorEngH
import Derived.Test.YtjcoapnggojpdaaGreatDoorChanDrop
set_option maxHeartbeats 4000000
set_option maxRecDepth 100000
namespace Go.Proofs.YtjcoapnggojpdaaGreatDoor
set_option linter.unusedSimpArgs false
set_option linter.unusedVariables false
open Go.RowKit
def Fm(w:World)(b0 g:Nat):Nat→Prop:=fun k=>b0≤k∧k<w.heap.size∧k≠g
def ad9(w:World)(b0 g:Nat)(o:Int)(xs:List Int):Prop :=
 b0≤g∧∃A c,w.heap[g]? =some (.cells #[.int .i64 o,.slice A xs.length c] 137 (0,0))∧dD Lay.int 3 w (Fm w b0 g) A xs.length c xs
def Lu(w:World)(b0 g:Nat)(o:Int)(xs:List Int):Prop :=
 b0≤g∧∃A c,w.heap[g]? =some (.cells #[.int .i64 o,.slice A xs.length c] 137 (0,0))∧aB Lay.int 3 w (Fm w b0 g) A xs.length c xs
theorem Lu.at_{w:World}{b0 g:Nat}{o:Int}{xs:List Int}(h:Lu w b0 g o xs):ad9 w b0 g o xs:=by
 obtain⟨h1,A,c,h2,h3⟩:=h;exact⟨h1,A,c,h2,dD.of h3⟩
theorem Ja{w:World}{hi:Nat}{x:eQ}{vs:List Value}(h:aX.see w hi x vs)(cu:hi≤w.heap.size)(hn:dO x≤1048576) :
  Calls Tryz.prog 123 #[.agg vs.toArray] w fun e w'=>∃g,e=.returned (.pointer (some ⟨g,0,none⟩))∧Lu w' w.heap.size g x.dm x.iW∧yT w w':=by
 obtain⟨A1,n1,c1,rfl,hw0,⟨hc1,hm1,s1⟩⟩:=iQ h;obtain⟨o,ds⟩:=x;have l1:=s1.1;simp only at l1 s1 hw0;subst l1;show Calls Tryz.prog 123 #[.agg #[.int .i64 o,.slice A1 ds.length c1]] w fun e w'=>∃g,e=.returned (.pointer (some ⟨g,0,none⟩))∧Lu w' w.heap.size g o ds∧yT w w'
 have hl:ds.length≤1048576:=hn;have HX:=zA (ak w #[.int .i64 o,.slice A1 ds.length c1] 137);have HB:=zA ((zD w.heap.size w).alloc (zC _) (.cells #[.int .i64 o,.slice A1 ds.length c1] 137));have HC:=zA (fun (W:World) (hW:yT w W)=>Di (c:=c1) (s1.below hW cu) hl);have HQ:=zA (fun (W:World) (hb:Below (w.alloc (.cells #[.int .i64 o,.slice A1 ds.length c1] 137)).drew.heap.size (w.alloc (.cells #[.int .i64 o,.slice A1 ds.length c1] 137)).drew W)=>show W.cell? ⟨w.heap.size,0,none⟩=some (.int .i64 o) from ae (af HX.out ((gz (zD _ _) 1).trans hb) (by simp)) rfl);clear s1 h hw0 hn;generalize hN:ds.length=n at *;have HN:=zA hN;clear hN;go_enter Tryz.func123,Tryz.ntmps123
 go_wp2_with fail
 go_region_with ((go_at_call 211;refine (HC.out _ HB.out.drew).mono ?_;rintro e w2 ⟨A2,c2,rfl,mQ,hb2⟩;have q0:w2.cell? ⟨w.heap.size,0,none⟩=some (.int .i64 o):=HQ.out _ hb2))
 all_goals
  go_wp2_with fail
  go_ret;have z2:=hb2.size;simp at z2;have hB2:yT w w2:=HB.out.drew.trans (hb2.mono (by simp));refine⟨w2.heap.size,rfl,⟨by omega,A2,c2,?_,?_⟩,hB2.alloc (by omega) _⟩
  ·rw[HN.out];exact ak w2 #[.int .i64 o,.slice A2 n c2] 137
  ·rw[HN.out];exact (mQ.stay (w':=w2.alloc (.cells #[.int .i64 o,.slice A2 n c2] 137)) (fun g hg hlt=>Below.heap_alloc w2 _ _ hlt) (by simp)).wide (fun k hk=>⟨by have:=hk.1;simp at this;omega,by have:=hk.2;simp;omega,by have:=hk.2;omega⟩)




def WV(x:dY)(n:Int)(g:bY):dY:={x with bJ:=x.bJ.set n.toNat g}
def rG(n:Int)(c:gy):gy:={c with dh:=iZ n c.dh,dG:=iZ n c.dG}
def pM(n:Int)(x:dY):dY:={x with aA:=x.aA.map (rG n)}
def nR(v:Int)(ok:Bool):Int:=if ok then v else 0
def Iq(b:Bool):Int:=if b=true then 1 else 0
def BJ(g:bY)(ch reg ac3 v:Int)(ok:Bool):bY:=dQ (dQ (dW g ⟨2,ch,nR v ok,ok⟩) reg (nR v ok)) ac3 (Iq ok)
theorem Oy{w:World}{hi:Nat}{x:eQ}{vs:List Value}(h:aX.see w hi x vs)(cu:hi≤w.heap.size)(hn:dO x≤1048576) :
  Calls Tryz.prog 107 #[.agg vs.toArray] w fun e w'=>∃A c,e=.returned (.agg #[.int .i64 x.dm,.slice A x.iW.length c])∧aB Lay.int 3 w' (fun k=>w.heap.size≤k∧k<w'.heap.size) A x.iW.length c x.iW∧yT w w':=by
 obtain⟨A1,n1,c1,rfl,hw0,⟨hc1,hm1,s1⟩⟩:=iQ h;obtain⟨o,ds⟩:=x;have L1:=zA s1.1;have hl:ds.length≤1048576:=hn;simp only at *;rw[L1.out] at hl;have Jz:=zA (show ((w.alloc (.cells #[.int .i64 o,.slice A1 n1 c1] 137)).alloc (.cells #[.int .i64 0,.slice none 0 0] 137)).heap[w.heap.size]? =some (.cells #[.int .i64 o,.slice A1 n1 c1] 137 (0,0)) from by have:=ak w #[.int .i64 o,.slice A1 n1 c1] 137;exact af this ((zD _ _).alloc (zC _) _) (by simp));have qi:=zA (show ((w.alloc (.cells #[.int .i64 o,.slice A1 n1 c1] 137)).alloc (.cells #[.int .i64 0,.slice none 0 0] 137)).heap[w.heap.size+1]? =some (.cells #[.int .i64 0,.slice none 0 0] 137 (0,0)) from by have:=ak (w.alloc (.cells #[.int .i64 o,.slice A1 n1 c1] 137)) #[.int .i64 0,.slice none 0 0] 137;rw[zF] at this;exact this);have gW:=zA (show yT w ((w.alloc (.cells #[.int .i64 o,.slice A1 n1 c1] 137)).alloc (.cells #[.int .i64 0,.slice none 0 0] 137)) from ((zD _ _).alloc (zC _) _).alloc (by simp) _);have O5:=zA (fun (W:World) (hW:yT w W)=>s1.below hW cu);have zz0:w.heap.size+2≤((w.alloc (.cells #[.int .i64 o,.slice A1 n1 c1] 137)).alloc (.cells #[.int .i64 0,.slice none 0 0] 137)).heap.size:=(by simp);clear s1 h hn;obtain⟨i0,jJ,Vg,Vh,Vj⟩:=info_parts xU;go_enter Tryz.func107,Tryz.ntmps107
 go_upto_region 1 with (fail)
 generalize ((w.alloc (.cells #[.int .i64 o,.slice A1 n1 c1] 137)).alloc (.cells #[.int .i64 0,.slice none 0 0] 137))=I2 at *;have BZ:yT I2 (I2.alloc (.cells #[] 3)):=(zD _ _).alloc (zC _) _;have FN:=af Jz.out BZ (by omega);have pa1:=ae (j:=1) FN rfl;have FO:=l9 (O5.out _ (gW.out.trans (BZ.mono (by omega))));have NL:Own (I2.alloc (.cells #[] 3)) I2.heap.size (I2.heap.size+1) 3 1 (some ⟨I2.heap.size,0,none⟩) 0 0 []:=by simpa using Own.made (size:=1) (e:=3) I2 #[] 0 0 (by decide) rfl (zC _)
 go_upto_region 2 with (at_builtin;refine dB rfl (.tmp 3) (.tmp 5) _ rfl I2.heap.size _ 3 i0 _ 1 8 Tryz.underlying22 jJ Vg Vh Vj rfl (by omega) (some ⟨I2.heap.size,0,none⟩) 0 0 [] rfl NL hi A1 n1 c1 _ rfl FO.1 (v_ _) (by simp only[maxLen];omega) (by omega) (by simp) ?_;intro B1 e1 w1 dU hb1;have FP:=af FN hb1 (by omega);have pk1:=ae (j:=1) FP rfl;have fk1:=ah FP 1)
 rw[yH] at dU;simp only[List.nil_append] at dU;replace dU:aB Lay.int 3 w1 (fun g=>I2.heap.size≤g∧g<w1.heap.size) B1 n1 e1 ds:=kF dU L1.out FO.2;replace hb1:=BZ.trans hb1;have ha1:=hb1.size;try simp only[yH]
 clear BZ FN FO NL FP pk1 fk1 pa1;have zz1:w.heap.size+2≤w1.heap.size:=zJ zz0 hb1.size;have hx1:=af Jz.out hb1 (by omega);have hr1:=af qi.out hb1 (by omega);have p1:=ae (j:=1) hx1 rfl;have f1:=ah hx1 1;have Fb:=zA (gW.out.trans (hb1.mono (by omega)));have Zx:=zA dU;clear dU hb1;have qE:=zA (show (w1.setCell ⟨w.heap.size,1,none⟩ (.slice B1 n1 e1)).heap[w.heap.size]? =some (.cells #[.int .i64 o,.slice B1 n1 e1] 137 (0,0)) from az (j:=1) (u := .slice B1 n1 e1) hx1);have DV:=zA ((zN w1 ⟨w.heap.size,1,none⟩ (.slice B1 n1 e1) (w.heap.size+1) (by simp only;omega)).trans hr1);have iC:=zA (aj (p:=⟨w.heap.size,1,none⟩) Fb.out (zC _) (.slice B1 n1 e1));replace Zx:=zA (aB.setCell (o:=1) Zx.out (g:=w.heap.size) (by omega) (.slice B1 n1 e1));have hz1:=zA (show (w1.setCell ⟨w.heap.size,1,none⟩ (.slice B1 n1 e1)).heap.size=w1.heap.size by simp[World.setCell]);clear hx1 hr1 Fb;generalize w1.setCell ⟨w.heap.size,1,none⟩ (.slice B1 n1 e1)=MR at *;have x0:=ae (j:=0) qE.out rfl;have x1:=ae (j:=1) qE.out rfl;have g0:=ah DV.out 0;have g1:=ah DV.out 1;have a0:=ae (j:=0) DV.out rfl;have a1:=ae (j:=1) DV.out rfl;clear p1 f1;go_wp2_with fail
 have hRF:((MR.setCell ⟨w.heap.size+1,0,none⟩ (.int .i64 o)).setCell ⟨w.heap.size+1,1,none⟩ (.slice B1 n1 e1)).heap[w.heap.size+1]? =some (.cells #[.int .i64 o,.slice B1 n1 e1] 137 (0,0)):=az (j:=1) (u := .slice B1 n1 e1) (az (j:=0) (u := .int .i64 o) DV.out);have hBF:=aj (p:=⟨w.heap.size+1,1,none⟩) (aj (p:=⟨w.heap.size+1,0,none⟩) iC.out (by simp only;omega) (.int .i64 o)) (by simp only;omega) (.slice B1 n1 e1);have hOF:=aB.setCell (o:=1) (aB.setCell (o:=0) Zx.out (g:=w.heap.size+1) (by omega) (.int .i64 o)) (g:=w.heap.size+1) (by omega) (.slice B1 n1 e1);have hzF:((MR.setCell ⟨w.heap.size+1,0,none⟩ (.int .i64 o)).setCell ⟨w.heap.size+1,1,none⟩ (.slice B1 n1 e1)).heap.size=MR.heap.size:=(by simp[World.setCell]);generalize (MR.setCell ⟨w.heap.size+1,0,none⟩ (.int .i64 o)).setCell ⟨w.heap.size+1,1,none⟩ (.slice B1 n1 e1)=WF at *;have y0:=ae (j:=0) hRF rfl;have y1:=ae (j:=1) hRF rfl;refine bodyPost_ret (v := .agg #[.int .i64 o,.slice B1 n1 e1]) (by simp[results,Tryz.results107,go_sem,y0,y1]) rfl ?_;have hzz:=hz1.out;rw[L1.out];exact⟨B1,e1,rfl,hOF.wide fun k hk=>by omega,hBF⟩
theorem SC{w w':World}{g:Nat}(h:∀j,w.frozen? ⟨g,j,none⟩=false)(hg:g<w.heap.size)(hb:yT w w')(j:Nat):w'.frozen? ⟨g,j,none⟩=false:=by
 rw[←h j];simp only[World.frozen?,hb.block g hg]
theorem au.old{F:Nat→Prop}{w w':World}(h:au (fun b=>F b∨w.heap.size≤b) w w'):au F w w' :=
 ⟨h.os,h.tape,h.output,h.size,fun k hk hn=>h.block k hk fun hf=>hf.elim hn fun h1=>by omega⟩
theorem au.xN{F:Nat→Prop}{w w':World}(h:au F w w'){g o:Nat}(hg:F g∨w.heap.size≤g)(u0 u1 u2 u3 u4:Value) :
  au F w (((((w'.setCell ⟨g,o,none⟩ u0).setCell ⟨g,o+1,none⟩ u1).setCell ⟨g,o+2,none⟩ u2).setCell ⟨g,o+3,none⟩ u3).setCell ⟨g,o+4,none⟩ u4) :=
 au.old (au.put [u0,u1,u2,u3,u4] g o (h.wide fun _ hf => .inl hf) hg)
theorem au.zu{F:Nat→Prop}{w w':World}(h:au F w w'){g o:Nat}(hg:F g∨w.heap.size≤g)(u:Value):au F w (w'.setCell ⟨g,o,none⟩ u) :=
 au.old ((h.wide fun _ hf => .inl hf:au (fun b=>F b∨w.heap.size≤b) w w').setCell (p:=⟨g,o,none⟩) hg u)
theorem kD{w:World}{g o k:Nat}{b:Option Obj}(h:w.heap[k]? =b)(hk:k≠g)(u0 u1 u2 u3 u4:Value) :
  (((((w.setCell ⟨g,o,none⟩ u0).setCell ⟨g,o+1,none⟩ u1).setCell ⟨g,o+2,none⟩ u2).setCell ⟨g,o+3,none⟩ u3).setCell ⟨g,o+4,none⟩ u4).heap[k]? =b:=by
 rw[←h];exact jo [u0,u1,u2,u3,u4] w g o k hk
theorem qF{w:World}{g o k:Nat}{b:Option Obj}(h:w.heap[k]? =b)(hk:k≠g)(u0 u1 u2:Value):(((w.setCell ⟨g,o,none⟩ u0).setCell ⟨g,o+1,none⟩ u1).setCell ⟨g,o+2,none⟩ u2).heap[k]? =b:=by
 rw[←h];exact jo [u0,u1,u2] w g o k hk
theorem au.pV{F:Nat→Prop}{w w':World}(h:au F w w'){g o:Nat}(hg:F g∨w.heap.size≤g)(u0 u1 u2:Value):au F w (((w'.setCell ⟨g,o,none⟩ u0).setCell ⟨g,o+1,none⟩ u1).setCell ⟨g,o+2,none⟩ u2) :=
 au.old (au.put [u0,u1,u2] g o (h.wide fun _ hf => .inl hf) hg)
theorem EZ{w:World}{lo hi size n c g o:Nat}{e:TypeId}{A:Option Addr}{xs:List Value}(h:Own w lo hi e size A n c xs)(hg:g<lo∨hi≤g)(u:Value):Own (w.setCell ⟨g,o,none⟩ u) lo hi e size A n c xs :=
 h.keep fun k h1 h2 h3=>zN w ⟨g,o,none⟩ u k (by show k≠g;omega)
theorem pV{w:World}{b:Nat}{t:TypeId}{x0 x1 x2 u0 u1 u2:Value}(h:w.heap[b]? =some (.cells #[x0,x1,x2] t (0,0))):(((w.setCell ⟨b,0,none⟩ u0).setCell ⟨b,1,none⟩ u1).setCell ⟨b,2,none⟩ u2).heap[b]? =some (.cells #[u0,u1,u2] t (0,0)) :=
 az (j:=2) (az (j:=1) (az (j:=0) h))
theorem Sr{w:World}{b:Nat}{t:TypeId}{u0 u1 u2:Value}(h:w.heap[b]? =some (.cells #[u0,u1,u2] t (0,0))):((w.setCell ⟨b,0,none⟩ u0).setCell ⟨b,1,none⟩ u1).setCell ⟨b,2,none⟩ u2=w:=by
 rw[rQ h rfl,rQ h rfl,rQ h rfl]
theorem BR{x:dY}{k N:Nat}(h:dS x≤N)(hk:k<x.aA.length):dN x.aA[k]≤N:=by
 have:=dI dN (zS hk);unfold dS at h;omega
theorem rO{x:dY}{k N:Nat}(h:dS x≤N)(hk:k<x.bJ.length):bV x.bJ[k]≤N:=by
 have:=dI bV (zS hk);unfold dS at h;omega
theorem Ru{x:dY}{k N:Nat}(h:dS x≤N)(hk:k<x.ay.length):dO x.ay[k]≤N:=by
 have:=dI dO (zS hk);unfold dS at h;omega
theorem Xn{w w':World}{lo hh hi n cc:Nat}{A B:Option Addr}{ds:List di}{g:Int}(hs:a_ aN w hi A n ds)(h:Own w' lo hh 49 3 B (iZ g ds).length cc (((iZ g ds).map wc).flatten)) :
  aB aN 49 w' (fun b=>lo≤b∧b<hh) B (iZ g ds).length cc (iZ g ds) :=
 kF (cells:=wc) h rfl fun d hd=>UY hs d (List.mem_filter.1 hd).1
theorem Jw{W:World}{hi:Nat}{y:bY}{D2:Option Addr}{q2 f2:Nat}{D4:Option Addr}{q4 f4:Nat}(h:aI.see W hi y [.int .i64 y.ax,.int .i64 y.dE,.slice D2 q2 f2,.int .i64 y.ai,.slice D4 q4 f4]){v:Int}(hv:(Lit.int .i64 v).wf=true) :
  aI.see W hi {y with ai:=v} [.int .i64 y.ax,.int .i64 y.dE,.slice D2 q2 f2,.int .i64 v,.slice D4 q4 f4]:=by
 obtain⟨A2,n2,c2,A4,n4,c4,hl,h0,h1,h2,h3,h4⟩:=gK h;injection hl with _ hl;injection hl with _ hl;injection hl with a hl;injection hl with _ hl;injection hl with b _
 injection a with a1 a2 a3;injection b with b1 b2 b3
 subst a1 a2 a3 b1 b2 b3;exact o_ (x:={y with ai:=v}) h0 h1 h2 hv h4
def nP(n:Int)(x:dY)(k:Nat):dY:={x with aA:=(x.aA.take k).map (rG n)++x.aA.drop k}
theorem Df(n:Int)(x:dY):nP n x 0=x:=by unfold nP;simp
theorem E0{n:Int}{x:dY}{k:Nat}(h:x.aA.length=k):nP n x k=pM n x:=by
 unfold nP pM;rw[zU (by omega),List.drop_eq_nil_of_le (by omega),List.append_nil]
theorem E5(n:Int)(x:dY)(k:Nat):(nP n x k).aA.length=x.aA.length:=by
 unfold nP;simp only[zZ,yL,List.length_take,List.length_drop];omega
theorem E6{n:Int}{x:dY}{k:Nat}(h:k<x.aA.length)(h2:k<(nP n x k).aA.length):(nP n x k).aA[k]=x.aA[k]:=by
 have h3:(nP n x k).aA[k]? =x.aA[k]? :=by
  unfold nP;simp only;rw[List.getElem?_append_right (by simp;omega)];simp only[yL,List.length_take,Nat.min_eq_left (Nat.le_of_lt h),yJ,List.getElem?_drop,zI]
 rw[zG h2,zG h] at h3;exact zW h3
theorem Dh{n:Int}{x:dY}{k:Nat}(h:k<x.aA.length):{nP n x k with aA:=(nP n x k).aA.set k (rG n x.aA[k])}=nP n x (k+1):=by
 have h1:((x.aA.take k).map (rG n)++x.aA.drop k).set k (rG n x.aA[k])=(x.aA.take (k+1)).map (rG n)++x.aA.drop (k+1):=by
  have hlen:((x.aA.take k).map (rG n)).length=k:=by simp;omega
  rw[List.set_append_right _ _ (by omega),hlen,yJ,List.drop_eq_getElem_cons h,List.set_cons_zero,List.take_add_one,zG h,Option.toList_some,List.map_append,List.map_singleton,List.append_assoc,List.singleton_append]
 unfold nP;simp only[h1]
theorem M9{w:World}{F:Nat→Prop}{x:dY}{A0:Option Addr}{n0 c0:Nat}{A1:Option Addr}{n1 c1:Nat}{A2:Option Addr}{n2 c2:Nat}(hE:iM F x w A0 n0 c0 A1 n1 c1 A2 n2 c2)(hsz:dS x≤1048600)(n:Int) :
  Calls Tryz.prog 101 #[.agg #[.slice A0 n0 c0,.slice A1 n1 c1,.slice A2 n2 c2],.int .i64 n] w fun e w'=>e=.returned (.agg #[.slice A0 n0 c0,.slice A1 n1 c1,.slice A2 n2 c2])∧iM (fun b=>(F b∧b<w.heap.size)∨w.heap.size+2≤b) (pM n x) w' A0 n0 c0 A1 n1 c1 A2 n2 c2∧au F w w':=by
 have mX:=ak w #[.slice A0 n0 c0,.slice A1 n1 c1,.slice A2 n2 c2] 40;have mX:=af mX ((zD _ _).alloc (zC _) (.cells #[.slice none 0 0,.slice none 0 0,.slice none 0 0] 40)) (by simp only[zF];omega);have kT:=ak (w.alloc (.cells #[.slice A0 n0 c0,.slice A1 n1 c1,.slice A2 n2 c2] 40)) #[.slice none 0 0,.slice none 0 0,.slice none 0 0] 40;simp only[zF,zH,Nat.reduceAdd] at kT;have hB0:Below w.heap.size w ((w.alloc (.cells #[.slice A0 n0 c0,.slice A1 n1 c1,.slice A2 n2 c2] 40)).alloc (.cells #[.slice none 0 0,.slice none 0 0,.slice none 0 0] 40)):=((zD _ _).alloc (zC _) _).alloc (by simp only[zF];omega) _;have hz0:w.heap.size+2≤((w.alloc (.cells #[.slice A0 n0 c0,.slice A1 n1 c1,.slice A2 n2 c2] 40)).alloc (.cells #[.slice none 0 0,.slice none 0 0,.slice none 0 0] 40)).heap.size:=by simp only[zF];omega
 have Rk:=hE.lens.2.1;have Zm:n1≤1048600:=by unfold dS at hsz;omega
 have hH0:iM (fun b=>(F b∧b<w.heap.size)∨w.heap.size+2≤b) x ((w.alloc (.cells #[.slice A0 n0 c0,.slice A1 n1 c1,.slice A2 n2 c2] 40)).alloc (.cells #[.slice none 0 0,.slice none 0 0,.slice none 0 0] 40)) A0 n0 c0 A1 n1 c1 A2 n2 c2:=(hE.wide (F':=(fun b=>(F b∧b<w.heap.size)∨w.heap.size+2≤b)) fun b hb hlt => .inl ⟨hb,hlt⟩).stay (fun b _ hb=>hB0.block b hb) hB0.size;have HT0:=zA (au.of_below hB0 F);have gW:=zA hB0;have HH0:=zA hH0;have HSZ:=zA hsz;have QB:=zA mX;have qi:=zA kT;have pe0:=ae (j:=0) mX rfl;have pe1:=ae (j:=1) mX rfl;have pe2:=ae (j:=2) mX rfl;clear hE hB0 hH0 hsz mX kT;go_enter Tryz.func101,Tryz.ntmps101
 go_upto_region 1 with (fail)
 generalize ((w.alloc (.cells #[.slice A0 n0 c0,.slice A1 n1 c1,.slice A2 n2 c2] 40)).alloc (.cells #[.slice none 0 0,.slice none 0 0,.slice none 0 0] 40))=W0 at *;go_wp2_with fail
 go_loopw[10] (fun i wr=>∃k:Nat,k≤n1∧i=.int .i64 k∧iM (fun b=>(F b∧b<w.heap.size)∨w.heap.size+2≤b) (nP n x k) wr A0 n0 c0 A1 n1 c1 A2 n2 c2∧au F w wr∧wr.heap[w.heap.size]? =some (.cells #[.slice A0 n0 c0,.slice A1 n1 c1,.slice A2 n2 c2] 40 (0,0))∧wr.heap[w.heap.size+1]? =some (.cells #[.slice none 0 0,.slice none 0 0,.slice none 0 0] 40 (0,0))∧w.heap.size+2≤wr.heap.size) (fun i _=>n1-(intOf i).toNat)
 case atStart=>exact⟨0,zL _,rfl,by rw[Df];exact HH0.out,HT0.out,QB.out,qi.out,hz0⟩
 case round =>
  obtain⟨k,hk,rfl,hH,hT,hEb,ZG,Eu⟩:=hrel;clear pe0 pe1 pe2 HH0 HT0 QB qi gW;have HT:=zA hT;have HEb:=zA hEb;have HRb:=zA ZG;by_cases hlt:k<n1
  ·have En:k<x.aA.length:=(by omega);obtain⟨hx,g,Gi,E1,k1,e1,E2,k2,e2,E3,k3,e3,rfl,hFg,BG,MP,hel,ve,⟨q0,q1,q2,q3,q4⟩,hfree,hput⟩:=hH.Zw hlt;have hce:=E6 (n:=n) En hx;have hst:=Dh (n:=n) En;have hcz:=BR HSZ.out En;rw[hce] at hel q0 q4;generalize x.aA[k]=c at *;have aW:=bD.seen (hi:=wr.heap.size) hel fun b hb=>(ve b hb).2
   obtain⟨G1,j1,g1,H1,G2,j2,g2,H2,G3,j3,g3,H3,Bv,r0,⟨r1,Uh⟩,⟨r2,r2F⟩,⟨r3,r3F⟩,d12,d13,d23⟩:=unC hel;injection Bv with _ Bv;injection Bv with h1 Bv;injection Bv with h2 Bv;injection Bv with h3 _
   injection h1 with a1 a2 a3;injection h2 with b1 b2 b3;injection h3 with c1' SI c3'
   subst a1 a2 a3 b1 b2 b3 c1' SI c3';have s2:=r2.seen (hi:=wr.heap.size) fun b hb=>(ve b (r2F b hb)).2
   have s3:=r3.seen (hi:=wr.heap.size) fun b hb=>(ve b (r3F b hb)).2
   have hl2:k2≤1048600:=by have:=s2.1;unfold dN at hcz;omega
   have hl3:k3≤1048600:=by have:=s3.1;unfold dN at hcz;omega
   have mZ:Below wr.heap.size wr (wr.alloc (.cells #[.int .i64 c.dC,.slice E1 k1 e1,.slice E2 k2 e2,.slice E3 k3 e3,.bool c.aC] 135)):=(zD _ _).alloc (zC _) _;have Lr:=ak wr #[.int .i64 c.dC,.slice E1 k1 e1,.slice E2 k2 e2,.slice E3 k3 e3,.bool c.aC] 135;have Ox:wr.heap.size+1≤(wr.alloc (.cells #[.int .i64 c.dC,.slice E1 k1 e1,.slice E2 k2 e2,.slice E3 k3 e3,.bool c.aC] 135)).heap.size:=by simp only[zF];omega
   have pe0:=ae (j:=0) hEb rfl;have pe1:=ae (j:=1) hEb rfl;have pe2:=ae (j:=2) hEb rfl;have aau:w.heap.size<wr.heap.size:=(by omega);go_upto_region 4 with (fail)
   generalize (wr.alloc (.cells #[.int .i64 c.dC,.slice E1 k1 e1,.slice E2 k2 e2,.slice E3 k3 e3,.bool c.aC] 135))=wA at *;clear pe0 pe1 pe2;generalize Qs:wr.heap.size=bc at *;have PU:=zA s3;have uO:=zA mZ;have I3:=ae (j:=0) Lr rfl;have I4:=ae (j:=1) Lr rfl;have I5:=ae (j:=2) Lr rfl;have TI:=ae (j:=3) Lr rfl;have ZH:=ae (j:=4) Lr rfl;have ZI:=ah Lr 0;have ZJ:=ah Lr 1;have ZK:=ah Lr 2;have pf3:=ah Lr 3;have pf4:=ah Lr 4;have aiF:bc<wA.heap.size:=(by omega);go_wp2_with fail
   refine (Aj (g:=n) (s2.below mZ (zC _)) (by omega) hl2).mono ?_;rintro e w5 ⟨D2,f2,rfl,rq,hb5⟩;have Vf:=hb5.size;have I6:=af Lr hb5 aiF;clear I3 ZI I4 ZJ I5 ZK TI pf3 ZH pf4;have I3:=ae (j:=0) I6 rfl;have I4:=ae (j:=1) I6 rfl;have I5:=ae (j:=2) I6 rfl;have TI:=ae (j:=3) I6 rfl;have ZH:=ae (j:=4) I6 rfl;have ZI:=ah I6 0;have ZJ:=ah I6 1;have ZK:=ah I6 2;have pf3:=ah I6 3;have pf4:=ah I6 4;go_upto_region 5 with (fail)
   have Ce:(w5.setCell ⟨bc,2,none⟩ (.slice D2 (iZ n c.dh).length f2)).heap[bc]? =some (.cells #[.int .i64 c.dC,.slice E1 k1 e1,.slice D2 (iZ n c.dh).length f2,.slice E3 k3 e3,.bool c.aC] 135 (0,0)):=az (j:=2) I6;have qB:Below bc wr (w5.setCell ⟨bc,2,none⟩ (.slice D2 (iZ n c.dh).length f2)):=aj (mZ.trans (hb5.mono (by omega))) (zC _) _;have I7:Own (w5.setCell ⟨bc,2,none⟩ (.slice D2 (iZ n c.dh).length f2)) wA.heap.size (w5.setCell ⟨bc,2,none⟩ (.slice D2 (iZ n c.dh).length f2)).heap.size 49 3 D2 (iZ n c.dh).length f2 (((iZ n c.dh).map wc).flatten):=(EZ rq (.inl (by omega)) _).wider (zC _) (by simp);have hz6:wA.heap.size≤(w5.setCell ⟨bc,2,none⟩ (.slice D2 (iZ n c.dh).length f2)).heap.size:=by simp only[zM];omega
   generalize (w5.setCell ⟨bc,2,none⟩ (.slice D2 (iZ n c.dh).length f2))=w6 at *;have QC:=zA I7;clear I3 ZI I4 ZJ I5 ZK TI pf3 ZH pf4 I6 rq hb5 I7;have I3:=ae (j:=0) Ce rfl;have I4:=ae (j:=1) Ce rfl;have I5:=ae (j:=2) Ce rfl;have TI:=ae (j:=3) Ce rfl;have ZH:=ae (j:=4) Ce rfl;have ZI:=ah Ce 0;have ZJ:=ah Ce 1;have ZK:=ah Ce 2;have pf3:=ah Ce 3;have pf4:=ah Ce 4;go_wp2_with fail
   refine (Aj (g:=n) (PU.out.below qB (by omega)) (by omega) hl3).mono ?_;rintro e w7 ⟨D3,f3,rfl,TJ,MO⟩;have hz7:=MO.size;have MW:=af Ce MO (by omega);clear I3 ZI I4 ZJ I5 ZK TI pf3 ZH pf4;have I3:=ae (j:=0) MW rfl;have I4:=ae (j:=1) MW rfl;have I5:=ae (j:=2) MW rfl;have TI:=ae (j:=3) MW rfl;have ZH:=ae (j:=4) MW rfl;have ZI:=ah MW 0;have ZJ:=ah MW 1;have ZK:=ah MW 2;have pf3:=ah MW 3;have pf4:=ah MW 4;go_upto_region 6 with (fail)
   have hx8:(w7.setCell ⟨bc,3,none⟩ (.slice D3 (iZ n c.dG).length f3)).heap[bc]? =some (.cells #[.int .i64 c.dC,.slice E1 k1 e1,.slice D2 (iZ n c.dh).length f2,.slice D3 (iZ n c.dG).length f3,.bool c.aC] 135 (0,0)):=az (j:=3) MW;have QD:Below bc wr (w7.setCell ⟨bc,3,none⟩ (.slice D3 (iZ n c.dG).length f3)):=aj (qB.trans (MO.mono (by omega))) (zC _) _;have QE:Own (w7.setCell ⟨bc,3,none⟩ (.slice D3 (iZ n c.dG).length f3)) w6.heap.size (w7.setCell ⟨bc,3,none⟩ (.slice D3 (iZ n c.dG).length f3)).heap.size 49 3 D3 (iZ n c.dG).length f3 (((iZ n c.dG).map wc).flatten):=(EZ TJ (.inl (by omega)) _).wider (zC _) (by simp);have iy:Own (w7.setCell ⟨bc,3,none⟩ (.slice D3 (iZ n c.dG).length f3)) wA.heap.size w6.heap.size 49 3 D2 (iZ n c.dh).length f2 (((iZ n c.dh).map wc).flatten):=EZ (QC.out.below MO (zC _)) (.inl (by omega)) _;have hz8:w6.heap.size≤(w7.setCell ⟨bc,3,none⟩ (.slice D3 (iZ n c.dG).length f3)).heap.size:=by simp only[zM];omega
   generalize (w7.setCell ⟨bc,3,none⟩ (.slice D3 (iZ n c.dG).length f3))=w8 at *;clear I3 ZI I4 ZJ I5 ZK TI pf3 ZH pf4 MW TJ MO qB Ce;have HO8:=zA QE;have HO9:=zA iy;clear QE iy;have I3:=ae (j:=0) hx8 rfl;have I4:=ae (j:=1) hx8 rfl;have I5:=ae (j:=2) hx8 rfl;have TI:=ae (j:=3) hx8 rfl;have ZH:=ae (j:=4) hx8 rfl;have pe0:=ae (j:=0) (af HEb.out QD (by omega)) rfl;have pe1:=ae (j:=1) (af HEb.out QD (by omega)) rfl;have pe2:=ae (j:=2) (af HEb.out QD (by omega)) rfl;have oQ:Below wr.heap.size wr w8:=by rw[Qs];exact QD
   have z0:=B_ q0 oQ;have z1:=B_ q1 oQ;have z2:=B_ q2 oQ;have z3:=B_ q3 oQ;have z4:=B_ q4 oQ;have hfz:=SC hfree (by rw[Qs];exact BG) oQ;have zf0:=hfz (k*5);have zf1:=hfz (k*5+1);have zf2:=hfz (k*5+2);have zf3:=hfz (k*5+3);have zf4:=hfz (k*5+4);have jJ:(0:Int)≤(k:Int):=(by omega);have u_:(k:Int)<(n1:Int):=(by omega);have ao8:w.heap.size<w8.heap.size:=(by omega);have ao9:bc<w8.heap.size:=(by omega);have apa:g<w8.heap.size:=(by omega);go_wp2_with fail
   go_roundw
   case rel =>
    have hFn:∀b,(F b∧b<w.heap.size)∨w.heap.size+2≤b→b<bc→w8.heap[b]? =wr.heap[b]? :=fun b _ hlt=>QD.block b hlt
    have hown:bD.own w8 (fun b=>H1 b∨(wA.heap.size≤b∧b<w6.heap.size)∨(w6.heap.size≤b∧b<w8.heap.size)) (rG n c) [.int .i64 c.dC,.slice E1 k1 e1,.slice D2 (iZ n c.dh).length f2,.slice D3 (iZ n c.dG).length f3,.bool c.aC] :=
     zi (x:=rG n c) r0 (r1.stay (fun b hb _=>QD.block b (by have:=(ve b (Uh b hb)).2;omega)) (by omega)) (dD.of (Xn s2 HO9.out)) (dD.of (Xn PU.out HO8.out)) (fun b hb => .inl hb) (fun b hb => .inr (.inl hb)) (fun b hb => .inr (.inr hb)) (fun b hb hh=>by have:=(ve b (Uh b hb)).2;omega) (fun b hb hh=>by have:=(ve b (Uh b hb)).2;omega) (fun b hb hh=>by omega)
    have ZL:=hput w8 (rG n c) _ _ _ _ _ _ (fun b hb hlt=>hFn b hb (by omega)) (by omega) hown (fun b hb=>by
     rcases hb with hb|hb|hb
     ·exact⟨by have:=(ve b (Uh b hb)).2;omega,.inl (Uh b hb)⟩
     ·exact⟨by omega,.inr (by omega)⟩
     ·exact⟨by omega,.inr (by omega)⟩)
    rw[hst] at ZL;have hgE:g≠w.heap.size∧g≠w.heap.size+1∧(F g∨w.heap.size≤g):=by
     rcases hFg with h9|h9
     ·exact⟨by omega,by omega,.inl h9.1⟩
     ·exact⟨by omega,by omega,.inr (by omega)⟩
    refine⟨k+1,by omega,by go_num,ZL.wide fun b hb _ => ?_,(HT.out.trans (au.of_below oQ F)).xN hgE.2.2 _ _ _ _ _,kD (af HEb.out QD (by omega)) (Ne.symm hgE.1) _ _ _ _ _,kD (af HRb.out QD (by omega)) (Ne.symm hgE.2.1) _ _ _ _ _,by simp only[zM];omega⟩;rcases hb with hb|hb|hb|hb
    ·exact hb
    ·exact (ve b (Uh b hb)).1
    ·exact .inr (by omega)
    ·exact .inr (by omega)
   case measure=>simp[intOf];omega
  ·obtain rfl:k=n1:=(by omega);rw[E0 Rk] at hH;have pe0:=ae (j:=0) hEb rfl;have pe1:=ae (j:=1) hEb rfl;have pe2:=ae (j:=2) hEb rfl;have pr0:=ae (j:=0) ZG rfl;have pr1:=ae (j:=1) ZG rfl;have pr2:=ae (j:=2) ZG rfl;have ZI:=ah ZG 0;have ZJ:=ah ZG 1;have ZK:=ah ZG 2;have aau:w.heap.size<wr.heap.size:=(by omega);have apc:w.heap.size+1<wr.heap.size:=(by omega);have HH:=zA hH;clear hH;go_wp2_with fail
   have y9:=pV (u0 := .slice A0 n0 c0) (u1 := .slice A1 k c1) (u2 := .slice A2 n2 c2) ZG;have y0:=ae (j:=0) y9 rfl;have y1:=ae (j:=1) y9 rfl;have y2:=ae (j:=2) y9 rfl;refine bodyPost_ret (v := .agg #[.slice A0 n0 c0,.slice A1 k c1,.slice A2 n2 c2]) (by simp[results,Tryz.results101,go_sem,zH,y0,y1,y2]) rfl ?_;refine⟨rfl,HH.out.stay (fun b hb hlt=>qF rfl (by rcases hb with h9|h9 <;> omega) _ _ _) (by simp only[zM];omega),HT.out.pV (.inr (by omega)) _ _ _⟩
end Go.Proofs.YtjcoapnggojpdaaGreatDoor
