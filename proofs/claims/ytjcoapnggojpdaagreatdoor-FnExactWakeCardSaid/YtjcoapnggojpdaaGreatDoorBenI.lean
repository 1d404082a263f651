/- Texts of the proof, laid compactly. -/
import Derived.Test.YtjcoapnggojpdaaGreatDoorBenT
import Derived.Test.YtjcoapnggojpdaaGreatDoorTells
set_option maxHeartbeats 4000000
set_option maxRecDepth 100000
namespace Go.Proofs.YtjcoapnggojpdaaGreatDoor
set_option linter.unusedSimpArgs false
set_option linter.unusedVariables false
open Go.RowKit
theorem Ci{p:aS}{hi bb:Nat}{l:PL}{F:Nat→Prop}{x:dY}{w:World}(h:HB p hi bb l F x w)(hsz:dS x≤1048600){k:Nat}(hk:k<x.bJ.length)(hat:0≤(x.bJ[k]).dE∧(x.bJ[k]).dE<dn p (x.bJ[k]).ax) :
  Calls Tryz.prog 151 #[.pointer (some ⟨bb,0,none⟩),.int .i64 (k:Int)] w fun e w'=>e=.returned (.agg #[.int .i64 (jb p x.bJ[k]).m7,.int .i64 (jb p x.bJ[k]).fA,.int .i64 (jb p x.bJ[k]).fB,.int .i64 (jb p x.bJ[k]).fC])∧Below w.heap.size w w':=by
 have hhb:=h.lt;have Zr:=h.1;obtain⟨g,n0,c0,A1,n1,c1,A2,n2,c2,E2,k2,e2,E4,k4,e4,⟨⟨hbl,BG,hl0,hkn,Rk,hl2⟩,b1,⟨q0,q1,q2,q3,q4⟩,hfree⟩,aW,hput,Ro,hst⟩:=h.Eo hk;have hw3:=mF aW;have jJ:(0:Int)≤(k:Int):=(by omega);have u_:(k:Int)<(n0:Int):=(by omega);generalize hgr:x.bJ[k]=gr at *;generalize Pj:jb p gr=ins;obtain⟨io,ia,ib,ic⟩:=ins;have je:Below w.heap.size w (w.alloc (.cells #[.int .i64 0,.int .i64 0,.int .i64 0,.int .i64 0] 76)):=(zD _ _).alloc (zC _) _;have iO:=ak w #[.int .i64 0,.int .i64 0,.int .i64 0,.int .i64 0] 76;have OA:w.heap.size+1=(w.alloc (.cells #[.int .i64 0,.int .i64 0,.int .i64 0,.int .i64 0] 76)).heap.size:=(by simp);go_enter Tryz.func151,Tryz.ntmps151
 go_upto_region 1 with (fail)
 generalize (w.alloc (.cells #[.int .i64 0,.int .i64 0,.int .i64 0,.int .i64 0] 76))=w1 at *;generalize o6:w.heap.size=bi at *;have xe:bi<w1.heap.size:=(by omega);have vI:bb<w1.heap.size:=(by omega);have X8:g<w1.heap.size:=(by omega);have Gv:=l5 je;have Jb:=qy je;have xG:=ed iO;have DR:=kX iO;refine dL [some 5,some 6,some 7,some 8,some 9,some 10,some 11,some 12,some 13,some 14,some 15,some 16,some 17] [SP.eq (.pointer (some ⟨bb,0,none⟩)),SP.eq (.pointer (some ⟨bb,0,none⟩)),SP.eq (.pointer (some ⟨bb,0,none⟩)),SP.eq (.agg #[.slice l.b0 l.m0 l.d0,.int .i64 p.ay,.slice l.b2 l.m2 l.d2,.slice l.b3 l.m3 l.d3]),SP.eq (.pointer (some ⟨bb,0,none⟩)),SP.eq (.pointer (some ⟨bb,0,none⟩)),SP.eq (.pointer (some ⟨bb,4,none⟩)),SP.eq (.pointer (some ⟨bb,4,none⟩)),SP.eq (.slice (some ⟨g,0,none⟩) n0 c0),SP.eq (.int .i64 ((k:Int))),SP.eq (.pointer (some ⟨g,k*5,none⟩)),SP.eq (.agg #[.int .i64 gr.ax,.int .i64 gr.dE,.slice E2 k2 e2,.int .i64 gr.ai,.slice E4 k4 e4]),SP.eq (.agg #[.int .i64 io,.int .i64 ia,.int .i64 ib,.int .i64 ic])] (by kernel_rfl) (by kernel_rfl) (by kernel_rfl) (fun Q9 => ?_) ?_
 ·refine fc (.plain _ rfl rfl ?_) <| fc (.plain _ rfl rfl ?_) <| fc (.plain _ rfl rfl ?_) <| fc (.plain _ rfl rfl ?_) <| fc (.plain _ rfl rfl ?_) <| fc (.plain _ rfl rfl ?_) <| fc (.plain _ rfl rfl ?_) <| fc (.plain _ rfl rfl ?_) <| fc (.plain _ rfl rfl ?_) <| fc (.plain _ rfl rfl ?_) <| fc (.plain _ rfl rfl ?_) <| fc (.plain _ rfl rfl ?_) <| fc (.call rfl 86 rfl (aJ Tryz.func86 (by kernel_rfl) (by kernel_rfl)) ?c12) <| fn
  case c12 =>
   intro V lo up W hB hD hH ρ hR;have e3:=(hR.at_ 3 _ rfl).trans (SP.eP (hD 3 (by kernel_rfl)).p);have e11:=(hR.at_ 11 _ rfl).trans (SP.eP (hD 11 (by kernel_rfl)).p);simp only[yS,yQ,yR,e3,e11];have C9:=je.trans (hB.mono (by omega));refine (Bl (aV.more (aV.keep Zr.1 fun b hb=>C9.block b (by have:=Zr.2.2.1;omega)) (by have:=Zr.2.2.1;omega:hi≤bi)) (aI.keep aW fun b hb=>C9.block b hb) (by have:=hB.size;omega) Zr.2.1 hat).mono ?_;rintro e W1 ⟨rfl,hb1⟩;exact⟨_,rfl,hb1,by rw[Pj];rfl⟩
  all_goals
   intro V lo up W hB hD hH ρ hR;have s0:ρ (.tmp 0)=(.pointer (some ⟨bb,0,none⟩)):=hR.off 0 (by kernel_rfl);have s1:ρ (.tmp 1)=(.int .i64 ((k:Int))):=hR.off 1 (by kernel_rfl);try have e0:=(hR.at_ 0 _ rfl).trans (SP.eP (hD 0 (by decide +kernel)).p)
   try have e1:=(hR.at_ 1 _ rfl).trans (SP.eP (hD 1 (by decide +kernel)).p)
   try have e2:=(hR.at_ 2 _ rfl).trans (SP.eP (hD 2 (by decide +kernel)).p)
   try have e4:=(hR.at_ 4 _ rfl).trans (SP.eP (hD 4 (by decide +kernel)).p)
   try have e5:=(hR.at_ 5 _ rfl).trans (SP.eP (hD 5 (by decide +kernel)).p)
   try have e6:=(hR.at_ 6 _ rfl).trans (SP.eP (hD 6 (by decide +kernel)).p)
   try have e7:=(hR.at_ 7 _ rfl).trans (SP.eP (hD 7 (by decide +kernel)).p)
   try have e8:=(hR.at_ 8 _ rfl).trans (SP.eP (hD 8 (by decide +kernel)).p)
   try have e9:=(hR.at_ 9 _ rfl).trans (SP.eP (hD 9 (by decide +kernel)).p)
   try have XU:=(hR.at_ 10 _ rfl).trans (SP.eP (hD 10 (by decide +kernel)).p)
   have hc:=hR.const;have r1:=l5 hB;go_simp
 ·intro V lo up W1 lN hG hA;have v12:=SP.eP (hG 12 (by decide)).p;refine Kept.mk ?_;simp only[oD,Act.put,pA,pZ,pS,yB,yC,yH,Nat.reduceAdd,List.drop_succ_cons,List.drop_zero,v12];clear hA v12;have r1:=l5 lN;have z1:=qy lN;have hlW:=lN.size;have hl9:bi<W1.heap.size:=(by omega);go_wp2_with fail
  refine bodyPost_ret (v := .agg #[.int .i64 io,.int .i64 ia,.int .i64 ib,.int .i64 ic]) ?_ rfl ?_
  ·simp[results,Tryz.results151,go_sem,r1,xG,xe,hl9]
  subst o6;exact⟨rfl,((((je.trans (lN.mono (by omega))).setCell (zC _) _).setCell (zC _) _).setCell (zC _) _).setCell (zC _) _⟩
theorem QN{p:aS}{hi bb:Nat}{l:PL}{F:Nat→Prop}{x:dY}{w:World}(h:HB p hi bb l F x w)(hsz:dS x≤1048600){k:Nat}(hk:k<x.bJ.length){r:Int}(hr:(Lit.int .i64 r).wf=true) :
  Calls Tryz.prog 163 #[.pointer (some ⟨bb,0,none⟩),.int .i64 (k:Int),.int .i64 r] w fun e w'=>e=.returned (.int .i64 (ji x.bJ[k] r))∧yT w w':=by
 have Pg:=rO hsz hk;obtain⟨g,n0,c0,A1,n1,c1,A2,n2,c2,E2,k2,e2,E4,k4,e4,⟨⟨hbl,BG,hl0,hkn,Rk,hl2⟩,b1,⟨q0,q1,q2,q3,q4⟩,hfree⟩,aW,hput,Ro,hst⟩:=h.Eo hk;have hw3:=mF aW;have jJ:(0:Int)≤(k:Int):=(by omega);have u_:(k:Int)<(n0:Int):=(by omega);generalize hgr:x.bJ[k]=gr at *;go_enter Tryz.func163,Tryz.ntmps163
 go_wp2_with fail
 refine (LQ aW (zC _) (by omega) hr).mono ?_;rintro e w1 ⟨rfl,hb1⟩;go_wp2_with fail
 go_ret;exact⟨rfl,hb1⟩
theorem Jd{p:aS}{hi bb:Nat}{l:PL}{F:Nat→Prop}{x:dY}{w:World}(h:HB p hi bb l F x w)(hsz:dS x≤1048600){k:Nat}(hk:k<x.bJ.length)(hat:0≤(x.bJ[k]).dE∧(x.bJ[k]).dE<dn p (x.bJ[k]).ax){z:Int}(hz:(Lit.int .i64 z).wf=true)(ha:(Lit.int .i64 (jb p x.bJ[k]).fA).wf=true) :
  Calls Tryz.prog 126 #[.pointer (some ⟨bb,0,none⟩),.int .i64 (k:Int),.int .i64 z] w fun e w'=>e=.returned (.tuple #[])∧kU p hi bb l F w {x with bJ:=x.bJ.set k (dW x.bJ[k] ⟨4,(jb p x.bJ[k]).fA,z,false⟩)} w':=by
 have hI:=zA (Ci h hsz hk hat);have hH:=zA h;generalize Pj:jb p x.bJ[k]=ins at *;obtain⟨io,ia,ib,ic⟩:=ins;clear h;have Xv:∀W,(Instr.field 76 (.agg #[.int .i64 io,.int .i64 ia,.int .i64 ib,.int .i64 ic]) 1).run Tryz.prog W=.ok (.int .i64 ia) W:=fun _=>by kernel_rfl
 go_enter Tryz.func126,Tryz.ntmps126
 go_wp2_with fail
 refine hI.out.mono ?_;rintro e w1 ⟨rfl,hb1⟩;have hB1:=zA hb1;clear hb1;go_wp2_with fail
 refine (uz (hH.out.up hB1.out) hsz hk (i:=⟨4,ia,z,false⟩) ⟨by show (Lit.int .i64 4).wf=true;decide,ha,hz⟩).mono ?_;rintro e w2 ⟨rfl,hn⟩;have hN:=zA hn;clear hn;go_wp2_with fail
 refine bodyPost_end (v := .tuple #[]) ?_ rfl ?_
 ·simp[results,Tryz.results126,go_sem]
 exact⟨rfl,kU.from_ hB1.out hN.out⟩
theorem DD{p:aS}{hi bb:Nat}{l:PL}{F:Nat→Prop}{x:dY}{w:World}(h:HB p hi bb l F x w)(hsz:dS x≤1048599){k:Nat}(hk:k<x.bJ.length){sd:Bool}{ch rg ok to:Int}(hc:(Lit.int .i64 ch).wf=true)(hr:(Lit.int .i64 rg).wf=true)(ht:(Lit.int .i64 to).wf=true)(hrv:∀j,(Lit.int .i64 (ji x.bJ[k] j)).wf=true) :
  Calls Tryz.prog 128 #[.pointer (some ⟨bb,0,none⟩),.int .i64 (k:Int),.agg #[.bool sd,.int .i64 ch,.int .i64 rg,.int .i64 ok,.int .i64 to]] w fun e w'=>e=.returned (.tuple #[])∧kU p hi bb l F w {x with bJ:=x.bJ.set k {dW x.bJ[k] ⟨1,ch,ji x.bJ[k] rg,false⟩ with dE:=to}} w':=by
 have hlt:=h.lt;have C2:∀b,F b→b<w.heap.size:=fun b hb=>(h.1.2.2.2 b hb).2
 have je:Below w.heap.size w (w.alloc (.cells #[.bool sd,.int .i64 ch,.int .i64 rg,.int .i64 ok,.int .i64 to] 165)):=(zD _ _).alloc (zC _) _;have iO:=ak w #[.bool sd,.int .i64 ch,.int .i64 rg,.int .i64 ok,.int .i64 to] 165;have OA:w.heap.size+1=(w.alloc (.cells #[.bool sd,.int .i64 ch,.int .i64 rg,.int .i64 ok,.int .i64 to] 165)).heap.size:=(by simp);have T_:=h.up je;have hH:=zA h;obtain⟨rv,abp⟩:∃rv,rv=ji x.bJ[k] rg:=⟨_,rfl⟩
 have hRV:=zA abp;have hwr:(Lit.int .i64 rv).wf=true:=by rw[abp];exact hrv rg
 clear abp h;go_enter Tryz.func128,Tryz.ntmps128
 go_upto_region 1 with (fail)
 generalize (w.alloc (.cells #[.bool sd,.int .i64 ch,.int .i64 rg,.int .i64 ok,.int .i64 to] 165))=w1 at *;generalize o6:w.heap.size=bi at *;have xe:bi<w1.heap.size:=(by omega);have vI:bb<w1.heap.size:=(by omega);have Gv:=l5 je;have Jb:=qy je;have xG:=ed iO;have hHH:=zA T_;clear T_ Gv;refine dL [some 6,some 7,some 8,some 9,some 10,some 11,some 12,some 13,some 14,some 15] [SP.eq (.pointer (some ⟨bb,0,none⟩)),SP.eq (.int .i64 ((k:Int))),SP.eq (.pointer (some ⟨bi,1,none⟩)),SP.eq (.int .i64 ch),SP.eq (.pointer (some ⟨bb,0,none⟩)),SP.eq (.int .i64 ((k:Int))),SP.eq (.pointer (some ⟨bi,2,none⟩)),SP.eq (.int .i64 rg),SP.eq (.int .i64 rv),SP.eq (.agg #[.int .i64 1,.int .i64 ch,.int .i64 rv,.bool false])] (by kernel_rfl) (by kernel_rfl) (by kernel_rfl) (fun Q9 => ?_) ?_
 ·refine fc (.plain _ rfl rfl ?_) <| fc (.plain _ rfl rfl ?_) <| fc (.plain _ rfl rfl ?_) <| fc (.plain _ rfl rfl ?_) <| fc (.plain _ rfl rfl ?_) <| fc (.plain _ rfl rfl ?_) <| fc (.plain _ rfl rfl ?_) <| fc (.plain _ rfl rfl ?_) <| fc (.call rfl 163 rfl (aJ Tryz.func163 (by kernel_rfl) (by kernel_rfl)) ?c8) <| fc (.plain _ rfl rfl ?_) <| fn
  case c8 =>
   intro V lo up W hB hD hH ρ hR;have e4:=(hR.at_ 4 _ rfl).trans (SP.eP (hD 4 (by kernel_rfl)).p);have e5:=(hR.at_ 5 _ rfl).trans (SP.eP (hD 5 (by kernel_rfl)).p);have e7:=(hR.at_ 7 _ rfl).trans (SP.eP (hD 7 (by kernel_rfl)).p);simp only[yS,yQ,yR,e4,e5,e7];refine (QN (hHH.out.up hB) (by omega) hk hr).mono ?_;rintro e W1 ⟨rfl,hb1⟩;exact⟨_,rfl,hb1,by rw[hRV.out];rfl⟩
  all_goals
   intro V lo up W hB hD hH ρ hR;have s0:ρ (.tmp 0)=(.pointer (some ⟨bb,0,none⟩)):=hR.off 0 (by kernel_rfl);have s1:ρ (.tmp 1)=(.int .i64 ((k:Int))):=hR.off 1 (by kernel_rfl);have s5:ρ (.tmp 5)=(.pointer (some ⟨bi,0,none⟩)):=hR.off 5 (by kernel_rfl);try have e2:=(hR.at_ 2 _ rfl).trans (SP.eP (hD 2 (by decide +kernel)).p)
   try have e3:=(hR.at_ 3 _ rfl).trans (SP.eP (hD 3 (by decide +kernel)).p)
   try have e6:=(hR.at_ 6 _ rfl).trans (SP.eP (hD 6 (by decide +kernel)).p)
   try have e8:=(hR.at_ 8 _ rfl).trans (SP.eP (hD 8 (by decide +kernel)).p)
   have hc:=hR.const;have r1:=l5 hB;go_simp
 ·intro V lo up W1 lN hG hA;have v0:=SP.eP (hG 0 (by decide)).p;have v1:=SP.eP (hG 1 (by decide)).p;have v9:=SP.eP (hG 9 (by decide)).p;refine Kept.mk ?_;simp only[oD,Act.put,pA,pZ,pS,yB,yC,yH,Nat.reduceAdd,List.drop_succ_cons,List.drop_zero,v0,v1,v9];clear hA v0 v1 v9;have hBQ:=zA lN;go_wp2_with fail
  refine (uz (hHH.out.up lN) (by omega) hk (i:=⟨1,ch,rv,false⟩) ⟨by show (Lit.int .i64 1).wf=true;decide,hc,hwr⟩).mono ?_;rintro e w2 ⟨rfl,qX,F2,Uj,hF2⟩;obtain⟨x2,uA⟩:∃y:dY,y={x with bJ:=x.bJ.set k (dW x.bJ[k] ⟨1,ch,rv,false⟩)}:=⟨_,rfl⟩
  rw[←uA] at Uj;have OE:k<x2.bJ.length:=by rw[uA];simpa using hk
  have GL:x2.bJ[k]=dW x.bJ[k] ⟨1,ch,rv,false⟩:=by subst uA;simp
  obtain⟨g2,TN,X4,A12,WC,c12,A22,n22,c22,E22,k22,e22,E42,k42,e42,⟨⟨aa7,aa8,aa9,aba,-,-⟩,b12,⟨q02,WE,q22,q32,q42⟩,LH⟩,n_,Gw,QJ,OB⟩:=Uj.Eo OE;have abb:(0:Int)≤(k:Int):=(by omega);have abd:(k:Int)<(TN:Int):=(by omega);have hz1:=lN.size;have hz2:=qX.size;have EC:¬(F bi∨bi=bb):=fun h=>by rcases h with h|h;exact absurd (C2 _ h) (by omega);omega
  have hlW:bi<W1.heap.size:=(by omega);have hl2:bi<w2.heap.size:=(by omega);have i2:∀j,w2.cell? ⟨bi,j,none⟩=[.bool sd,.int .i64 ch,.int .i64 rg,.int .i64 ok,.int .i64 to][j]? :=fun j=>(rdT qX bi j hlW EC).trans ((l5 lN bi j xe).trans (xG j))
  clear xG Jb Gw OB n_ Uj;go_upto_region 2 with (fail)
  refine dL [some 17,some 18,some 19,some 20,some 21,some 22,some 23,some 24] [SP.eq (.pointer (some ⟨bb,0,none⟩)),SP.eq (.pointer (some ⟨bb,0,none⟩)),SP.eq (.pointer (some ⟨bb,4,none⟩)),SP.eq (.pointer (some ⟨bb,4,none⟩)),SP.eq (.slice (some ⟨g2,0,none⟩) TN X4),SP.eq (.int .i64 ((k:Int))),SP.eq (.pointer (some ⟨bi,4,none⟩)),SP.eq (.int .i64 to)] (by kernel_rfl) (by kernel_rfl) (by kernel_rfl) (fun Q9 => ?_) ?_
  ·refine fc (.plain _ rfl rfl ?_) <| fc (.plain _ rfl rfl ?_) <| fc (.plain _ rfl rfl ?_) <| fc (.plain _ rfl rfl ?_) <| fc (.plain _ rfl rfl ?_) <| fc (.plain _ rfl rfl ?_) <| fc (.plain _ rfl rfl ?_) <| fc (.plain _ rfl rfl ?_) <| fn
   all_goals
    intro V lo up W hB hD hH ρ hR;have s0:ρ (.tmp 0)=(.pointer (some ⟨bb,0,none⟩)):=hR.off 0 (by kernel_rfl);have s1:ρ (.tmp 1)=(.int .i64 ((k:Int))):=hR.off 1 (by kernel_rfl);have s5:ρ (.tmp 5)=(.pointer (some ⟨bi,0,none⟩)):=hR.off 5 (by kernel_rfl);try have e0:=(hR.at_ 0 _ rfl).trans (SP.eP (hD 0 (by decide +kernel)).p)
    try have e1:=(hR.at_ 1 _ rfl).trans (SP.eP (hD 1 (by decide +kernel)).p)
    try have e2:=(hR.at_ 2 _ rfl).trans (SP.eP (hD 2 (by decide +kernel)).p)
    try have e3:=(hR.at_ 3 _ rfl).trans (SP.eP (hD 3 (by decide +kernel)).p)
    try have e6:=(hR.at_ 6 _ rfl).trans (SP.eP (hD 6 (by decide +kernel)).p)
    have hc:=hR.const;have r1:=l5 hB;go_simp
  ·intro V lo up W3 abq hG hA;have v4:=SP.eP (hG 4 (by decide)).p;have v5:=SP.eP (hG 5 (by decide)).p;have v7:=SP.eP (hG 7 (by decide)).p;refine Kept.mk ?_;simp only[oD,Act.put,pA,pZ,pS,yB,yC,yH,Nat.reduceAdd,List.drop_succ_cons,List.drop_zero,v4,v5,v7];clear hA v4 v5 v7;have r3:=l5 abq;have z3:=qy abq;go_wp2_with fail
   refine bodyPost_end (v := .tuple #[]) ?_ rfl ?_
   ·simp[results,Tryz.results128,go_sem]
   have hn:=QJ W3 to abq ht;rw[GL,uA] at hn;simp only[List.set_set] at hn;subst o6;rw[←hRV.out];exact⟨rfl,kU.from_ je (kU.from_ lN (kU.trans qX hF2 hn))⟩
def iI(p:aS)(g:bY)(z:Int):ja :=
 if 0≤z then ((l8 p (jb p g)).dw[z.toNat]?).getD ⟨false,0,0,0,0⟩ else {N3 (jb p g) with wX:=g.dE+1}
structure LD (p:aS) (g:bY) (z:Int):Prop where
 at_:0≤g.dE∧g.dE<dn p g.ax
 Zt:0≤z→0≤(jb p g).fA∧(jb p g).fA<p.dR.length∧z<(l8 p (jb p g)).dw.length
 like:z<0→(jb p g).m7=8∨(jb p g).m7=9
 wfc:(Lit.int .i64 (iI p g z).gU).wf=true∧(Lit.int .i64 (iI p g z).mg).wf=true∧(Lit.int .i64 (iI p g z).lM).wf=true∧(Lit.int .i64 (iI p g z).wX).wf=true
 wfa:(Lit.int .i64 (jb p g).fA).wf=true
 regs:∀j,(Lit.int .i64 (ji g j)).wf=true
theorem Jc{p:aS}{hi bb:Nat}{l:PL}{F:Nat→Prop}{x:dY}{w:World}(h:HB p hi bb l F x w)(hsz:dS x≤1048600){k:Nat}(hk:k<x.bJ.length){z:Int}(hS:LD p x.bJ[k] z) :
  Calls Tryz.prog 125 #[.pointer (some ⟨bb,0,none⟩),.int .i64 (k:Int),.int .i64 z] w fun e w'=>e=.returned (.agg #[.bool (iI p x.bJ[k] z).gI,.int .i64 (iI p x.bJ[k] z).gU,.int .i64 (iI p x.bJ[k] z).mg,.int .i64 (iI p x.bJ[k] z).lM,.int .i64 (iI p x.bJ[k] z).wX])∧Below w.heap.size w w':=by
 have hhb:=h.lt;have Zr:=h.1;have abk:0≤(x.bJ[k]).dE∧(x.bJ[k]).dE≤1048576:=by have h9:=hS.at_;have h8:=AV p (x.bJ[k]).ax;omega
 have je:Below w.heap.size w (w.alloc (.cells #[.bool false,.int .i64 0,.int .i64 0,.int .i64 0,.int .i64 0] 165)):=(zD _ _).alloc (zC _) _;have iO:=ak w #[.bool false,.int .i64 0,.int .i64 0,.int .i64 0,.int .i64 0] 165;have OA:w.heap.size+1=(w.alloc (.cells #[.bool false,.int .i64 0,.int .i64 0,.int .i64 0,.int .i64 0] 165)).heap.size:=(by simp);have T_:=h.up je;have hI:=zA (Ci T_ hsz hk hS.at_);obtain⟨g,n0,c0,A1,n1,c1,A2,n2,c2,E2,k2,e2,E4,k4,e4,⟨⟨hbl,BG,hl0,hkn,Rk,hl2⟩,b1,⟨q0,q1,q2,q3,q4⟩,hfree⟩,aW,hput,Ro,hst⟩:=T_.Eo hk;have hw3:=mF aW;have jJ:(0:Int)≤(k:Int):=(by omega);have u_:(k:Int)<(n0:Int):=(by omega);generalize hgr:x.bJ[k]=gr at *;have hs:=hS.Zt;have hlk:=hS.like;have hcd:iI p gr z=iI p gr z:=rfl;have hcb:iI p gr z=if 0≤z then ((l8 p (jb p gr)).dw[z.toNat]?).getD ⟨false,0,0,0,0⟩ else {N3 (jb p gr) with wX:=gr.dE+1}:=rfl
 obtain⟨pr,pc,regs,st,tr⟩:=gr;simp only at hcb abk q0 q1 q3 Ro;generalize Pj:jb p ⟨pr,pc,regs,st,tr⟩=ins at *;obtain⟨io,ia,ib,ic⟩:=ins;simp only at hs hlk;generalize hcc:iI p ⟨pr,pc,regs,st,tr⟩ z=cc at *;have oH:0≤pc:=abk.1;have xM:pc≤1048576:=abk.2;clear h T_ hput Ro hst aW hw3;go_enter Tryz.func125,Tryz.ntmps125
 go_upto_region 1 with (fail)
 generalize (w.alloc (.cells #[.bool false,.int .i64 0,.int .i64 0,.int .i64 0,.int .i64 0] 165))=w1 at *;generalize o6:w.heap.size=bi at *;have xe:bi<w1.heap.size:=(by omega);have vI:bb<w1.heap.size:=(by omega);have Gv:=l5 je;have Jb:=qy je;have xG:=ed iO;have DR:=kX iO;clear Gv;go_wp2_with fail
 refine hI.out.mono ?_;rintro e w2 ⟨rfl,hb2⟩;have r2:=l5 hb2;have z2:=qy hb2;have hz2:=hb2.size;go_upto_region 2 with (fail)
 have qx:Below w2.heap.size w2 (w2.alloc (.cells #[.int .i64 io,.int .i64 ia,.int .i64 ib,.int .i64 ic] 76)):=(zD _ _).alloc (zC _) _;have hx3:=ak w2 #[.int .i64 io,.int .i64 ia,.int .i64 ib,.int .i64 ic] 76;have hs3:w2.heap.size+1=(w2.alloc (.cells #[.int .i64 io,.int .i64 ia,.int .i64 ib,.int .i64 ic] 76)).heap.size:=(by simp);generalize (w2.alloc (.cells #[.int .i64 io,.int .i64 ia,.int .i64 ib,.int .i64 ic] 76))=w3 at *;generalize hq3:w2.heap.size=bj at *;have r3:=l5 qx;have z3:=qy qx;have i3:=ed hx3;have apO:bj<w3.heap.size:=(by omega);have hlv:bb<w1.heap.size∧bb<bj∧bb<w3.heap.size∧bi<w1.heap.size∧bi<bj∧bi<w3.heap.size∧g<w1.heap.size∧g<bj∧g<w3.heap.size:=⟨by omega,by omega,by omega,by omega,by omega,by omega,by omega,by omega,by omega⟩
 obtain⟨v1,v2,v3,v4,v5,v6,v7,v8,v9⟩:=hlv;by_cases hz0:0≤z
 ·obtain⟨ha0,ha1,ha2⟩:=hs hz0;rw[yG hz0] at hcb;obtain⟨a0,rfl⟩:=yO ha0;obtain⟨j,rfl⟩:=yO hz0;have haS:a0<p.dR.length:=(by omega);have sW:l8 p ⟨io,(a0:Int),ib,ic⟩=p.dR[a0]:=by unfold l8;simp only[yA];rw[zG haS,Option.getD_some]
  rw[sW] at ha2 hcb;obtain⟨B0,m0,d0,B2,m2,d2,B3,m3,d3,Pn,-,-,⟨hc2,jY,s2⟩,-⟩:=fH Zr.1;injection Pn with _ Pn;injection Pn with _ Pn;injection Pn with Pn _;injection Pn with a1 a2 a3;subst a1 a2 a3
  have hL2:=s2.1;have ham:a0<l.m2:=(by omega);obtain⟨WX,gs,os,ts,hAb,AX,M_,hcells⟩:=s2.at_ ham;generalize p.dR[a0]=Zt at *;obtain⟨S0,l0,fz,rfl,⟨acO,hmm,sC⟩,-⟩:=g_ M_;have sc0:=hcells 0 _ rfl;simp only[show bM.size=2 from rfl,←zH,zI] at sc0;have Ii:j<l0:=by have:=sC.1;omega
  obtain⟨hxc,gc,oc,us,rfl,hgc,⟨rfl,AY⟩,AZ⟩:=sC.at_ Ii;rw[yA,zG hxc,Option.getD_some] at hcb;rw[←hcb] at AZ;obtain⟨ds,dc,dr,dk,dt⟩:=cc;have kc0:=AZ 0 _ rfl;have kc1:=AZ 1 _ rfl;have kc2:=AZ 2 _ rfl;have kc3:=AZ 3 _ rfl;have kc4:=AZ 4 _ rfl;simp only[show fJ.size=5 from rfl,←zH,zI] at kc0 kc1 kc2 kc3 kc4;have apP:=Zr.2.2.1;have hi2:(0:Int)≤(a0:Int):=(by omega);have hi3:(a0:Int)<(l.m2:Int):=(by omega);have hi4:(0:Int)≤(j:Int):=(by omega);have hi5:(j:Int)<(l0:Int):=(by omega);have r0:=l5 je;have u1:gs<bi:=(by omega);have u2:gs<w1.heap.size:=(by omega);have u3:gs<bj:=(by omega);have u4:gs<w3.heap.size:=(by omega);have u5:gc<bi:=(by omega);have u6:gc<w1.heap.size:=(by omega);have u7:gc<bj:=(by omega);have u8:gc<w3.heap.size:=(by omega);clear hcells M_ sC AZ s2 hcb hs hlk;go_upto_region 3 with (fail)
  rw[hAb] at b1;refine dL [some 14,some 15,some 16,some 17,some 18,some 19,some 20,some 21,some 22,some 23,some 24] [SP.eq (.pointer (some ⟨bb,0,none⟩)),SP.eq (.pointer (some ⟨bb,0,none⟩)),SP.eq (.pointer (some ⟨bb,0,none⟩)),SP.eq (.pointer (some ⟨bb,2,none⟩)),SP.eq (.slice (some ⟨gs,os,none⟩) l.m2 l.d2),SP.eq (.pointer (some ⟨bj,1,none⟩)),SP.eq (.int .i64 ((a0:Int))),SP.eq (.pointer (some ⟨gs,os+a0*2,none⟩)),SP.eq (.pointer (some ⟨gs,os+a0*2,none⟩)),SP.eq (.slice (some ⟨gc,oc,none⟩) l0 fz),SP.eq (.int .i64 ((j:Int)))] (by kernel_rfl) (by kernel_rfl) (by kernel_rfl) (fun Q9 => ?_) ?_
  ·refine fc (.plain _ rfl rfl ?_) <| fc (.plain _ rfl rfl ?_) <| fc (.plain _ rfl rfl ?_) <| fc (.plain _ rfl rfl ?_) <| fc (.plain _ rfl rfl ?_) <| fc (.plain _ rfl rfl ?_) <| fc (.plain _ rfl rfl ?_) <| fc (.plain _ rfl rfl ?_) <| fc (.plain _ rfl rfl ?_) <| fc (.plain _ rfl rfl ?_) <| fc (.plain _ rfl rfl ?_) <| fn
   all_goals
    intro V lo up W hB hD hH ρ hR;have s0:ρ (.tmp 0)=(.pointer (some ⟨bb,0,none⟩)):=hR.off 0 (by kernel_rfl);have s2:ρ (.tmp 2)=(.int .i64 ((j:Int))):=hR.off 2 (by kernel_rfl);have s7:ρ (.tmp 7)=(.pointer (some ⟨bj,0,none⟩)):=hR.off 7 (by kernel_rfl);try have e0:=(hR.at_ 0 _ rfl).trans (SP.eP (hD 0 (by decide +kernel)).p)
    try have e1:=(hR.at_ 1 _ rfl).trans (SP.eP (hD 1 (by decide +kernel)).p)
    try have e2:=(hR.at_ 2 _ rfl).trans (SP.eP (hD 2 (by decide +kernel)).p)
    try have e3:=(hR.at_ 3 _ rfl).trans (SP.eP (hD 3 (by decide +kernel)).p)
    try have e4:=(hR.at_ 4 _ rfl).trans (SP.eP (hD 4 (by decide +kernel)).p)
    try have e5:=(hR.at_ 5 _ rfl).trans (SP.eP (hD 5 (by decide +kernel)).p)
    try have e6:=(hR.at_ 6 _ rfl).trans (SP.eP (hD 6 (by decide +kernel)).p)
    try have e7:=(hR.at_ 7 _ rfl).trans (SP.eP (hD 7 (by decide +kernel)).p)
    try have e8:=(hR.at_ 8 _ rfl).trans (SP.eP (hD 8 (by decide +kernel)).p)
    have hc:=hR.const;have r1:=l5 hB;go_simp
  ·intro V lo up W1 lN hG hA;have v9:=SP.eP (hG 9 (by decide)).p;have v10:=SP.eP (hG 10 (by decide)).p;refine Kept.mk ?_;simp only[oD,Act.put,pA,pZ,pS,yB,yC,yH,Nat.reduceAdd,List.drop_succ_cons,List.drop_zero,v9,v10];clear hA v9 v10;have r4:=l5 lN;have z4:=qy lN;have hl9:bi<W1.heap.size:=by have:=lN.size;omega
   go_wp2_with fail
   refine bodyPost_ret (v := .agg #[.bool ds,.int .i64 dc,.int .i64 dr,.int .i64 dk,.int .i64 dt]) ?_ rfl ?_
   ·simp[results,Tryz.results125,go_sem,r4,r3,r2,xG,v4,v5,v6]
   subst o6;exact⟨rfl,(((((je.trans ((hb2.trans ((qx.trans (lN.mono (by omega))).mono (by omega))).mono (by omega))).setCell (zC _) _).setCell (zC _) _).setCell (zC _) _).setCell (zC _) _).setCell (zC _) _⟩
 ·rw[yF hz0] at hcb;have r0:=l5 je;have aej:cc=⟨decide (io=8),ia,ib,if io=8 then 0 else ic,pc+1⟩:=hcb;have aaP:=hlk (by omega);clear hs hlk hcb hcc;rcases aaP with h8|h9
  ·subst h8;go_wp2_with fail
   refine (Aw ia ib ic _).mono ?_;rintro e w4 ⟨rfl,hb4⟩;have r4:=l5 hb4;have z4:=qy hb4;have Ve:=hb4.size;have y1:bb<w4.heap.size:=(by omega);have y2:bi<w4.heap.size:=(by omega);have y3:g<w4.heap.size:=(by omega);go_upto_region 5 with (fail)
   have qf:Below w4.heap.size w4 (w4.alloc (.cells #[.bool true,.int .i64 ia,.int .i64 ib,.int .i64 0,.int .i64 0] 165)):=(zD _ _).alloc (zC _) _;have I6:=ak w4 #[.bool true,.int .i64 ia,.int .i64 ib,.int .i64 0,.int .i64 0] 165;have hs5:w4.heap.size+1=(w4.alloc (.cells #[.bool true,.int .i64 ia,.int .i64 ib,.int .i64 0,.int .i64 0] 165)).heap.size:=(by simp);generalize (w4.alloc (.cells #[.bool true,.int .i64 ia,.int .i64 ib,.int .i64 0,.int .i64 0] 165))=w5 at *;generalize hq5:w4.heap.size=bk at *;have r5:=l5 qf;have z5:=qy qf;have i5:=ed I6;have f5:=kX I6;have ajg:bk<w5.heap.size:=(by omega);have x1:bb<w5.heap.size:=(by omega);have x2:bi<w5.heap.size:=(by omega);have x3:g<w5.heap.size:=(by omega);have x4:bi≠bk:=(by omega);go_wp2_with fail
   refine bodyPost_ret (v := .agg #[.bool true,.int .i64 ia,.int .i64 ib,.int .i64 0,.int .i64 (pc+1)]) ?_ rfl ?_
   ·simp[results,Tryz.results125,go_sem,r5,r4,r3,r2,xG,v4,v5,v6,y2,x2,x4]
   subst o6;rw[aej];have hx:=je.trans ((hb2.trans ((qx.trans ((hb4.trans (qf.mono (by omega))).mono (by omega))).mono (by omega))).mono (by omega));have Ce:=hx.setCell (p:=⟨bk,4,none⟩) (show w.heap.size≤bk by omega) (.int .i64 (pc+1));exact⟨rfl,((((Ce.setCell (zC _) _).setCell (zC _) _).setCell (zC _) _).setCell (zC _) _).setCell (zC _) _⟩
  ·subst h9;go_wp2_with fail
   refine (Az ia ib ic _).mono ?_;rintro e w4 ⟨rfl,hb4⟩;have r4:=l5 hb4;have z4:=qy hb4;have Ve:=hb4.size;have y1:bb<w4.heap.size:=(by omega);have y2:bi<w4.heap.size:=(by omega);have y3:g<w4.heap.size:=(by omega);go_upto_region 5 with (fail)
   have qf:Below w4.heap.size w4 (w4.alloc (.cells #[.bool false,.int .i64 ia,.int .i64 ib,.int .i64 ic,.int .i64 0] 165)):=(zD _ _).alloc (zC _) _;have I6:=ak w4 #[.bool false,.int .i64 ia,.int .i64 ib,.int .i64 ic,.int .i64 0] 165;have hs5:w4.heap.size+1=(w4.alloc (.cells #[.bool false,.int .i64 ia,.int .i64 ib,.int .i64 ic,.int .i64 0] 165)).heap.size:=(by simp);generalize (w4.alloc (.cells #[.bool false,.int .i64 ia,.int .i64 ib,.int .i64 ic,.int .i64 0] 165))=w5 at *;generalize hq5:w4.heap.size=bk at *;have r5:=l5 qf;have z5:=qy qf;have i5:=ed I6;have f5:=kX I6;have ajg:bk<w5.heap.size:=(by omega);have x1:bb<w5.heap.size:=(by omega);have x2:bi<w5.heap.size:=(by omega);have x3:g<w5.heap.size:=(by omega);have x4:bi≠bk:=(by omega);go_wp2_with fail
   refine bodyPost_ret (v := .agg #[.bool false,.int .i64 ia,.int .i64 ib,.int .i64 ic,.int .i64 (pc+1)]) ?_ rfl ?_
   ·simp[results,Tryz.results125,go_sem,r5,r4,r3,r2,xG,v4,v5,v6,y2,x2,x4]
   subst o6;rw[aej];have hx:=je.trans ((hb2.trans ((qx.trans ((hb4.trans (qf.mono (by omega))).mono (by omega))).mono (by omega))).mono (by omega));have Ce:=hx.setCell (p:=⟨bk,4,none⟩) (show w.heap.size≤bk by omega) (.int .i64 (pc+1));exact⟨rfl,((((Ce.setCell (zC _) _).setCell (zC _) _).setCell (zC _) _).setCell (zC _) _).setCell (zC _) _⟩
end Go.Proofs.YtjcoapnggojpdaaGreatDoor
