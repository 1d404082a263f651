/- Texts of the proof, laid compactly. -/
import Derived.Test.YtjcoapnggojpdaaGreatDoorGQueue
import Derived.Lib.SliceRun
import Derived.Laws.CopyOwn
set_option maxHeartbeats 4000000
set_option maxRecDepth 100000
namespace Go.Proofs.YtjcoapnggojpdaaGreatDoor
set_option linter.unusedSimpArgs false
set_option linter.unusedVariables false
open Go.RowKit
theorem rQ{w:World}{b o:Nat}{cur:Array Value}{t:TypeId}{v:Value}(h:w.heap[b]? =some (.cells cur t (0,0)))(hv:cur[o]? =some v):w.setCell ⟨b,o,none⟩ v=w:=by
 have h1:=heap_setCell_same w b o cur t v h;have h2:cur.setIfInBounds o v=cur:=by
  apply Array.ext_getElem?
  intro i;rw[Array.getElem?_setIfInBounds];split
  ·rename_i he
   subst he;split
   ·rw[hv]
   ·rename_i hlt
    rw[Array.getElem?_eq_none (by omega)]
  ·rfl
 have h3:(w.setCell ⟨b,o,none⟩ v).heap=w.heap:=by
  apply Array.ext_getElem?
  intro k;by_cases hk:k=b
  ·subst hk;rw[h1,h2,h]
  ·exact zN w ⟨b,o,none⟩ v k hk
 show {w with heap:=(w.setCell ⟨b,o,none⟩ v).heap}=w
 rw[h3]
theorem Ak{b:Nat}{cur:Array Value}{t:TypeId}:∀(vs:List Value) (o:Nat) (w:World),w.heap[b]? =some (.cells cur t (0,0))→(∀j v,vs[j]? =some v→cur[o+j]? =some v)→w.setCells b o vs=w
 |[],_,_,_,_=>rfl
 |v::r,o,w,h,hv=>by
  have h1:=rQ (v:=v) h (by have:=hv 0 v rfl;simpa using this);rw[World.setCells,h1];exact Ak r (o+1) w h fun j u hu=>by
   have:=hv (j+1) u (by simpa using hu);rwa [show o+(j+1)=o+1+j by omega] at this
abbrev zeros(n:Nat):List Value:=List.replicate n (.int .i64 0)
theorem Vd(w:World):(zeroValue 3).run Tryz.prog w=.ok (.int .i64 0) w:=by kernel_rfl
theorem NJ{w:World}{g n:Nat}(hg:w.heap[g]? =some (.cells (zeros n).toArray 3 (0,0)))(ty:TypeId) :
  (Builtin.clear_ #[22] ty #[.slice (some ⟨g,0,none⟩) n n]).run Tryz.prog w=.ok (.tuple #[]) w:=by
 rcases Nat.eq_zero_or_pos n with h0|h0
 ·subst h0;simp[Builtin.clear_,run_underlying Tryz.underlying22]
 ·rw[Lib.run_clear_slice w _ _ ty _ Tryz.underlying22 Vd rfl rfl g 0 n n h0 (fun j hj=>by
   have:=ae (j:=0+j) (v := .int .i64 0) hg (by simp[hj]);rw[this];rfl) (fun j hj=>ah hg (0+j))]
  rw[Ak (List.replicate n (.int .i64 0)) 0 w hg (fun j v hv=>by rw[yH,List.getElem?_toArray];exact hv)]
theorem KP{w:World}{hi g n m c:Nat}{A:Option Addr}{xs:List Int}(hg:w.heap[g]? =some (.cells (zeros n).toArray 3 (0,0)))(h:a_ Lay.int w hi A m xs)(hm:m≤n) :
  Calls Tryz.prog 209 #[.slice (some ⟨g,0,none⟩) n n,.slice A m c] w fun e w'=>e=.returned (.slice (some ⟨g,0,none⟩) n n) ∧
   w'.heap[g]? =some (.cells ((xs.map (Value.int .i64))++zeros (n-m)).toArray 3 (0,0))∧Below g w w':=by
 have hcl:=NJ hg;have hlen:xs.length=m:=h.1;obtain⟨cs,hcs⟩:∃cs,cs=xs.map (Value.int .i64):=⟨_,rfl⟩
 have o7:cs.length=m:=by rw[hcs,yL,hlen]
 have ah0:cs.length=Nat.min m n:=by rw[o7];exact (Nat.min_eq_left hm).symm
 have Xb:0<cs.length→∃ad,A=some ad∧∀j v,cs[j]? =some v→w.cell? (ad.add j)=some v:=by
  intro hp;rcases h.2 with h0|⟨b,o,rfl,_,f,hf⟩
  ·subst h0;simp at hcs;subst hcs;simp at hp
  ·refine⟨_,rfl,fun j v hv => ?_⟩;rw[hcs,yM] at hv;obtain⟨z,hz,rfl⟩:=Option.map_eq_some_iff.1 hv;obtain⟨⟨h1,_⟩,h2⟩:=hf j z hz;have:=h2 0 (.int .i64 z) (by rw[h1];rfl);rw[add_plain];simpa[Lay.int,Lay.flat] using this
 have ac7:∀v∈cs,v.oneCell'=true:=by
  intro v hv;rw[hcs] at hv;obtain⟨z,_,rfl⟩:=List.mem_map.1 hv;rfl
 have ah1:0+cs.length≤(zeros n).length:=by simp;omega
 have ac8:splice (zeros n) 0 cs=cs++zeros (n-m):=by
  simp[splice,o7]
 have HS:=zA ac8;have HC:=zA hcs;have HP:=zA Xb;have H1:=zA ac7;have HG:=zA hg;clear ac8 hcs Xb ac7 h hg hlen;go_enter Tryz.func209,Tryz.ntmps209
 go_wp2_with (first|(simp only[hcl])|(refine wpList_copy_splice rfl (.tmp 6) (.tmp 7) _ _ rfl 3 Tryz.underlying22 (by kernel_rfl) _ A n n m c rfl rfl g 0 (zeros n) 3 HG.out cs ah0 (fun h=>⟨rfl,HP.out h⟩) ah1 H1.out g w (zD _ _) (zC _) ?_;intro w2 HG2 hB2))
 go_ret;refine⟨rfl,?_,hB2⟩;rw[←HC.out,←HS.out];exact HG2.out
theorem PY(n:Nat):madeCells #[.int .i64 0] n=(zeros n).toArray:=by
 apply Array.ext_getElem?
 intro i;by_cases h:i<n
 ·simp[madeCells,h,Nat.mod_one]
 ·simp[madeCells,h]
theorem FK{n:Nat}(hn:n≤1048600)(W:World)(k:Int)(hk:k=n):(Instr.makeSlice 22 (.int .i64 k) (.int .i64 k)).run Tryz.prog W=.ok (.slice (some ⟨W.heap.size,0,none⟩) n n) (W.alloc (.cells (zeros n).toArray 3)):=by
 subst hk;obtain⟨i0,jJ,hz0,hz1,hz2⟩:=info_parts xU;have:=run_make (P:=Tryz.prog) W 22 3 i0 _ Tryz.underlying22 jJ hz0 .i64 .i64 n n (by omega) (by omega) (by rw[hz2];omega) (by omega);rw[hz1,yA,zK,show (Value.int .i64 0).cells = #[.int .i64 0] from rfl,PY] at this;exact this
theorem PZ{P:Program}{ops:Array Oper}{o:Oper}{a:Act}{w:World}{K:Act→World→Prop}{Q:Exit→Act→World→Prop}{E:Prop}{R:Ending→World→Prop}
  (hg:o.guard=none)(f:FuncId)(x y:Operand)(wY:Array TypeId)(hop:o.op=.call {callee := .value (.func f),args := #[x,y],argTypes:=wY})
  (hf:∀(args:Array Value) (w:World),Sem.run P (callFunc f args) w=.ok (.enter f args) w)(vx vy:Value)(hx:a.eval x=vx)(hy:a.eval y=vy)(hc:Calls P f #[vx,vy] w R)(h:∀e w',R e w'→∃v,e=.returned v∧K (a.put o.dst v) w') :
  if Region.wanted o (yielded ops a.tmps)=true then Oper.wp P o a w K Q else E:=by
 have hw:Region.wanted o (yielded ops a.tmps)=true:=(by simp[Region.wanted,hg]);rw[yG hw];subst hx hy;unfold Oper.wp;simp only[execOp,hop,resolve,Act.eval,Deferred.ofValue,invoke,Sem.run_bind,Sem.run_pure,Result.andThen_ok,hf,Array.append_empty,Array.empty_append,yS,yQ,yR,Oper.upon_enter];refine hc.mono ?_;intro e w' hR;obtain⟨v,rfl,hK⟩:=h e w' hR;exact hK
theorem P0{f:Nat}{fn:Func}(h:Tryz.prog.funcs[f]? =some fn)(h1:(fn.name == "runtime.NumGoroutine")=false)(h2:fn.body.isNone=false)(args:Array Value)(w:World):Sem.run Tryz.prog (callFunc f args) w=.ok (.enter f args) w:=by
 have h3:¬fn.name = "runtime.NumGoroutine" :=by simpa using h1
 have h4:¬fn.body=none:=fun h=>by rw[h] at h2;simp at h2
 simp[callFunc,go_sem,h,h3,h4]
theorem DX:∀(args:Array Value) (w:World),Sem.run Tryz.prog (callFunc 209 args) w=.ok (.enter 209 args) w:=P0 Tryz.func209 (by kernel_rfl) (by kernel_rfl)
theorem FM(xs:List iK):∀u∈(xs.map fun x=>[Value.int .i64 x.d_,.int .i64 x.iq,.int .i64 x.bU,.bool x.lM]).flatten,u.oneCell'=true:=by
 intro u hu;simp only[List.mem_flatten,List.mem_map] at hu;obtain⟨l,⟨x,_,rfl⟩,hu⟩:=hu;simp at hu;rcases hu with rfl|rfl|rfl|rfl <;> rfl
theorem KQ{w:World}{hi n c:Nat}{A:Option Addr}{xs:List iK}(h:a_ cZ w hi A n xs)(hn:n≤1048600) :
  Calls Tryz.prog 210 #[.slice A n c] w (vw cZ 171 w n xs):=by
 obtain⟨i0,jJ,hz0,hz1,hz2⟩:=info_parts xR;obtain⟨hs,hw⟩:=l9 h;have hl:=h.1;have HW:=zA hw;have HL:=zA hl;clear h hw hl;go_enter Tryz.func210,Tryz.ntmps210
 go_wp2_with (at_builtin;refine dB rfl (.const (.slice none 0 0)) (.tmp 3) _ rfl w.heap.size w.heap.size 171 i0 _ 4 32 Tryz.underlying263 jJ hz0 hz1 hz2 rfl (by omega) none 0 0 [] rfl (Own.nil_ _ _ _ _ _) hi A n c _ rfl hs (FM _) (by simp only[maxLen];omega) (by omega) (zC _) ?_;intro A' c' w' hown hb)
 go_ret;rw[yH] at hown;simp only[List.nil_append] at hown;exact⟨A',c',rfl,kF hown HL.out HW.out,hb⟩
theorem S4{w:World}{g n:Nat}{xs:List Int}(hl:xs.length=n)(hn:n≤1048600)(h:w.heap[g]? =some (.cells ((xs.map (Value.int .i64))++zeros (n-n)).toArray 3 (0,0)))(hw:∀x∈xs,(Lit.int .i64 x).wf=true) :
  aB Lay.int 3 w (fun k=>g≤k∧k<g+1) (some ⟨g,0,none⟩) n n xs:=by
 have Xv:(xs.map fun z=>[Value.int .i64 z]).flatten=xs.map (Value.int .i64):=by
  clear hl hw h;induction xs with
  |nil=>rfl
  |cons a t ih=>simp[ih]
 have aat:(xs.map fun z=>[Value.int .i64 z]).flatten.length=n*1:=by rw[Xv,yL,hl,zK]
 rw[yJ,show zeros 0=[] from rfl,List.append_nil,←Xv] at h;have ho:Own w g (g+1) 3 1 (some ⟨g,0,none⟩) n n ((xs.map fun z=>[Value.int .i64 z]).flatten):=by
  refine⟨⟨aat,.inr ⟨g,n,_,rfl,zC _,h,zC _,by simp only[maxLen];omega,by rw[List.size_toArray];exact aat,?_⟩⟩,fun a ha=>by injection ha with ha;subst ha;simp⟩;exact zU (by rw[aat];exact zC _)
 exact kF ho hl hw
theorem P5{w:World}{hi n:Nat}{A:Option Addr}{xs:List Int}(h:a_ Lay.int w hi A n xs):∀x∈xs,(Lit.int .i64 x).wf=true:=(l9 h).2
def mY(x:bY)(w:World)(e:Ending)(w':World):Prop :=
 yT w w'∧∃A2 c2 A4 c4 F2 F4,e=.returned (.agg #[.int .i64 x.ax,.int .i64 x.dE,.slice A2 x.gJ.length c2,.int .i64 x.ai,.slice A4 x.jv.length c4]) ∧
  aB Lay.int 3 w' F2 A2 x.gJ.length c2 x.gJ∧aB cZ 171 w' F4 A4 x.jv.length c4 x.jv ∧
  (∀g,F2 g∨F4 g→w.heap.size≤g∧g<w'.heap.size)∧(∀g,F2 g→¬F4 g)
theorem rW{w:World}{hi:Nat}{x:bY}{vs:List Value}(h:aI.see w hi x vs)(cu:hi≤w.heap.size)(hn:bV x≤1048600) :
  Calls Tryz.prog 121 #[.agg vs.toArray] w (mY x w):=by
 obtain⟨A2,n2,c2,A4,n4,c4,rfl,hw0,hw1,⟨hc2,jY,s2⟩,hw3,⟨hc4,hm4,s4⟩⟩:=gK h;obtain⟨pr,pc,regs,st,tr⟩:=x;have l2:=s2.1;have l4:=s4.1;simp only at l2 l4 s2 s4 hw0 hw1 hw3;subst l2 l4;have o8:regs.length≤1048600:=by unfold bV at hn;simp at hn;omega
 have KR:tr.length≤1048600:=by unfold bV at hn;simp at hn;omega
 unfold mY;simp only;have HW:=zA (P5 s2);have JB:yT w ((w.alloc (.cells #[.int .i64 pr,.int .i64 pc,.slice A2 regs.length c2,.int .i64 st,.slice A4 tr.length c4] 69)).alloc (.cells #[.int .i64 0,.int .i64 0,.slice none 0 0,.int .i64 0,.slice none 0 0] 69)):=((zD _ _).alloc (zC _) _).alloc (by simp) _;have jK:=af (ak w #[.int .i64 pr,.int .i64 pc,.slice A2 regs.length c2,.int .i64 st,.slice A4 tr.length c4] 69) ((zD _ _).alloc (zC _) (.cells #[.int .i64 0,.int .i64 0,.slice none 0 0,.int .i64 0,.slice none 0 0] 69)) (by simp);have kT:=ak (w.alloc (.cells #[.int .i64 pr,.int .i64 pc,.slice A2 regs.length c2,.int .i64 st,.slice A4 tr.length c4] 69)) #[.int .i64 0,.int .i64 0,.slice none 0 0,.int .i64 0,.slice none 0 0] 69;rw[zF] at kT;have hz0:((w.alloc (.cells #[.int .i64 pr,.int .i64 pc,.slice A2 regs.length c2,.int .i64 st,.slice A4 tr.length c4] 69)).alloc (.cells #[.int .i64 0,.int .i64 0,.slice none 0 0,.int .i64 0,.slice none 0 0] 69)).heap.size=w.heap.size+2:=(by simp);have hs2:=s2.below JB cu;have hs4:=s4.below JB cu;have HW0:=zA hw0;go_enter Tryz.func121,Tryz.ntmps121
 go_upto_region 1 with (fail)
 generalize ((w.alloc (.cells #[.int .i64 pr,.int .i64 pc,.slice A2 regs.length c2,.int .i64 st,.slice A4 tr.length c4] 69)).alloc (.cells #[.int .i64 0,.int .i64 0,.slice none 0 0,.int .i64 0,.slice none 0 0] 69))=W0 at *;have aau:w.heap.size<W0.heap.size:=(by omega);have hmk:=FK o8 W0;have ah2:=FK o8 W0.drew;have hmb:yT W0 (W0.alloc (.cells (zeros regs.length).toArray 3)):=(zD _ _).alloc (zC _) _;have hL:=(KP (c:=c2) (w:=(W0.alloc (.cells (zeros regs.length).toArray 3)).drew) (ak W0 (zeros regs.length).toArray 3) ((hs2.below hmb (by omega)).keep (w':=(W0.alloc (.cells (zeros regs.length).toArray 3)).drew) fun _ _=>rfl) (zC _))
 rw[hz0] at hL;have HL:=zA hL;clear hL;have p2:=ae (j:=2) jK rfl;have Fh:=zA (af jK hmb.drew aau);have rZ:=zA (af kT hmb.drew (by omega));clear jK kT hs2 hs4 h s2 hn;generalize hN:regs.length=n at *;have HN:=zA hN;clear hN;go_region_law (go_loud (refine PZ rfl 209 _ _ _ rfl DX (.slice (some ⟨w.heap.size+2,0,none⟩) n n) (.slice A2 n c2) rfl rfl HL.out ?_;rintro e w2 ⟨rfl,hx2,hb2⟩;refine⟨_,rfl,?_⟩;have q2:=ae (j:=2) (af Fh.out hb2 (by omega)) rfl;have q2f:=ah (af Fh.out hb2 (by omega)) 2))
 all_goals
  have lK:=zA ((JB.trans (hmb.drew.mono (by omega))).trans (hb2.mono (by omega)));have S5:=az (j:=2) (u := .slice (some ⟨w.heap.size+2,0,none⟩) n n) (af Fh.out hb2 (by omega));have hR3:=(zN w2 ⟨w.heap.size,2,none⟩ (.slice (some ⟨w.heap.size+2,0,none⟩) n n) (w.heap.size+1) (by simp only;omega)).trans (af rZ.out hb2 (by omega));have ZA:=(zN w2 ⟨w.heap.size,2,none⟩ (.slice (some ⟨w.heap.size+2,0,none⟩) n n) (w.heap.size+2) (by simp only;omega)).trans hx2;have qx:=aj (p:=⟨w.heap.size,2,none⟩) lK.out (zC _) (.slice (some ⟨w.heap.size+2,0,none⟩) n n);have hz3:w.heap.size+3≤(w2.setCell ⟨w.heap.size,2,none⟩ (.slice (some ⟨w.heap.size+2,0,none⟩) n n)).heap.size:=by
   have h9:=hb2.size;have h8:(W0.alloc (.cells (zeros n).toArray 3)).drew.heap.size=W0.heap.size+1:=(by simp);rw[zM];omega
  have hO3:aB Lay.int 3 (w2.setCell ⟨w.heap.size,2,none⟩ (.slice (some ⟨w.heap.size+2,0,none⟩) n n)) (fun k=>w.heap.size+2≤k∧k<w.heap.size+2+1) (some ⟨w.heap.size+2,0,none⟩) n n regs:=S4 HN.out o8 ZA HW.out;have O6:=zA S5;have xy:=zA hR3;have xW:=zA qx;have HO3:=zA hO3;clear S5 hR3 qx hO3 ZA hx2 hb2 q2 q2f p2 hmk ah2 hmb lK;generalize (w2.setCell ⟨w.heap.size,2,none⟩ (.slice (some ⟨w.heap.size+2,0,none⟩) n n))=W3 at *;have p4:=ae (j:=4) O6.out rfl;go_wp2_with fail
  refine (KQ (c:=c4) (s4.below xW.out cu) KR).mono ?_;rintro e w4 ⟨Uf,CU,rfl,ada,hb4⟩;have Ve:=hb4.size;have hX4:=af O6.out hb4 (by omega);have Zl:=af xy.out hb4 (by omega);have p4a:=ae (j:=4) hX4 rfl;have p4f:=ah hX4 4;have Zz:=zA (xW.out.trans (hb4.mono (by omega)));have xA:=zA (HO3.out.stay (w':=w4) (fun g hg hlt=>hb4.block g hlt) hb4.size);have HX4:=zA hX4;have HR4:=zA Zl;have HT4:=zA ada;clear ada hb4 hX4 Zl p4;go_upto_region 3 with (fail)
  have O7:=az (j:=4) (u := .slice Uf tr.length CU) HX4.out;have lH:=(zN w4 ⟨w.heap.size,4,none⟩ (.slice Uf tr.length CU) (w.heap.size+1) (by simp only;omega)).trans HR4.out;have Dl:=zA (aj (p:=⟨w.heap.size,4,none⟩) Zz.out (zC _) (.slice Uf tr.length CU));have MS:=zA (aB.setCell (o:=4) xA.out (g:=w.heap.size) (by omega) (.slice Uf tr.length CU));have Ry:=zA (aB.setCell (o:=4) HT4.out (g:=w.heap.size) (by omega) (.slice Uf tr.length CU));have Vf:(w4.setCell ⟨w.heap.size,4,none⟩ (.slice Uf tr.length CU)).heap.size=w4.heap.size:=(by simp);clear p4a p4f;generalize (w4.setCell ⟨w.heap.size,4,none⟩ (.slice Uf tr.length CU))=W5 at *;have q0:=ae (j:=0) O7 rfl;have q1:=ae (j:=1) O7 rfl;have q2:=ae (j:=2) O7 rfl;have q3:=ae (j:=3) O7 rfl;have q4:=ae (j:=4) O7 rfl;have r0:=ae (j:=0) lH rfl;have r1:=ae (j:=1) lH rfl;have r2:=ae (j:=2) lH rfl;have r3:=ae (j:=3) lH rfl;have r4:=ae (j:=4) lH rfl;have g0:=ah lH 0;have g1:=ah lH 1;have g2:=ah lH 2;have g3:=ah lH 3;have g4:=ah lH 4;have HR5:=zA lH;clear O7 lH;go_wp2_with fail
  have bT:=az (j:=4) (u := .slice Uf tr.length CU) (az (j:=3) (u := .int .i64 st) (az (j:=2) (u := .slice (some ⟨w.heap.size+2,0,none⟩) n n) (az (j:=1) (u := .int .i64 pc) (az (j:=0) (u := .int .i64 pr) HR5.out))));have y0:=ae (j:=0) bT rfl;have y1:=ae (j:=1) bT rfl;have y2:=ae (j:=2) bT rfl;have y3:=ae (j:=3) bT rfl;have y4:=ae (j:=4) bT rfl;clear q0 q1 q2 q3 q4 r0 r1 r2 r3 r4 g0 g1 g2 g3 g4;refine bodyPost_ret (v := .agg #[.int .i64 pr,.int .i64 pc,.slice (some ⟨w.heap.size+2,0,none⟩) n n,.int .i64 st,.slice Uf tr.length CU]) (by simp[results,Tryz.results121,go_sem,y0,y1,y2,y3,y4]) rfl ?_;refine⟨aj (aj (aj (aj (aj Dl.out (by simp only;omega) _) (by simp only;omega) _) (by simp only;omega) _) (by simp only;omega) _) (by simp only;omega) _,_,_,_,_,_,_,by rw[HN.out],by rw[HN.out];exact aB.setCell (o:=4) (aB.setCell (o:=3) (aB.setCell (o:=2) (aB.setCell (o:=1) (aB.setCell (o:=0) MS.out (g:=w.heap.size+1) (by omega) _) (by omega) _) (by omega) _) (by omega) _) (by omega) _,aB.setCell (o:=4) (aB.setCell (o:=3) (aB.setCell (o:=2) (aB.setCell (o:=1) (aB.setCell (o:=0) Ry.out (g:=w.heap.size+1) (by omega) _) (by omega) _) (by omega) _) (by omega) _) (by omega) _,?_,fun g hg nI=>by omega⟩;rintro g (hg|hg) <;> (simp only[zM];omega)
theorem NK{w:World}{hi:Nat}{x:bY}{vs:List Value}(h:aI.see w hi x vs)(cu:hi≤w.heap.size)(hn:bV x≤1048576) :
  Calls Tryz.prog 121 #[.agg vs.toArray] w (mY x w):=rW h cu (zJ hn (by decide))
theorem rX{w:World}{hi:Nat}{x:bY}{vs:List Value}(h:aI.see w hi x vs)(cu:hi≤w.heap.size)(hn:bV x≤1048600) :
  Calls Tryz.prog 105 #[.agg vs.toArray] w (mY x w):=by
 obtain⟨A2,n2,c2,A4,n4,c4,rfl,hw0,hw1,⟨hc2,jY,s2⟩,hw3,⟨hc4,hm4,s4⟩⟩:=gK h;obtain⟨pr,pc,regs,st,tr⟩:=x;have l2:=s2.1;have l4:=s4.1;simp only at l2 l4 s2 s4 hw0 hw1 hw3;subst l2 l4;have o8:regs.length≤1048600:=by unfold bV at hn;simp at hn;omega
 have KR:tr.length≤1048600:=by unfold bV at hn;simp at hn;omega
 unfold mY;simp only;have JB:yT w ((w.alloc (.cells #[.int .i64 pr,.int .i64 pc,.slice A2 regs.length c2,.int .i64 st,.slice A4 tr.length c4] 69)).alloc (.cells #[.int .i64 0,.int .i64 0,.slice none 0 0,.int .i64 0,.slice none 0 0] 69)):=((zD _ _).alloc (zC _) _).alloc (by simp) _;have jK:=af (ak w #[.int .i64 pr,.int .i64 pc,.slice A2 regs.length c2,.int .i64 st,.slice A4 tr.length c4] 69) ((zD _ _).alloc (zC _) (.cells #[.int .i64 0,.int .i64 0,.slice none 0 0,.int .i64 0,.slice none 0 0] 69)) (by simp);have kT:=ak (w.alloc (.cells #[.int .i64 pr,.int .i64 pc,.slice A2 regs.length c2,.int .i64 st,.slice A4 tr.length c4] 69)) #[.int .i64 0,.int .i64 0,.slice none 0 0,.int .i64 0,.slice none 0 0] 69;rw[zF] at kT;have hz0:w.heap.size+2≤((w.alloc (.cells #[.int .i64 pr,.int .i64 pc,.slice A2 regs.length c2,.int .i64 st,.slice A4 tr.length c4] 69)).alloc (.cells #[.int .i64 0,.int .i64 0,.slice none 0 0,.int .i64 0,.slice none 0 0] 69)).heap.size:=(by simp);have Jz:=zA jK;have qi:=zA kT;have gW:=zA JB;have Fa:=zA (fun (W:World) (hW:yT w W)=>s2.below hW cu);have HS4:=zA (fun (W:World) (hW:yT w W)=>s4.below hW cu);obtain⟨i0,jJ,Vg,Vh,Vj⟩:=info_parts xU;obtain⟨j0,hj0,S6,S7,S8⟩:=info_parts xR;clear jK kT JB s2 s4 h hn;generalize hN:regs.length=n at *;have HN:=zA hN;clear hN;go_enter Tryz.func105,Tryz.ntmps105
 go_upto_region 1 with (fail)
 generalize ((w.alloc (.cells #[.int .i64 pr,.int .i64 pc,.slice A2 n c2,.int .i64 st,.slice A4 tr.length c4] 69)).alloc (.cells #[.int .i64 0,.int .i64 0,.slice none 0 0,.int .i64 0,.slice none 0 0] 69))=W0 at *;have BZ:yT W0 (W0.alloc (.cells #[] 3)):=(zD _ _).alloc (zC _) _;have FN:=af Jz.out BZ (by omega);have pa1:=ae (j:=2) FN rfl;have FO:=l9 (Fa.out _ (gW.out.trans (BZ.mono (by omega))));have NL:Own (W0.alloc (.cells #[] 3)) W0.heap.size (W0.heap.size+1) 3 1 (some ⟨W0.heap.size,0,none⟩) 0 0 []:=by simpa using Own.made (size:=1) (e:=3) W0 #[] 0 0 (by decide) rfl (zC _)
 go_upto_region 2 with (at_builtin;refine dB rfl (.tmp 3) (.tmp 5) _ rfl W0.heap.size _ 3 i0 _ 1 8 Tryz.underlying22 jJ Vg Vh Vj rfl (by omega) (some ⟨W0.heap.size,0,none⟩) 0 0 [] rfl NL hi A2 n c2 _ rfl FO.1 (v_ _) (by simp only[maxLen];omega) (by omega) (by simp) ?_;intro B1 e1 w1 dU hb1;have FP:=af FN hb1 (by omega);have pk1:=ae (j:=2) FP rfl;have fk1:=ah FP 2)
 rw[yH] at dU;simp only[List.nil_append] at dU;replace dU:aB Lay.int 3 w1 (fun g=>W0.heap.size≤g∧g<w1.heap.size) B1 n e1 regs:=kF dU HN.out FO.2;replace hb1:=BZ.trans hb1;have ha1:=hb1.size;try simp only[yH]
 clear BZ FN FO NL FP pk1 fk1 pa1;have hx1:=af Jz.out hb1 (by omega);have hr1:=af qi.out hb1 (by omega);have Fb:=zA (gW.out.trans (hb1.mono (by omega)));have qE:=zA (show (w1.setCell ⟨w.heap.size,2,none⟩ (.slice B1 n e1)).heap[w.heap.size]? =some (.cells #[.int .i64 pr,.int .i64 pc,.slice B1 n e1,.int .i64 st,.slice A4 tr.length c4] 69 (0,0)) from az (j:=2) (u := .slice B1 n e1) hx1);have DV:=zA ((zN w1 ⟨w.heap.size,2,none⟩ (.slice B1 n e1) (w.heap.size+1) (by simp only;omega)).trans hr1);have iC:=zA (aj (p:=⟨w.heap.size,2,none⟩) Fb.out (zC _) (.slice B1 n e1));have Zx:=zA (aB.setCell (o:=2) dU (g:=w.heap.size) (by omega) (.slice B1 n e1));have Iu:(w1.setCell ⟨w.heap.size,2,none⟩ (.slice B1 n e1)).heap.size≤w1.heap.size:=(by simp[World.setCell]);have hz1b:w1.heap.size≤(w1.setCell ⟨w.heap.size,2,none⟩ (.slice B1 n e1)).heap.size:=(by simp[World.setCell]);clear hx1 hr1 Fb dU hb1;generalize w1.setCell ⟨w.heap.size,2,none⟩ (.slice B1 n e1)=W1 at *;have KT:yT W1 (W1.alloc (.cells #[] 171)):=(zD _ _).alloc (zC _) _;have P6:=af qE.out KT (by omega);have pa2:=ae (j:=4) P6 rfl;have P7:=l9 (HS4.out _ (iC.out.trans (KT.mono (by omega))));have Vk:Own (W1.alloc (.cells #[] 171)) W1.heap.size (W1.heap.size+1) 171 4 (some ⟨W1.heap.size,0,none⟩) 0 0 []:=by simpa using Own.made (size:=4) (e:=171) W1 #[] 0 0 (by decide) rfl (zC _)
 go_upto_region 3 with (at_builtin;refine dB rfl (.tmp 8) (.tmp 10) _ rfl W1.heap.size _ 171 j0 _ 4 32 Tryz.underlying67 hj0 S6 S7 S8 rfl (by omega) (some ⟨W1.heap.size,0,none⟩) 0 0 [] rfl Vk hi A4 tr.length c4 _ rfl P7.1 (FM _) (by simp only[maxLen];omega) (by omega) (by simp) ?_;intro B2 e2 w2 mQ hb2;have P8:=af P6 hb2 (by omega);have pk2:=ae (j:=4) P8 rfl;have fk2:=ah P8 4)
 rw[yH] at mQ;simp only[List.nil_append] at mQ;replace mQ:aB cZ 171 w2 (fun g=>W1.heap.size≤g∧g<w2.heap.size) B2 tr.length e2 tr:=kF mQ rfl P7.2;replace hb2:=KT.trans hb2;have ha2:=hb2.size;try simp only[yH]
 clear KT P6 P7 Vk P8 pk2 fk2 pa2;have hx2:=af qE.out hb2 (by omega);have hr2:=af DV.out hb2 (by omega);have NH:=zA (iC.out.trans (hb2.mono (by omega)));have O7:(w2.setCell ⟨w.heap.size,4,none⟩ (.slice B2 tr.length e2)).heap[w.heap.size]? =some (.cells #[.int .i64 pr,.int .i64 pc,.slice B1 n e1,.int .i64 st,.slice B2 tr.length e2] 69 (0,0)):=az (j:=4) (u := .slice B2 tr.length e2) hx2;have lH:=(zN w2 ⟨w.heap.size,4,none⟩ (.slice B2 tr.length e2) (w.heap.size+1) (by simp only;omega)).trans hr2;have Dl:=zA (aj (p:=⟨w.heap.size,4,none⟩) NH.out (zC _) (.slice B2 tr.length e2));have MS:=zA (aB.setCell (o:=4) (Zx.out.stay (w':=w2) (fun g hg hlt=>hb2.block g hlt) hb2.size) (g:=w.heap.size) (by omega) (.slice B2 tr.length e2));have Ry:=zA (aB.setCell (o:=4) mQ (g:=w.heap.size) (by omega) (.slice B2 tr.length e2));have adh:(w2.setCell ⟨w.heap.size,4,none⟩ (.slice B2 tr.length e2)).heap.size≤w2.heap.size:=(by simp[World.setCell]);have adi:w2.heap.size≤(w2.setCell ⟨w.heap.size,4,none⟩ (.slice B2 tr.length e2)).heap.size:=(by simp[World.setCell]);clear hx2 hr2 NH mQ hb2;generalize w2.setCell ⟨w.heap.size,4,none⟩ (.slice B2 tr.length e2)=W5 at *;have q0:=ae (j:=0) O7 rfl;have q1:=ae (j:=1) O7 rfl;have q2:=ae (j:=2) O7 rfl;have q3:=ae (j:=3) O7 rfl;have q4:=ae (j:=4) O7 rfl;have r0:=ae (j:=0) lH rfl;have r1:=ae (j:=1) lH rfl;have r2:=ae (j:=2) lH rfl;have r3:=ae (j:=3) lH rfl;have r4:=ae (j:=4) lH rfl;have g0:=ah lH 0;have g1:=ah lH 1;have g2:=ah lH 2;have g3:=ah lH 3;have g4:=ah lH 4;have HR5:=zA lH;clear O7 lH;go_wp2_with fail
 have bT:=az (j:=4) (u := .slice B2 tr.length e2) (az (j:=3) (u := .int .i64 st) (az (j:=2) (u := .slice B1 n e1) (az (j:=1) (u := .int .i64 pc) (az (j:=0) (u := .int .i64 pr) HR5.out))));have y0:=ae (j:=0) bT rfl;have y1:=ae (j:=1) bT rfl;have y2:=ae (j:=2) bT rfl;have y3:=ae (j:=3) bT rfl;have y4:=ae (j:=4) bT rfl;clear q0 q1 q2 q3 q4 r0 r1 r2 r3 r4 g0 g1 g2 g3 g4;refine bodyPost_ret (v := .agg #[.int .i64 pr,.int .i64 pc,.slice B1 n e1,.int .i64 st,.slice B2 tr.length e2]) (by simp[results,Tryz.results105,go_sem,y0,y1,y2,y3,y4]) rfl ?_;refine⟨aj (aj (aj (aj (aj Dl.out (by simp only;omega) _) (by simp only;omega) _) (by simp only;omega) _) (by simp only;omega) _) (by simp only;omega) _,_,_,_,_,_,_,rfl,aB.setCell (o:=4) (aB.setCell (o:=3) (aB.setCell (o:=2) (aB.setCell (o:=1) (aB.setCell (o:=0) MS.out (g:=w.heap.size+1) (by omega) _) (by omega) _) (by omega) _) (by omega) _) (by omega) _,aB.setCell (o:=4) (aB.setCell (o:=3) (aB.setCell (o:=2) (aB.setCell (o:=1) (aB.setCell (o:=0) Ry.out (g:=w.heap.size+1) (by omega) _) (by omega) _) (by omega) _) (by omega) _) (by omega) _,?_,fun g hg nI=>by omega⟩;rintro g (hg|hg) <;> (simp only[zM];omega)
theorem NM{w:World}{hi:Nat}{x:bY}{vs:List Value}(h:aI.see w hi x vs)(cu:hi≤w.heap.size)(hn:bV x≤1048576) :
  Calls Tryz.prog 105 #[.agg vs.toArray] w (mY x w):=rX h cu (zJ hn (by decide))
theorem FQ{α:Type}(L:Lay α)(e:TypeId)(w:World):aB L e w (fun _=>False) none 0 0 [] :=
 ⟨rfl,[],fun _ _=>False,Own.nil_ _ _ _ _ _,fun g hg=>by simp[jk] at hg,fun i x hx=>by simp at hx,fun _ _ _ h=>h.elim,fun _ _ _ h=>h.elim,fun _ _ _ _ _ h=>h.elim⟩
def dQ(x:bY)(r v:Int):bY:=if (decide (0≤r∧r<x.gJ.length)&&okV v)=true then {x with gJ:=x.gJ.set r.toNat v} else x
def dW(x:bY)(i:iK):bY:={x with jv:=x.jv++[i]}
def ji(x:bY)(r:Int):Int:=if 0≤r∧r<x.gJ.length then x.gJ.getD r.toNat 0 else 0
def overR(x:bY)(y:Int):bY:=if y=0 then dW {x with ai:=3} ⟨9,0,0,false⟩ else dW {x with ai:=4} ⟨10,0,y,false⟩
theorem Bh(v:Int)(w:World):Calls Tryz.prog 51 #[.int .i64 v] w fun e w'=>e=.returned (.bool (okV v))∧w=w':=by
 by_cases h0:0≤v
 ·by_cases h1:v≤999
  ·rw[BV (by omega)];go_enter Tryz.func51,Tryz.ntmps51
   go_wp2
   go_ret;exact⟨rfl,rfl⟩
  ·rw[uN (by omega)];have h2:decide (v≤999)=false:=yD h1;clear h1;go_enter Tryz.func51,Tryz.ntmps51
   go_wp2
   go_ret;exact⟨rfl,rfl⟩
 ·rw[uN (by omega)];have h2:decide (0≤v)=false:=yD h0;clear h0;go_enter Tryz.func51,Tryz.ntmps51
  go_wp2
  go_ret;exact⟨rfl,rfl⟩
theorem Dn(v:Int)(w:World):Calls Tryz.prog 39 #[.int .i64 v] w fun e w'=>e=.returned (.bool (okV v))∧w=w':=by
 by_cases h0:0≤v
 ·by_cases h1:v≤999
  ·rw[BV (by omega)];go_enter Tryz.func39,Tryz.ntmps39
   go_wp2
   go_ret;exact⟨rfl,rfl⟩
  ·rw[uN (by omega)];have h2:decide (v≤999)=false:=yD h1;clear h1;go_enter Tryz.func39,Tryz.ntmps39
   go_wp2
   go_ret;exact⟨rfl,rfl⟩
 ·rw[uN (by omega)];have h2:decide (0≤v)=false:=yD h0;clear h0;go_enter Tryz.func39,Tryz.ntmps39
  go_wp2
  go_ret;exact⟨rfl,rfl⟩
theorem pG(v c:Int)(w:World):Calls Tryz.prog 117 #[.int .i64 v,.int .i64 c] w fun e w'=>e=.returned (.bool (decide (0≤v∧v<c)))∧w=w':=by
 by_cases h0:0≤v
 ·by_cases h1:v<c
  ·rw[show decide (0≤v∧v<c)=true from yE ⟨h0,h1⟩];go_enter Tryz.func117,Tryz.ntmps117
   go_wp2
   go_ret;exact⟨rfl,rfl⟩
  ·rw[show decide (0≤v∧v<c)=false from yD (fun h=>h1 h.2)];have h2:decide (v<c)=false:=yD h1;clear h1;go_enter Tryz.func117,Tryz.ntmps117
   go_wp2
   go_ret;exact⟨rfl,rfl⟩
 ·rw[show decide (0≤v∧v<c)=false from yD (fun h=>h0 h.1)];have h2:decide (0≤v)=false:=yD h0;clear h0;go_enter Tryz.func117,Tryz.ntmps117
  go_wp2
  go_ret;exact⟨rfl,rfl⟩
theorem o_{w:World}{hi:Nat}{x:bY}{A2 A4:Option Addr}{n2 c2 n4 c4:Nat}(h0:(Lit.int .i64 x.ax).wf=true)(h1:(Lit.int .i64 x.dE).wf=true)(h2:n2≤c2∧c2≤maxLen∧a_ Lay.int w hi A2 n2 x.gJ)(h3:(Lit.int .i64 x.ai).wf=true)(h4:n4≤c4∧c4≤maxLen∧a_ cZ w hi A4 n4 x.jv) :
  aI.see w hi x [.int .i64 x.ax,.int .i64 x.dE,.slice A2 n2 c2,.int .i64 x.ai,.slice A4 n4 c4] :=
 ⟨_,_,rfl,⟨rfl,h0⟩,⟨_,_,rfl,⟨rfl,h1⟩,⟨_,_,rfl,⟨A2,n2,c2,rfl,h2⟩,⟨_,_,rfl,⟨rfl,h3⟩,⟨A4,n4,c4,rfl,h4⟩⟩⟩⟩⟩
theorem aB.adk{w:World}{e:TypeId}{F:Nat→Prop}{g n c i:Nat}{xs:List Int}{v:Int}(h:aB Lay.int e w F (some ⟨g,0,none⟩) n c xs)(hi:i<n)(hv:(Lit.int .i64 v).wf=true) :
  aB Lay.int e (w.setCell ⟨g,i,none⟩ (.int .i64 v)) F (some ⟨g,0,none⟩) n c (xs.set i v):=by
 obtain⟨hx,g',G,vs,hA,hFg,MP,ve,AX,hown,hcell,hfr,hput⟩:=h.focus hi;injection hA with hA
 injection hA with hA _
 subst hA;refine hput _ v [.int .i64 v] rfl ⟨rfl,hv⟩ ((au.refl _ w).setCell (.inr rfl) _) ?_;simp[putCells,Lay.int,Lay.flat]
theorem JC(w:World)(a b c d:Value)(t:TypeId):Seen (w.alloc (.cells #[a,b,c,d] t)) (w.heap.size+1) 4 (some ⟨w.heap.size,0,none⟩) 1 [a,b,c,d]:=by
 refine⟨by simp,.inr ⟨w.heap.size,0,rfl,by omega,fun j u hu => ?_⟩⟩;refine ae (ak w #[a,b,c,d] t) ?_;rw[yH];simpa using hu
def Xw(w:World)(A:Option Addr)(n:Nat)(xs:List iK)(v:iK)(e:Ending)(w':World):Prop :=
 ∃A' c',e=.returned (.slice A' (n+1) c')∧aB cZ 171 w' (fun g=>jk A'=some g) A' (n+1) c' (xs++[v])∧(jk A'=jk A∨∃g,jk A'=some g∧w.heap.size≤g) ∧
  (∀k,k<w.heap.size→jk A≠some k→w'.heap[k]? =w.heap[k]?)∧Below 0 w w'
theorem B6{w:World}{F:Nat→Prop}{A:Option Addr}{n c:Nat}{xs:List iK}(h:aB cZ 171 w F A n c xs)(F':Nat→Prop)(hF:∀g,jk A=some g→F' g):aB cZ 171 w F' A n c xs:=by
 obtain⟨h1,vs,G,ho,hA,hel,hG,h4,h5⟩:=h;exact⟨h1,vs,fun _ _=>False,ho,hF,fun i x hx=>⟨(hel i x hx).1,(hel i x hx).2⟩,fun _ _ _ h=>h.elim,fun _ _ _ h=>h.elim,fun _ _ _ _ _ h=>h.elim⟩
theorem wu{w:World}{F:Nat→Prop}{A:Option Addr}{n c:Nat}{xs:List iK}(h:aB cZ 171 w F A n c xs){g:Nat}(hg:jk A=some g):F g∧g<w.heap.size:=by
 obtain⟨h1,vs,G,ho,hA,_⟩:=h;exact⟨hA g hg,(ho.blk hg).2.2⟩
theorem Vl{w:World}{F:Nat→Prop}{A:Option Addr}{n c:Nat}{xs:List iK}(h:aB cZ 171 w F A n c xs)(v:iK)(hv:(Lit.int .i64 v.d_).wf=true∧(Lit.int .i64 v.iq).wf=true∧(Lit.int .i64 v.bU).wf=true) :
  ∀x∈xs++[v],(Lit.int .i64 x.d_).wf=true∧(Lit.int .i64 x.iq).wf=true∧(Lit.int .i64 x.bU).wf=true:=by
 intro x hx;rcases List.mem_append.1 hx with hx|hx
 ·obtain⟨i,hi⟩:=List.mem_iff_getElem?.1 hx;obtain⟨_,_,_,_,_,hel,_⟩:=h;exact (hel i x hi).2
 ·simp at hx;subst hx;exact hv
theorem P9{w w':World}{o:Obj}{A A':Option Addr}{n c c':Nat}{xs:List iK}{v:iK}{F:Nat→Prop}(h:aB cZ 171 w F A n c xs)(hv:(Lit.int .i64 v.d_).wf=true∧(Lit.int .i64 v.iq).wf=true∧(Lit.int .i64 v.bU).wf=true)
  (own:Own w' 0 w'.heap.size 171 4 A' (n+1) c' ((xs.map fun x=>[Value.int .i64 x.d_,.int .i64 x.iq,.int .i64 x.bU,.bool x.lM]).flatten++[.int .i64 v.d_,.int .i64 v.iq,.int .i64 v.bU,.bool v.lM]))(hb:Below 0 (w.alloc o) w')
  (hk:∀k,k<(w.alloc o).heap.size→jk A≠some k→w'.heap[k]? =(w.alloc o).heap[k]?)(hA:jk A'=jk A∨jk A'=some (w.alloc o).heap.size) :
  aB cZ 171 w' (fun g=>jk A'=some g) A' (n+1) c' (xs++[v])∧(jk A'=jk A∨∃g,jk A'=some g∧w.heap.size≤g)∧(∀k,k<w.heap.size→jk A≠some k→w'.heap[k]? =w.heap[k]?)∧Below 0 w w':=by
 have hz:=hb.size;simp only[zF] at hz hk hA;have Xv:(xs.map fun x=>[Value.int .i64 x.d_,.int .i64 x.iq,.int .i64 x.bU,.bool x.lM]).flatten++[.int .i64 v.d_,.int .i64 v.iq,.int .i64 v.bU,.bool v.lM]=((xs++[v]).map fun x=>[Value.int .i64 x.d_,.int .i64 x.iq,.int .i64 x.bU,.bool x.lM]).flatten:=(by simp);rw[Xv] at own;refine⟨?_,?_,fun k Rj hk2=>(hk k (by omega) hk2).trans (Below.heap_alloc w _ k Rj),⟨hb.os,hb.tape,hb.output,by omega,fun k hk=>by omega⟩⟩
 ·have h9:aB cZ 171 w' (fun g=>0≤g∧g<w'.heap.size) A' (n+1) c' (xs++[v]):=kF own (by simp[h.1]) (Vl h v hv);exact B6 h9 _ fun g hg=>hg
 ·rcases hA with h|h
  ·exact .inl h
  ·exact .inr ⟨_,h,by omega⟩
theorem KU{w:World}{A:Option Addr}{n c:Nat}{xs:List iK}{v:iK}{F:Nat→Prop}(h:aB cZ 171 w F A n c xs)(hn:n≤1048600)(hv:(Lit.int .i64 v.d_).wf=true∧(Lit.int .i64 v.iq).wf=true∧(Lit.int .i64 v.bU).wf=true) :
  Calls Tryz.prog 293 #[.slice A n c,.agg #[.int .i64 v.d_,.int .i64 v.iq,.int .i64 v.bU,.bool v.lM]] w (Xw w A n xs v):=by
 obtain⟨i0,jJ,hz0,hz1,hz2⟩:=info_parts xR;have hl:=h.1;have hwf:=Vl h v hv;have hF0:aB cZ 171 w (fun g=>0≤g∧g<w.heap.size) A n c xs:=B6 h _ fun g hg=>⟨zL _,(wu h hg).2⟩
 have hown:=((Ae hF0 fun g hg=>hg).alloc (.cells #[.int .i64 v.d_,.int .i64 v.iq,.int .i64 v.bU,.bool v.lM] 171)).alloc (.cells #[.int .i64 v.d_,.int .i64 v.iq,.int .i64 v.bU,.bool v.lM] 171);have HW:=zA hwf;have HL:=zA hl;have hsf:=JC (w.alloc (.cells #[.int .i64 v.d_,.int .i64 v.iq,.int .i64 v.bU,.bool v.lM] 171)) (.int .i64 v.d_) (.int .i64 v.iq) (.int .i64 v.bU) (.bool v.lM) 171;rw[zF] at hsf;have HSF:=zA hsf;clear h hwf hl hF0 hsf;go_enter Tryz.func293,Tryz.ntmps293
 go_wp2_with (at_builtin;refine kE rfl (.tmp 5) (.tmp 7) _ rfl 0 _ 171 i0 _ 4 32 Tryz.underlying263 jJ hz0 hz1 hz2 rfl (by omega) A n c _ rfl hown _ ⟨w.heap.size+1,0,none⟩ 1 1 [.int .i64 v.d_,.int .i64 v.iq,.int .i64 v.bU,.bool v.lM] rfl HSF.out (by simp[Value.oneCell']) (by simp only[maxLen];omega) (by omega) (zL _) ?_;intro A' c' w' own hb hk hA)
 go_ret;have hz:=hb.size;simp only[zF] at hz hk hA;have Xv:(xs.map fun x=>[Value.int .i64 x.d_,.int .i64 x.iq,.int .i64 x.bU,.bool x.lM]).flatten++[.int .i64 v.d_,.int .i64 v.iq,.int .i64 v.bU,.bool v.lM]=((xs++[v]).map fun x=>[Value.int .i64 x.d_,.int .i64 x.iq,.int .i64 x.bU,.bool x.lM]).flatten:=(by simp);rw[Xv] at own;refine⟨A',c',rfl,?_,?_,fun k Rj hk2=>(hk k (by omega) hk2).trans ((Below.heap_alloc _ _ k (by simp;omega)).trans (Below.heap_alloc w _ k Rj)),⟨hb.os,hb.tape,hb.output,by omega,fun k hk=>by omega⟩⟩
 ·have h9:aB cZ 171 w' (fun g=>0≤g∧g<w'.heap.size) A' (n+1) c' (xs++[v]):=kF own (by simp[HL.out]) HW.out;exact B6 h9 _ fun g hg=>hg
 ·rcases hA with h|h
  ·exact .inl h
  ·exact .inr ⟨_,h,by omega⟩
end Go.Proofs.YtjcoapnggojpdaaGreatDoor
