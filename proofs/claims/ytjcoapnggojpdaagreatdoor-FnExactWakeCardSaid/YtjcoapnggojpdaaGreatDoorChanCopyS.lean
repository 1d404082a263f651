/- Texts of the proof, laid compactly. -/
import Derived.Test.YtjcoapnggojpdaaGreatDoorGTabs
set_option maxHeartbeats 4000000
set_option maxRecDepth 100000
namespace Go.Proofs.YtjcoapnggojpdaaGreatDoor
set_option linter.unusedSimpArgs false
set_option linter.unusedVariables false
open Go.RowKit
theorem Oq{w:World}{hi:Nat}{x:gy}{vs:List Value}(h:bD.see w hi x vs)(cu:hi≤w.heap.size)(hn:dN x≤1048576) :
  Calls Tryz.prog 106 #[.agg vs.toArray] w (Rx x w):=by
 obtain⟨A1,n1,c1,A2,n2,c2,A3,n3,c3,rfl,hw0,⟨hc1,hm1,s1⟩,⟨hc2,jY,s2⟩,⟨hc3,Be,s3⟩⟩:=jF h;have L1:=zA s1.1;have L2:=zA s2.1;have L3:=zA s3.1;have jS:=hn;unfold dN at jS;rw[L1.out] at jS;rw[L2.out] at jS;rw[L3.out] at jS;have Jz:=zA (show ((w.alloc (.cells #[.int .i64 x.dC,.slice A1 n1 c1,.slice A2 n2 c2,.slice A3 n3 c3,.bool x.aC] 135)).alloc (.cells #[.int .i64 0,.slice none 0 0,.slice none 0 0,.slice none 0 0,.bool false] 135)).heap[w.heap.size]? =some (.cells #[.int .i64 x.dC,.slice A1 n1 c1,.slice A2 n2 c2,.slice A3 n3 c3,.bool x.aC] 135 (0,0)) from (Below.heap_alloc (w.alloc (.cells #[.int .i64 x.dC,.slice A1 n1 c1,.slice A2 n2 c2,.slice A3 n3 c3,.bool x.aC] 135)) _ _ (by simp)).trans (ak w #[.int .i64 x.dC,.slice A1 n1 c1,.slice A2 n2 c2,.slice A3 n3 c3,.bool x.aC] 135));have qi:=zA (show ((w.alloc (.cells #[.int .i64 x.dC,.slice A1 n1 c1,.slice A2 n2 c2,.slice A3 n3 c3,.bool x.aC] 135)).alloc (.cells #[.int .i64 0,.slice none 0 0,.slice none 0 0,.slice none 0 0,.bool false] 135)).heap[w.heap.size+1]? =some (.cells #[.int .i64 0,.slice none 0 0,.slice none 0 0,.slice none 0 0,.bool false] 135 (0,0)) from by have:=ak (w.alloc (.cells #[.int .i64 x.dC,.slice A1 n1 c1,.slice A2 n2 c2,.slice A3 n3 c3,.bool x.aC] 135)) #[.int .i64 0,.slice none 0 0,.slice none 0 0,.slice none 0 0,.bool false] 135;simpa using this);have gW:=zA (show yT w ((w.alloc (.cells #[.int .i64 x.dC,.slice A1 n1 c1,.slice A2 n2 c2,.slice A3 n3 c3,.bool x.aC] 135)).alloc (.cells #[.int .i64 0,.slice none 0 0,.slice none 0 0,.slice none 0 0,.bool false] 135)) by go_grown);have O5:=zA (fun (W:World) (hW:yT w W)=>s1.below hW cu);have Fa:=zA (fun (W:World) (hW:yT w W)=>s2.below hW cu);have PU:=zA (fun (W:World) (hW:yT w W)=>s3.below hW cu);have zz0:w.heap.size+2≤((w.alloc (.cells #[.int .i64 x.dC,.slice A1 n1 c1,.slice A2 n2 c2,.slice A3 n3 c3,.bool x.aC] 135)).alloc (.cells #[.int .i64 0,.slice none 0 0,.slice none 0 0,.slice none 0 0,.bool false] 135)).heap.size:=(by simp);clear s1 s2 s3 h;have aiz:=zA L1.out;have aiA:=zA L2.out;have aiB:=zA L3.out;obtain⟨i0,jJ,Vg,Vh,Vj⟩:=info_parts xU;obtain⟨j0,hj0,S6,S7,S8⟩:=info_parts sD;go_enter Tryz.func106,Tryz.ntmps106
 go_upto_region 1 with (fail)
 generalize ((w.alloc (.cells #[.int .i64 x.dC,.slice A1 n1 c1,.slice A2 n2 c2,.slice A3 n3 c3,.bool x.aC] 135)).alloc (.cells #[.int .i64 0,.slice none 0 0,.slice none 0 0,.slice none 0 0,.bool false] 135))=I2 at *;have BZ:yT I2 (I2.alloc (.cells #[] 3)):=(zD _ _).alloc (zC _) _;have FN:=af Jz.out BZ (by omega);have pa1:=ae (j:=1) FN rfl;have FO:=l9 (O5.out _ (gW.out.trans (BZ.mono (by omega))));have NL:Own (I2.alloc (.cells #[] 3)) I2.heap.size (I2.heap.size+1) 3 1 (some ⟨I2.heap.size,0,none⟩) 0 0 []:=by simpa using Own.made (size:=1) (e:=3) I2 #[] 0 0 (by decide) rfl (zC _)
 go_upto_region 2 with (at_builtin;refine dB rfl (.tmp 3) (.tmp 5) _ rfl I2.heap.size _ 3 i0 _ 1 8 Tryz.underlying22 jJ Vg Vh Vj rfl (by omega) (some ⟨I2.heap.size,0,none⟩) 0 0 [] rfl NL hi A1 n1 c1 _ rfl FO.1 (v_ _) (by simp only[maxLen];omega) (by omega) (by simp) ?_;intro B1 e1 w1 dU hb1;have FP:=af FN hb1 (by omega);have pk1:=ae (j:=1) FP rfl;have fk1:=ah FP 1)
 rw[yH] at dU;simp only[List.nil_append] at dU;replace dU:aB Lay.int 3 w1 (fun g=>I2.heap.size≤g∧g<w1.heap.size) B1 n1 e1 x.k6:=kF dU aiz.out FO.2;replace hb1:=BZ.trans hb1;have ha1:=hb1.size;try simp only[yH]
 clear BZ FN FO NL FP pk1 fk1;have zz1:w.heap.size+2≤w1.heap.size:=zJ zz0 hb1.size;have hx1:=af Jz.out hb1 (by omega);have hr1:=af qi.out hb1 (by omega);have p1:=ae (j:=1) hx1 rfl;have f1:=ah hx1 1;have Fb:=zA (gW.out.trans (hb1.mono (by omega)));have Fe:=zA dU;clear dU hb1;have qE:=zA (show (w1.setCell ⟨w.heap.size,1,none⟩ (.slice B1 n1 e1)).heap[w.heap.size]? =some (.cells #[.int .i64 x.dC,.slice B1 n1 e1,.slice A2 n2 c2,.slice A3 n3 c3,.bool x.aC] 135 (0,0)) from az (j:=1) (u := .slice B1 n1 e1) hx1);have DV:=zA ((zN w1 ⟨w.heap.size,1,none⟩ (.slice B1 n1 e1) (w.heap.size+1) (by simp only;omega)).trans hr1);have iC:=zA (aj (p:=⟨w.heap.size,1,none⟩) Fb.out (zC _) (.slice B1 n1 e1));replace Fe:=zA (aB.setCell (o:=1) Fe.out (g:=w.heap.size) (by omega) (.slice B1 n1 e1));have hz1:=zA (show (w1.setCell ⟨w.heap.size,1,none⟩ (.slice B1 n1 e1)).heap.size=w1.heap.size by simp[World.setCell]);clear hx1 hr1 p1 f1 Fb;generalize w1.setCell ⟨w.heap.size,1,none⟩ (.slice B1 n1 e1)=MR at *;replace zz1:w.heap.size+2≤MR.heap.size:=by have:=hz1.out;omega
 have KT:yT MR (MR.alloc (.cells #[] 49)):=(zD _ _).alloc (zC _) _;have P6:=af qE.out KT (by omega);have pa2:=ae (j:=2) P6 rfl;have P7:=l9 (Fa.out _ (iC.out.trans (KT.mono (by omega))));have Vk:Own (MR.alloc (.cells #[] 49)) MR.heap.size (MR.heap.size+1) 49 3 (some ⟨MR.heap.size,0,none⟩) 0 0 []:=by simpa using Own.made (size:=3) (e:=49) MR #[] 0 0 (by decide) rfl (zC _)
 go_upto_region 3 with (at_builtin;refine dB rfl (.tmp 8) (.tmp 10) _ rfl MR.heap.size _ 49 j0 _ 3 24 Tryz.underlying133 hj0 S6 S7 S8 rfl (by omega) (some ⟨MR.heap.size,0,none⟩) 0 0 [] rfl Vk hi A2 n2 c2 _ rfl P7.1 (cells_one _) (by simp only[maxLen];omega) (by omega) (by simp) ?_;intro B2 e2 w2 mQ hb2;have P8:=af P6 hb2 (by omega);have pk2:=ae (j:=2) P8 rfl;have fk2:=ah P8 2)
 rw[yH] at mQ;simp only[List.nil_append] at mQ;replace mQ:aB aN 49 w2 (fun g=>MR.heap.size≤g∧g<w2.heap.size) B2 n2 e2 x.dh:=kF mQ aiA.out P7.2;replace hb2:=KT.trans hb2;have ha2:=hb2.size;try simp only[yH]
 clear KT P6 P7 Vk P8 pk2 fk2;have zz2:w.heap.size+2≤w2.heap.size:=zJ zz1 hb2.size;clear pa2;have hx2:=af qE.out hb2 (by omega);have hr2:=af DV.out hb2 (by omega);have p2:=ae (j:=2) hx2 rfl;have f2:=ah hx2 2;have NH:=zA (iC.out.trans (hb2.mono (by omega)));have Ff:=zA (Fe.out.stay (w':=w2) (fun g hg hlt=>hb2.block g hlt) hb2.size);have Fg:=zA mQ;clear mQ hb2;have Fh:=zA (show (w2.setCell ⟨w.heap.size,2,none⟩ (.slice B2 n2 e2)).heap[w.heap.size]? =some (.cells #[.int .i64 x.dC,.slice B1 n1 e1,.slice B2 n2 e2,.slice A3 n3 c3,.bool x.aC] 135 (0,0)) from az (j:=2) (u := .slice B2 n2 e2) hx2);have rZ:=zA ((zN w2 ⟨w.heap.size,2,none⟩ (.slice B2 n2 e2) (w.heap.size+1) (by simp only;omega)).trans hr2);have lK:=zA (aj (p:=⟨w.heap.size,2,none⟩) NH.out (zC _) (.slice B2 n2 e2));replace Ff:=zA (aB.setCell (o:=2) Ff.out (g:=w.heap.size) (by omega) (.slice B2 n2 e2));replace Fg:=zA (aB.setCell (o:=2) Fg.out (g:=w.heap.size) (by omega) (.slice B2 n2 e2));have hz2:=zA (show (w2.setCell ⟨w.heap.size,2,none⟩ (.slice B2 n2 e2)).heap.size=w2.heap.size by simp[World.setCell]);clear hx2 hr2 p2 f2 NH;generalize w2.setCell ⟨w.heap.size,2,none⟩ (.slice B2 n2 e2)=SQ at *;replace zz2:w.heap.size+2≤SQ.heap.size:=by have:=hz2.out;omega
 have XW:yT SQ (SQ.alloc (.cells #[] 49)):=(zD _ _).alloc (zC _) _;have aaM:=af Fh.out XW (by omega);have pa3:=ae (j:=3) aaM rfl;have aaN:=l9 (PU.out _ (lK.out.trans (XW.mono (by omega))));have adP:Own (SQ.alloc (.cells #[] 49)) SQ.heap.size (SQ.heap.size+1) 49 3 (some ⟨SQ.heap.size,0,none⟩) 0 0 []:=by simpa using Own.made (size:=3) (e:=49) SQ #[] 0 0 (by decide) rfl (zC _)
 go_upto_region 4 with (at_builtin;refine dB rfl (.tmp 13) (.tmp 15) _ rfl SQ.heap.size _ 49 j0 _ 3 24 Tryz.underlying133 hj0 S6 S7 S8 rfl (by omega) (some ⟨SQ.heap.size,0,none⟩) 0 0 [] rfl adP hi A3 n3 c3 _ rfl aaN.1 (cells_one _) (by simp only[maxLen];omega) (by omega) (by simp) ?_;intro B3 e3 w3 xx hb3;have aaO:=af aaM hb3 (by omega);have pk3:=ae (j:=3) aaO rfl;have fk3:=ah aaO 3)
 rw[yH] at xx;simp only[List.nil_append] at xx;replace xx:aB aN 49 w3 (fun g=>SQ.heap.size≤g∧g<w3.heap.size) B3 n3 e3 x.dG:=kF xx aiB.out aaN.2;replace hb3:=XW.trans hb3;have ha3:=hb3.size;try simp only[yH]
 clear XW aaM aaN adP aaO pk3 fk3;have zz3:w.heap.size+2≤w3.heap.size:=zJ zz2 hb3.size;clear pa3;have hx3:=af Fh.out hb3 (by omega);have hr3:=af rZ.out hb3 (by omega);have p3:=ae (j:=3) hx3 rfl;have f3:=ah hx3 3;have U_:=zA (lK.out.trans (hb3.mono (by omega)));have Fj:=zA (Ff.out.stay (w':=w3) (fun g hg hlt=>hb3.block g hlt) hb3.size);have Fp:=zA (Fg.out.stay (w':=w3) (fun g hg hlt=>hb3.block g hlt) hb3.size);have Fq:=zA xx;clear xx hb3;have O6:=zA (show (w3.setCell ⟨w.heap.size,3,none⟩ (.slice B3 n3 e3)).heap[w.heap.size]? =some (.cells #[.int .i64 x.dC,.slice B1 n1 e1,.slice B2 n2 e2,.slice B3 n3 e3,.bool x.aC] 135 (0,0)) from az (j:=3) (u := .slice B3 n3 e3) hx3);have xy:=zA ((zN w3 ⟨w.heap.size,3,none⟩ (.slice B3 n3 e3) (w.heap.size+1) (by simp only;omega)).trans hr3);have xW:=zA (aj (p:=⟨w.heap.size,3,none⟩) U_.out (zC _) (.slice B3 n3 e3));replace Fj:=zA (aB.setCell (o:=3) Fj.out (g:=w.heap.size) (by omega) (.slice B3 n3 e3));replace Fp:=zA (aB.setCell (o:=3) Fp.out (g:=w.heap.size) (by omega) (.slice B3 n3 e3));replace Fq:=zA (aB.setCell (o:=3) Fq.out (g:=w.heap.size) (by omega) (.slice B3 n3 e3));have hz3:=zA (show (w3.setCell ⟨w.heap.size,3,none⟩ (.slice B3 n3 e3)).heap.size=w3.heap.size by simp[World.setCell]);clear hx3 hr3 p3 f3 U_;generalize w3.setCell ⟨w.heap.size,3,none⟩ (.slice B3 n3 e3)=w3b at *;replace zz3:w.heap.size+2≤w3b.heap.size:=by have:=hz3.out;omega
 have q0:=ae (j:=0) O6.out rfl;have q1:=ae (j:=1) O6.out rfl;have q2:=ae (j:=2) O6.out rfl;have q3:=ae (j:=3) O6.out rfl;have q4:=ae (j:=4) O6.out rfl;have r0:=ae (j:=0) xy.out rfl;have r1:=ae (j:=1) xy.out rfl;have r2:=ae (j:=2) xy.out rfl;have r3:=ae (j:=3) xy.out rfl;have r4:=ae (j:=4) xy.out rfl;have g0:=ah xy.out 0;have g1:=ah xy.out 1;have g2:=ah xy.out 2;have g3:=ah xy.out 3;have g4:=ah xy.out 4;go_wp2_with fail
 have ahT:=hz1.out;have ahU:=hz2.out;have ahV:=hz3.out;have bT:=az (j:=4) (u := .bool x.aC) (az (j:=3) (u := .slice B3 n3 e3) (az (j:=2) (u := .slice B2 n2 e2) (az (j:=1) (u := .slice B1 n1 e1) (az (j:=0) (u := .int .i64 x.dC) xy.out))));have y0:=ae (j:=0) bT rfl;have y1:=ae (j:=1) bT rfl;have y2:=ae (j:=2) bT rfl;have y3:=ae (j:=3) bT rfl;have y4:=ae (j:=4) bT rfl;clear q0 q1 q2 q3 q4 r0 r1 r2 r3 r4 g0 g1 g2 g3 g4;refine bodyPost_ret (v := .agg #[.int .i64 x.dC,.slice B1 n1 e1,.slice B2 n2 e2,.slice B3 n3 e3,.bool x.aC]) (by simp[results,Tryz.results106,go_sem,y0,y1,y2,y3,y4]) rfl ?_;refine⟨aj (aj (aj (aj (aj xW.out (by simp only;omega) _) (by simp only;omega) _) (by simp only;omega) _) (by simp only;omega) _) (by simp only;omega) _,B1,e1,B2,e2,B3,e3,_,_,_,by rw[L1.out,L2.out,L3.out],by rw[L1.out];exact aB.setCell (o:=4) (aB.setCell (o:=3) (aB.setCell (o:=2) (aB.setCell (o:=1) (aB.setCell (o:=0) Fj.out (g:=w.heap.size+1) (by omega) _) (by omega) _) (by omega) _) (by omega) _) (by omega) _,by rw[L2.out];exact aB.setCell (o:=4) (aB.setCell (o:=3) (aB.setCell (o:=2) (aB.setCell (o:=1) (aB.setCell (o:=0) Fp.out (g:=w.heap.size+1) (by omega) _) (by omega) _) (by omega) _) (by omega) _) (by omega) _,by rw[L3.out];exact aB.setCell (o:=4) (aB.setCell (o:=3) (aB.setCell (o:=2) (aB.setCell (o:=1) (aB.setCell (o:=0) Fq.out (g:=w.heap.size+1) (by omega) _) (by omega) _) (by omega) _) (by omega) _) (by omega) _,?_,fun g hg nI=>by omega,fun g hg nI=>by omega,fun g hg nI=>by omega⟩;rintro g (hg|hg|hg) <;> (simp only[zM];omega)
theorem Dt(v:Int)(w:World):Calls Tryz.prog 39 #[.int .i64 v] w fun e w'=>e=.returned (.bool (okV v))∧w=w':=by
 by_cases h0:0≤v
 ·by_cases h1:v≤999
  ·rw[BV (by omega)];go_enter Tryz.func39,Tryz.ntmps39
   go_wp2
   go_ret;exact⟨rfl,rfl⟩
  ·rw[uN (by omega)];have h2:decide (v≤999)=false:=yD h1;clear h1;go_enter Tryz.func39,Tryz.ntmps39
   go_wp2
   go_ret;exact⟨rfl,rfl⟩
 ·rw[uN (by omega)];have h2:decide (0≤v)=false:=yD h0;clear h0;go_enter Tryz.func39,Tryz.ntmps39
  go_wp2
  go_ret;exact⟨rfl,rfl⟩
theorem N7{obj val lo hi:Int}{ok hb:Bool}{s:List UInt8}{w:World}(z:Nat)(h1:1≤z)(h2:z≤10)
  (c0:w.cell? ⟨0,z*4,none⟩=some (Tx s))(c1:w.cell? ⟨0,z*4+1,none⟩=some (.bool hb))(c2:w.cell? ⟨0,z*4+2,none⟩=some (.int .i64 lo))(c3:w.cell? ⟨0,z*4+3,none⟩=some (.int .i64 hi)) :
  Calls Tryz.prog 259 #[.agg #[.int .i64 (z:Int),.int .i64 obj,.int .i64 val,.bool ok]] w fun e w'=>e=.returned (.bool (rowB z obj val ok hb lo hi))∧yT w w':=by
 have hg0:0<w.heap.size:=World.block_lt_of_cell? w _ c1;have hz1:¬((z:Int)<1):=(by omega);have hz2:¬((z:Int) > 10):=(by omega);have hz3:(z:Int)≤10:=(by omega);have Ve:(1:Int)≤(z:Int):=(by omega);obtain⟨r,hr⟩:∃r,r=rowB z obj val ok hb lo hi:=⟨_,rfl⟩
 rw[←hr];have HR:=zA hr;clear hr;by_cases q1:obj<0
 ·go_enter Tryz.func259,Tryz.ntmps259
  go_wp2_with fail
  go_ret;exact⟨by rw[HR.out];simp[rowB,q1],by go_grown⟩
 ·have hb1:decide (obj<0)=false:=yD q1;by_cases q2:obj > 0
  ·have hb2:decide (obj > 0)=true:=yE q2;cases hb
   ·go_enter Tryz.func259,Tryz.ntmps259
    go_wp2_with fail
    go_ret;exact⟨by rw[HR.out];simp[rowB,q1,q2],by go_grown⟩
   ·skip
    by_cases q3:val<lo
    ·go_enter Tryz.func259,Tryz.ntmps259
     go_wp2_with fail
     go_ret;exact⟨by rw[HR.out];simp[rowB,q1,q2,q3],by go_grown⟩
    ·have hb3:decide (val<lo)=false:=yD q3;by_cases q4:val > hi
     ·go_enter Tryz.func259,Tryz.ntmps259
      go_wp2_with fail
      go_ret;exact⟨by rw[HR.out];simp[rowB,q1,q2,q3,q4],by go_grown⟩
     ·have hb4:decide (val > hi)=false:=yD q4;by_cases q5:(z:Int)=2
      ·obtain rfl:z=2:=(by omega);simp only[Nat.reduceMul,Nat.reduceAdd] at c0 c1 c2 c3;clear hz1 hz2 hz3 Ve q5;cases ok
       ·go_enter Tryz.func259,Tryz.ntmps259
        go_wp2_with fail
        go_ret;exact⟨by rw[HR.out];unfold rowB;rw[hb1,hb2,hb3,hb4];simp[show (val==0)=decide (val=0) from rfl],by go_grown⟩
       ·go_enter Tryz.func259,Tryz.ntmps259
        go_wp2_with fail
        go_ret;exact⟨by rw[HR.out];simp[rowB,q1,q2,q3,q4],by go_grown⟩
      ·go_enter Tryz.func259,Tryz.ntmps259
       go_wp2_with fail
       go_ret;exact⟨by rw[HR.out];simp[rowB,q1,q2,q3,q4,q5],by go_grown⟩
  ·have hb2:decide (obj > 0)=false:=yD q2;by_cases q3:val<lo
   ·go_enter Tryz.func259,Tryz.ntmps259
    go_wp2_with fail
    go_ret;exact⟨by rw[HR.out];simp[rowB,q1,q2,q3],by go_grown⟩
   ·have hb3:decide (val<lo)=false:=yD q3;by_cases q4:val > hi
    ·go_enter Tryz.func259,Tryz.ntmps259
     go_wp2_with fail
     go_ret;exact⟨by rw[HR.out];simp[rowB,q1,q2,q3,q4],by go_grown⟩
    ·have hb4:decide (val > hi)=false:=yD q4;by_cases q5:(z:Int)=2
     ·obtain rfl:z=2:=(by omega);simp only[Nat.reduceMul,Nat.reduceAdd] at c0 c1 c2 c3;clear hz1 hz2 hz3 Ve q5;cases ok
      ·go_enter Tryz.func259,Tryz.ntmps259
       go_wp2_with fail
       go_ret;exact⟨by rw[HR.out];unfold rowB;rw[hb1,hb2,hb3,hb4];simp[show (val==0)=decide (val=0) from rfl],by go_grown⟩
      ·go_enter Tryz.func259,Tryz.ntmps259
       go_wp2_with fail
       go_ret;exact⟨by rw[HR.out];simp[rowB,q1,q2,q3,q4],by go_grown⟩
     ·go_enter Tryz.func259,Tryz.ntmps259
      go_wp2_with fail
      go_ret;exact⟨by rw[HR.out];simp[rowB,q1,q2,q3,q4,q5],by go_grown⟩
theorem FV{w:World}{x:iK}(hC:ni w)(hv:(Lit.int .i64 x.bU).wf=true) :
  Calls Tryz.prog 259 #[.agg #[.int .i64 x.d_,.int .i64 x.iq,.int .i64 x.bU,.bool x.lM]] w fun e w'=>e=.returned (.bool (dZ x))∧yT w w':=by
 obtain⟨k,obj,val,ok⟩:=x;simp only at *;by_cases hk:1≤k∧k≤10
 ·obtain⟨z,rfl⟩:=yO (show 0≤k by omega);have h:=hC z (by omega) (by omega);rw[←aaD (k:=z) (by omega) (by omega) hv];exact N7 z (by omega) (by omega) h.1 h.2.1 h.2.2.1 h.2.2.2
 ·rw[show dZ ⟨k,obj,val,ok⟩=false by unfold dZ;rw[show decide (1≤k∧k≤10∧0≤obj)=false from yD (by omega)];rfl];clear hC hv;by_cases h1:k<1
  ·go_enter Tryz.func259,Tryz.ntmps259
   go_wp2_with fail
   go_ret;exact⟨rfl,by go_grown⟩
  ·have h2:k > 10:=(by omega);clear hk;go_enter Tryz.func259,Tryz.ntmps259
   go_wp2_with fail
   go_ret;exact⟨rfl,by go_grown⟩
theorem sK{w:World}{x:iK} :
  Calls Tryz.prog 262 #[.agg #[.int .i64 x.d_,.int .i64 x.iq,.int .i64 x.bU,.bool x.lM]] w fun e w'=>e=.returned (.bool (dZ x))∧yT w w':=by
 obtain⟨k,obj,val,ok⟩:=x;simp only;obtain⟨r,hr⟩:∃r,r=dZ ⟨k,obj,val,ok⟩:=⟨_,rfl⟩
 rw[←hr];have HR:=zA hr;clear hr;have Tt:=zA (fun W=>Dt val W);by_cases q1:k<1
 ·go_enter Tryz.func262,Tryz.ntmps262
  go_wp2_with fail
  go_ret;exact⟨by rw[HR.out];simp[dZ];omega,by go_grown⟩
 by_cases q2:k > 10
 ·go_enter Tryz.func262,Tryz.ntmps262
  go_wp2_with fail
  go_ret;exact⟨by rw[HR.out];simp[dZ];omega,by go_grown⟩
 by_cases q3:obj<0
 ·have b1:decide (k<1)=false:=yD q1;have b2:decide (k > 10)=false:=yD q2;clear q1 q2;go_enter Tryz.func262,Tryz.ntmps262
  go_wp2_with fail
  go_ret;exact⟨by rw[HR.out];simp[dZ];omega,by go_grown⟩
 have hk:k=1∨k=2∨k=3∨k=4∨k=5∨k=6∨k=7∨k=8∨k=9∨k=10:=(by omega);have b3:decide (obj<0)=false:=yD q3;have hge:0≤obj:=(by omega);clear q1 q2 q3;rcases hk with rfl|rfl|rfl|rfl|rfl|rfl|rfl|rfl|rfl|rfl
 ·skip
  cases ok
  ·skip
   go_enter Tryz.func262,Tryz.ntmps262
   go_wp2_with fail
   refine (Tt.out _).mono ?_;rintro e w5 ⟨rfl,rfl⟩;go_wp2_with fail
   go_ret;exact⟨by rw[HR.out];simp[dZ,mf,hge];try first|omega|rfl,by go_grown⟩
  ·skip
   go_enter Tryz.func262,Tryz.ntmps262
   go_wp2_with fail
   go_ret;exact⟨by rw[HR.out];simp[dZ,mf,hge];try first|omega|rfl,by go_grown⟩
 ·skip
  cases hq:okV val
  ·have HQ:=zA hq;clear hq;cases ok
   ·skip
    go_enter Tryz.func262,Tryz.ntmps262
    go_wp2_with fail
    refine (Tt.out _).mono ?_;rw[HQ.out];rintro e w5 ⟨rfl,rfl⟩;go_wp2_with fail
    go_ret;exact⟨by rw[HR.out];simp[dZ,mf,hge,HQ.out];try first|omega|rfl,by go_grown⟩
   ·skip
    go_enter Tryz.func262,Tryz.ntmps262
    go_wp2_with fail
    refine (Tt.out _).mono ?_;rw[HQ.out];rintro e w5 ⟨rfl,rfl⟩;go_wp2_with fail
    go_ret;exact⟨by rw[HR.out];simp[dZ,mf,hge,HQ.out];try first|omega|rfl,by go_grown⟩
  ·have HQ:=zA hq;clear hq;cases ok
   ·skip
    go_enter Tryz.func262,Tryz.ntmps262
    go_wp2_with fail
    refine (Tt.out _).mono ?_;rw[HQ.out];rintro e w5 ⟨rfl,rfl⟩;go_wp2_with fail
    go_ret;exact⟨by rw[HR.out];simp[dZ,mf,hge,HQ.out];try first|omega|rfl,by go_grown⟩
   ·skip
    go_enter Tryz.func262,Tryz.ntmps262
    go_wp2_with fail
    refine (Tt.out _).mono ?_;rw[HQ.out];rintro e w5 ⟨rfl,rfl⟩;go_wp2_with fail
    go_ret;exact⟨by rw[HR.out];simp[dZ,mf,hge,HQ.out];try first|omega|rfl,by go_grown⟩
 ·skip
  cases ok
  ·skip
   go_enter Tryz.func262,Tryz.ntmps262
   go_wp2_with fail
   go_ret;exact⟨by rw[HR.out];simp[dZ,mf,hge];try first|omega|rfl,by go_grown⟩
  ·skip
   go_enter Tryz.func262,Tryz.ntmps262
   go_wp2_with fail
   go_ret;exact⟨by rw[HR.out];simp[dZ,mf,hge];try first|omega|rfl,by go_grown⟩
 ·skip
  cases ok
  ·skip
   go_enter Tryz.func262,Tryz.ntmps262
   go_wp2_with fail
   go_ret;exact⟨by rw[HR.out];simp[dZ,mf,hge];try first|omega|rfl,by go_grown⟩
  ·skip
   go_enter Tryz.func262,Tryz.ntmps262
   go_wp2_with fail
   go_ret;exact⟨by rw[HR.out];simp[dZ,mf,hge];try first|omega|rfl,by go_grown⟩
 ·skip
  cases ok
  ·skip
   go_enter Tryz.func262,Tryz.ntmps262
   go_wp2_with fail
   go_ret;exact⟨by rw[HR.out];simp[dZ,mf,hge];try first|omega|rfl,by go_grown⟩
  ·skip
   go_enter Tryz.func262,Tryz.ntmps262
   go_wp2_with fail
   go_ret;exact⟨by rw[HR.out];simp[dZ,mf,hge];try first|omega|rfl,by go_grown⟩
 ·skip
  cases ok
  ·skip
   go_enter Tryz.func262,Tryz.ntmps262
   go_wp2_with fail
   go_ret;exact⟨by rw[HR.out];simp[dZ,mf,hge];try first|omega|rfl,by go_grown⟩
  ·skip
   go_enter Tryz.func262,Tryz.ntmps262
   go_wp2_with fail
   go_ret;exact⟨by rw[HR.out];simp[dZ,mf,hge];try first|omega|rfl,by go_grown⟩
 ·skip
  cases ok
  ·skip
   go_enter Tryz.func262,Tryz.ntmps262
   go_wp2_with fail
   go_ret;exact⟨by rw[HR.out];simp[dZ,mf,hge];try first|omega|rfl,by go_grown⟩
  ·skip
   go_enter Tryz.func262,Tryz.ntmps262
   go_wp2_with fail
   go_ret;exact⟨by rw[HR.out];simp[dZ,mf,hge];try first|omega|rfl,by go_grown⟩
 ·skip
  by_cases q4:obj=0
  ·subst q4;cases ok
   ·skip
    go_enter Tryz.func262,Tryz.ntmps262
    go_wp2_with fail
    refine (Tt.out _).mono ?_;rintro e w5 ⟨rfl,rfl⟩;go_wp2_with fail
    go_ret;exact⟨by rw[HR.out];simp[dZ,mf,hge];try first|omega|rfl,by go_grown⟩
   ·skip
    go_enter Tryz.func262,Tryz.ntmps262
    go_wp2_with fail
    go_ret;exact⟨by rw[HR.out];simp[dZ,mf,hge];try first|omega|rfl,by go_grown⟩
  ·have b4:(obj != 0)=true:=by simpa using q4
   go_enter Tryz.func262,Tryz.ntmps262
   go_wp2_with fail
   go_ret;exact⟨by rw[HR.out];simp[dZ,mf,hge,q4];try first|omega|rfl,by go_grown⟩
 ·skip
  by_cases q4:obj=0
  ·subst q4;cases ok
   ·skip
    go_enter Tryz.func262,Tryz.ntmps262
    go_wp2_with fail
    go_ret;exact⟨by rw[HR.out];simp[dZ,mf,hge];try first|omega|rfl,by go_grown⟩
   ·skip
    go_enter Tryz.func262,Tryz.ntmps262
    go_wp2_with fail
    go_ret;exact⟨by rw[HR.out];simp[dZ,mf,hge];try first|omega|rfl,by go_grown⟩
  ·have b4:(obj != 0)=true:=by simpa using q4
   go_enter Tryz.func262,Tryz.ntmps262
   go_wp2_with fail
   go_ret;exact⟨by rw[HR.out];simp[dZ,mf,hge,q4];try first|omega|rfl,by go_grown⟩
 ·skip
  by_cases q4:obj=0
  ·subst q4;cases ok
   ·by_cases q6:val≥1
    ·have b6:decide (val≥1)=true:=yE q6;go_enter Tryz.func262,Tryz.ntmps262
     go_wp2_with fail
     go_ret;exact⟨by rw[HR.out];simp[dZ,mf,hge,q6];try first|omega|rfl,by go_grown⟩
    ·have b6:decide (val≥1)=false:=yD q6;have q7:val≤0:=(by omega);clear q6;go_enter Tryz.func262,Tryz.ntmps262
     go_wp2_with fail
     go_ret;exact⟨by rw[HR.out];simp[dZ,mf,hge];try first|omega|rfl,by go_grown⟩
   ·skip
    go_enter Tryz.func262,Tryz.ntmps262
    go_wp2_with fail
    go_ret;exact⟨by rw[HR.out];simp[dZ,mf,hge];try first|omega|rfl,by go_grown⟩
  ·have b4:(obj != 0)=true:=by simpa using q4
   go_enter Tryz.func262,Tryz.ntmps262
   go_wp2_with fail
   go_ret;exact⟨by rw[HR.out];simp[dZ,mf,hge,q4];try first|omega|rfl,by go_grown⟩
end Go.Proofs.YtjcoapnggojpdaaGreatDoor
