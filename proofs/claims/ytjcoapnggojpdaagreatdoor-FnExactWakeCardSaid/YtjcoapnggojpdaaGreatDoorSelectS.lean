/- Texts of the proof, laid compactly. -/
import Derived.Test.YtjcoapnggojpdaaGreatDoorInstrOkB
import Derived.Test.YtjcoapnggojpdaaGreatDoorInstrOkC
set_option maxHeartbeats 4000000
set_option maxRecDepth 100000
namespace Go.Proofs.YtjcoapnggojpdaaGreatDoor
set_option linter.unusedSimpArgs false
set_option linter.unusedVariables false
open Go.RowKit
def rJ(nch:Nat)(n:Int)(x:ja):Bool:=inB x.gU (-1) ((nch:Int)-1)&&(jC x.mg&&(jC x.lM&&(!(x.gI&&(x.lM != 0))&&inB x.wX 0 (n-1))))
def sN(x y:ja):Bool:=decide (0≤x.gU)&&(x.gU==y.gU)
def qj(nch:Nat)(n:Int)(cs:List ja)(k:Nat):Bool :=
 match cs[k]? with
 |some x=>rJ nch n x&&(cs.take k).all fun y => !sN x y
 |none=>true
def iY(nch:Nat)(n:Int)(s:eG):Bool:=(List.range s.dw.length).all (qj nch n s.dw)&&inB s.fV (-1) (n-1)
theorem nY{nch:Nat}{n:Int}{s:eG}{k:Nat}(hk:k<s.dw.length)(h:qj nch n s.dw k=false):iY nch n s=false:=by
 have:(List.range s.dw.length).all (qj nch n s.dw)=false:=by
  rw[List.all_eq_false];exact⟨k,List.mem_range.2 hk,by rw[h];exact Bool.false_ne_true⟩
 rw[iY,this,zX]
theorem Du{nch:Nat}{n:Int}{s:eG}(h:∀k,k<s.dw.length→qj nch n s.dw k=true):iY nch n s=inB s.fV (-1) (n-1):=by
 have:(List.range s.dw.length).all (qj nch n s.dw)=true:=by
  rw[zY];exact fun k hk=>h k (List.mem_range.1 hk)
 rw[iY,this,Bool.true_and]
theorem pR{nch:Nat}{n:Int}{cs:List ja}{k:Nat}{x:ja}(hx:cs[k]? =some x)(h:rJ nch n x=false):qj nch n cs k=false:=by
 simp[qj,hx,h]
theorem Dv{nch:Nat}{n:Int}{cs:List ja}{k j:Nat}{x y:ja}(hx:cs[k]? =some x)(hj:j<k)(hy:cs[j]? =some y)(h:sN x y=true):qj nch n cs k=false:=by
 have hm:y∈cs.take k:=List.mem_of_getElem? (i:=j) (by rw[List.getElem?_take,yG hj,hy]);simp only[qj,hx];have:(cs.take k).all (fun y => !sN x y)=false:=by
  rw[List.all_eq_false];exact⟨y,hm,by rw[h];decide⟩
 rw[this,Bool.and_false]
theorem Bq{nch:Nat}{n:Int}{cs:List ja}{k:Nat}{x:ja}(hx:cs[k]? =some x)(h:rJ nch n x=true)(hm:∀j y,j<k→cs[j]? =some y→sN x y=false):qj nch n cs k=true:=by
 simp only[qj,hx,h,Bool.true_and,zY];intro y hy;obtain⟨j,hj⟩:=List.getElem?_of_mem hy;rw[List.getElem?_take] at hj;split at hj
 ·rw[hm j y ‹_› hj];rfl
 ·cases hj
theorem Tz:∀w,(Go.sizeOf 165).run Tryz.prog w=.ok 5 w:=fun _=>by kernel_rfl
theorem vG{w:World}{hi:Nat}{s:eG}{vs:List Value}{B0 B2 B3:Option Addr}{m0 b0 m2 b2 m3 b3:Nat}{mus n:Int}(h:bM.see w hi s vs)(cu:hi≤w.heap.size)(hm0:m0≤1048576)(hn:0≤n)(hn':n≤1048576)(hs:dJ s≤1048576) :
  Calls Tryz.prog 170 #[.agg #[.slice B0 m0 b0,.int .i64 mus,.slice B2 m2 b2,.slice B3 m3 b3],.int .i64 n,.agg vs.toArray] w fun e w'=>e=.returned (.bool (iY m0 n s))∧yT w w':=by
 obtain⟨A0,n0,c0,rfl,⟨hc0,Qa,s0⟩,hw1⟩:=g_ h;have L0:=zA s0.1;have hs0:=hs;unfold dJ at hs0;rw[L0.out] at hs0;go_enter Tryz.func170,Tryz.ntmps170
 go_wp2_with fail
 go_loopw[14] (fun i wr=>∃k:Nat,k≤n0∧i=.int .i64 k∧Hid (∀j,j<k→qj m0 n s.dw j=true)∧Below (w.heap.size+2) ((w.alloc (.cells #[.slice B0 m0 b0,.int .i64 mus,.slice B2 m2 b2,.slice B3 m3 b3] 46)).alloc (.cells #[.slice A0 n0 c0,.int .i64 s.fV] 168)) wr) (fun i _=>n0-(intOf i).toNat)
 case atStart=>exact⟨0,zL _,rfl,zA (fun j hj=>by omega),by simpa using zD _ _⟩
 case round =>
  rename World=>wo
  obtain⟨k,hk,rfl,hall,hb⟩:=hrel;have z:=hb.size;simp only[zF] at z;obtain⟨Tu,Vw⟩:=bn hb;have Tv:w.heap.size<w.heap.size+2:=(by omega);have ain:w.heap.size+1<w.heap.size+2:=(by omega);have XJ:w.heap.size<wo.heap.size:=(by omega);have aio:w.heap.size+1<wo.heap.size:=(by omega);have oO:yT w wo:=zQ (by go_grown) (hb.mono (by omega));by_cases hlt:k<n0
  ·obtain⟨hx,g,o,vs,rfl,hg,⟨rfl,hw⟩,hcell⟩:=(s0.below oO cu).at_ hlt;have dK:=hcell 0 _ rfl;have eu:=hcell 1 _ rfl;have ig:=hcell 2 _ rfl;have jf:=hcell 3 _ rfl;have lS:=hcell 4 _ rfl;simp only[show fJ.size=5 from rfl,←zH,zI,zK] at dK eu ig jf lS;clear hcell hw;have jh:=zA (zG hx);have Lj:=zA (show k<s.dw.length from hx);generalize s.dw[k]=x at *;clear hx;cases t1:inB x.gU (-1) ((m0:Int)-1)
   ·have hno:=zA (nY (n:=n) Lj.out (pR (nch:=m0) (n:=n) jh.out (by simp[rJ,t1])));go_wp2_with fail
    refine (iH _ _ _ _ _ _ _ _ _ _ _ _ (by omega)).mono ?_;rintro e w1 ⟨rfl,hb1⟩;obtain⟨eX,gQ⟩:=bn hb1;have z1:=hb1.size;simp only[zF] at z1;have Iu:w.heap.size<w1.heap.size:=(by omega);have hz1b:w.heap.size+1<w1.heap.size:=(by omega);have Lh:wo.heap.size<w1.heap.size:=(by omega);have oG:yT wo w1:=by
     refine zQ ?_ (hb1.mono ?_)
     ·go_grown
     ·simp
    have hB1:Below (w.heap.size+2) ((w.alloc (.cells #[.slice B0 m0 b0,.int .i64 mus,.slice B2 m2 b2,.slice B3 m3 b3] 46)).alloc (.cells #[.slice (some ⟨g,o,none⟩) n0 c0,.int .i64 s.fV] 168)) w1:=hb.trans (oG.mono (by omega));have hb2:yT w w1:=oO.trans (oG.mono (by omega));go_wp2_with fail
    go_ret;exact⟨by rw[hno.out];rfl,hb2⟩
   cases t2:jC x.mg
   ·have hno:=zA (nY (n:=n) Lj.out (pR (nch:=m0) (n:=n) jh.out (by simp[rJ,t1,t2])));go_wp2_with fail
    refine (iH _ _ _ _ _ _ _ _ _ _ _ _ (by omega)).mono ?_;rintro e w1 ⟨rfl,hb1⟩;obtain⟨eX,gQ⟩:=bn hb1;have z1:=hb1.size;simp only[zF] at z1;have Iu:w.heap.size<w1.heap.size:=(by omega);have hz1b:w.heap.size+1<w1.heap.size:=(by omega);have Lh:wo.heap.size<w1.heap.size:=(by omega);have oG:yT wo w1:=by
     refine zQ ?_ (hb1.mono ?_)
     ·go_grown
     ·simp
    have hB1:Below (w.heap.size+2) ((w.alloc (.cells #[.slice B0 m0 b0,.int .i64 mus,.slice B2 m2 b2,.slice B3 m3 b3] 46)).alloc (.cells #[.slice (some ⟨g,o,none⟩) n0 c0,.int .i64 s.fV] 168)) w1:=hb.trans (oG.mono (by omega));have hb2:yT w w1:=oO.trans (oG.mono (by omega));go_wp2_with fail
    refine (aY _ _).mono ?_;rintro e w9 ⟨rfl,rfl⟩;go_wp2_with fail
    go_ret;exact⟨by rw[hno.out];rfl,hb2⟩
   cases t3:jC x.lM
   ·have hno:=zA (nY (n:=n) Lj.out (pR (nch:=m0) (n:=n) jh.out (by simp[rJ,t1,t2,t3])));go_wp2_with fail
    refine (iH _ _ _ _ _ _ _ _ _ _ _ _ (by omega)).mono ?_;rintro e w1 ⟨rfl,hb1⟩;obtain⟨eX,gQ⟩:=bn hb1;have z1:=hb1.size;simp only[zF] at z1;have Iu:w.heap.size<w1.heap.size:=(by omega);have hz1b:w.heap.size+1<w1.heap.size:=(by omega);have Lh:wo.heap.size<w1.heap.size:=(by omega);have oG:yT wo w1:=by
     refine zQ ?_ (hb1.mono ?_)
     ·go_grown
     ·simp
    have hB1:Below (w.heap.size+2) ((w.alloc (.cells #[.slice B0 m0 b0,.int .i64 mus,.slice B2 m2 b2,.slice B3 m3 b3] 46)).alloc (.cells #[.slice (some ⟨g,o,none⟩) n0 c0,.int .i64 s.fV] 168)) w1:=hb.trans (oG.mono (by omega));have hb2:yT w w1:=oO.trans (oG.mono (by omega));go_wp2_with fail
    refine (aY _ _).mono ?_;rintro e w9 ⟨rfl,rfl⟩;go_wp2_with fail
    refine (aY _ _).mono ?_;rintro e w9 ⟨rfl,rfl⟩;go_wp2_with fail
    go_ret;exact⟨by rw[hno.out];rfl,hb2⟩
   by_cases t4:x.gI=true∧¬x.lM=0
   ·obtain⟨t4a,t4b⟩:=t4;have t4c:(x.lM != 0)=true:=by simpa using t4b
    have t4d:(x.lM==0)=false:=by simpa using t4b
    have hno:=zA (nY (n:=n) Lj.out (pR (nch:=m0) (n:=n) jh.out (by simp[rJ,t1,t2,t3,t4a,t4c])));clear t4b;go_wp2_with fail
    refine (iH _ _ _ _ _ _ _ _ _ _ _ _ (by omega)).mono ?_;rintro e w1 ⟨rfl,hb1⟩;obtain⟨eX,gQ⟩:=bn hb1;have z1:=hb1.size;simp only[zF] at z1;have Iu:w.heap.size<w1.heap.size:=(by omega);have hz1b:w.heap.size+1<w1.heap.size:=(by omega);have Lh:wo.heap.size<w1.heap.size:=(by omega);have oG:yT wo w1:=by
     refine zQ ?_ (hb1.mono ?_)
     ·go_grown
     ·simp
    have hB1:Below (w.heap.size+2) ((w.alloc (.cells #[.slice B0 m0 b0,.int .i64 mus,.slice B2 m2 b2,.slice B3 m3 b3] 46)).alloc (.cells #[.slice (some ⟨g,o,none⟩) n0 c0,.int .i64 s.fV] 168)) w1:=hb.trans (oG.mono (by omega));have hb2:yT w w1:=oO.trans (oG.mono (by omega));go_wp2_with fail
    refine (aY _ _).mono ?_;rintro e w9 ⟨rfl,rfl⟩;go_wp2_with fail
    refine (aY _ _).mono ?_;rintro e w9 ⟨rfl,rfl⟩;go_wp2_with fail
    go_ret;exact⟨by rw[hno.out];rfl,hb2⟩
   have t4s:(x.gI&&(x.lM != 0))=false:=by
    cases hs:x.gI
    ·rfl
    ·simp[hs] at t4;simp[t4]
   cases t5:inB x.wX 0 (n-1)
   ·have hno:=zA (nY (n:=n) Lj.out (pR (nch:=m0) (n:=n) jh.out (by simp[rJ,t1,t2,t3,t4s,t5])));cases t6:x.gI
    all_goals
     first
     |(have t7:(x.lM != 0)=false:=by simpa[t6] using t4s)
     |skip
     clear t4 t4s;go_wp2_with fail
     refine (iH _ _ _ _ _ _ _ _ _ _ _ _ (by omega)).mono ?_;rintro e w1 ⟨rfl,hb1⟩;obtain⟨eX,gQ⟩:=bn hb1;have z1:=hb1.size;simp only[zF] at z1;have Iu:w.heap.size<w1.heap.size:=(by omega);have hz1b:w.heap.size+1<w1.heap.size:=(by omega);have Lh:wo.heap.size<w1.heap.size:=(by omega);have oG:yT wo w1:=by
      refine zQ ?_ (hb1.mono ?_)
      ·go_grown
      ·simp
     have hB1:Below (w.heap.size+2) ((w.alloc (.cells #[.slice B0 m0 b0,.int .i64 mus,.slice B2 m2 b2,.slice B3 m3 b3] 46)).alloc (.cells #[.slice (some ⟨g,o,none⟩) n0 c0,.int .i64 s.fV] 168)) w1:=hb.trans (oG.mono (by omega));have hb2:yT w w1:=oO.trans (oG.mono (by omega));go_wp2_with fail
     refine (aY _ _).mono ?_;rintro e w9 ⟨rfl,rfl⟩;go_wp2_with fail
     refine (aY _ _).mono ?_;rintro e w9 ⟨rfl,rfl⟩;go_wp2_with fail
     refine (jd _ _ _ _).mono ?_;rintro e w9 ⟨rfl,rfl⟩;go_wp2_with fail
     go_ret;exact⟨by rw[hno.out];rfl,hb2⟩
   ·have rf:=zA (show rJ m0 n x=true by simp only[rJ,t1,t2,t3,t4s,t5];rfl);have hcut:∀W,(Instr.slice 166 (.slice (some ⟨g,o,none⟩) n0 c0) none (some (.int .i64 (k:Int))) none).run Tryz.prog W=.ok (.slice (some ⟨g,o,none⟩) k c0) W:=fun W=>by
     have Kr:Tryz.prog.underlying 166=some (.slice (Tryz.prog.elem 166)):=(by simp[Program.elem,Tryz.underlying166]);have he:Tryz.prog.elem 166=165:=(by simp[Program.elem,Tryz.underlying166]);rw[run_slice_h W 166 _ _ _ Kr .i64 _ (by omega) (by omega),he,Tz];simp[Result.andThen,sliced,add_plain]
    cases t6:x.gI
    all_goals
     first
     |(have t7:(x.lM != 0)=false:=by simpa[t6] using t4s)
     |skip
     clear t4 t4s;go_wp2_with fail
     refine (iH _ _ _ _ _ _ _ _ _ _ _ _ (by omega)).mono ?_;rintro e w1 ⟨rfl,hb1⟩;obtain⟨eX,gQ⟩:=bn hb1;have z1:=hb1.size;simp only[zF] at z1;have Iu:w.heap.size<w1.heap.size:=(by omega);have hz1b:w.heap.size+1<w1.heap.size:=(by omega);have Lh:wo.heap.size<w1.heap.size:=(by omega);have oG:yT wo w1:=by
      refine zQ ?_ (hb1.mono ?_)
      ·go_grown
      ·simp
     have hB1:Below (w.heap.size+2) ((w.alloc (.cells #[.slice B0 m0 b0,.int .i64 mus,.slice B2 m2 b2,.slice B3 m3 b3] 46)).alloc (.cells #[.slice (some ⟨g,o,none⟩) n0 c0,.int .i64 s.fV] 168)) w1:=hb.trans (oG.mono (by omega));have hb2:yT w w1:=oO.trans (oG.mono (by omega));go_wp2_with fail
     refine (aY _ _).mono ?_;rintro e w9 ⟨rfl,rfl⟩;go_wp2_with fail
     refine (aY _ _).mono ?_;rintro e w9 ⟨rfl,rfl⟩;go_wp2_with fail
     refine (jd _ _ _ _).mono ?_;rintro e w9 ⟨rfl,rfl⟩;go_wp2_with fail
     go_loopw[58] (fun i wr=>∃m:Nat,m≤k∧i=.int .i64 m∧Hid (∀j y,j<m→s.dw[j]? =some y→sN x y=false)∧yT w1 wr) (fun i _=>k-(intOf i).toNat)
     case atStart=>exact⟨0,zL _,rfl,zA (fun j y hj=>by omega),zD _ _⟩
     case round =>
      obtain⟨m,hm,rfl,Vy,hb3⟩:=hrel;obtain⟨z7,E8⟩:=bn hb3;have z3:=hb3.size;have adz:w.heap.size<wr.heap.size:=(by omega);have hz3b:w.heap.size+1<wr.heap.size:=(by omega);have aoD:wo.heap.size<wr.heap.size:=(by omega);have hb4:yT w wr:=hb2.trans (hb3.mono (by omega));by_cases Py:m<k
      ·obtain⟨hxm,g',o',vs',hA',nI,⟨rfl,hw'⟩,hcell'⟩:=(s0.below hb4 cu).at_ (show m<n0 by omega);injection hA' with hA'
       injection hA' with Qn hA2
       subst Qn hA2;have xw:=hcell' 0 _ rfl;have zh:=hcell' 1 _ rfl;have CS:=hcell' 2 _ rfl;have H_:=hcell' 3 _ rfl;have Wx:=hcell' 4 _ rfl;simp only[show fJ.size=5 from rfl,←zH,zI,zK] at xw zh CS H_ Wx;clear hcell' hw' dK eu ig jf lS;have hy:=zA (zG hxm);generalize s.dw[m]=y at *;have hbn:yT w1 (wr.alloc (.cells #[.bool y.gI,.int .i64 y.gU,.int .i64 y.mg,.int .i64 y.lM,.int .i64 y.wX] 165)):=hb3.alloc z3 _;have aiq:yT w (wr.alloc (.cells #[.bool y.gI,.int .i64 y.gU,.int .i64 y.mg,.int .i64 y.lM,.int .i64 y.wX] 165)):=hb4.alloc (by omega) _;by_cases hge:0≤x.gU
       ·cases heq:(x.gU==y.gU)
        ·have hmt:=zA (show sN x y=false by simp[sN,heq]);go_wp2_with fail
         go_roundw
         case rel =>
          refine⟨m+1,by omega,by go_num,zA (fun j z hj hz => ?_),hbn⟩;by_cases XL:j=m
          ·subst XL;obtain rfl:y=z:=zW (hy.out.symm.trans hz);exact hmt.out
          ·exact Vy.out j z (by omega) hz
         case measure=>simp[intOf];omega
        ·have hmt:=zA (show sN x y=true by simp[sN,heq,hge]);have hno:=zA (nY (n:=n) Lj.out (Dv (nch:=m0) (n:=n) jh.out Py hy.out hmt.out));go_wp2_with fail
         go_ret;exact⟨by rw[hno.out];rfl,aiq⟩
       ·have air:decide (0≤x.gU)=false:=yD hge;have hmt:=zA (show sN x y=false by simp[sN,air]);clear hge;go_wp2_with fail
        go_roundw
        case rel =>
         refine⟨m+1,by omega,by go_num,zA (fun j z hj hz => ?_),hbn⟩;by_cases XL:j=m
         ·subst XL;obtain rfl:y=z:=zW (hy.out.symm.trans hz);exact hmt.out
         ·exact Vy.out j z (by omega) hz
        case measure=>simp[intOf];omega
      ·go_wp2_with fail
       obtain rfl:m=k:=(by omega);go_roundw
       case rel =>
        refine⟨m+1,by omega,by go_num,zA (fun j hj => ?_),hB1.trans (hb3.mono (by omega))⟩;by_cases XL:j=m
        ·subst XL;exact Bq jh.out rf.out Vy.out
        ·exact hall.out j (by omega)
       case measure=>simp[intOf];omega
  ·obtain rfl:k=n0:=(by omega);have rf:=zA (Du (nch:=m0) (n:=n) (s:=s) (by rw[L0.out];exact hall.out));go_wp2_with fail
   refine (jd _ _ _ _).mono ?_;rintro e w9 ⟨rfl,rfl⟩;go_wp2_with fail
   go_ret;exact⟨by rw[rf.out];rfl,oO⟩
def fP(n0 n2 n3:Nat)(mus n op a b c:Int):Bool :=
 if op=1 then fD a b c 0
 else if op=2 then fD a b c 2&&jC a&&IJ b
 else if op=3∨op=4∨op=5 then fD a b c 3&&jC a&&jC b&&jC c
 else if op=6 then fD a b c 1&&inB a 0 (n-1)
 else if op=7 then fD a b c 2&&jC a&&inB b 0 (n-1)
 else if op=8 then fD a b c 2&&inB a (-1) ((n0:Int)-1)&&jC b
 else if op=9 then fD a b c 3&&inB a (-1) ((n0:Int)-1)&&jC b&&jC c
 else if op=10 then fD a b c 1&&inB a (-1) ((n0:Int)-1)
 else if op=11 then fD a b c 1&&inB a 0 ((n2:Int)-1)
 else if op=12∨op=13 then fD a b c 1&&inB a 0 (mus-1)
 else if op=14 then fD a b c 2&&inB a 0 ((n3:Int)-1)&&jC b
 else if op=15 then fD a b c 1&&jC a
 else false
theorem D5{A0 A2 A3:Option Addr}{n0 c0 n2 c2 n3 c3:Nat}{mus n op a b c:Int}{w:World}(jS:n0≤1048576)(o8:n2≤1048576)(wG:n3≤1048576)(hm:0≤mus+9223372036854775807)(jY:mus≤9223372036854775807)(hn:0≤n)(hn':n≤1048576) :
  Calls Tryz.prog 253 #[.agg #[.slice A0 n0 c0,.int .i64 mus,.slice A2 n2 c2,.slice A3 n3 c3],.int .i64 n,.agg #[.int .i64 op,.int .i64 a,.int .i64 b,.int .i64 c]] w fun e w'=>e=.returned (.bool (fP n0 n2 n3 mus n op a b c))∧yT w w':=by
 by_cases h:1≤op∧op≤15
 ·rcases FW h with rfl|rfl|rfl|rfl|rfl|rfl|rfl|rfl|rfl|rfl|rfl|rfl|rfl|rfl|rfl
  ·exact IK jS o8 wG hm jY hn hn'
  ·exact IL jS o8 wG hm jY hn hn'
  ·exact IM jS o8 wG hm jY hn hn'
  ·exact IP jS o8 wG hm jY hn hn'
  ·exact IQ jS o8 wG hm jY hn hn'
  ·exact IU jS o8 wG hm jY hn hn'
  ·exact IV jS o8 wG hm jY hn hn'
  ·exact IW jS o8 wG hm jY hn hn'
  ·exact IX jS o8 wG hm jY hn hn'
  ·exact FY jS o8 wG hm jY hn hn'
  ·exact FZ jS o8 wG hm jY hn hn'
  ·exact F8 jS o8 wG hm jY hn hn'
  ·exact F_ jS o8 wG hm jY hn hn'
  ·exact Gf jS o8 wG hm jY hn hn'
  ·exact Gg jS o8 wG hm jY hn hn'
 ·have hno:=zA (show fP n0 n2 n3 mus n op a b c=false by
   unfold fP;repeat (rw[yF (by omega)]))
  have HF:=zA (fun W:World=>show Calls Tryz.prog 296 #[.int .i64 op] W fun e w'=>e=.returned (.int .i64 (-1))∧W=w' from by
   have:=eH op W;rwa [Ew,yF h] at this)
  clear h;go_enter Tryz.func253,Tryz.ntmps253
  go_wp2_with fail
  refine (HF.out _).mono ?_;rintro e w0 ⟨rfl,rfl⟩;go_wp2_with fail
  go_ret;exact⟨by rw[hno.out];rfl,by go_grown⟩
def zl(p:aS)(n:Int)(i:iG):Bool:=fP p.iD.length p.dR.length p.dP.length p.ay n i.m7 i.fA i.fB i.fC
def CX(p:aS)(n:Int)(i:iG):Bool:=match p.dR[i.fA.toNat]? with|some s=>iY p.iD.length n s|none=>false
def nV(p:aS)(n:Int)(i:iG):Bool:=zl p n i&&(!(i.m7==11)||CX p n i)
def N9(code:List iG):Bool:=match code[code.length-1]? with|some i=>(i.m7==1)||(i.m7==6)|none=>false
def oN(p:aS)(code:List iG):Bool:=decide (1≤code.length∧code.length≤40)&&(code.all (nV p code.length)&&N9 code)
theorem JI{p:aS}{code:List iG}(h:code.length<1∨40<code.length):oN p code=false:=by
 rw[oN,yD (by omega),zX]
theorem wJ{p:aS}{code:List iG}{k:Nat}{i:iG}(hk:code[k]? =some i)(h:nV p code.length i=false):oN p code=false:=by
 have:code.all (nV p code.length)=false:=by
  rw[List.all_eq_false];exact⟨i,List.mem_of_getElem? hk,by rw[h];exact Bool.false_ne_true⟩
 rw[oN,this,zX,Bool.and_false]
theorem JJ{p:aS}{code:List iG}(hl:1≤code.length∧code.length≤40)(h:∀(k:Nat) (i:iG),code[k]? =some i→nV p code.length i=true):oN p code=N9 code:=by
 have:code.all (nV p code.length)=true:=by
  rw[zY];intro i hi;obtain⟨k,hk⟩:=List.getElem?_of_mem hi;exact h k i hk
 rw[oN,yE hl,this,Bool.true_and,Bool.true_and]
theorem Le{w:World}{hi:Nat}{p:aS}{code:List iG}{A0 A2 A3 A:Option Addr}{n0 c0 n2 c2 n3 c3 n c:Nat}(hl0:p.iD.length=n0)(hs2:a_ bM w hi A2 n2 p.dR)(hl3:p.dP.length=n3)
  (hc:a_ dX w hi A n code)(cu:hi≤w.heap.size)(jS:n0≤1048576)(o8:n2≤1048576)(wG:n3≤1048576)(hm:0≤p.ay+9223372036854775807)(jY:p.ay≤9223372036854775807)(hsz:(p.dR.map dJ).sum≤1048576)(hn:n≤1048576) :
  Calls Tryz.prog 171 #[.agg #[.slice A0 n0 c0,.int .i64 p.ay,.slice A2 n2 c2,.slice A3 n3 c3],.slice A n c] w fun e w'=>e=.returned (.bool (oN p code))∧yT w w':=by
 have LC:=zA hc.1;have L0:=zA hl0;have L2:=zA hs2.1;have L3:=zA hl3;clear hl0 hl3;by_cases hlen:1≤n∧n≤40
 ·obtain⟨Zm,adA⟩:=hlen;go_enter Tryz.func171,Tryz.ntmps171
  go_wp2_with fail
  go_loopw[18] (fun i wr=>∃k:Nat,k≤n∧i=.int .i64 k∧Hid (∀(j:Nat) (x:iG),j<k→code[j]? =some x→nV p code.length x=true)∧Below (w.heap.size+1) (w.alloc (.cells #[.slice A0 n0 c0,.int .i64 p.ay,.slice A2 n2 c2,.slice A3 n3 c3] 46)) wr) (fun i _=>n-(intOf i).toNat)
  case atStart=>exact⟨0,zL _,rfl,zA (fun j x hj=>by omega),by simpa using zD _ _⟩
  case round =>
   rename World=>wo
   obtain⟨k,hk,rfl,hall,hb⟩:=hrel;have z:=hb.size;simp only[zF] at z;obtain⟨Tu,Vw⟩:=bn hb;have Tv:w.heap.size<w.heap.size+1:=(by omega);have XJ:w.heap.size<wo.heap.size:=(by omega);have oO:yT w wo:=zQ (by go_grown) (hb.mono (by omega));by_cases hlt:k<n
   ·obtain⟨hx,g,o,vs,rfl,hg,⟨rfl,hw⟩,hcell⟩:=(hc.below oO cu).at_ hlt;have dK:=hcell 0 _ rfl;have eu:=hcell 1 _ rfl;have ig:=hcell 2 _ rfl;have jf:=hcell 3 _ rfl;simp only[show dX.size=4 from rfl,←zH,zI,zK] at dK eu ig jf;clear hcell hw;have jh:=zA (zG hx);generalize code[k]=x at *;clear hx;obtain⟨op,a,b,c'⟩:=x;simp only at dK eu ig jf;have hi':=zA (show zl p (n:Int) ⟨op,a,b,c'⟩=fP n0 n2 n3 p.ay (n:Int) op a b c' by unfold zl;rw[L0.out,L2.out,L3.out]);go_wp2_with fail
    refine (D5 jS o8 wG hm jY (by omega) (by omega)).mono ?_;rintro e w1 ⟨rfl,hb1⟩;obtain⟨eX,gQ⟩:=bn hb1;have z1:=hb1.size;simp only[zF] at z1;have Iu:w.heap.size<w1.heap.size:=(by omega);have Lh:wo.heap.size<w1.heap.size:=(by omega);have oG:yT wo w1:=by
     refine zQ ?_ (hb1.mono ?_)
     ·go_grown
     ·simp
    have hB1:=hb.trans (oG.mono (by omega));have hb2:yT w w1:=oO.trans (oG.mono (by omega));cases ti:fP n0 n2 n3 p.ay (n:Int) op a b c'
    ·have hno:=zA (wJ (p:=p) jh.out (by rw[LC.out];simp only[nV,hi'.out,ti,zX]));go_wp2_with fail
     go_ret;exact⟨by rw[hno.out];rfl,hb2⟩
    ·cases t11:(op==11)
     ·have rf:=zA (show nV p (n:Int) ⟨op,a,b,c'⟩=true by simp only[nV,hi'.out,ti,t11];rfl);go_wp2_with fail
      go_quiet (fail)
      go_wp2_with fail
      go_roundw
      case rel =>
       refine⟨k+1,by omega,by go_num,zA (fun j x hj hx => ?_),gz hB1 _⟩;by_cases hjk:j=k
       ·subst hjk;obtain rfl:=zW (jh.out.symm.trans hx);rw[LC.out];exact rf.out
       ·exact hall.out j x (by omega) hx
      case measure=>simp[intOf];omega
     ·obtain rfl:op=11:=by simpa using t11
      have HTI:=zA ti;have hti:fD a b c' 1=true∧inB a 0 ((n2:Int)-1)=true:=by simpa[fP] using ti
      have hab:0≤a∧a≤(n2:Int)-1:=by have:=hti.2;simpa[inB] using this
      obtain⟨q,rfl⟩:∃q:Nat,a=q:=⟨a.toNat,by omega⟩
      have hq:q<n2:=(by omega);obtain⟨WX,g2,o2,vs2,rfl,hg2,aW,hcell2⟩:=(hs2.below hb2 cu).at_ hq;have hds:=zA (zG WX);have sW:dJ p.dR[q]≤1048576:=zJ (dI dJ (zS WX)) hsz;generalize p.dR[q]=s at *;clear WX;have HE:=zA (fun (W:World) (hW:yT w1 W)=>vG (w:=W) (hi:=hi) (s:=s) (B0:=A0) (B2:=some ⟨g2,o2,none⟩) (B3:=A3) (m0:=n0) (b0:=c0) (m2:=n2) (b2:=c2) (m3:=n3) (b3:=c3) (mus:=p.ay) (n:=(n:Int)) (bM.keep aW fun k hk=>hW.block k (by omega)) (by have:=hW.size;omega) jS (by omega) (by omega) sW);obtain⟨B0,m0,b0,rfl,⟨hc0,hm0,s0⟩,hw1⟩:=g_ aW;have ee0:=hcell2 0 _ rfl;have ee1:=hcell2 1 _ rfl;simp only[show bM.size=2 from rfl,←zH,zI,zK] at ee0 ee1;clear hcell2 aW s0 ti hti;have jJ:(0:Int)≤(q:Int):=(by omega);have u_:(q:Int)<(n2:Int):=(by omega);have hb0:yT w1 w1.drew:=(zD _ _).drew;have CY:=zA (show CX p (n:Int) ⟨11,(q:Int),b,c'⟩=iY n0 (n:Int) s by simp only[CX,yA,hds.out,L0.out]);cases ts:iY n0 (n:Int) s
      ·have hno:=zA (wJ (p:=p) jh.out (by rw[LC.out];simp only[nV,CY.out,ts];simp));go_wp2_with fail
       go_region_with (go_at_call 170;refine (HE.out _ hb0).mono ?_;rintro e w2 ⟨rfl,hb5⟩)
       all_goals
        have CZ:yT w w2:=hb2.drew.trans (hb5.mono (show w.heap.size≤w1.heap.size by omega));go_wp2_with fail
        go_ret;exact⟨by rw[hno.out];rfl,CZ⟩
      ·have rf:=zA (show nV p (n:Int) ⟨11,(q:Int),b,c'⟩=true by simp only[nV,hi'.out,HTI.out,CY.out,ts];rfl);go_wp2_with fail
       go_region_with (go_at_call 170;refine (HE.out _ hb0).mono ?_;rintro e w2 ⟨rfl,hb5⟩)
       all_goals
        have qf:=hB1.drew.trans (hb5.mono (show w.heap.size+1≤w1.heap.size by omega));go_wp2_with fail
        go_roundw
        case rel =>
         refine⟨k+1,by omega,by go_num,zA (fun j x hj hx => ?_),qf⟩;by_cases hjk:j=k
         ·subst hjk;obtain rfl:=zW (jh.out.symm.trans hx);rw[LC.out];exact rf.out
         ·exact hall.out j x (by omega) hx
        case measure=>simp[intOf];omega
   ·obtain rfl:k=n:=(by omega);obtain⟨m,rfl⟩:∃m,k=m+1:=⟨k-1,by omega⟩
    have hend:=zA (JJ (p:=p) (code:=code) (by rw[LC.out];omega) (fun j x hj=>hall.out j x (by have:=(zO.1 hj).1;rw[LC.out] at this;exact this) hj));obtain⟨hx,g,o,vs,rfl,hg,⟨rfl,hw⟩,hcell⟩:=(hc.below oO cu).at_ (show m<m+1 by omega);have dK:=hcell 0 _ rfl;simp only[show dX.size=4 from rfl,←zH,zI,zK] at dK;have jh:=zA (zG hx);clear hcell hw;generalize code[m]=x at *;have he:=zA (show N9 code=((x.m7==1)||(x.m7==6)) by simp only[N9,LC.out,Nat.add_sub_cancel,jh.out]);clear hx;cases t1:(x.m7==1)
    ·cases t6:(x.m7==6)
     all_goals
      go_wp2_with fail
      go_ret;exact⟨by rw[hend.out,he.out,t1,t6];rfl,oO⟩
    ·go_wp2_with fail
     go_ret;exact⟨by rw[hend.out,he.out,t1];rfl,oO⟩
 ·have hno:=zA (JI (p:=p) (code:=code) (by rw[LC.out];omega));clear hc;by_cases h1:n<1
  ·go_enter Tryz.func171,Tryz.ntmps171
   go_wp2_with fail
   go_ret;exact⟨by rw[hno.out];rfl,by go_grown⟩
  ·have h2:40<n:=(by omega);go_enter Tryz.func171,Tryz.ntmps171
   go_wp2_with fail
   go_ret;exact⟨by rw[hno.out];rfl,by go_grown⟩
end Go.Proofs.YtjcoapnggojpdaaGreatDoor
