/- Texts of the proof, laid compactly. -/
import Derived.Test.YtjcoapnggojpdaaGreatDoorGTabs
set_option maxHeartbeats 2000000
set_option maxRecDepth 100000
namespace Go.Proofs.YtjcoapnggojpdaaGreatDoor
set_option linter.unusedSimpArgs false
set_option linter.unusedVariables false
open Go.RowKit
theorem xq{A A':Option Addr}{n c c' hi hi':Nat}{xs:List di}{w:World}(h:a_ aN w hi A n xs)(h':a_ aN w hi' A' n xs)(hh:hi≤w.heap.size)(KF:hi'≤w.heap.size)(hn:n≤1048580) :
  Calls Tryz.prog 217 #[.slice A n c,.slice A' n c'] w (iP w):=by
 go_enter Tryz.func217,Tryz.ntmps217
 go_wp2
 go_loopw[5] (fun i wr=>∃k:Nat,k≤n∧i=.int .i64 k∧yT w wr) (fun i _=>n-(intOf i).toNat)
 case atStart=>exact⟨0,zL _,rfl,zD _ _⟩
 case round =>
  obtain⟨k,hk,rfl,hb⟩:=hrel;have z:=hb.size;by_cases hlt:k<n
  ·obtain⟨hx,g,o,vs,rfl,hg,⟨rfl,hw⟩,hc⟩:=(h.below hb hh).at_ hlt;obtain⟨hx',g',o',vs',rfl,nI,⟨rfl,hw'⟩,hc'⟩:=(h'.below hb KF).at_ hlt;have dK:=hc 0 _ rfl;have xw:=hc' 0 _ rfl;have eu:=hc 1 _ rfl;have zh:=hc' 1 _ rfl;have ig:=hc 2 _ rfl;have CS:=hc' 2 _ rfl;simp only[show aN.size=3 from rfl,←zH,zI,zK] at dK eu ig xw zh CS;clear hc hc' hw hw';generalize xs[k]=x at *;have HE:=zA (fun W:World=>Ag (w:=W) x);have jJ:(0:Int)≤(k:Int):=(by omega);have u_:(k:Int)<(n:Int):=(by omega);go_wp2_with fail
   go_region_with (go_at_call 274;refine (HE.out _).mono ?_;rintro e w1 ⟨rfl,hb1⟩)
   all_goals
    have oQ:yT w w1:=hb.drew.trans (hb1.mono z);clear hb1 HE dK eu ig xw zh CS;go_wp2_with fail
    go_roundw
    case rel=>exact⟨k+1,by omega,by go_num,oQ⟩
    case measure=>simp[intOf];omega
  ·go_wp2
   go_ret;exact⟨rfl,hb⟩
theorem MK{w:World}{hi hi':Nat}{x:gy}{vs vs':List Value}(h:bD.see w hi x vs)(h':bD.see w hi' x vs')(cu:hi≤w.heap.size)(vC:hi'≤w.heap.size)(hn:dN x≤1048580) :
  Calls Tryz.prog 131 #[.agg vs.toArray,.agg vs'.toArray] w (iP w):=by
 obtain⟨A1,n1,c1,A2,n2,c2,A3,n3,c3,rfl,hw0,⟨hc1,hm1,s1⟩,⟨hc2,jY,s2⟩,⟨hc3,Be,s3⟩⟩:=jF h;obtain⟨A1',n1',c1',Xq,n2',SI,A3',n3',c3',rfl,U5,⟨Xt,NC,Rw⟩,⟨U6,U7,PQ⟩,⟨XA,adl,XB⟩⟩:=jF h';obtain rfl:n1=n1':=s1.1.symm.trans Rw.1;have L1:=zA s1.1;obtain rfl:n2=n2':=s2.1.symm.trans PQ.1;have L2:=zA s2.1;obtain rfl:n3=n3':=s3.1.symm.trans XB.1;have L3:=zA s3.1;have jS:=hn;unfold dN at jS;rw[L1.out] at jS;rw[L2.out] at jS;rw[L3.out] at jS;have hb0:yT w ((w.alloc (.cells #[.int .i64 x.dC,.slice A1 n1 c1,.slice A2 n2 c2,.slice A3 n3 c3,.bool x.aC] 135)).alloc (.cells #[.int .i64 x.dC,.slice A1' n1 c1',.slice Xq n2 SI,.slice A3' n3 c3',.bool x.aC] 135)):=((zD _ _).alloc (zC _) _).alloc (by simp) _;go_enter Tryz.func131,Tryz.ntmps131
 go_wp2_with fail
 (try (go_quiet (fail)))
 go_wp2_with fail
 refine (uq (s1.below hb0 cu) (Rw.below hb0 vC) (by omega)).mono ?_;rintro e w1 ⟨rfl,hb1⟩;have z1:=hb1.size;obtain⟨eX,gQ⟩:=bn hb1;have hB1:yT w w1:=hb0.trans (hb1.mono (by simp;omega));simp only[zF] at z1;have gX:w.heap.size<w1.heap.size:=(by omega);have ik:w.heap.size+1<w1.heap.size:=(by omega);go_wp2_with fail
 refine (xq (s2.below hB1 cu) (PQ.below hB1 vC) (by have:=hB1.size;omega) (by have:=hB1.size;omega) (by omega)).mono ?_;rintro e w2 ⟨rfl,hb2⟩;have z2:=hb2.size;obtain⟨o7,sG⟩:=bn hb2;have hB2:yT w w2:=hB1.trans (hb2.mono (by omega));have rV:w.heap.size<w2.heap.size:=(by omega);have vz:w.heap.size+1<w2.heap.size:=(by omega);go_wp2_with fail
 refine (xq (s3.below hB2 cu) (XB.below hB2 vC) (by have:=hB2.size;omega) (by have:=hB2.size;omega) (by omega)).mono ?_;rintro e w3 ⟨rfl,hb3⟩;have z3:=hb3.size;obtain⟨z7,E8⟩:=bn hb3;have qx:yT w w3:=hB2.trans (hb3.mono (by omega));have E_:w.heap.size<w3.heap.size:=(by omega);have Nr:w.heap.size+1<w3.heap.size:=(by omega);go_wp2_with fail
 (try (go_quiet (fail)))
 go_wp2_with fail
 go_ret;exact⟨rfl,by first|exact qx|exact gz qx _⟩
theorem Jt{A A':Option Addr}{n c c' hi hi':Nat}{xs:List gy}{w:World}(h:a_ bD w hi A n xs)(h':a_ bD w hi' A' n xs)(hh:hi≤w.heap.size)(KF:hi'≤w.heap.size)(hn:n≤1048580)(hs:(xs.map dN).sum≤1048580) :
  Calls Tryz.prog 56 #[.slice A n c,.slice A' n c'] w (iP w):=by
 go_enter Tryz.func56,Tryz.ntmps56
 go_wp2
 go_loopw[5] (fun i wr=>∃k:Nat,k≤n∧i=.int .i64 k∧yT w wr) (fun i _=>n-(intOf i).toNat)
 case atStart=>exact⟨0,zL _,rfl,zD _ _⟩
 case round =>
  obtain⟨k,hk,rfl,hb⟩:=hrel;have z:=hb.size;by_cases hlt:k<n
  ·obtain⟨hx,g,o,vs,rfl,hg,aW,hc⟩:=(h.below hb hh).at_ hlt;obtain⟨hx',g',o',vs',rfl,nI,qh,hc'⟩:=(h'.below hb KF).at_ hlt;have hsz:dN xs[k]≤1048580:=zJ (dI dN (zS hx)) hs;generalize xs[k]=x at *;have HE:=zA (fun (W:World) (hW:yT wr W)=>MK (bD.keep aW fun k hk=>hW.block k (by omega)) (bD.keep qh fun k hk=>hW.block k (by omega)) (by have:=hW.size;omega) (by have:=hW.size;omega) hsz);obtain⟨A1,n1,c1,A2,n2,c2,A3,n3,c3,rfl,hw0,⟨hc1,hm1,s1⟩,⟨hc2,jY,s2⟩,⟨hc3,Be,s3⟩⟩:=jF aW;obtain⟨A1',n1',c1',Xq,n2',SI,A3',n3',c3',rfl,U5,⟨Xt,NC,Rw⟩,⟨U6,U7,PQ⟩,⟨XA,adl,XB⟩⟩:=jF qh;have dK:=hc 0 _ rfl;have xw:=hc' 0 _ rfl;have eu:=hc 1 _ rfl;have zh:=hc' 1 _ rfl;have ig:=hc 2 _ rfl;have CS:=hc' 2 _ rfl;have jf:=hc 3 _ rfl;have H_:=hc' 3 _ rfl;have lS:=hc 4 _ rfl;have Wx:=hc' 4 _ rfl;simp only[show bD.size=5 from rfl,←zH,zI,zK] at dK eu ig jf lS xw zh CS H_ Wx;clear hc hc' aW qh s1 Rw s2 PQ s3 XB;have jJ:(0:Int)≤(k:Int):=(by omega);have u_:(k:Int)<(n:Int):=(by omega);have hb0:yT wr wr.drew:=(zD _ _).drew;go_wp2_with fail
   go_region_with (go_at_call 131;refine (HE.out _ hb0).mono ?_;rintro e w1 ⟨rfl,hb1⟩)
   all_goals
    have oQ:yT w w1:=hb.drew.trans (hb1.mono z);clear hb1 HE dK eu ig jf lS xw zh CS H_ Wx;go_wp2_with fail
    go_roundw
    case rel=>exact⟨k+1,by omega,by go_num,oQ⟩
    case measure=>simp[intOf];omega
  ·go_wp2
   go_ret;exact⟨rfl,hb⟩
theorem uI{w:World}{hi hi':Nat}{x:dY}{vs vs':List Value}(h:bZ.see w hi x vs)(h':bZ.see w hi' x vs')(cu:hi≤w.heap.size)(vC:hi'≤w.heap.size)(hn:dS x≤1048580) :
  Calls Tryz.prog 13 #[.agg vs.toArray,.agg vs'.toArray] w (iP w):=by
 obtain⟨A0,n0,c0,A1,n1,c1,A2,n2,c2,rfl,⟨hc0,hm0,s0⟩,⟨hc1,hm1,s1⟩,⟨hc2,jY,s2⟩⟩:=iV h;obtain⟨Xy,Xz,UX,A1',n1',c1',Xq,n2',SI,rfl,⟨Vp,Qa,NT⟩,⟨Xt,NC,Rw⟩,⟨U6,U7,PQ⟩⟩:=iV h';obtain rfl:n0=Xz:=s0.1.symm.trans NT.1;have L0:=zA s0.1;obtain rfl:n1=n1':=s1.1.symm.trans Rw.1;have L1:=zA s1.1;obtain rfl:n2=n2':=s2.1.symm.trans PQ.1;have L2:=zA s2.1;have jS:=hn;unfold dS at jS;rw[L0.out] at jS;rw[L1.out] at jS;rw[L2.out] at jS;have hb0:yT w ((w.alloc (.cells #[.slice A0 n0 c0,.slice A1 n1 c1,.slice A2 n2 c2] 40)).alloc (.cells #[.slice Xy n0 UX,.slice A1' n1 c1',.slice Xq n2 SI] 40)):=((zD _ _).alloc (zC _) _).alloc (by simp) _;go_enter Tryz.func13,Tryz.ntmps13
 go_wp2_with fail
 refine (Ny (s0.below hb0 cu) (NT.below hb0 vC) (by have:=hb0.size;omega) (by have:=hb0.size;omega) (by omega) (by omega)).mono ?_;rintro e w1 ⟨rfl,hb1⟩;have z1:=hb1.size;obtain⟨eX,gQ⟩:=bn hb1;have hB1:yT w w1:=hb0.trans (hb1.mono (by simp;omega));simp only[zF] at z1;have gX:w.heap.size<w1.heap.size:=(by omega);have ik:w.heap.size+1<w1.heap.size:=(by omega);go_wp2_with fail
 refine (Jt (s1.below hB1 cu) (Rw.below hB1 vC) (by have:=hB1.size;omega) (by have:=hB1.size;omega) (by omega) (by omega)).mono ?_;rintro e w2 ⟨rfl,hb2⟩;have z2:=hb2.size;obtain⟨o7,sG⟩:=bn hb2;have hB2:yT w w2:=hB1.trans (hb2.mono (by omega));have rV:w.heap.size<w2.heap.size:=(by omega);have vz:w.heap.size+1<w2.heap.size:=(by omega);go_wp2_with fail
 refine (Ip (s2.below hB2 cu) (PQ.below hB2 vC) (by have:=hB2.size;omega) (by have:=hB2.size;omega) (by omega) (by omega)).mono ?_;rintro e w3 ⟨rfl,hb3⟩;have z3:=hb3.size;obtain⟨z7,E8⟩:=bn hb3;have qx:yT w w3:=hB2.trans (hb3.mono (by omega));have E_:w.heap.size<w3.heap.size:=(by omega);have Nr:w.heap.size+1<w3.heap.size:=(by omega);go_wp2_with fail
 go_ret;exact⟨rfl,by first|exact qx|exact gz qx _⟩
theorem eH(z:Int)(w:World) :
  Calls Tryz.prog 296 #[.int .i64 z] w fun e w'=>e=.returned (.int .i64 (Ew z))∧w=w':=by
 by_cases h:1≤z∧z≤15
 ·rcases FW h with rfl|rfl|rfl|rfl|rfl|rfl|rfl|rfl|rfl|rfl|rfl|rfl|rfl|rfl|rfl
  all_goals
   clear h;go_enter Tryz.func296,Tryz.ntmps296
   go_wp2
   go_ret;exact⟨rfl,rfl⟩
 ·have ho:Ew z = -1:=by rw[Ew,yF h]
  rw[ho];clear ho;by_cases h1:z<1
  ·clear h;go_enter Tryz.func296,Tryz.ntmps296
   go_wp2
   go_ret;exact⟨rfl,rfl⟩
  ·have h2:15<z:=(by omega);clear h;go_enter Tryz.func296,Tryz.ntmps296
   go_wp2
   go_ret;exact⟨rfl,rfl⟩
def inB(n lo hi:Int):Bool:=decide (lo≤n∧n≤hi)
def jC(n:Int):Bool:=decide (0≤n∧n≤5)
def IJ(n:Int):Bool:=decide (0≤n∧n≤999)
theorem wK{n lo hi:Int}(h:lo≤n∧n≤hi):inB n lo hi=true:=yE h
theorem wL{n lo hi:Int}(h:¬(lo≤n∧n≤hi)):inB n lo hi=false:=yD h
theorem Vx{n:Int}(h:0≤n∧n≤5):jC n=true:=yE h
theorem RN{n:Int}(h:¬(0≤n∧n≤5)):jC n=false:=yD h
theorem N_{n:Int}(h:0≤n∧n≤999):IJ n=true:=yE h
theorem Ey{n:Int}(h:¬(0≤n∧n≤999)):IJ n=false:=yD h
theorem jd(n lo hi:Int)(w:World):Calls Tryz.prog 252 #[.int .i64 n,.int .i64 lo,.int .i64 hi] w fun e w'=>e=.returned (.bool (inB n lo hi))∧w=w':=by
 by_cases h0:lo≤n
 ·by_cases h1:n≤hi
  ·rw[wK ⟨h0,h1⟩];go_enter Tryz.func252,Tryz.ntmps252
   go_wp2
   go_ret;exact⟨rfl,rfl⟩
  ·rw[wL (by omega)];have h2:decide (n≤hi)=false:=yD h1;clear h1;go_enter Tryz.func252,Tryz.ntmps252
   go_wp2
   go_ret;exact⟨rfl,rfl⟩
 ·rw[wL (by omega)];have h2:decide (lo≤n)=false:=yD h0;clear h0;go_enter Tryz.func252,Tryz.ntmps252
  go_wp2
  go_ret;exact⟨rfl,rfl⟩
theorem aY(n:Int)(w:World):Calls Tryz.prog 251 #[.int .i64 n] w fun e w'=>e=.returned (.bool (jC n))∧w=w':=by
 by_cases h0:0≤n
 ·by_cases h1:n<6
  ·rw[Vx (by omega)];go_enter Tryz.func251,Tryz.ntmps251
   go_wp2
   go_ret;exact⟨rfl,rfl⟩
  ·rw[RN (by omega)];have h2:decide (n<6)=false:=yD h1;clear h1;go_enter Tryz.func251,Tryz.ntmps251
   go_wp2
   go_ret;exact⟨rfl,rfl⟩
 ·rw[RN (by omega)];have h2:decide (0≤n)=false:=yD h0;clear h0;go_enter Tryz.func251,Tryz.ntmps251
  go_wp2
  go_ret;exact⟨rfl,rfl⟩
theorem Gh(n:Int)(w:World):Calls Tryz.prog 39 #[.int .i64 n] w fun e w'=>e=.returned (.bool (IJ n))∧w=w':=by
 by_cases h0:0≤n
 ·by_cases h1:n≤999
  ·rw[N_ (by omega)];go_enter Tryz.func39,Tryz.ntmps39
   go_wp2
   go_ret;exact⟨rfl,rfl⟩
  ·rw[Ey (by omega)];have h2:decide (n≤999)=false:=yD h1;clear h1;go_enter Tryz.func39,Tryz.ntmps39
   go_wp2
   go_ret;exact⟨rfl,rfl⟩
 ·rw[Ey (by omega)];have h2:decide (0≤n)=false:=yD h0;clear h0;go_enter Tryz.func39,Tryz.ntmps39
  go_wp2
  go_ret;exact⟨rfl,rfl⟩
theorem iH(A0 A2 A3:Option Addr)(n0 c0 n2 c2 n3 c3:Nat)(mus ch:Int)(w:World)(hn:n0≤1048576) :
  Calls Tryz.prog 250 #[.agg #[.slice A0 n0 c0,.int .i64 mus,.slice A2 n2 c2,.slice A3 n3 c3],.int .i64 ch] w fun e w'=>e=.returned (.bool (inB ch (-1) ((n0:Int)-1)))∧yT w w':=by
 go_enter Tryz.func250,Tryz.ntmps250
 go_wp2_with fail
 refine (jd _ _ _ _).mono ?_;rintro e w1 ⟨rfl,rfl⟩;go_wp2_with fail
 go_ret;exact⟨rfl,by go_grown⟩
def fD(a b c:Int)(k:Int):Bool:=decide ((k > 0∨a=0)∧(k > 1∨b=0)∧(k > 2∨c=0))
theorem aK(op a b c:Int)(k:Int)(w:World)(hk:0≤k∧k≤3) :
  Calls Tryz.prog 297 #[.agg #[.int .i64 op,.int .i64 a,.int .i64 b,.int .i64 c],.int .i64 k] w fun e w'=>e=.returned (.bool (fD a b c k))∧yT w w':=by
 have Zv:k=0∨k=1∨k=2∨k=3:=(by omega);have go:∀(ba bb bc:Bool),(a==0)=ba→(b==0)=bb→(c==0)=bc→Calls Tryz.prog 297 #[.agg #[.int .i64 op,.int .i64 a,.int .i64 b,.int .i64 c],.int .i64 k] w fun e w'=>e=.returned (.bool ((decide (k > 0)||ba)&&(decide (k > 1)||bb)&&(decide (k > 2)||bc)))∧yT w w':=by
  intro ba bb bc ha hb hc;clear hk;rcases Zv with rfl|rfl|rfl|rfl
  ·cases ba
   ·clear hb hc;go_enter Tryz.func297,Tryz.ntmps297
    go_wp2
    go_ret;exact⟨rfl,by go_grown⟩
   ·cases bb <;> cases bc
    all_goals
     go_enter Tryz.func297,Tryz.ntmps297
     go_wp2
     go_ret;exact⟨rfl,by go_grown⟩
  ·clear ha;cases bb <;> cases bc
   all_goals
    go_enter Tryz.func297,Tryz.ntmps297
    go_wp2
    go_ret;exact⟨by simp,by go_grown⟩
  ·clear ha hb;cases bc
   all_goals
    go_enter Tryz.func297,Tryz.ntmps297
    go_wp2
    go_ret;exact⟨by simp,by go_grown⟩
  ·clear ha hb hc;go_enter Tryz.func297,Tryz.ntmps297
   go_wp2
   go_ret;exact⟨by simp,by go_grown⟩
 have h:=go _ _ _ rfl rfl rfl;have e:fD a b c k=((decide (k > 0)||(a==0))&&(decide (k > 1)||(b==0))&&(decide (k > 2)||(c==0))):=by
  unfold fD;rw[Bool.eq_iff_iff];simp[and_assoc]
 rw[e];exact h
theorem Oa(v:Int)(w:World):Calls Tryz.prog 310 #[.int .i64 v] w fun e w'=>e=.returned (.bool (inB v 1 15))∧w=w':=by
 by_cases h0:1≤v
 ·by_cases h1:v≤15
  ·rw[wK (by omega)];go_enter Tryz.func310,Tryz.ntmps310
   go_wp2
   go_ret;exact⟨rfl,rfl⟩
  ·rw[wL (by omega)];have h2:decide (v≤15)=false:=yD h1;clear h1;go_enter Tryz.func310,Tryz.ntmps310
   go_wp2
   go_ret;exact⟨rfl,rfl⟩
 ·rw[wL (by omega)];have h2:decide (1≤v)=false:=yD h0;clear h0;go_enter Tryz.func310,Tryz.ntmps310
  go_wp2
  go_ret;exact⟨rfl,rfl⟩
theorem IK{A0 A2 A3:Option Addr}{n0 c0 n2 c2 n3 c3:Nat}{mus n a b c:Int}{w:World}(jS:n0≤1048576)(o8:n2≤1048576)(wG:n3≤1048576)(hm:0≤mus+9223372036854775807)(jY:mus≤9223372036854775807)(hn:0≤n)(hn':n≤1048576) :
  Calls Tryz.prog 253 #[.agg #[.slice A0 n0 c0,.int .i64 mus,.slice A2 n2 c2,.slice A3 n3 c3],.int .i64 n,.agg #[.int .i64 1,.int .i64 a,.int .i64 b,.int .i64 c]] w fun e w'=>e=.returned (.bool ((fD a b c 0)))∧yT w w':=by
 have HF:=zA (fun W:World=>show Calls Tryz.prog 296 #[.int .i64 1] W fun e w'=>e=.returned (.int .i64 0)∧W=w' from eH 1 W);cases r0:fD a b c 0
 ·have r1:fD a b c 0=false:=r0;go_enter Tryz.func253,Tryz.ntmps253
  go_wp2_with fail
  refine (HF.out _).mono ?_;rintro e w0 ⟨rfl,rfl⟩;go_wp2_with fail
  refine (aK _ _ _ _ _ _ (by omega)).mono ?_;rintro e w1 ⟨rfl,hb1⟩;have z1:=hb1.size;simp only[zF] at z1;obtain⟨eX,gQ⟩:=bn hb1;have gX:w.heap.size<w1.heap.size:=(by omega);have ik:w.heap.size+1<w1.heap.size:=(by omega);have hB1:yT w w1:=zQ (by go_grown) (hb1.mono (by simp;omega));go_wp2_with fail
  go_ret;exact⟨rfl,hB1⟩
 ·go_enter Tryz.func253,Tryz.ntmps253
  go_wp2_with fail
  refine (HF.out _).mono ?_;rintro e w0 ⟨rfl,rfl⟩;go_wp2_with fail
  refine (aK _ _ _ _ _ _ (by omega)).mono ?_;rintro e w1 ⟨rfl,hb1⟩;have z1:=hb1.size;simp only[zF] at z1;obtain⟨eX,gQ⟩:=bn hb1;have gX:w.heap.size<w1.heap.size:=(by omega);have ik:w.heap.size+1<w1.heap.size:=(by omega);have hB1:yT w w1:=zQ (by go_grown) (hb1.mono (by simp;omega));go_wp2_with fail
  go_ret;exact⟨rfl,hB1⟩
theorem IL{A0 A2 A3:Option Addr}{n0 c0 n2 c2 n3 c3:Nat}{mus n a b c:Int}{w:World}(jS:n0≤1048576)(o8:n2≤1048576)(wG:n3≤1048576)(hm:0≤mus+9223372036854775807)(jY:mus≤9223372036854775807)(hn:0≤n)(hn':n≤1048576) :
  Calls Tryz.prog 253 #[.agg #[.slice A0 n0 c0,.int .i64 mus,.slice A2 n2 c2,.slice A3 n3 c3],.int .i64 n,.agg #[.int .i64 2,.int .i64 a,.int .i64 b,.int .i64 c]] w fun e w'=>e=.returned (.bool ((fD a b c 2)&&(jC a)&&(IJ b)))∧yT w w':=by
 have HF:=zA (fun W:World=>show Calls Tryz.prog 296 #[.int .i64 2] W fun e w'=>e=.returned (.int .i64 2)∧W=w' from eH 2 W);cases r0:fD a b c 2
 ·have r1:fD a b c 2=false:=r0;go_enter Tryz.func253,Tryz.ntmps253
  go_wp2_with fail
  refine (HF.out _).mono ?_;rintro e w0 ⟨rfl,rfl⟩;go_wp2_with fail
  refine (aK _ _ _ _ _ _ (by omega)).mono ?_;rintro e w1 ⟨rfl,hb1⟩;have z1:=hb1.size;simp only[zF] at z1;obtain⟨eX,gQ⟩:=bn hb1;have gX:w.heap.size<w1.heap.size:=(by omega);have ik:w.heap.size+1<w1.heap.size:=(by omega);have hB1:yT w w1:=zQ (by go_grown) (hb1.mono (by simp;omega));go_wp2_with fail
  go_ret;exact⟨rfl,hB1⟩
 ·cases t0:jC a
  ·go_enter Tryz.func253,Tryz.ntmps253
   go_wp2_with fail
   refine (HF.out _).mono ?_;rintro e w0 ⟨rfl,rfl⟩;go_wp2_with fail
   refine (aK _ _ _ _ _ _ (by omega)).mono ?_;rintro e w1 ⟨rfl,hb1⟩;have z1:=hb1.size;simp only[zF] at z1;obtain⟨eX,gQ⟩:=bn hb1;have gX:w.heap.size<w1.heap.size:=(by omega);have ik:w.heap.size+1<w1.heap.size:=(by omega);have hB1:yT w w1:=zQ (by go_grown) (hb1.mono (by simp;omega));go_wp2_with fail
   refine (aY _ _).mono ?_;rintro e w9 ⟨rfl,rfl⟩;go_wp2_with fail
   go_ret;exact⟨rfl,hB1⟩
  ·cases t1:IJ b
   ·go_enter Tryz.func253,Tryz.ntmps253
    go_wp2_with fail
    refine (HF.out _).mono ?_;rintro e w0 ⟨rfl,rfl⟩;go_wp2_with fail
    refine (aK _ _ _ _ _ _ (by omega)).mono ?_;rintro e w1 ⟨rfl,hb1⟩;have z1:=hb1.size;simp only[zF] at z1;obtain⟨eX,gQ⟩:=bn hb1;have gX:w.heap.size<w1.heap.size:=(by omega);have ik:w.heap.size+1<w1.heap.size:=(by omega);have hB1:yT w w1:=zQ (by go_grown) (hb1.mono (by simp;omega));go_wp2_with fail
    refine (aY _ _).mono ?_;rintro e w9 ⟨rfl,rfl⟩;go_wp2_with fail
    refine (Gh _ _).mono ?_;rintro e w9 ⟨rfl,rfl⟩;go_wp2_with fail
    go_ret;exact⟨rfl,hB1⟩
   ·go_enter Tryz.func253,Tryz.ntmps253
    go_wp2_with fail
    refine (HF.out _).mono ?_;rintro e w0 ⟨rfl,rfl⟩;go_wp2_with fail
    refine (aK _ _ _ _ _ _ (by omega)).mono ?_;rintro e w1 ⟨rfl,hb1⟩;have z1:=hb1.size;simp only[zF] at z1;obtain⟨eX,gQ⟩:=bn hb1;have gX:w.heap.size<w1.heap.size:=(by omega);have ik:w.heap.size+1<w1.heap.size:=(by omega);have hB1:yT w w1:=zQ (by go_grown) (hb1.mono (by simp;omega));go_wp2_with fail
    refine (aY _ _).mono ?_;rintro e w9 ⟨rfl,rfl⟩;go_wp2_with fail
    refine (Gh _ _).mono ?_;rintro e w9 ⟨rfl,rfl⟩;go_wp2_with fail
    go_ret;exact⟨rfl,hB1⟩
theorem IM{A0 A2 A3:Option Addr}{n0 c0 n2 c2 n3 c3:Nat}{mus n a b c:Int}{w:World}(jS:n0≤1048576)(o8:n2≤1048576)(wG:n3≤1048576)(hm:0≤mus+9223372036854775807)(jY:mus≤9223372036854775807)(hn:0≤n)(hn':n≤1048576) :
  Calls Tryz.prog 253 #[.agg #[.slice A0 n0 c0,.int .i64 mus,.slice A2 n2 c2,.slice A3 n3 c3],.int .i64 n,.agg #[.int .i64 3,.int .i64 a,.int .i64 b,.int .i64 c]] w fun e w'=>e=.returned (.bool ((fD a b c 3)&&(jC a)&&(jC b)&&(jC c)))∧yT w w':=by
 have HF:=zA (fun W:World=>show Calls Tryz.prog 296 #[.int .i64 3] W fun e w'=>e=.returned (.int .i64 3)∧W=w' from eH 3 W);cases r0:fD a b c 3
 ·have r1:fD a b c 3=false:=r0;go_enter Tryz.func253,Tryz.ntmps253
  go_wp2_with fail
  refine (HF.out _).mono ?_;rintro e w0 ⟨rfl,rfl⟩;go_wp2_with fail
  refine (aK _ _ _ _ _ _ (by omega)).mono ?_;rintro e w1 ⟨rfl,hb1⟩;have z1:=hb1.size;simp only[zF] at z1;obtain⟨eX,gQ⟩:=bn hb1;have gX:w.heap.size<w1.heap.size:=(by omega);have ik:w.heap.size+1<w1.heap.size:=(by omega);have hB1:yT w w1:=zQ (by go_grown) (hb1.mono (by simp;omega));go_wp2_with fail
  go_ret;exact⟨rfl,hB1⟩
 ·cases t0:jC a
  ·go_enter Tryz.func253,Tryz.ntmps253
   go_wp2_with fail
   refine (HF.out _).mono ?_;rintro e w0 ⟨rfl,rfl⟩;go_wp2_with fail
   refine (aK _ _ _ _ _ _ (by omega)).mono ?_;rintro e w1 ⟨rfl,hb1⟩;have z1:=hb1.size;simp only[zF] at z1;obtain⟨eX,gQ⟩:=bn hb1;have gX:w.heap.size<w1.heap.size:=(by omega);have ik:w.heap.size+1<w1.heap.size:=(by omega);have hB1:yT w w1:=zQ (by go_grown) (hb1.mono (by simp;omega));go_wp2_with fail
   refine (aY _ _).mono ?_;rintro e w9 ⟨rfl,rfl⟩;go_wp2_with fail
   go_ret;exact⟨rfl,hB1⟩
  ·cases t1:jC b
   ·go_enter Tryz.func253,Tryz.ntmps253
    go_wp2_with fail
    refine (HF.out _).mono ?_;rintro e w0 ⟨rfl,rfl⟩;go_wp2_with fail
    refine (aK _ _ _ _ _ _ (by omega)).mono ?_;rintro e w1 ⟨rfl,hb1⟩;have z1:=hb1.size;simp only[zF] at z1;obtain⟨eX,gQ⟩:=bn hb1;have gX:w.heap.size<w1.heap.size:=(by omega);have ik:w.heap.size+1<w1.heap.size:=(by omega);have hB1:yT w w1:=zQ (by go_grown) (hb1.mono (by simp;omega));go_wp2_with fail
    refine (aY _ _).mono ?_;rintro e w9 ⟨rfl,rfl⟩;go_wp2_with fail
    refine (aY _ _).mono ?_;rintro e w9 ⟨rfl,rfl⟩;go_wp2_with fail
    go_ret;exact⟨rfl,hB1⟩
   ·cases t2:jC c
    ·go_enter Tryz.func253,Tryz.ntmps253
     go_wp2_with fail
     refine (HF.out _).mono ?_;rintro e w0 ⟨rfl,rfl⟩;go_wp2_with fail
     refine (aK _ _ _ _ _ _ (by omega)).mono ?_;rintro e w1 ⟨rfl,hb1⟩;have z1:=hb1.size;simp only[zF] at z1;obtain⟨eX,gQ⟩:=bn hb1;have gX:w.heap.size<w1.heap.size:=(by omega);have ik:w.heap.size+1<w1.heap.size:=(by omega);have hB1:yT w w1:=zQ (by go_grown) (hb1.mono (by simp;omega));go_wp2_with fail
     refine (aY _ _).mono ?_;rintro e w9 ⟨rfl,rfl⟩;go_wp2_with fail
     refine (aY _ _).mono ?_;rintro e w9 ⟨rfl,rfl⟩;go_wp2_with fail
     refine (aY _ _).mono ?_;rintro e w9 ⟨rfl,rfl⟩;go_wp2_with fail
     go_ret;exact⟨rfl,hB1⟩
    ·go_enter Tryz.func253,Tryz.ntmps253
     go_wp2_with fail
     refine (HF.out _).mono ?_;rintro e w0 ⟨rfl,rfl⟩;go_wp2_with fail
     refine (aK _ _ _ _ _ _ (by omega)).mono ?_;rintro e w1 ⟨rfl,hb1⟩;have z1:=hb1.size;simp only[zF] at z1;obtain⟨eX,gQ⟩:=bn hb1;have gX:w.heap.size<w1.heap.size:=(by omega);have ik:w.heap.size+1<w1.heap.size:=(by omega);have hB1:yT w w1:=zQ (by go_grown) (hb1.mono (by simp;omega));go_wp2_with fail
     refine (aY _ _).mono ?_;rintro e w9 ⟨rfl,rfl⟩;go_wp2_with fail
     refine (aY _ _).mono ?_;rintro e w9 ⟨rfl,rfl⟩;go_wp2_with fail
     refine (aY _ _).mono ?_;rintro e w9 ⟨rfl,rfl⟩;go_wp2_with fail
     go_ret;exact⟨rfl,hB1⟩
theorem IU{A0 A2 A3:Option Addr}{n0 c0 n2 c2 n3 c3:Nat}{mus n a b c:Int}{w:World}(jS:n0≤1048576)(o8:n2≤1048576)(wG:n3≤1048576)(hm:0≤mus+9223372036854775807)(jY:mus≤9223372036854775807)(hn:0≤n)(hn':n≤1048576) :
  Calls Tryz.prog 253 #[.agg #[.slice A0 n0 c0,.int .i64 mus,.slice A2 n2 c2,.slice A3 n3 c3],.int .i64 n,.agg #[.int .i64 6,.int .i64 a,.int .i64 b,.int .i64 c]] w fun e w'=>e=.returned (.bool ((fD a b c 1)&&(inB a 0 (n-1))))∧yT w w':=by
 have HF:=zA (fun W:World=>show Calls Tryz.prog 296 #[.int .i64 6] W fun e w'=>e=.returned (.int .i64 1)∧W=w' from eH 6 W);cases r0:fD a b c 1
 ·have r1:fD a b c 1=false:=r0;go_enter Tryz.func253,Tryz.ntmps253
  go_wp2_with fail
  refine (HF.out _).mono ?_;rintro e w0 ⟨rfl,rfl⟩;go_wp2_with fail
  refine (aK _ _ _ _ _ _ (by omega)).mono ?_;rintro e w1 ⟨rfl,hb1⟩;have z1:=hb1.size;simp only[zF] at z1;obtain⟨eX,gQ⟩:=bn hb1;have gX:w.heap.size<w1.heap.size:=(by omega);have ik:w.heap.size+1<w1.heap.size:=(by omega);have hB1:yT w w1:=zQ (by go_grown) (hb1.mono (by simp;omega));go_wp2_with fail
  go_ret;exact⟨rfl,hB1⟩
 ·cases t0:inB a 0 (n-1)
  ·go_enter Tryz.func253,Tryz.ntmps253
   go_wp2_with fail
   refine (HF.out _).mono ?_;rintro e w0 ⟨rfl,rfl⟩;go_wp2_with fail
   refine (aK _ _ _ _ _ _ (by omega)).mono ?_;rintro e w1 ⟨rfl,hb1⟩;have z1:=hb1.size;simp only[zF] at z1;obtain⟨eX,gQ⟩:=bn hb1;have gX:w.heap.size<w1.heap.size:=(by omega);have ik:w.heap.size+1<w1.heap.size:=(by omega);have hB1:yT w w1:=zQ (by go_grown) (hb1.mono (by simp;omega));go_wp2_with fail
   refine (jd _ _ _ _).mono ?_;rintro e w9 ⟨rfl,rfl⟩;go_wp2_with fail
   go_ret;exact⟨rfl,hB1⟩
  ·go_enter Tryz.func253,Tryz.ntmps253
   go_wp2_with fail
   refine (HF.out _).mono ?_;rintro e w0 ⟨rfl,rfl⟩;go_wp2_with fail
   refine (aK _ _ _ _ _ _ (by omega)).mono ?_;rintro e w1 ⟨rfl,hb1⟩;have z1:=hb1.size;simp only[zF] at z1;obtain⟨eX,gQ⟩:=bn hb1;have gX:w.heap.size<w1.heap.size:=(by omega);have ik:w.heap.size+1<w1.heap.size:=(by omega);have hB1:yT w w1:=zQ (by go_grown) (hb1.mono (by simp;omega));go_wp2_with fail
   refine (jd _ _ _ _).mono ?_;rintro e w9 ⟨rfl,rfl⟩;go_wp2_with fail
   go_ret;exact⟨rfl,hB1⟩
theorem IV{A0 A2 A3:Option Addr}{n0 c0 n2 c2 n3 c3:Nat}{mus n a b c:Int}{w:World}(jS:n0≤1048576)(o8:n2≤1048576)(wG:n3≤1048576)(hm:0≤mus+9223372036854775807)(jY:mus≤9223372036854775807)(hn:0≤n)(hn':n≤1048576) :
  Calls Tryz.prog 253 #[.agg #[.slice A0 n0 c0,.int .i64 mus,.slice A2 n2 c2,.slice A3 n3 c3],.int .i64 n,.agg #[.int .i64 7,.int .i64 a,.int .i64 b,.int .i64 c]] w fun e w'=>e=.returned (.bool ((fD a b c 2)&&(jC a)&&(inB b 0 (n-1))))∧yT w w':=by
 have HF:=zA (fun W:World=>show Calls Tryz.prog 296 #[.int .i64 7] W fun e w'=>e=.returned (.int .i64 2)∧W=w' from eH 7 W);cases r0:fD a b c 2
 ·have r1:fD a b c 2=false:=r0;go_enter Tryz.func253,Tryz.ntmps253
  go_wp2_with fail
  refine (HF.out _).mono ?_;rintro e w0 ⟨rfl,rfl⟩;go_wp2_with fail
  refine (aK _ _ _ _ _ _ (by omega)).mono ?_;rintro e w1 ⟨rfl,hb1⟩;have z1:=hb1.size;simp only[zF] at z1;obtain⟨eX,gQ⟩:=bn hb1;have gX:w.heap.size<w1.heap.size:=(by omega);have ik:w.heap.size+1<w1.heap.size:=(by omega);have hB1:yT w w1:=zQ (by go_grown) (hb1.mono (by simp;omega));go_wp2_with fail
  go_ret;exact⟨rfl,hB1⟩
 ·cases t0:jC a
  ·go_enter Tryz.func253,Tryz.ntmps253
   go_wp2_with fail
   refine (HF.out _).mono ?_;rintro e w0 ⟨rfl,rfl⟩;go_wp2_with fail
   refine (aK _ _ _ _ _ _ (by omega)).mono ?_;rintro e w1 ⟨rfl,hb1⟩;have z1:=hb1.size;simp only[zF] at z1;obtain⟨eX,gQ⟩:=bn hb1;have gX:w.heap.size<w1.heap.size:=(by omega);have ik:w.heap.size+1<w1.heap.size:=(by omega);have hB1:yT w w1:=zQ (by go_grown) (hb1.mono (by simp;omega));go_wp2_with fail
   refine (aY _ _).mono ?_;rintro e w9 ⟨rfl,rfl⟩;go_wp2_with fail
   go_ret;exact⟨rfl,hB1⟩
  ·cases t1:inB b 0 (n-1)
   ·go_enter Tryz.func253,Tryz.ntmps253
    go_wp2_with fail
    refine (HF.out _).mono ?_;rintro e w0 ⟨rfl,rfl⟩;go_wp2_with fail
    refine (aK _ _ _ _ _ _ (by omega)).mono ?_;rintro e w1 ⟨rfl,hb1⟩;have z1:=hb1.size;simp only[zF] at z1;obtain⟨eX,gQ⟩:=bn hb1;have gX:w.heap.size<w1.heap.size:=(by omega);have ik:w.heap.size+1<w1.heap.size:=(by omega);have hB1:yT w w1:=zQ (by go_grown) (hb1.mono (by simp;omega));go_wp2_with fail
    refine (aY _ _).mono ?_;rintro e w9 ⟨rfl,rfl⟩;go_wp2_with fail
    refine (jd _ _ _ _).mono ?_;rintro e w9 ⟨rfl,rfl⟩;go_wp2_with fail
    go_ret;exact⟨rfl,hB1⟩
   ·go_enter Tryz.func253,Tryz.ntmps253
    go_wp2_with fail
    refine (HF.out _).mono ?_;rintro e w0 ⟨rfl,rfl⟩;go_wp2_with fail
    refine (aK _ _ _ _ _ _ (by omega)).mono ?_;rintro e w1 ⟨rfl,hb1⟩;have z1:=hb1.size;simp only[zF] at z1;obtain⟨eX,gQ⟩:=bn hb1;have gX:w.heap.size<w1.heap.size:=(by omega);have ik:w.heap.size+1<w1.heap.size:=(by omega);have hB1:yT w w1:=zQ (by go_grown) (hb1.mono (by simp;omega));go_wp2_with fail
    refine (aY _ _).mono ?_;rintro e w9 ⟨rfl,rfl⟩;go_wp2_with fail
    refine (jd _ _ _ _).mono ?_;rintro e w9 ⟨rfl,rfl⟩;go_wp2_with fail
    go_ret;exact⟨rfl,hB1⟩
end Go.Proofs.YtjcoapnggojpdaaGreatDoor
