/- Texts of the proof, laid compactly. -/
import Derived.Test.YtjcoapnggojpdaaGreatDoorGBase
set_option maxHeartbeats 2000000
set_option maxRecDepth 100000
namespace Go.Proofs.YtjcoapnggojpdaaGreatDoor
set_option linter.unusedSimpArgs false
set_option linter.unusedVariables false
open Go.RowKit
structure ja where
 gI:Bool
 gU:Int
 mg:Int
 lM:Int
 wX:Int
def fJ:Lay ja:=Lay.flat 5 (fun x=>[.bool x.gI,.int .i64 x.gU,.int .i64 x.mg,.int .i64 x.lM,.int .i64 x.wX]) (fun x=>(Lit.int .i64 x.gU).wf=true∧(Lit.int .i64 x.mg).wf=true∧(Lit.int .i64 x.lM).wf=true∧(Lit.int .i64 x.wX).wf=true) (fun _=>rfl)
theorem S9:lD Tryz.prog 307 fJ:=by
 refine lD.to (jq Tryz.underlying307 (by kernel_rfl) (.cons rfl (Bd Tryz.underlying4 (by kernel_rfl)) (.cons rfl (fZ Tryz.underlying3 (by kernel_rfl)) (.cons rfl (fZ Tryz.underlying3 (by kernel_rfl)) (.cons rfl (fZ Tryz.underlying3 (by kernel_rfl)) (.one rfl (fZ Tryz.underlying3 (by kernel_rfl)))))))) rfl fun w hi a vs h => ?_
 obtain⟨a0,a1,a2,a3,a4⟩:=a;obtain⟨_,_,rfl,s0,⟨_,_,rfl,s1,⟨_,_,rfl,s2,⟨_,_,rfl,s3,s4⟩⟩⟩⟩:=h;obtain⟨rfl,h0⟩:=s0;obtain⟨rfl,h1⟩:=s1;obtain⟨rfl,h2⟩:=s2;obtain⟨rfl,h3⟩:=s3;obtain⟨rfl,h4⟩:=s4;exact⟨⟨a0,a1,a2,a3,a4⟩,rfl,h1,h2,h3,h4⟩
theorem NP{w:World}{A:Option Addr}{n c l:Nat}(hl:l≤1048576)(hn:n≤maxLen) :
  Calls Tryz.prog 182 #[.slice A n c,.int .i64 (l:Int)] w (nO w l n):=by
 unfold maxLen at hn;by_cases h:n≤l
 ·have hs:Hid ((l:Int)-(n:Int)=((l-n:Nat):Int)):=zA (by omega);go_enter Tryz.func182,Tryz.ntmps182
  go_wp2
  go_ret;exact⟨zD _ _,.inl ⟨h,by rw[hs.out];rfl⟩⟩
 ·have h':l<n:=(by omega);go_enter Tryz.func182,Tryz.ntmps182
  go_wp2
  go_ret;exact⟨zD _ _,.inr ⟨h',rfl⟩⟩
theorem NQ{w:World}(x:ja):Calls Tryz.prog 275 #[.agg #[.bool x.gI,.int .i64 x.gU,.int .i64 x.mg,.int .i64 x.lM,.int .i64 x.wX],.agg #[.bool x.gI,.int .i64 x.gU,.int .i64 x.mg,.int .i64 x.lM,.int .i64 x.wX]] w (iP w):=by
 have hb0:yT w ((w.alloc (.cells #[.bool x.gI,.int .i64 x.gU,.int .i64 x.mg,.int .i64 x.lM,.int .i64 x.wX] 165)).alloc (.cells #[.bool x.gI,.int .i64 x.gU,.int .i64 x.mg,.int .i64 x.lM,.int .i64 x.wX] 165)):=((zD _ _).alloc (zC _) _).alloc (by simp) _;go_enter Tryz.func275,Tryz.ntmps275
 go_wp2
 repeat (go_quiet (fail);go_wp2)
 go_ret;exact⟨rfl,by first|exact hb0|exact gz hb0 _|go_grown⟩
theorem KW{A A':Option Addr}{n c c' hi hi':Nat}{xs:List ja}{w:World}(h:a_ fJ w hi A n xs)(h':a_ fJ w hi' A' n xs)(hh:hi≤w.heap.size)(KF:hi'≤w.heap.size)(hn:n≤1048576) :
  Calls Tryz.prog 218 #[.slice A n c,.slice A' n c'] w (iP w):=by
 go_enter Tryz.func218,Tryz.ntmps218
 go_wp2
 go_loopw[5] (fun i wr=>∃k:Nat,k≤n∧i=.int .i64 k∧yT w wr) (fun i _=>n-(intOf i).toNat)
 case atStart=>exact⟨0,zL _,rfl,zD _ _⟩
 case round =>
  obtain⟨k,hk,rfl,hb⟩:=hrel;have z:=hb.size;by_cases hlt:k<n
  ·obtain⟨hx,g,o,vs,rfl,hg,⟨rfl,hw⟩,hc⟩:=(h.below hb hh).at_ hlt;obtain⟨hx',g',o',vs',rfl,nI,⟨rfl,hw'⟩,hc'⟩:=(h'.below hb KF).at_ hlt;have dK:=hc 0 _ rfl;have xw:=hc' 0 _ rfl;have eu:=hc 1 _ rfl;have zh:=hc' 1 _ rfl;have ig:=hc 2 _ rfl;have CS:=hc' 2 _ rfl;have jf:=hc 3 _ rfl;have H_:=hc' 3 _ rfl;have lS:=hc 4 _ rfl;have Wx:=hc' 4 _ rfl;simp only[show fJ.size=5 from rfl,←zH,zI,zK] at dK eu ig jf lS xw zh CS H_ Wx;clear hc hc' hw hw';generalize xs[k]=x at *;have HE:=zA (fun W:World=>NQ (w:=W) x);have jJ:(0:Int)≤(k:Int):=(by omega);have u_:(k:Int)<(n:Int):=(by omega);go_wp2_with fail
   go_region_with (go_at_call 275;refine (HE.out _).mono ?_;rintro e w1 ⟨rfl,hb1⟩)
   all_goals
    have oQ:yT w w1:=hb.drew.trans (hb1.mono z);clear hb1 HE dK eu ig jf lS xw zh CS H_ Wx;go_wp2_with fail
    go_roundw
    case rel=>exact⟨k+1,by omega,by go_num,oQ⟩
    case measure=>simp[intOf];omega
  ·go_wp2
   go_ret;exact⟨rfl,hb⟩
theorem P_{w:World}{hi:Nat}{x:ja}{vs:List Value}(h:fJ.see w hi x vs) :
  Calls Tryz.prog 263 #[.agg vs.toArray] w (su fJ w x):=by
 obtain⟨rfl,hw⟩:=h;have HW:=zA hw;clear hw;show Calls Tryz.prog 263 #[.agg #[.bool x.gI,.int .i64 x.gU,.int .i64 x.mg,.int .i64 x.lM,.int .i64 x.wX]] w (su fJ w x)
 go_enter Tryz.func263,Tryz.ntmps263
 go_wp2
 refine bodyPost_ret (v := .agg #[.bool x.gI,.int .i64 x.gU,.int .i64 x.mg,.int .i64 x.lM,.int .i64 x.wX]) (by simp[results,Tryz.results263,go_sem]) rfl ?_;exact⟨_,rfl,⟨rfl,HW.out⟩,by go_grown⟩
theorem Vo:(Tryz.prog.info? 165).map (fun i=>(i.zero,i.size,i.bytes))=some (some (.agg #[.bool false,.int .i64 0,.int .i64 0,.int .i64 0,.int .i64 0]),5,40):=by kernel_rfl
theorem NR{w:World}{A:Option Addr}{n c hi:Nat}{xs:List ja}(h:a_ fJ w hi A n xs)(cu:hi≤w.heap.size)(hn:n≤1048576) :
  Calls Tryz.prog 194 #[.slice A n c] w (vw fJ 165 w n xs):=by
 obtain⟨i0,jJ,hz0,hz1,hz2⟩:=info_parts Vo;have hmk:=fun W:World=>run_make (P:=Tryz.prog) W 166 165 i0 _ Tryz.underlying166 jJ hz0 .i64 .i64 n n (by omega) (by omega) (by rw[hz2];omega) (by omega)
 simp only[hz1,yA] at hmk;have HL:=zA h.1;clear jJ hz0 hz1 hz2;go_enter Tryz.func194,Tryz.ntmps194
 go_wp2
 clear hmk;go_loopw[4] (fun i wr=>∃k:Nat,k≤n∧i=.int .i64 k∧Part fJ 165 wr w.heap.size n xs k wr.heap.size∧yT w wr) (fun i _=>n-(intOf i).toNat)
 case atStart =>
  refine⟨0,zL _,rfl,?_,(zD _ _).alloc (zC _) _⟩;have hm:=Own.made (size:=5) (e:=165) w (madeCells #[.bool false,.int .i64 0,.int .i64 0,.int .i64 0,.int .i64 0] (n*5)) n n (by simp only[maxLen];omega) (by simp[size_madeCells]) (zC _);exact Part.start HL.out hm (by simp)
 case round =>
  obtain⟨k,hk,rfl,hpart,hb⟩:=hrel;have z:=hb.size;by_cases hlt:k<n
  ·obtain⟨hx,g,o,vs,rfl,hg,aW,hcell⟩:=(h.below hb cu).at_ hlt;have jh:=zA (zG hx);generalize xs[k]=x at *;have HE:=zA (fun (W:World) (hW:yT wr W)=>P_ (w:=W) (fJ.keep aW fun k hk=>hW.block k (by omega)));obtain⟨rfl,hw⟩:=aW;have dK:=hcell 0 _ rfl;have eu:=hcell 1 _ rfl;have ig:=hcell 2 _ rfl;have jf:=hcell 3 _ rfl;have lS:=hcell 4 _ rfl;simp only[show fJ.size=5 from rfl,←zH,zI,zK] at dK eu ig jf lS;clear hcell;go_wp2_with fail
   refine (HE.out _ (zD _ _)).mono ?_;rintro e w1 ⟨us,rfl,dU,hb1⟩;have zy:=fJ.len (fJ.seen dU (hi:=w1.heap.size) fun g hg=>hg.2);have hsu:=fJ.seen dU (hi:=w1.heap.size) fun g hg=>hg.2
   obtain⟨rfl,hwu⟩:=hsu;have oH:=hpart.below hb1;obtain⟨⟨v0,KE⟩,hf0⟩:=oH.room hlt 0 (by decide);obtain⟨⟨v1,ho1⟩,PG⟩:=oH.room hlt 1 (by decide);obtain⟨⟨v2,ho2⟩,hf2⟩:=oH.room hlt 2 (by decide);obtain⟨⟨v3,Xp⟩,hf3⟩:=oH.room hlt 3 (by decide);obtain⟨⟨v4,U3⟩,hf4⟩:=oH.room hlt 4 (by decide);have xM:=oH.step jh.out zy dU (fun g hg=>hg);have hb2:yT w w1:=hb.trans (hb1.mono z);simp only[show fJ.size=5 from rfl,←zH,zI,zK] at KE hf0 ho1 PG ho2 hf2 Xp hf3 U3 hf4 xM;clear hpart oH hb1 HE dU zy dK eu ig jf lS;go_wp2_with fail
   go_roundw
   case rel=>exact⟨k+1,by omega,by go_num,by simpa[putCells] using xM,by go_grown⟩
   case measure=>simp[intOf];omega
  ·go_wp2_with fail
   go_ret;obtain rfl:k=n:=(by omega);exact⟨_,_,rfl,hpart.done,hb⟩
structure eG where
 dw:List ja
 fV:Int
def bM:Lay eG:=((fJ.slice 165).pair Lay.int).via fun x=>(x.dw,x.fV)
theorem NS:lD Tryz.prog 146 bM :=
 qG _ (fun a=>⟨⟨a.1,a.2⟩,rfl⟩) (jq Tryz.underlying146 (by kernel_rfl) (.cons rfl (lY Tryz.underlying144 (by kernel_rfl) (by decide) S9) (.one rfl (fZ Tryz.underlying3 (by kernel_rfl)))))
theorem g_{w:World}{hi:Nat}{x:eG}{vs:List Value}(h:bM.see w hi x vs):∃A0 n0 c0,vs=[.slice A0 n0 c0,.int .i64 x.fV]∧(n0≤c0∧c0≤maxLen∧a_ fJ w hi A0 n0 x.dw)∧(Lit.int .i64 x.fV).wf=true:=by
 obtain⟨_,_,rfl,s0,s1⟩:=h;obtain⟨A0,n0,c0,rfl,h0⟩:=s0;obtain⟨rfl,h1⟩:=s1;exact⟨A0,n0,c0,rfl,h0,h1⟩
theorem JD{w:World}{F:Nat→Prop}{x:eG}{A0:Option Addr}{n0 c0:Nat}{F0:Nat→Prop}(h0:aB fJ 165 w F0 A0 n0 c0 x.dw)(h1:(Lit.int .i64 x.fV).wf=true)(k0:∀g,F0 g→F g):bM.own w F x [.slice A0 n0 c0,.int .i64 x.fV]:=by
 exact⟨_,_,F0,(fun _=>False),rfl,⟨A0,n0,c0,rfl,h0⟩,⟨rfl,h1⟩,k0,(fun _ h=>h.elim),(fun g h h2=>h2)⟩
def dJ(x:eG):Nat:=x.dw.length
theorem KX{w:World}{hi l:Nat}{x:eG}{vs:List Value}(h:bM.see w hi x vs)(cu:hi≤w.heap.size)(hl:l≤1048576) :
  Calls Tryz.prog 89 #[.agg vs.toArray,.int .i64 (l:Int)] w (nO w l (dJ x)):=by
 obtain⟨A0,n0,c0,rfl,⟨hc0,hm0,s0⟩,hw1⟩:=g_ h;have hb0:yT w (w.alloc (.cells #[.slice A0 n0 c0,.int .i64 x.fV] 146)):=(zD _ _).alloc (zC _) _;have hz0:w.heap.size+1≤(w.alloc (.cells #[.slice A0 n0 c0,.int .i64 x.fV] 146)).heap.size:=(by simp);go_enter Tryz.func89,Tryz.ntmps89
 have L0:=zA s0.1;go_wp2_with fail
 refine (NP (l:=l) (by omega) (zJ hc0 hm0)).mono ?_;rintro e w1 ⟨hb1,hcase⟩;have z1:=hb1.size;obtain⟨eX,gQ⟩:=bn hb1;simp only[zF] at z1;have gX:w.heap.size<w1.heap.size:=(by omega);have hB1:yT w w1:=hb0.trans (hb1.mono (by simp));rcases hcase with⟨h10,rfl⟩|⟨h10,rfl⟩
 ·go_wp2_with fail
  go_ret;exact⟨hB1,.inl ⟨by unfold dJ;rw[L0.out];omega,by unfold dJ;rw[L0.out];go_num⟩⟩
 ·go_wp2_with fail
  go_ret;exact⟨hB1,.inr ⟨by unfold dJ;rw[L0.out];omega,rfl⟩⟩
theorem Iw{w:World}{hi n c l:Nat}{A:Option Addr}{ds:List eG}(h:a_ bM w hi A n ds)(cu:hi≤w.heap.size)(hl:l≤1048576)(hn:n≤maxLen) :
  Calls Tryz.prog 33 #[.slice A n c,.int .i64 (l:Int)] w (nO w l (n+(ds.map dJ).sum)):=by
 unfold maxLen at hn;have HL:=zA h.1;by_cases h0:n≤l
 ·go_enter Tryz.func33,Tryz.ntmps33
  go_wp2_with fail
  go_loopw[1,5] (fun q i wr=>∃k:Nat,k≤n∧i=.int .i64 k∧n+((ds.take k).map dJ).sum≤l∧q=.int .i64 ((l-(n+((ds.take k).map dJ).sum):Nat):Int)∧yT w wr) (fun _ i _=>n-(intOf i).toNat)
  case atStart=>exact⟨0,zL _,rfl,by simpa using h0,by simp;go_num,zD _ _⟩
  case round =>
   obtain⟨k,hk,rfl,hle,rfl,hb⟩:=hrel;have z:=hb.size;by_cases hlt:k<n
   ·obtain⟨hx,g,o,vs,rfl,hg,aW,hcell⟩:=(h.below hb cu).at_ hlt;have iJ:=aW;have KG:=zA (jQ (f:=dJ) (zG hx));have Ue:=lh dJ ds (k+1);rw[KG.out] at Ue;generalize ds[k]=d at *;obtain⟨A0,n0,c0,rfl,⟨hc0,hm0,s0⟩,hw1⟩:=g_ aW;have dK:=hcell 0 _ rfl;have eu:=hcell 1 _ rfl;simp only[show bM.size=2 from rfl,←zH,zI,zK] at dK eu;clear hcell aW s0;generalize hT:((ds.take k).map dJ).sum=S at *;have HT:=zA hT;clear hT;go_wp2_with fail
    refine (KX (l:=l-(n+S)) iJ (by omega) (by omega)).mono ?_;rintro e w1 ⟨hb1,hcase⟩;have oQ:yT w w1:=hb.trans (hb1.mono z);clear dK eu hb1 iJ;rcases hcase with⟨h1,rfl⟩|⟨h1,rfl⟩
    ·go_wp2_with fail
     go_roundw
     case rel=>exact⟨k+1,by omega,by go_num,by rw[KG.out];omega,by rw[KG.out];go_num,oQ⟩
     case measure=>simp[intOf];omega
    ·go_wp2_with fail
     go_ret;exact⟨oQ,.inr ⟨by omega,rfl⟩⟩
   ·go_wp2_with fail
    go_ret;obtain rfl:k=n:=(by omega);have Xo:ds.take k=ds:=zU (by rw[HL.out];exact zC _);rw[Xo] at hle ⊢;exact⟨hb,.inl ⟨hle,rfl⟩⟩
 ·have h1:l<n:=(by omega);clear h;go_enter Tryz.func33,Tryz.ntmps33
  go_wp2_with fail
  go_ret;exact⟨zD _ _,.inr ⟨by omega,rfl⟩⟩
theorem Iy{w:World}{hi hi':Nat}{x:eG}{vs vs':List Value}(h:bM.see w hi x vs)(h':bM.see w hi' x vs')(cu:hi≤w.heap.size)(vC:hi'≤w.heap.size)(hn:dJ x≤1048576) :
  Calls Tryz.prog 133 #[.agg vs.toArray,.agg vs'.toArray] w (iP w):=by
 obtain⟨A0,n0,c0,rfl,⟨hc0,hm0,s0⟩,hw1⟩:=g_ h;obtain⟨Xy,Xz,UX,rfl,⟨Vp,Qa,NT⟩,Xr⟩:=g_ h';obtain rfl:n0=Xz:=s0.1.symm.trans NT.1;have L0:=zA s0.1;have jS:=hn;unfold dJ at jS;rw[L0.out] at jS;have hb0:yT w ((w.alloc (.cells #[.slice A0 n0 c0,.int .i64 x.fV] 168)).alloc (.cells #[.slice Xy n0 UX,.int .i64 x.fV] 168)):=((zD _ _).alloc (zC _) _).alloc (by simp) _;go_enter Tryz.func133,Tryz.ntmps133
 go_wp2_with fail
 refine (KW (s0.below hb0 cu) (NT.below hb0 vC) (by have:=hb0.size;omega) (by have:=hb0.size;omega) (by omega)).mono ?_;rintro e w1 ⟨rfl,hb1⟩;have z1:=hb1.size;obtain⟨eX,gQ⟩:=bn hb1;have hB1:yT w w1:=hb0.trans (hb1.mono (by simp;omega));simp only[zF] at z1;have gX:w.heap.size<w1.heap.size:=(by omega);have ik:w.heap.size+1<w1.heap.size:=(by omega);go_wp2_with fail
 (try (go_quiet (fail)))
 go_wp2_with fail
 go_ret;exact⟨rfl,by first|exact hB1|exact gz hB1 _⟩
theorem FT{A A':Option Addr}{n c c' hi hi':Nat}{xs:List eG}{w:World}(h:a_ bM w hi A n xs)(h':a_ bM w hi' A' n xs)(hh:hi≤w.heap.size)(KF:hi'≤w.heap.size)(hn:n≤1048576)(hs:(xs.map dJ).sum≤1048576) :
  Calls Tryz.prog 59 #[.slice A n c,.slice A' n c'] w (iP w):=by
 go_enter Tryz.func59,Tryz.ntmps59
 go_wp2
 go_loopw[5] (fun i wr=>∃k:Nat,k≤n∧i=.int .i64 k∧yT w wr) (fun i _=>n-(intOf i).toNat)
 case atStart=>exact⟨0,zL _,rfl,zD _ _⟩
 case round =>
  obtain⟨k,hk,rfl,hb⟩:=hrel;have z:=hb.size;by_cases hlt:k<n
  ·obtain⟨hx,g,o,vs,rfl,hg,aW,hc⟩:=(h.below hb hh).at_ hlt;obtain⟨hx',g',o',vs',rfl,nI,qh,hc'⟩:=(h'.below hb KF).at_ hlt;have hsz:dJ xs[k]≤1048576:=zJ (dI dJ (zS hx)) hs;generalize xs[k]=x at *;have HE:=zA (fun (W:World) (hW:yT wr W)=>Iy (bM.keep aW fun k hk=>hW.block k (by omega)) (bM.keep qh fun k hk=>hW.block k (by omega)) (by have:=hW.size;omega) (by have:=hW.size;omega) hsz);obtain⟨A0,n0,c0,rfl,⟨hc0,hm0,s0⟩,hw1⟩:=g_ aW;obtain⟨Xy,Xz,UX,rfl,⟨Vp,Qa,NT⟩,Xr⟩:=g_ qh;have dK:=hc 0 _ rfl;have xw:=hc' 0 _ rfl;have eu:=hc 1 _ rfl;have zh:=hc' 1 _ rfl;simp only[show bM.size=2 from rfl,←zH,zI,zK] at dK eu xw zh;clear hc hc' aW qh s0 NT;have jJ:(0:Int)≤(k:Int):=(by omega);have u_:(k:Int)<(n:Int):=(by omega);have hb0:yT wr wr.drew:=(zD _ _).drew;go_wp2_with fail
   go_region_with (go_at_call 133;refine (HE.out _ hb0).mono ?_;rintro e w1 ⟨rfl,hb1⟩)
   all_goals
    have oQ:yT w w1:=hb.drew.trans (hb1.mono z);clear hb1 HE dK eu xw zh;go_wp2_with fail
    go_roundw
    case rel=>exact⟨k+1,by omega,by go_num,oQ⟩
    case measure=>simp[intOf];omega
  ·go_wp2
   go_ret;exact⟨rfl,hb⟩
theorem KY{w:World}{hi:Nat}{x:eG}{vs:List Value}(h:bM.see w hi x vs)(cu:hi≤w.heap.size)(hn:dJ x≤1048576) :
  Calls Tryz.prog 108 #[.agg vs.toArray] w (su bM w x):=by
 obtain⟨A0,n0,c0,rfl,⟨hc0,hm0,s0⟩,hw1⟩:=g_ h;have L0:=zA s0.1;have jS:=hn;unfold dJ at jS;rw[L0.out] at jS;have hb0:yT w (((w.alloc (.cells #[.slice A0 n0 c0,.int .i64 x.fV] 146)).alloc (.cells #[.slice none 0 0,.int .i64 0] 168)).alloc (.cells #[.slice none 0 0,.int .i64 0] 168)):=by go_grown
 go_enter Tryz.func108,Tryz.ntmps108
 go_wp2_with fail
 refine (NR (s0.below (B:=w.heap.size) ?_ cu) ?_ (by omega)).mono ?_
 ·go_grown
 ·simp;omega
 rintro e w1 ⟨B0,e0,rfl,dU,hb1⟩;have z1:=hb1.size;simp only[zF] at z1 dU;have hB1:yT w w1:=zQ (by go_grown) (hb1.mono (by simp;omega));obtain⟨eX,gQ⟩:=bn hb1;have gX:w.heap.size<w1.heap.size:=(by omega);have ik:w.heap.size+1<w1.heap.size:=(by omega);have CV:w.heap.size+1+1<w1.heap.size:=(by omega);go_wp2_with fail
 refine bodyPost_ret (v := .agg #[.slice B0 n0 e0,.int .i64 x.fV]) (by simp[results,Tryz.results108,go_sem,eX,gX,ik,CV]) rfl ?_;refine⟨_,rfl,?_,?_⟩
 ·refine JD (F:=_) (aB.turned dU (l:=w.heap.size+1) (r:=w.heap.size+3) ?t0 (fun g hg => .inl (by omega))) hw1 ?k0
  case t0 =>
   repeat (refine Turned.setCell ?_ (by simp) (by simp) _)
   exact Turned.refl _ _ _
  case k0=>intro g hg;simp only[zM];omega
 ·repeat (refine Below.setCell ?_ (by dsimp only;omega) _)
  exact hB1
theorem Qb:(Tryz.prog.info? 168).map (fun i=>(i.zero,i.size,i.bytes))=some (some (.agg #[.slice none 0 0,.int .i64 0]),2,32):=by kernel_rfl
theorem Iz{w:World}{A:Option Addr}{n c hi:Nat}{xs:List eG}(h:a_ bM w hi A n xs)(cu:hi≤w.heap.size)(hn:n≤1048576)(hs:(xs.map dJ).sum≤1048576) :
  Calls Tryz.prog 45 #[.slice A n c] w (vw bM 168 w n xs):=by
 obtain⟨i0,jJ,hz0,hz1,hz2⟩:=info_parts Qb;have hmk:=fun W:World=>run_make (P:=Tryz.prog) W 43 168 i0 _ Tryz.underlying43 jJ hz0 .i64 .i64 n n (by omega) (by omega) (by rw[hz2];omega) (by omega)
 simp only[hz1,yA] at hmk;have HL:=zA h.1;clear jJ hz0 hz1 hz2;go_enter Tryz.func45,Tryz.ntmps45
 go_wp2
 clear hmk;go_loopw[4] (fun i wr=>∃k:Nat,k≤n∧i=.int .i64 k∧Part bM 168 wr w.heap.size n xs k wr.heap.size∧yT w wr) (fun i _=>n-(intOf i).toNat)
 case atStart =>
  refine⟨0,zL _,rfl,?_,(zD _ _).alloc (zC _) _⟩;have hm:=Own.made (size:=2) (e:=168) w (madeCells #[.slice none 0 0,.int .i64 0] (n*2)) n n (by simp only[maxLen];omega) (by simp[size_madeCells]) (zC _);exact Part.start HL.out hm (by simp)
 case round =>
  obtain⟨k,hk,rfl,hpart,hb⟩:=hrel;have z:=hb.size;by_cases hlt:k<n
  ·obtain⟨hx,g,o,vs,rfl,hg,aW,hcell⟩:=(h.below hb cu).at_ hlt;have hsz:dJ xs[k]≤1048576:=zJ (dI dJ (zS hx)) hs;have jh:=zA (zG hx);generalize xs[k]=x at *;have HE:=zA (fun (W:World) (hW:yT wr W)=>KY (w:=W) (bM.keep aW fun k hk=>hW.block k (by omega)) (by have:=hW.size;omega) hsz);obtain⟨A0,n0,c0,rfl,⟨hc0,hm0,s0⟩,hw1⟩:=g_ aW;have dK:=hcell 0 _ rfl;have eu:=hcell 1 _ rfl;simp only[show bM.size=2 from rfl,←zH,zI,zK] at dK eu;clear hcell;go_wp2_with fail
   refine (HE.out _ (zD _ _)).mono ?_;rintro e w1 ⟨us,rfl,dU,hb1⟩;have zy:=bM.len (bM.seen dU (hi:=w1.heap.size) fun g hg=>hg.2);have hsu:=bM.seen dU (hi:=w1.heap.size) fun g hg=>hg.2
   obtain⟨A0u,n0u,c0u,rfl,⟨ah8,ah9,s0u⟩,ahO⟩:=g_ hsu;have oH:=hpart.below hb1;obtain⟨⟨v0,KE⟩,hf0⟩:=oH.room hlt 0 (by decide);obtain⟨⟨v1,ho1⟩,PG⟩:=oH.room hlt 1 (by decide);have xM:=oH.step jh.out zy dU (fun g hg=>hg);have hb2:yT w w1:=hb.trans (hb1.mono z);simp only[show bM.size=2 from rfl,←zH,zI,zK] at KE hf0 ho1 PG xM;clear hpart oH hb1 HE dU zy dK eu s0 s0u;go_wp2_with fail
   go_roundw
   case rel=>exact⟨k+1,by omega,by go_num,by simpa[putCells] using xM,by go_grown⟩
   case measure=>simp[intOf];omega
  ·go_wp2_with fail
   go_ret;obtain rfl:k=n:=(by omega);exact⟨_,_,rfl,hpart.done,hb⟩
structure iG where
 m7:Int
 fA:Int
 fB:Int
 fC:Int
def dX:Lay iG:=Lay.flat 4 (fun x=>[.int .i64 x.m7,.int .i64 x.fA,.int .i64 x.fB,.int .i64 x.fC]) (fun x=>(Lit.int .i64 x.m7).wf=true∧(Lit.int .i64 x.fA).wf=true∧(Lit.int .i64 x.fB).wf=true∧(Lit.int .i64 x.fC).wf=true) (fun _=>rfl)
theorem Qc:lD Tryz.prog 309 dX:=by
 refine lD.to (jq Tryz.underlying309 (by kernel_rfl) (.cons rfl (fZ Tryz.underlying3 (by kernel_rfl)) (.cons rfl (fZ Tryz.underlying3 (by kernel_rfl)) (.cons rfl (fZ Tryz.underlying3 (by kernel_rfl)) (.one rfl (fZ Tryz.underlying3 (by kernel_rfl))))))) rfl fun w hi a vs h => ?_
 obtain⟨a0,a1,a2,a3⟩:=a;obtain⟨_,_,rfl,s0,⟨_,_,rfl,s1,⟨_,_,rfl,s2,s3⟩⟩⟩:=h;obtain⟨rfl,h0⟩:=s0;obtain⟨rfl,h1⟩:=s1;obtain⟨rfl,h2⟩:=s2;obtain⟨rfl,h3⟩:=s3;exact⟨⟨a0,a1,a2,a3⟩,rfl,h0,h1,h2,h3⟩
theorem KZ{w:World}{A:Option Addr}{n c l:Nat}(hl:l≤1048576)(hn:n≤maxLen) :
  Calls Tryz.prog 183 #[.slice A n c,.int .i64 (l:Int)] w (nO w l n):=by
 unfold maxLen at hn;by_cases h:n≤l
 ·have hs:Hid ((l:Int)-(n:Int)=((l-n:Nat):Int)):=zA (by omega);go_enter Tryz.func183,Tryz.ntmps183
  go_wp2
  go_ret;exact⟨zD _ _,.inl ⟨h,by rw[hs.out];rfl⟩⟩
 ·have h':l<n:=(by omega);go_enter Tryz.func183,Tryz.ntmps183
  go_wp2
  go_ret;exact⟨zD _ _,.inr ⟨h',rfl⟩⟩
theorem K3{w:World}(x:iG):Calls Tryz.prog 276 #[.agg #[.int .i64 x.m7,.int .i64 x.fA,.int .i64 x.fB,.int .i64 x.fC],.agg #[.int .i64 x.m7,.int .i64 x.fA,.int .i64 x.fB,.int .i64 x.fC]] w (iP w):=by
 have hb0:yT w ((w.alloc (.cells #[.int .i64 x.m7,.int .i64 x.fA,.int .i64 x.fB,.int .i64 x.fC] 76)).alloc (.cells #[.int .i64 x.m7,.int .i64 x.fA,.int .i64 x.fB,.int .i64 x.fC] 76)):=((zD _ _).alloc (zC _) _).alloc (by simp) _;go_enter Tryz.func276,Tryz.ntmps276
 go_wp2
 repeat (go_quiet (fail);go_wp2)
 go_ret;exact⟨rfl,by first|exact hb0|exact gz hb0 _|go_grown⟩
theorem IC{A A':Option Addr}{n c c' hi hi':Nat}{xs:List iG}{w:World}(h:a_ dX w hi A n xs)(h':a_ dX w hi' A' n xs)(hh:hi≤w.heap.size)(KF:hi'≤w.heap.size)(hn:n≤1048576) :
  Calls Tryz.prog 219 #[.slice A n c,.slice A' n c'] w (iP w):=by
 go_enter Tryz.func219,Tryz.ntmps219
 go_wp2
 go_loopw[5] (fun i wr=>∃k:Nat,k≤n∧i=.int .i64 k∧yT w wr) (fun i _=>n-(intOf i).toNat)
 case atStart=>exact⟨0,zL _,rfl,zD _ _⟩
 case round =>
  obtain⟨k,hk,rfl,hb⟩:=hrel;have z:=hb.size;by_cases hlt:k<n
  ·obtain⟨hx,g,o,vs,rfl,hg,⟨rfl,hw⟩,hc⟩:=(h.below hb hh).at_ hlt;obtain⟨hx',g',o',vs',rfl,nI,⟨rfl,hw'⟩,hc'⟩:=(h'.below hb KF).at_ hlt;have dK:=hc 0 _ rfl;have xw:=hc' 0 _ rfl;have eu:=hc 1 _ rfl;have zh:=hc' 1 _ rfl;have ig:=hc 2 _ rfl;have CS:=hc' 2 _ rfl;have jf:=hc 3 _ rfl;have H_:=hc' 3 _ rfl;simp only[show dX.size=4 from rfl,←zH,zI,zK] at dK eu ig jf xw zh CS H_;clear hc hc' hw hw';generalize xs[k]=x at *;have HE:=zA (fun W:World=>K3 (w:=W) x);have jJ:(0:Int)≤(k:Int):=(by omega);have u_:(k:Int)<(n:Int):=(by omega);go_wp2_with fail
   go_region_with (go_at_call 276;refine (HE.out _).mono ?_;rintro e w1 ⟨rfl,hb1⟩)
   all_goals
    have oQ:yT w w1:=hb.drew.trans (hb1.mono z);clear hb1 HE dK eu ig jf xw zh CS H_;go_wp2_with fail
    go_roundw
    case rel=>exact⟨k+1,by omega,by go_num,oQ⟩
    case measure=>simp[intOf];omega
  ·go_wp2
   go_ret;exact⟨rfl,hb⟩
theorem NU{w:World}{hi:Nat}{x:iG}{vs:List Value}(h:dX.see w hi x vs) :
  Calls Tryz.prog 264 #[.agg vs.toArray] w (su dX w x):=by
 obtain⟨rfl,hw⟩:=h;have HW:=zA hw;clear hw;show Calls Tryz.prog 264 #[.agg #[.int .i64 x.m7,.int .i64 x.fA,.int .i64 x.fB,.int .i64 x.fC]] w (su dX w x)
 go_enter Tryz.func264,Tryz.ntmps264
 go_wp2
 refine bodyPost_ret (v := .agg #[.int .i64 x.m7,.int .i64 x.fA,.int .i64 x.fB,.int .i64 x.fC]) (by simp[results,Tryz.results264,go_sem]) rfl ?_;exact⟨_,rfl,⟨rfl,HW.out⟩,by go_grown⟩
theorem S_:(Tryz.prog.info? 76).map (fun i=>(i.zero,i.size,i.bytes))=some (some (.agg #[.int .i64 0,.int .i64 0,.int .i64 0,.int .i64 0]),4,32):=by kernel_rfl
theorem K5{w:World}{A:Option Addr}{n c hi:Nat}{xs:List iG}(h:a_ dX w hi A n xs)(cu:hi≤w.heap.size)(hn:n≤1048576) :
  Calls Tryz.prog 195 #[.slice A n c] w (vw dX 76 w n xs):=by
 obtain⟨i0,jJ,hz0,hz1,hz2⟩:=info_parts S_;have hmk:=fun W:World=>run_make (P:=Tryz.prog) W 178 76 i0 _ Tryz.underlying178 jJ hz0 .i64 .i64 n n (by omega) (by omega) (by rw[hz2];omega) (by omega)
 simp only[hz1,yA] at hmk;have HL:=zA h.1;clear jJ hz0 hz1 hz2;go_enter Tryz.func195,Tryz.ntmps195
 go_wp2
 clear hmk;go_loopw[4] (fun i wr=>∃k:Nat,k≤n∧i=.int .i64 k∧Part dX 76 wr w.heap.size n xs k wr.heap.size∧yT w wr) (fun i _=>n-(intOf i).toNat)
 case atStart =>
  refine⟨0,zL _,rfl,?_,(zD _ _).alloc (zC _) _⟩;have hm:=Own.made (size:=4) (e:=76) w (madeCells #[.int .i64 0,.int .i64 0,.int .i64 0,.int .i64 0] (n*4)) n n (by simp only[maxLen];omega) (by simp[size_madeCells]) (zC _);exact Part.start HL.out hm (by simp)
 case round =>
  obtain⟨k,hk,rfl,hpart,hb⟩:=hrel;have z:=hb.size;by_cases hlt:k<n
  ·obtain⟨hx,g,o,vs,rfl,hg,aW,hcell⟩:=(h.below hb cu).at_ hlt;have jh:=zA (zG hx);generalize xs[k]=x at *;have HE:=zA (fun (W:World) (hW:yT wr W)=>NU (w:=W) (dX.keep aW fun k hk=>hW.block k (by omega)));obtain⟨rfl,hw⟩:=aW;have dK:=hcell 0 _ rfl;have eu:=hcell 1 _ rfl;have ig:=hcell 2 _ rfl;have jf:=hcell 3 _ rfl;simp only[show dX.size=4 from rfl,←zH,zI,zK] at dK eu ig jf;clear hcell;go_wp2_with fail
   refine (HE.out _ (zD _ _)).mono ?_;rintro e w1 ⟨us,rfl,dU,hb1⟩;have zy:=dX.len (dX.seen dU (hi:=w1.heap.size) fun g hg=>hg.2);have hsu:=dX.seen dU (hi:=w1.heap.size) fun g hg=>hg.2
   obtain⟨rfl,hwu⟩:=hsu;have oH:=hpart.below hb1;obtain⟨⟨v0,KE⟩,hf0⟩:=oH.room hlt 0 (by decide);obtain⟨⟨v1,ho1⟩,PG⟩:=oH.room hlt 1 (by decide);obtain⟨⟨v2,ho2⟩,hf2⟩:=oH.room hlt 2 (by decide);obtain⟨⟨v3,Xp⟩,hf3⟩:=oH.room hlt 3 (by decide);have xM:=oH.step jh.out zy dU (fun g hg=>hg);have hb2:yT w w1:=hb.trans (hb1.mono z);simp only[show dX.size=4 from rfl,←zH,zI,zK] at KE hf0 ho1 PG ho2 hf2 Xp hf3 xM;clear hpart oH hb1 HE dU zy dK eu ig jf;go_wp2_with fail
   go_roundw
   case rel=>exact⟨k+1,by omega,by go_num,by simpa[putCells] using xM,by go_grown⟩
   case measure=>simp[intOf];omega
  ·go_wp2_with fail
   go_ret;obtain rfl:k=n:=(by omega);exact⟨_,_,rfl,hpart.done,hb⟩
structure mM where
 jT:List iG
def eU:Lay mM:=(dX.slice 76).via fun x=>x.jT
theorem Tc:lD Tryz.prog 150 eU :=
 qG _ (fun a=>⟨⟨a⟩,rfl⟩) (jq Tryz.underlying150 (by kernel_rfl) (.one rfl (lY Tryz.underlying148 (by kernel_rfl) (by decide) Qc)))
theorem mr{w:World}{hi:Nat}{x:mM}{vs:List Value}(h:eU.see w hi x vs):∃A0 n0 c0,vs=[.slice A0 n0 c0]∧(n0≤c0∧c0≤maxLen∧a_ dX w hi A0 n0 x.jT):=by
 have s0:=h;obtain⟨A0,n0,c0,rfl,h0⟩:=s0;exact⟨A0,n0,c0,rfl,h0⟩
theorem Rz{w:World}{F:Nat→Prop}{x:mM}{A0:Option Addr}{n0 c0:Nat}{F0:Nat→Prop}(h0:aB dX 76 w F0 A0 n0 c0 x.jT)(k0:∀g,F0 g→F g):eU.own w F x [.slice A0 n0 c0]:=by
 exact⟨A0,n0,c0,rfl,h0.wide k0⟩
def g7(x:mM):Nat:=x.jT.length
theorem Qd{w:World}{hi l:Nat}{x:mM}{vs:List Value}(h:eU.see w hi x vs)(cu:hi≤w.heap.size)(hl:l≤1048576) :
  Calls Tryz.prog 90 #[.agg vs.toArray,.int .i64 (l:Int)] w (nO w l (g7 x)):=by
 obtain⟨A0,n0,c0,rfl,⟨hc0,hm0,s0⟩⟩:=mr h;have hb0:yT w (w.alloc (.cells #[.slice A0 n0 c0] 150)):=(zD _ _).alloc (zC _) _;have hz0:w.heap.size+1≤(w.alloc (.cells #[.slice A0 n0 c0] 150)).heap.size:=(by simp);go_enter Tryz.func90,Tryz.ntmps90
 have L0:=zA s0.1;go_wp2_with fail
 refine (KZ (l:=l) (by omega) (zJ hc0 hm0)).mono ?_;rintro e w1 ⟨hb1,hcase⟩;have z1:=hb1.size;obtain⟨eX,gQ⟩:=bn hb1;simp only[zF] at z1;have gX:w.heap.size<w1.heap.size:=(by omega);have hB1:yT w w1:=hb0.trans (hb1.mono (by simp));rcases hcase with⟨h10,rfl⟩|⟨h10,rfl⟩
 ·go_wp2_with fail
  go_ret;exact⟨hB1,.inl ⟨by unfold g7;rw[L0.out];omega,by unfold g7;rw[L0.out];go_num⟩⟩
 ·go_wp2_with fail
  go_ret;exact⟨hB1,.inr ⟨by unfold g7;rw[L0.out];omega,rfl⟩⟩
theorem NV{w:World}{hi n c l:Nat}{A:Option Addr}{ds:List mM}(h:a_ eU w hi A n ds)(cu:hi≤w.heap.size)(hl:l≤1048576)(hn:n≤maxLen) :
  Calls Tryz.prog 34 #[.slice A n c,.int .i64 (l:Int)] w (nO w l (n+(ds.map g7).sum)):=by
 unfold maxLen at hn;have HL:=zA h.1;by_cases h0:n≤l
 ·go_enter Tryz.func34,Tryz.ntmps34
  go_wp2_with fail
  go_loopw[1,5] (fun q i wr=>∃k:Nat,k≤n∧i=.int .i64 k∧n+((ds.take k).map g7).sum≤l∧q=.int .i64 ((l-(n+((ds.take k).map g7).sum):Nat):Int)∧yT w wr) (fun _ i _=>n-(intOf i).toNat)
  case atStart=>exact⟨0,zL _,rfl,by simpa using h0,by simp;go_num,zD _ _⟩
  case round =>
   obtain⟨k,hk,rfl,hle,rfl,hb⟩:=hrel;have z:=hb.size;by_cases hlt:k<n
   ·obtain⟨hx,g,o,vs,rfl,hg,aW,hcell⟩:=(h.below hb cu).at_ hlt;have iJ:=aW;have KG:=zA (jQ (f:=g7) (zG hx));have Ue:=lh g7 ds (k+1);rw[KG.out] at Ue;generalize ds[k]=d at *;obtain⟨A0,n0,c0,rfl,⟨hc0,hm0,s0⟩⟩:=mr aW;have dK:=hcell 0 _ rfl;simp only[show eU.size=1 from rfl,←zH,zI,zK] at dK;clear hcell aW s0;generalize hT:((ds.take k).map g7).sum=S at *;have HT:=zA hT;clear hT;go_wp2_with fail
    refine (Qd (l:=l-(n+S)) iJ (by omega) (by omega)).mono ?_;rintro e w1 ⟨hb1,hcase⟩;have oQ:yT w w1:=hb.trans (hb1.mono z);clear dK hb1 iJ;rcases hcase with⟨h1,rfl⟩|⟨h1,rfl⟩
    ·go_wp2_with fail
     go_roundw
     case rel=>exact⟨k+1,by omega,by go_num,by rw[KG.out];omega,by rw[KG.out];go_num,oQ⟩
     case measure=>simp[intOf];omega
    ·go_wp2_with fail
     go_ret;exact⟨oQ,.inr ⟨by omega,rfl⟩⟩
   ·go_wp2_with fail
    go_ret;obtain rfl:k=n:=(by omega);have Xo:ds.take k=ds:=zU (by rw[HL.out];exact zC _);rw[Xo] at hle ⊢;exact⟨hb,.inl ⟨hle,rfl⟩⟩
 ·have h1:l<n:=(by omega);clear h;go_enter Tryz.func34,Tryz.ntmps34
  go_wp2_with fail
  go_ret;exact⟨zD _ _,.inr ⟨by omega,rfl⟩⟩
theorem NW{w:World}{hi hi':Nat}{x:mM}{vs vs':List Value}(h:eU.see w hi x vs)(h':eU.see w hi' x vs')(cu:hi≤w.heap.size)(vC:hi'≤w.heap.size)(hn:g7 x≤1048576) :
  Calls Tryz.prog 134 #[.agg vs.toArray,.agg vs'.toArray] w (iP w):=by
 obtain⟨A0,n0,c0,rfl,⟨hc0,hm0,s0⟩⟩:=mr h;obtain⟨Xy,Xz,UX,rfl,⟨Vp,Qa,NT⟩⟩:=mr h';obtain rfl:n0=Xz:=s0.1.symm.trans NT.1;have L0:=zA s0.1;have jS:=hn;unfold g7 at jS;rw[L0.out] at jS;have hb0:yT w ((w.alloc (.cells #[.slice A0 n0 c0] 180)).alloc (.cells #[.slice Xy n0 UX] 180)):=((zD _ _).alloc (zC _) _).alloc (by simp) _;go_enter Tryz.func134,Tryz.ntmps134
 go_wp2_with fail
 refine (IC (s0.below hb0 cu) (NT.below hb0 vC) (by have:=hb0.size;omega) (by have:=hb0.size;omega) (by omega)).mono ?_;rintro e w1 ⟨rfl,hb1⟩;have z1:=hb1.size;obtain⟨eX,gQ⟩:=bn hb1;have hB1:yT w w1:=hb0.trans (hb1.mono (by simp;omega));simp only[zF] at z1;have gX:w.heap.size<w1.heap.size:=(by omega);have ik:w.heap.size+1<w1.heap.size:=(by omega);go_wp2_with fail
 go_ret;exact⟨rfl,by first|exact hB1|exact gz hB1 _⟩
theorem K6{A A':Option Addr}{n c c' hi hi':Nat}{xs:List mM}{w:World}(h:a_ eU w hi A n xs)(h':a_ eU w hi' A' n xs)(hh:hi≤w.heap.size)(KF:hi'≤w.heap.size)(hn:n≤1048576)(hs:(xs.map g7).sum≤1048576) :
  Calls Tryz.prog 60 #[.slice A n c,.slice A' n c'] w (iP w):=by
 go_enter Tryz.func60,Tryz.ntmps60
 go_wp2
 go_loopw[5] (fun i wr=>∃k:Nat,k≤n∧i=.int .i64 k∧yT w wr) (fun i _=>n-(intOf i).toNat)
 case atStart=>exact⟨0,zL _,rfl,zD _ _⟩
 case round =>
  obtain⟨k,hk,rfl,hb⟩:=hrel;have z:=hb.size;by_cases hlt:k<n
  ·obtain⟨hx,g,o,vs,rfl,hg,aW,hc⟩:=(h.below hb hh).at_ hlt;obtain⟨hx',g',o',vs',rfl,nI,qh,hc'⟩:=(h'.below hb KF).at_ hlt;have hsz:g7 xs[k]≤1048576:=zJ (dI g7 (zS hx)) hs;generalize xs[k]=x at *;have HE:=zA (fun (W:World) (hW:yT wr W)=>NW (eU.keep aW fun k hk=>hW.block k (by omega)) (eU.keep qh fun k hk=>hW.block k (by omega)) (by have:=hW.size;omega) (by have:=hW.size;omega) hsz);obtain⟨A0,n0,c0,rfl,⟨hc0,hm0,s0⟩⟩:=mr aW;obtain⟨Xy,Xz,UX,rfl,⟨Vp,Qa,NT⟩⟩:=mr qh;have dK:=hc 0 _ rfl;have xw:=hc' 0 _ rfl;simp only[show eU.size=1 from rfl,←zH,zI,zK] at dK xw;clear hc hc' aW qh s0 NT;have jJ:(0:Int)≤(k:Int):=(by omega);have u_:(k:Int)<(n:Int):=(by omega);have hb0:yT wr wr.drew:=(zD _ _).drew;go_wp2_with fail
   go_region_with (go_at_call 134;refine (HE.out _ hb0).mono ?_;rintro e w1 ⟨rfl,hb1⟩)
   all_goals
    have oQ:yT w w1:=hb.drew.trans (hb1.mono z);clear hb1 HE dK xw;go_wp2_with fail
    go_roundw
    case rel=>exact⟨k+1,by omega,by go_num,oQ⟩
    case measure=>simp[intOf];omega
  ·go_wp2
   go_ret;exact⟨rfl,hb⟩
theorem Qe{w:World}{hi:Nat}{x:mM}{vs:List Value}(h:eU.see w hi x vs)(cu:hi≤w.heap.size)(hn:g7 x≤1048576) :
  Calls Tryz.prog 109 #[.agg vs.toArray] w (su eU w x):=by
 obtain⟨A0,n0,c0,rfl,⟨hc0,hm0,s0⟩⟩:=mr h;have L0:=zA s0.1;have jS:=hn;unfold g7 at jS;rw[L0.out] at jS;have hb0:yT w (((w.alloc (.cells #[.slice A0 n0 c0] 150)).alloc (.cells #[.slice none 0 0] 180)).alloc (.cells #[.slice none 0 0] 180)):=by go_grown
 go_enter Tryz.func109,Tryz.ntmps109
 go_wp2_with fail
 refine (K5 (s0.below (B:=w.heap.size) ?_ cu) ?_ (by omega)).mono ?_
 ·go_grown
 ·simp;omega
 rintro e w1 ⟨B0,e0,rfl,dU,hb1⟩;have z1:=hb1.size;simp only[zF] at z1 dU;have hB1:yT w w1:=zQ (by go_grown) (hb1.mono (by simp;omega));obtain⟨eX,gQ⟩:=bn hb1;have gX:w.heap.size<w1.heap.size:=(by omega);have ik:w.heap.size+1<w1.heap.size:=(by omega);have CV:w.heap.size+1+1<w1.heap.size:=(by omega);go_wp2_with fail
 refine bodyPost_ret (v := .agg #[.slice B0 n0 e0]) (by simp[results,Tryz.results109,go_sem,eX,gX,ik,CV]) rfl ?_;refine⟨_,rfl,?_,?_⟩
 ·refine Rz (F:=_) (aB.turned dU (l:=w.heap.size+1) (r:=w.heap.size+3) ?t0 (fun g hg => .inl (by omega))) ?k0
  case t0 =>
   repeat (refine Turned.setCell ?_ (by simp) (by simp) _)
   exact Turned.refl _ _ _
  case k0=>intro g hg;simp only[zM];omega
 ·repeat (refine Below.setCell ?_ (by dsimp only;omega) _)
  exact hB1
theorem Vq:(Tryz.prog.info? 180).map (fun i=>(i.zero,i.size,i.bytes))=some (some (.agg #[.slice none 0 0]),1,24):=by kernel_rfl
theorem NY{w:World}{A:Option Addr}{n c hi:Nat}{xs:List mM}(h:a_ eU w hi A n xs)(cu:hi≤w.heap.size)(hn:n≤1048576)(hs:(xs.map g7).sum≤1048576) :
  Calls Tryz.prog 46 #[.slice A n c] w (vw eU 180 w n xs):=by
 obtain⟨i0,jJ,hz0,hz1,hz2⟩:=info_parts Vq;have hmk:=fun W:World=>run_make (P:=Tryz.prog) W 44 180 i0 _ Tryz.underlying44 jJ hz0 .i64 .i64 n n (by omega) (by omega) (by rw[hz2];omega) (by omega)
 simp only[hz1,yA] at hmk;have HL:=zA h.1;clear jJ hz0 hz1 hz2;go_enter Tryz.func46,Tryz.ntmps46
 go_wp2
 clear hmk;go_loopw[4] (fun i wr=>∃k:Nat,k≤n∧i=.int .i64 k∧Part eU 180 wr w.heap.size n xs k wr.heap.size∧yT w wr) (fun i _=>n-(intOf i).toNat)
 case atStart =>
  refine⟨0,zL _,rfl,?_,(zD _ _).alloc (zC _) _⟩;have hm:=Own.made (size:=1) (e:=180) w (madeCells #[.slice none 0 0] n) n n (by simp only[maxLen];omega) (by simp[size_madeCells]) (zC _);exact Part.start HL.out hm (by simp)
 case round =>
  obtain⟨k,hk,rfl,hpart,hb⟩:=hrel;have z:=hb.size;by_cases hlt:k<n
  ·obtain⟨hx,g,o,vs,rfl,hg,aW,hcell⟩:=(h.below hb cu).at_ hlt;have hsz:g7 xs[k]≤1048576:=zJ (dI g7 (zS hx)) hs;have jh:=zA (zG hx);generalize xs[k]=x at *;have HE:=zA (fun (W:World) (hW:yT wr W)=>Qe (w:=W) (eU.keep aW fun k hk=>hW.block k (by omega)) (by have:=hW.size;omega) hsz);obtain⟨A0,n0,c0,rfl,⟨hc0,hm0,s0⟩⟩:=mr aW;have dK:=hcell 0 _ rfl;simp only[show eU.size=1 from rfl,←zH,zI,zK] at dK;clear hcell;go_wp2_with fail
   refine (HE.out _ (zD _ _)).mono ?_;rintro e w1 ⟨us,rfl,dU,hb1⟩;have zy:=eU.len (eU.seen dU (hi:=w1.heap.size) fun g hg=>hg.2);have hsu:=eU.seen dU (hi:=w1.heap.size) fun g hg=>hg.2
   obtain⟨A0u,n0u,c0u,rfl,⟨ah8,ah9,s0u⟩⟩:=mr hsu;have oH:=hpart.below hb1;obtain⟨⟨v0,KE⟩,hf0⟩:=oH.room hlt 0 (by decide);have xM:=oH.step jh.out zy dU (fun g hg=>hg);have hb2:yT w w1:=hb.trans (hb1.mono z);simp only[show eU.size=1 from rfl,←zH,zI,zK] at KE hf0 xM;clear hpart oH hb1 HE dU zy dK s0 s0u;go_wp2_with fail
   go_roundw
   case rel=>exact⟨k+1,by omega,by go_num,by simpa[putCells] using xM,by go_grown⟩
   case measure=>simp[intOf];omega
  ·go_wp2_with fail
   go_ret;obtain rfl:k=n:=(by omega);exact⟨_,_,rfl,hpart.done,hb⟩
structure aS where
 iD:List Int
 ay:Int
 dR:List eG
 dP:List mM
def aV:Lay aS:=((Lay.int.slice 3).pair (Lay.int.pair ((bM.slice 168).pair (eU.slice 180)))).via fun x=>(x.iD,(x.ay,(x.dR,x.dP)))
theorem Td:lD Tryz.prog 26 aV :=
 qG _ (fun a=>⟨⟨a.1,a.2.1,a.2.2.1,a.2.2.2⟩,rfl⟩) (jq Tryz.underlying26 (by kernel_rfl) (.cons rfl (lY Tryz.underlying22 (by kernel_rfl) (by decide) (fZ Tryz.underlying3 (by kernel_rfl))) (.cons rfl (fZ Tryz.underlying3 (by kernel_rfl)) (.cons rfl (lY Tryz.underlying23 (by kernel_rfl) (by decide) NS) (.one rfl (lY Tryz.underlying24 (by kernel_rfl) (by decide) Tc))))))
theorem fH{w:World}{hi:Nat}{x:aS}{vs:List Value}(h:aV.see w hi x vs):∃A0 n0 c0 A2 n2 c2 A3 n3 c3,vs=[.slice A0 n0 c0,.int .i64 x.ay,.slice A2 n2 c2,.slice A3 n3 c3]∧(n0≤c0∧c0≤maxLen∧a_ Lay.int w hi A0 n0 x.iD)∧(Lit.int .i64 x.ay).wf=true∧(n2≤c2∧c2≤maxLen∧a_ bM w hi A2 n2 x.dR)∧(n3≤c3∧c3≤maxLen∧a_ eU w hi A3 n3 x.dP):=by
 obtain⟨_,_,rfl,s0,⟨_,_,rfl,s1,⟨_,_,rfl,s2,s3⟩⟩⟩:=h;obtain⟨A0,n0,c0,rfl,h0⟩:=s0;obtain⟨rfl,h1⟩:=s1;obtain⟨A2,n2,c2,rfl,h2⟩:=s2;obtain⟨A3,n3,c3,rfl,h3⟩:=s3;exact⟨A0,n0,c0,A2,n2,c2,A3,n3,c3,rfl,h0,h1,h2,h3⟩
theorem RD{w:World}{F:Nat→Prop}{x:aS}{A0:Option Addr}{n0 c0:Nat}{F0:Nat→Prop}(h0:aB Lay.int 3 w F0 A0 n0 c0 x.iD)(h1:(Lit.int .i64 x.ay).wf=true){A2:Option Addr}{n2 c2:Nat}{F2:Nat→Prop}(h2:aB bM 168 w F2 A2 n2 c2 x.dR){A3:Option Addr}{n3 c3:Nat}{F3:Nat→Prop}(h3:aB eU 180 w F3 A3 n3 c3 x.dP)(k0:∀g,F0 g→F g)(k2:∀g,F2 g→F g)(k3:∀g,F3 g→F g)(d02:∀g,F0 g→¬F2 g)(d03:∀g,F0 g→¬F3 g)(d23:∀g,F2 g→¬F3 g):aV.own w F x [.slice A0 n0 c0,.int .i64 x.ay,.slice A2 n2 c2,.slice A3 n3 c3]:=by
 exact⟨_,_,F0,(fun g=>F2 g∨F3 g),rfl,⟨A0,n0,c0,rfl,h0⟩,⟨_,_,(fun _=>False),(fun g=>F2 g∨F3 g),rfl,⟨rfl,h1⟩,⟨_,_,F2,(fun g=>F3 g),rfl,⟨A2,n2,c2,rfl,h2⟩,⟨A3,n3,c3,rfl,h3⟩,(fun g h=>Or.inl h),(fun g h=>Or.inr h),(fun g h h2=>by first|exact d23 g h h2)⟩,(fun g h=>h.elim),(fun g h=>h),(fun g h=>h.elim)⟩,k0,(fun g h=>by rcases h with h|h <;> first|exact k2 g h|exact k3 g h),(fun g h h2=>by rcases h2 with h2|h2 <;> first|exact d02 g h h2|exact d03 g h h2)⟩
def dV(x:aS):Nat:=x.iD.length+(x.dR.length+(x.dR.map dJ).sum)+(x.dP.length+(x.dP.map g7).sum)
theorem Qg{w:World}{hi l:Nat}{x:aS}{vs:List Value}(h:aV.see w hi x vs)(cu:hi≤w.heap.size)(hl:l≤1048576) :
  Calls Tryz.prog 6 #[.agg vs.toArray,.int .i64 (l:Int)] w (nO w l (dV x)):=by
 obtain⟨A0,n0,c0,A2,n2,c2,A3,n3,c3,rfl,⟨hc0,hm0,s0⟩,hw1,⟨hc2,jY,s2⟩,⟨hc3,Be,s3⟩⟩:=fH h;have hb0:yT w (w.alloc (.cells #[.slice A0 n0 c0,.int .i64 x.ay,.slice A2 n2 c2,.slice A3 n3 c3] 26)):=(zD _ _).alloc (zC _) _;have hz0:w.heap.size+1≤(w.alloc (.cells #[.slice A0 n0 c0,.int .i64 x.ay,.slice A2 n2 c2,.slice A3 n3 c3] 26)).heap.size:=(by simp);go_enter Tryz.func6,Tryz.ntmps6
 have L0:=zA s0.1;go_wp2_with fail
 refine (vY (l:=l) (by omega) (zJ hc0 hm0)).mono ?_;rintro e w1 ⟨hb1,hcase⟩;have z1:=hb1.size;obtain⟨eX,gQ⟩:=bn hb1;simp only[zF] at z1;have gX:w.heap.size<w1.heap.size:=(by omega);have hB1:yT w w1:=hb0.trans (hb1.mono (by simp));rcases hcase with⟨h10,rfl⟩|⟨h10,rfl⟩
 ·skip
  have L2:=zA s2.1;go_wp2_with fail
  refine (Iw (l:=l-n0) (s2.below hB1 cu) (by have:=hB1.size;omega) (by omega) (zJ hc2 jY)).mono ?_;rintro e w2 ⟨hb2,hcase⟩;have z2:=hb2.size;obtain⟨o7,sG⟩:=bn hb2;have rV:w.heap.size<w2.heap.size:=(by omega);have hB2:yT w w2:=hB1.trans (hb2.mono (by omega));rcases hcase with⟨h11,rfl⟩|⟨h11,rfl⟩
  ·skip
   have L3:=zA s3.1;go_wp2_with fail
   refine (NV (l:=l-n0-(n2+(x.dR.map dJ).sum)) (s3.below hB2 cu) (by have:=hB2.size;omega) (by omega) (zJ hc3 Be)).mono ?_;rintro e w3 ⟨hb3,hcase⟩;have z3:=hb3.size;obtain⟨z7,E8⟩:=bn hb3;have E_:w.heap.size<w3.heap.size:=(by omega);have qx:yT w w3:=hB2.trans (hb3.mono (by omega));rcases hcase with⟨Bf,rfl⟩|⟨Bf,rfl⟩
   ·go_wp2_with fail
    go_ret;exact⟨qx,.inl ⟨by unfold dV;rw[L0.out];rw[L2.out];rw[L3.out];omega,by unfold dV;rw[L0.out];rw[L2.out];rw[L3.out];go_num⟩⟩
   ·go_wp2_with fail
    go_ret;exact⟨qx,.inr ⟨by unfold dV;rw[L0.out];rw[L2.out];rw[L3.out];omega,rfl⟩⟩
  ·go_wp2_with fail
   go_ret;exact⟨hB2,.inr ⟨by unfold dV;rw[L0.out];rw[L2.out];omega,rfl⟩⟩
 ·go_wp2_with fail
  go_ret;exact⟨hB1,.inr ⟨by unfold dV;rw[L0.out];omega,rfl⟩⟩
theorem NZ{w:World}{hi hi':Nat}{x:aS}{vs vs':List Value}(h:aV.see w hi x vs)(h':aV.see w hi' x vs')(cu:hi≤w.heap.size)(vC:hi'≤w.heap.size)(hn:dV x≤1048576) :
  Calls Tryz.prog 14 #[.agg vs.toArray,.agg vs'.toArray] w (iP w):=by
 obtain⟨A0,n0,c0,A2,n2,c2,A3,n3,c3,rfl,⟨hc0,hm0,s0⟩,hw1,⟨hc2,jY,s2⟩,⟨hc3,Be,s3⟩⟩:=fH h;obtain⟨Xy,Xz,UX,Xq,n2',SI,A3',n3',c3',rfl,⟨Vp,Qa,NT⟩,Xr,⟨U6,U7,PQ⟩,⟨XA,adl,XB⟩⟩:=fH h';obtain rfl:n0=Xz:=s0.1.symm.trans NT.1;have L0:=zA s0.1;obtain rfl:n2=n2':=s2.1.symm.trans PQ.1;have L2:=zA s2.1;obtain rfl:n3=n3':=s3.1.symm.trans XB.1;have L3:=zA s3.1;have jS:=hn;unfold dV at jS;rw[L0.out] at jS;rw[L2.out] at jS;rw[L3.out] at jS;have hb0:yT w ((w.alloc (.cells #[.slice A0 n0 c0,.int .i64 x.ay,.slice A2 n2 c2,.slice A3 n3 c3] 46)).alloc (.cells #[.slice Xy n0 UX,.int .i64 x.ay,.slice Xq n2 SI,.slice A3' n3 c3'] 46)):=((zD _ _).alloc (zC _) _).alloc (by simp) _;go_enter Tryz.func14,Tryz.ntmps14
 go_wp2_with fail
 refine (uq (s0.below hb0 cu) (NT.below hb0 vC) (by omega)).mono ?_;rintro e w1 ⟨rfl,hb1⟩;have z1:=hb1.size;obtain⟨eX,gQ⟩:=bn hb1;have hB1:yT w w1:=hb0.trans (hb1.mono (by simp;omega));simp only[zF] at z1;have gX:w.heap.size<w1.heap.size:=(by omega);have ik:w.heap.size+1<w1.heap.size:=(by omega);go_wp2_with fail
 (try (go_quiet (fail)))
 go_wp2_with fail
 refine (FT (s2.below hB1 cu) (PQ.below hB1 vC) (by have:=hB1.size;omega) (by have:=hB1.size;omega) (by omega) (by omega)).mono ?_;rintro e w2 ⟨rfl,hb2⟩;have z2:=hb2.size;obtain⟨o7,sG⟩:=bn hb2;have hB2:yT w w2:=hB1.trans (hb2.mono (by omega));have rV:w.heap.size<w2.heap.size:=(by omega);have vz:w.heap.size+1<w2.heap.size:=(by omega);go_wp2_with fail
 refine (K6 (s3.below hB2 cu) (XB.below hB2 vC) (by have:=hB2.size;omega) (by have:=hB2.size;omega) (by omega) (by omega)).mono ?_;rintro e w3 ⟨rfl,hb3⟩;have z3:=hb3.size;obtain⟨z7,E8⟩:=bn hb3;have qx:yT w w3:=hB2.trans (hb3.mono (by omega));have E_:w.heap.size<w3.heap.size:=(by omega);have Nr:w.heap.size+1<w3.heap.size:=(by omega);go_wp2_with fail
 go_ret;exact⟨rfl,by first|exact qx|exact gz qx _⟩
theorem wz{w:World}{hi:Nat}{x:aS}{vs:List Value}(h:aV.see w hi x vs)(cu:hi≤w.heap.size)(hn:dV x≤1048576) :
  Calls Tryz.prog 9 #[.agg vs.toArray] w (su aV w x):=by
 obtain⟨A0,n0,c0,A2,n2,c2,A3,n3,c3,rfl,⟨hc0,hm0,s0⟩,hw1,⟨hc2,jY,s2⟩,⟨hc3,Be,s3⟩⟩:=fH h;have L0:=zA s0.1;have L2:=zA s2.1;have L3:=zA s3.1;have jS:=hn;unfold dV at jS;rw[L0.out] at jS;rw[L2.out] at jS;rw[L3.out] at jS;have hb0:yT w (((w.alloc (.cells #[.slice A0 n0 c0,.int .i64 x.ay,.slice A2 n2 c2,.slice A3 n3 c3] 26)).alloc (.cells #[.slice none 0 0,.int .i64 0,.slice none 0 0,.slice none 0 0] 46)).alloc (.cells #[.slice none 0 0,.int .i64 0,.slice none 0 0,.slice none 0 0] 46)):=by go_grown
 go_enter Tryz.func9,Tryz.ntmps9
 go_wp2_with fail
 refine (vZ (s0.below (B:=w.heap.size) ?_ cu) ?_ (by omega)).mono ?_
 ·go_grown
 ·simp;omega
 rintro e w1 ⟨B0,e0,rfl,dU,hb1⟩;have z1:=hb1.size;simp only[zF] at z1 dU;have hB1:yT w w1:=zQ (by go_grown) (hb1.mono (by simp;omega));obtain⟨eX,gQ⟩:=bn hb1;have gX:w.heap.size<w1.heap.size:=(by omega);have ik:w.heap.size+1<w1.heap.size:=(by omega);have CV:w.heap.size+1+1<w1.heap.size:=(by omega);go_wp2_with fail
 refine (Iz (s2.below (B:=w.heap.size) ?_ cu) ?_ (by omega) (by omega)).mono ?_
 ·repeat (refine Below.setCell ?_ (by dsimp only;omega) _)
  exact hB1
 ·simp;omega
 rintro e w2 ⟨B2,e2,rfl,mQ,hb2⟩;have z2:=hb2.size;simp only[zM] at z2 mQ;have qX:Turned (w.heap.size+1) (w.heap.size+3) w1 w2:=by
  refine Turned.trans ?_ (Turned.of_below hb2 _ _);repeat (refine Turned.setCell ?_ (by simp) (by simp) _)
  exact Turned.refl _ _ _
 have hB2:yT w w2:=hB1.trans (qX.below (by omega) (by omega));replace dU:=dU.turned qX (fun g hg => .inl (by omega));obtain⟨o7,sG⟩:=bn hb2;have rV:w.heap.size<w2.heap.size:=(by omega);have vz:w.heap.size+1<w2.heap.size:=(by omega);have PK:w.heap.size+1+1<w2.heap.size:=(by omega);go_wp2_with fail
 refine (NY (s3.below (B:=w.heap.size) ?_ cu) ?_ (by omega) (by omega)).mono ?_
 ·repeat (refine Below.setCell ?_ (by dsimp only;omega) _)
  exact hB2
 ·simp;omega
 rintro e w3 ⟨B3,e3,rfl,xx,hb3⟩;have z3:=hb3.size;simp only[zM] at z3 xx;have qA:Turned (w.heap.size+1) (w.heap.size+3) w2 w3:=by
  refine Turned.trans ?_ (Turned.of_below hb3 _ _);repeat (refine Turned.setCell ?_ (by simp) (by simp) _)
  exact Turned.refl _ _ _
 have qx:yT w w3:=hB2.trans (qA.below (by omega) (by omega));replace dU:=dU.turned qA (fun g hg => .inl (by omega));replace mQ:=mQ.turned qA (fun g hg => .inl (by omega));obtain⟨z7,E8⟩:=bn hb3;have E_:w.heap.size<w3.heap.size:=(by omega);have Nr:w.heap.size+1<w3.heap.size:=(by omega);have U1:w.heap.size+1+1<w3.heap.size:=(by omega);go_wp2_with fail
 refine bodyPost_ret (v := .agg #[.slice B0 n0 e0,.int .i64 x.ay,.slice B2 n2 e2,.slice B3 n3 e3]) (by simp[results,Tryz.results9,go_sem,eX,gX,ik,CV,o7,rV,vz,PK,z7,E_,Nr,U1]) rfl ?_;refine⟨_,rfl,?_,?_⟩
 ·refine RD (F:=_) (aB.turned dU (l:=w.heap.size+1) (r:=w.heap.size+3) ?t0 (fun g hg => .inl (by omega))) hw1 (aB.turned mQ (l:=w.heap.size+1) (r:=w.heap.size+3) ?t2 (fun g hg => .inl (by omega))) (aB.turned xx (l:=w.heap.size+1) (r:=w.heap.size+3) ?t3 (fun g hg => .inl (by omega))) ?k0 ?k2 ?k3 ?d02 ?d03 ?d23
  case t0 =>
   repeat (refine Turned.setCell ?_ (by simp) (by simp) _)
   exact Turned.refl _ _ _
  case t2 =>
   repeat (refine Turned.setCell ?_ (by simp) (by simp) _)
   exact Turned.refl _ _ _
  case t3 =>
   repeat (refine Turned.setCell ?_ (by simp) (by simp) _)
   exact Turned.refl _ _ _
  case k0=>intro g hg;simp only[zM];omega
  case k2=>intro g hg;simp only[zM];omega
  case k3=>intro g hg;simp only[zM];omega
  case d02=>intro g hg nI;omega
  case d03=>intro g hg nI;omega
  case d23=>intro g hg nI;omega
 ·repeat (refine Below.setCell ?_ (by dsimp only;omega) _)
  exact qx
end Go.Proofs.YtjcoapnggojpdaaGreatDoor
