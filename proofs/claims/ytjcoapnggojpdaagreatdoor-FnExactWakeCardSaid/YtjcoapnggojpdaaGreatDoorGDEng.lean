/- Texts of the proof, laid compactly. -/
import Derived.Test.YtjcoapnggojpdaaGreatDoorGBase
set_option maxHeartbeats 2000000
set_option maxRecDepth 100000
namespace Go.Proofs.YtjcoapnggojpdaaGreatDoor
set_option linter.unusedSimpArgs false
set_option linter.unusedVariables false
open Go.RowKit
structure di where
 fG:Int
 bK:Int
 bU:Int
def aN:Lay di:=Lay.flat 3 (fun x=>[.int .i64 x.fG,.int .i64 x.bK,.int .i64 x.bU]) (fun x=>(Lit.int .i64 x.fG).wf=true∧(Lit.int .i64 x.bK).wf=true∧(Lit.int .i64 x.bU).wf=true) (fun _=>rfl)
theorem xQ:lD Tryz.prog 33 aN:=by
 refine lD.to (jq Tryz.underlying33 (by kernel_rfl) (.cons rfl (fZ Tryz.underlying3 (by kernel_rfl)) (.cons rfl (fZ Tryz.underlying3 (by kernel_rfl)) (.one rfl (fZ Tryz.underlying3 (by kernel_rfl)))))) rfl fun w hi a vs h => ?_
 obtain⟨a0,a1,a2⟩:=a;obtain⟨_,_,rfl,s0,⟨_,_,rfl,s1,s2⟩⟩:=h;obtain⟨rfl,h0⟩:=s0;obtain⟨rfl,h1⟩:=s1;obtain⟨rfl,h2⟩:=s2;exact⟨⟨a0,a1,a2⟩,rfl,h0,h1,h2⟩
theorem Af{w:World}{A:Option Addr}{n c l:Nat}(hl:l≤1048576)(hn:n≤maxLen) :
  Calls Tryz.prog 185 #[.slice A n c,.int .i64 (l:Int)] w (nO w l n):=by
 unfold maxLen at hn;by_cases h:n≤l
 ·have hs:Hid ((l:Int)-(n:Int)=((l-n:Nat):Int)):=zA (by omega);go_enter Tryz.func185,Tryz.ntmps185
  go_wp2
  go_ret;exact⟨zD _ _,.inl ⟨h,by rw[hs.out];rfl⟩⟩
 ·have h':l<n:=(by omega);go_enter Tryz.func185,Tryz.ntmps185
  go_wp2
  go_ret;exact⟨zD _ _,.inr ⟨h',rfl⟩⟩
theorem Ag{w:World}(x:di):Calls Tryz.prog 274 #[.agg #[.int .i64 x.fG,.int .i64 x.bK,.int .i64 x.bU],.agg #[.int .i64 x.fG,.int .i64 x.bK,.int .i64 x.bU]] w (iP w):=by
 have hb0:yT w ((w.alloc (.cells #[.int .i64 x.fG,.int .i64 x.bK,.int .i64 x.bU] 49)).alloc (.cells #[.int .i64 x.fG,.int .i64 x.bK,.int .i64 x.bU] 49)):=((zD _ _).alloc (zC _) _).alloc (by simp) _;go_enter Tryz.func274,Tryz.ntmps274
 go_wp2
 repeat (go_quiet (fail);go_wp2)
 go_ret;exact⟨rfl,by first|exact hb0|exact gz hb0 _|go_grown⟩
theorem U0{A A':Option Addr}{n c c' hi hi':Nat}{xs:List di}{w:World}(h:a_ aN w hi A n xs)(h':a_ aN w hi' A' n xs)(hh:hi≤w.heap.size)(KF:hi'≤w.heap.size)(hn:n≤1048576) :
  Calls Tryz.prog 217 #[.slice A n c,.slice A' n c'] w (iP w):=by
 go_enter Tryz.func217,Tryz.ntmps217
 go_wp2
 go_loopw[5] (fun i wr=>∃k:Nat,k≤n∧i=.int .i64 k∧yT w wr) (fun i _=>n-(intOf i).toNat)
 case atStart=>exact⟨0,zL _,rfl,zD _ _⟩
 case round =>
  obtain⟨k,hk,rfl,hb⟩:=hrel;have z:=hb.size;by_cases hlt:k<n
  ·obtain⟨hx,g,o,vs,rfl,hg,⟨rfl,hw⟩,hc⟩:=(h.below hb hh).at_ hlt;obtain⟨hx',g',o',vs',rfl,nI,⟨rfl,hw'⟩,hc'⟩:=(h'.below hb KF).at_ hlt;have dK:=hc 0 _ rfl;have xw:=hc' 0 _ rfl;have eu:=hc 1 _ rfl;have zh:=hc' 1 _ rfl;have ig:=hc 2 _ rfl;have CS:=hc' 2 _ rfl;simp only[show aN.size=3 from rfl,←zH,zI,zK] at dK eu ig xw zh CS;clear hc hc' hw hw';generalize xs[k]=x at *;have HE:=zA (fun W:World=>Ag (w:=W) x);have jJ:(0:Int)≤(k:Int):=(by omega);have u_:(k:Int)<(n:Int):=(by omega);go_wp2_with fail
   go_region_with (go_at_call 274;refine (HE.out _).mono ?_;rintro e w1 ⟨rfl,hb1⟩)
   all_goals
    have oQ:yT w w1:=hb.drew.trans (hb1.mono z);clear hb1 HE dK eu ig xw zh CS;go_wp2_with fail
    go_roundw
    case rel=>exact⟨k+1,by omega,by go_num,oQ⟩
    case measure=>simp[intOf];omega
  ·go_wp2
   go_ret;exact⟨rfl,hb⟩
theorem rU{w:World}{hi:Nat}{x:di}{vs:List Value}(h:aN.see w hi x vs) :
  Calls Tryz.prog 11 #[.agg vs.toArray] w (su aN w x):=by
 obtain⟨rfl,hw⟩:=h;have HW:=zA hw;clear hw;show Calls Tryz.prog 11 #[.agg #[.int .i64 x.fG,.int .i64 x.bK,.int .i64 x.bU]] w (su aN w x)
 go_enter Tryz.func11,Tryz.ntmps11
 go_wp2
 refine bodyPost_ret (v := .agg #[.int .i64 x.fG,.int .i64 x.bK,.int .i64 x.bU]) (by simp[results,Tryz.results11,go_sem]) rfl ?_;exact⟨_,rfl,⟨rfl,HW.out⟩,by go_grown⟩
theorem sD:(Tryz.prog.info? 49).map (fun i=>(i.zero,i.size,i.bytes))=some (some (.agg #[.int .i64 0,.int .i64 0,.int .i64 0]),3,24):=by kernel_rfl
theorem Ah{w:World}{A:Option Addr}{n c hi:Nat}{xs:List di}(h:a_ aN w hi A n xs)(cu:hi≤w.heap.size)(hn:n≤1048576) :
  Calls Tryz.prog 197 #[.slice A n c] w (vw aN 49 w n xs):=by
 obtain⟨i0,jJ,hz0,hz1,hz2⟩:=info_parts sD;have hmk:=fun W:World=>run_make (P:=Tryz.prog) W 133 49 i0 _ Tryz.underlying133 jJ hz0 .i64 .i64 n n (by omega) (by omega) (by rw[hz2];omega) (by omega)
 simp only[hz1,yA] at hmk;have HL:=zA h.1;clear jJ hz0 hz1 hz2;go_enter Tryz.func197,Tryz.ntmps197
 go_wp2
 clear hmk;go_loopw[4] (fun i wr=>∃k:Nat,k≤n∧i=.int .i64 k∧Part aN 49 wr w.heap.size n xs k wr.heap.size∧yT w wr) (fun i _=>n-(intOf i).toNat)
 case atStart =>
  refine⟨0,zL _,rfl,?_,(zD _ _).alloc (zC _) _⟩;have hm:=Own.made (size:=3) (e:=49) w (madeCells #[.int .i64 0,.int .i64 0,.int .i64 0] (n*3)) n n (by simp only[maxLen];omega) (by simp[size_madeCells]) (zC _);exact Part.start HL.out hm (by simp)
 case round =>
  obtain⟨k,hk,rfl,hpart,hb⟩:=hrel;have z:=hb.size;by_cases hlt:k<n
  ·obtain⟨hx,g,o,vs,rfl,hg,aW,hcell⟩:=(h.below hb cu).at_ hlt;have jh:=zA (zG hx);generalize xs[k]=x at *;have HE:=zA (fun (W:World) (hW:yT wr W)=>rU (w:=W) (aN.keep aW fun k hk=>hW.block k (by omega)));obtain⟨rfl,hw⟩:=aW;have dK:=hcell 0 _ rfl;have eu:=hcell 1 _ rfl;have ig:=hcell 2 _ rfl;simp only[show aN.size=3 from rfl,←zH,zI,zK] at dK eu ig;clear hcell;go_wp2_with fail
   refine (HE.out _ (zD _ _)).mono ?_;rintro e w1 ⟨us,rfl,dU,hb1⟩;have zy:=aN.len (aN.seen dU (hi:=w1.heap.size) fun g hg=>hg.2);have hsu:=aN.seen dU (hi:=w1.heap.size) fun g hg=>hg.2
   obtain⟨rfl,hwu⟩:=hsu;have oH:=hpart.below hb1;obtain⟨⟨v0,KE⟩,hf0⟩:=oH.room hlt 0 (by decide);obtain⟨⟨v1,ho1⟩,PG⟩:=oH.room hlt 1 (by decide);obtain⟨⟨v2,ho2⟩,hf2⟩:=oH.room hlt 2 (by decide);have xM:=oH.step jh.out zy dU (fun g hg=>hg);have hb2:yT w w1:=hb.trans (hb1.mono z);simp only[show aN.size=3 from rfl,←zH,zI,zK] at KE hf0 ho1 PG ho2 hf2 xM;clear hpart oH hb1 HE dU zy dK eu ig;go_wp2_with fail
   go_roundw
   case rel=>exact⟨k+1,by omega,by go_num,by simpa[putCells] using xM,by go_grown⟩
   case measure=>simp[intOf];omega
  ·go_wp2_with fail
   go_ret;obtain rfl:k=n:=(by omega);exact⟨_,_,rfl,hpart.done,hb⟩
structure gy where
 dC:Int
 k6:List Int
 dh:List di
 dG:List di
 aC:Bool
def bD:Lay gy:=(Lay.int.pair ((Lay.int.tail 3).pair ((aN.tail 49).pair ((aN.tail 49).pair Lay.bool)))).via fun x=>(x.dC,(x.k6,(x.dh,(x.dG,x.aC))))
theorem SE:lD Tryz.prog 158 bD :=
 qG _ (fun a=>⟨⟨a.1,a.2.1,a.2.2.1,a.2.2.2.1,a.2.2.2.2⟩,rfl⟩) (jq Tryz.underlying158 (by kernel_rfl) (.cons rfl (fZ Tryz.underlying3 (by kernel_rfl)) (.cons rfl (qH Tryz.underlying22 (by kernel_rfl) (by decide) (fZ Tryz.underlying3 (by kernel_rfl))) (.cons rfl (qH Tryz.underlying156 (by kernel_rfl) (by decide) xQ) (.cons rfl (qH Tryz.underlying156 (by kernel_rfl) (by decide) xQ) (.one rfl (Bd Tryz.underlying4 (by kernel_rfl))))))))
theorem jF{w:World}{hi:Nat}{x:gy}{vs:List Value}(h:bD.see w hi x vs):∃A1 n1 c1 A2 n2 c2 A3 n3 c3,vs=[.int .i64 x.dC,.slice A1 n1 c1,.slice A2 n2 c2,.slice A3 n3 c3,.bool x.aC]∧(Lit.int .i64 x.dC).wf=true∧(n1≤c1∧c1≤maxLen∧a_ Lay.int w hi A1 n1 x.k6)∧(n2≤c2∧c2≤maxLen∧a_ aN w hi A2 n2 x.dh)∧(n3≤c3∧c3≤maxLen∧a_ aN w hi A3 n3 x.dG):=by
 obtain⟨_,_,rfl,s0,⟨_,_,rfl,s1,⟨_,_,rfl,s2,⟨_,_,rfl,s3,s4⟩⟩⟩⟩:=h;obtain⟨rfl,h0⟩:=s0;obtain⟨A1,n1,c1,rfl,h1⟩:=s1;obtain⟨A2,n2,c2,rfl,h2⟩:=s2;obtain⟨A3,n3,c3,rfl,h3⟩:=s3;obtain⟨rfl,h4⟩:=s4;exact⟨A1,n1,c1,A2,n2,c2,A3,n3,c3,rfl,h0,h1,h2,h3⟩
theorem zi{w:World}{F:Nat→Prop}{x:gy}(h0:(Lit.int .i64 x.dC).wf=true){A1:Option Addr}{n1 c1:Nat}{F1:Nat→Prop}(h1:dD Lay.int 3 w F1 A1 n1 c1 x.k6){A2:Option Addr}{n2 c2:Nat}{F2:Nat→Prop}(h2:dD aN 49 w F2 A2 n2 c2 x.dh){A3:Option Addr}{n3 c3:Nat}{F3:Nat→Prop}(h3:dD aN 49 w F3 A3 n3 c3 x.dG)(k1:∀g,F1 g→F g)(k2:∀g,F2 g→F g)(k3:∀g,F3 g→F g)(d12:∀g,F1 g→¬F2 g)(d13:∀g,F1 g→¬F3 g)(d23:∀g,F2 g→¬F3 g):bD.own w F x [.int .i64 x.dC,.slice A1 n1 c1,.slice A2 n2 c2,.slice A3 n3 c3,.bool x.aC]:=by
 exact⟨_,_,(fun _=>False),(fun g=>F1 g∨F2 g∨F3 g),rfl,⟨rfl,h0⟩,⟨_,_,F1,(fun g=>F2 g∨F3 g),rfl,⟨A1,n1,c1,rfl,h1⟩,⟨_,_,F2,(fun g=>F3 g),rfl,⟨A2,n2,c2,rfl,h2⟩,⟨_,_,F3,(fun _=>False),rfl,⟨A3,n3,c3,rfl,h3⟩,⟨rfl,trivial⟩,(fun g h=>h),(fun _ h=>h.elim),(fun g h h2=>h2)⟩,(fun g h=>Or.inl h),(fun g h=>Or.inr h),(fun g h h2=>by first|exact d23 g h h2)⟩,(fun g h=>Or.inl h),(fun g h=>Or.inr h),(fun g h h2=>by rcases h2 with h2|h2 <;> first|exact d12 g h h2|exact d13 g h h2)⟩,(fun _ h=>h.elim),(fun g h=>by rcases h with h|h|h <;> first|exact k1 g h|exact k2 g h|exact k3 g h),(fun g h=>h.elim)⟩
def dN(x:gy):Nat:=x.k6.length+x.dh.length+x.dG.length
theorem PH{w:World}{hi l:Nat}{x:gy}{vs:List Value}(h:bD.see w hi x vs)(cu:hi≤w.heap.size)(hl:l≤1048576) :
  Calls Tryz.prog 92 #[.agg vs.toArray,.int .i64 (l:Int)] w (nO w l (dN x)):=by
 obtain⟨A1,n1,c1,A2,n2,c2,A3,n3,c3,rfl,hw0,⟨hc1,hm1,s1⟩,⟨hc2,jY,s2⟩,⟨hc3,Be,s3⟩⟩:=jF h;have hb0:yT w (w.alloc (.cells #[.int .i64 x.dC,.slice A1 n1 c1,.slice A2 n2 c2,.slice A3 n3 c3,.bool x.aC] 158)):=(zD _ _).alloc (zC _) _;have hz0:w.heap.size+1≤(w.alloc (.cells #[.int .i64 x.dC,.slice A1 n1 c1,.slice A2 n2 c2,.slice A3 n3 c3,.bool x.aC] 158)).heap.size:=(by simp);go_enter Tryz.func92,Tryz.ntmps92
 have L1:=zA s1.1;go_wp2_with fail
 refine (vY (l:=l) (by omega) (zJ hc1 hm1)).mono ?_;rintro e w1 ⟨hb1,hcase⟩;have z1:=hb1.size;obtain⟨eX,gQ⟩:=bn hb1;simp only[zF] at z1;have gX:w.heap.size<w1.heap.size:=(by omega);have hB1:yT w w1:=hb0.trans (hb1.mono (by simp));rcases hcase with⟨h10,rfl⟩|⟨h10,rfl⟩
 ·skip
  have L2:=zA s2.1;go_wp2_with fail
  refine (Af (l:=l-n1) (by omega) (zJ hc2 jY)).mono ?_;rintro e w2 ⟨hb2,hcase⟩;have z2:=hb2.size;obtain⟨o7,sG⟩:=bn hb2;have rV:w.heap.size<w2.heap.size:=(by omega);have hB2:yT w w2:=hB1.trans (hb2.mono (by omega));rcases hcase with⟨h11,rfl⟩|⟨h11,rfl⟩
  ·skip
   have L3:=zA s3.1;go_wp2_with fail
   refine (Af (l:=l-n1-n2) (by omega) (zJ hc3 Be)).mono ?_;rintro e w3 ⟨hb3,hcase⟩;have z3:=hb3.size;obtain⟨z7,E8⟩:=bn hb3;have E_:w.heap.size<w3.heap.size:=(by omega);have qx:yT w w3:=hB2.trans (hb3.mono (by omega));rcases hcase with⟨Bf,rfl⟩|⟨Bf,rfl⟩
   ·go_wp2_with fail
    go_ret;exact⟨qx,.inl ⟨by unfold dN;rw[L1.out];rw[L2.out];rw[L3.out];omega,by unfold dN;rw[L1.out];rw[L2.out];rw[L3.out];go_num⟩⟩
   ·go_wp2_with fail
    go_ret;exact⟨qx,.inr ⟨by unfold dN;rw[L1.out];rw[L2.out];rw[L3.out];omega,rfl⟩⟩
  ·go_wp2_with fail
   go_ret;exact⟨hB2,.inr ⟨by unfold dN;rw[L1.out];rw[L2.out];omega,rfl⟩⟩
 ·go_wp2_with fail
  go_ret;exact⟨hB1,.inr ⟨by unfold dN;rw[L1.out];omega,rfl⟩⟩
theorem Nq{w:World}{hi n c l:Nat}{A:Option Addr}{ds:List gy}(h:a_ bD w hi A n ds)(cu:hi≤w.heap.size)(hl:l≤1048576)(hn:n≤maxLen) :
  Calls Tryz.prog 36 #[.slice A n c,.int .i64 (l:Int)] w (nO w l (n+(ds.map dN).sum)):=by
 unfold maxLen at hn;have HL:=zA h.1;by_cases h0:n≤l
 ·go_enter Tryz.func36,Tryz.ntmps36
  go_wp2_with fail
  go_loopw[1,5] (fun q i wr=>∃k:Nat,k≤n∧i=.int .i64 k∧n+((ds.take k).map dN).sum≤l∧q=.int .i64 ((l-(n+((ds.take k).map dN).sum):Nat):Int)∧yT w wr) (fun _ i _=>n-(intOf i).toNat)
  case atStart=>exact⟨0,zL _,rfl,by simpa using h0,by simp;go_num,zD _ _⟩
  case round =>
   obtain⟨k,hk,rfl,hle,rfl,hb⟩:=hrel;have z:=hb.size;by_cases hlt:k<n
   ·obtain⟨hx,g,o,vs,rfl,hg,aW,hcell⟩:=(h.below hb cu).at_ hlt;have iJ:=aW;have KG:=zA (jQ (f:=dN) (zG hx));have Ue:=lh dN ds (k+1);rw[KG.out] at Ue;generalize ds[k]=d at *;obtain⟨A1,n1,c1,A2,n2,c2,A3,n3,c3,rfl,hw0,⟨hc1,hm1,s1⟩,⟨hc2,jY,s2⟩,⟨hc3,Be,s3⟩⟩:=jF aW;have dK:=hcell 0 _ rfl;have eu:=hcell 1 _ rfl;have ig:=hcell 2 _ rfl;have jf:=hcell 3 _ rfl;have lS:=hcell 4 _ rfl;simp only[show bD.size=5 from rfl,←zH,zI,zK] at dK eu ig jf lS;clear hcell aW s1 s2 s3;generalize hT:((ds.take k).map dN).sum=S at *;have HT:=zA hT;clear hT;go_wp2_with fail
    refine (PH (l:=l-(n+S)) iJ (by omega) (by omega)).mono ?_;rintro e w1 ⟨hb1,hcase⟩;have oQ:yT w w1:=hb.trans (hb1.mono z);clear dK eu ig jf lS hb1 iJ;rcases hcase with⟨h1,rfl⟩|⟨h1,rfl⟩
    ·go_wp2_with fail
     go_roundw
     case rel=>exact⟨k+1,by omega,by go_num,by rw[KG.out];omega,by rw[KG.out];go_num,oQ⟩
     case measure=>simp[intOf];omega
    ·go_wp2_with fail
     go_ret;exact⟨oQ,.inr ⟨by omega,rfl⟩⟩
   ·go_wp2_with fail
    go_ret;obtain rfl:k=n:=(by omega);have Xo:ds.take k=ds:=zU (by rw[HL.out];exact zC _);rw[Xo] at hle ⊢;exact⟨hb,.inl ⟨hle,rfl⟩⟩
 ·have h1:l<n:=(by omega);clear h;go_enter Tryz.func36,Tryz.ntmps36
  go_wp2_with fail
  go_ret;exact⟨zD _ _,.inr ⟨by omega,rfl⟩⟩
theorem PI{w:World}{hi:Nat}{x:gy}{vs:List Value}(h:bD.see w hi x vs)(cu:hi≤w.heap.size)(hn:dN x≤1048576) :
  Calls Tryz.prog 111 #[.agg vs.toArray] w (su bD w x):=by
 obtain⟨A1,n1,c1,A2,n2,c2,A3,n3,c3,rfl,hw0,⟨hc1,hm1,s1⟩,⟨hc2,jY,s2⟩,⟨hc3,Be,s3⟩⟩:=jF h;have L1:=zA s1.1;have L2:=zA s2.1;have L3:=zA s3.1;have jS:=hn;unfold dN at jS;rw[L1.out] at jS;rw[L2.out] at jS;rw[L3.out] at jS;have hb0:yT w (((w.alloc (.cells #[.int .i64 x.dC,.slice A1 n1 c1,.slice A2 n2 c2,.slice A3 n3 c3,.bool x.aC] 158)).alloc (.cells #[.int .i64 0,.slice none 0 0,.slice none 0 0,.slice none 0 0,.bool false] 135)).alloc (.cells #[.int .i64 0,.slice none 0 0,.slice none 0 0,.slice none 0 0,.bool false] 135)):=by go_grown
 go_enter Tryz.func111,Tryz.ntmps111
 go_wp2_with fail
 refine (vZ (s1.below (B:=w.heap.size) ?_ cu) ?_ (by omega)).mono ?_
 ·go_grown
 ·simp;omega
 rintro e w1 ⟨B1,e1,rfl,dU,hb1⟩;have z1:=hb1.size;simp only[zF] at z1 dU;have hB1:yT w w1:=zQ (by go_grown) (hb1.mono (by simp;omega));obtain⟨eX,gQ⟩:=bn hb1;have gX:w.heap.size<w1.heap.size:=(by omega);have ik:w.heap.size+1<w1.heap.size:=(by omega);have CV:w.heap.size+1+1<w1.heap.size:=(by omega);go_wp2_with fail
 refine (Ah (s2.below (B:=w.heap.size) ?_ cu) ?_ (by omega)).mono ?_
 ·repeat (refine Below.setCell ?_ (by dsimp only;omega) _)
  exact hB1
 ·simp;omega
 rintro e w2 ⟨B2,e2,rfl,mQ,hb2⟩;have z2:=hb2.size;simp only[zM] at z2 mQ;have qX:Turned (w.heap.size+1) (w.heap.size+3) w1 w2:=by
  refine Turned.trans ?_ (Turned.of_below hb2 _ _);repeat (refine Turned.setCell ?_ (by simp) (by simp) _)
  exact Turned.refl _ _ _
 have hB2:yT w w2:=hB1.trans (qX.below (by omega) (by omega));replace dU:=dU.turned qX (fun g hg => .inl (by omega));obtain⟨o7,sG⟩:=bn hb2;have rV:w.heap.size<w2.heap.size:=(by omega);have vz:w.heap.size+1<w2.heap.size:=(by omega);have PK:w.heap.size+1+1<w2.heap.size:=(by omega);go_wp2_with fail
 refine (Ah (s3.below (B:=w.heap.size) ?_ cu) ?_ (by omega)).mono ?_
 ·repeat (refine Below.setCell ?_ (by dsimp only;omega) _)
  exact hB2
 ·simp;omega
 rintro e w3 ⟨B3,e3,rfl,xx,hb3⟩;have z3:=hb3.size;simp only[zM] at z3 xx;have qA:Turned (w.heap.size+1) (w.heap.size+3) w2 w3:=by
  refine Turned.trans ?_ (Turned.of_below hb3 _ _);repeat (refine Turned.setCell ?_ (by simp) (by simp) _)
  exact Turned.refl _ _ _
 have qx:yT w w3:=hB2.trans (qA.below (by omega) (by omega));replace dU:=dU.turned qA (fun g hg => .inl (by omega));replace mQ:=mQ.turned qA (fun g hg => .inl (by omega));obtain⟨z7,E8⟩:=bn hb3;have E_:w.heap.size<w3.heap.size:=(by omega);have Nr:w.heap.size+1<w3.heap.size:=(by omega);have U1:w.heap.size+1+1<w3.heap.size:=(by omega);go_wp2_with fail
 refine bodyPost_ret (v := .agg #[.int .i64 x.dC,.slice B1 n1 e1,.slice B2 n2 e2,.slice B3 n3 e3,.bool x.aC]) (by simp[results,Tryz.results111,go_sem,eX,gX,ik,CV,o7,rV,vz,PK,z7,E_,Nr,U1]) rfl ?_;refine⟨_,rfl,?_,?_⟩
 ·refine zi (F:=_) hw0 (dD.of (aB.turned dU (l:=w.heap.size+1) (r:=w.heap.size+3) ?t1 (fun g hg => .inl (by omega)))) (dD.of (aB.turned mQ (l:=w.heap.size+1) (r:=w.heap.size+3) ?t2 (fun g hg => .inl (by omega)))) (dD.of (aB.turned xx (l:=w.heap.size+1) (r:=w.heap.size+3) ?t3 (fun g hg => .inl (by omega)))) ?k1 ?k2 ?k3 ?d12 ?d13 ?d23
  case t1 =>
   repeat (refine Turned.setCell ?_ (by simp) (by simp) _)
   exact Turned.refl _ _ _
  case t2 =>
   repeat (refine Turned.setCell ?_ (by simp) (by simp) _)
   exact Turned.refl _ _ _
  case t3 =>
   repeat (refine Turned.setCell ?_ (by simp) (by simp) _)
   exact Turned.refl _ _ _
  case k1=>intro g hg;simp only[zM];omega
  case k2=>intro g hg;simp only[zM];omega
  case k3=>intro g hg;simp only[zM];omega
  case d12=>intro g hg nI;omega
  case d13=>intro g hg nI;omega
  case d23=>intro g hg nI;omega
 ·repeat (refine Below.setCell ?_ (by dsimp only;omega) _)
  exact qx
theorem U2:(Tryz.prog.info? 135).map (fun i=>(i.zero,i.size,i.bytes))=some (some (.agg #[.int .i64 0,.slice none 0 0,.slice none 0 0,.slice none 0 0,.bool false]),5,88):=by kernel_rfl
theorem Ns{w:World}{A:Option Addr}{n c hi:Nat}{xs:List gy}(h:a_ bD w hi A n xs)(cu:hi≤w.heap.size)(hn:n≤1048576)(hs:(xs.map dN).sum≤1048576) :
  Calls Tryz.prog 48 #[.slice A n c] w (vw bD 135 w n xs):=by
 obtain⟨i0,jJ,hz0,hz1,hz2⟩:=info_parts U2;have hmk:=fun W:World=>run_make (P:=Tryz.prog) W 37 135 i0 _ Tryz.underlying37 jJ hz0 .i64 .i64 n n (by omega) (by omega) (by rw[hz2];omega) (by omega)
 simp only[hz1,yA] at hmk;have HL:=zA h.1;clear jJ hz0 hz1 hz2;go_enter Tryz.func48,Tryz.ntmps48
 go_wp2
 clear hmk;go_loopw[4] (fun i wr=>∃k:Nat,k≤n∧i=.int .i64 k∧Part bD 135 wr w.heap.size n xs k wr.heap.size∧yT w wr) (fun i _=>n-(intOf i).toNat)
 case atStart =>
  refine⟨0,zL _,rfl,?_,(zD _ _).alloc (zC _) _⟩;have hm:=Own.made (size:=5) (e:=135) w (madeCells #[.int .i64 0,.slice none 0 0,.slice none 0 0,.slice none 0 0,.bool false] (n*5)) n n (by simp only[maxLen];omega) (by simp[size_madeCells]) (zC _);exact Part.start HL.out hm (by simp)
 case round =>
  obtain⟨k,hk,rfl,hpart,hb⟩:=hrel;have z:=hb.size;by_cases hlt:k<n
  ·obtain⟨hx,g,o,vs,rfl,hg,aW,hcell⟩:=(h.below hb cu).at_ hlt;have hsz:dN xs[k]≤1048576:=zJ (dI dN (zS hx)) hs;have jh:=zA (zG hx);generalize xs[k]=x at *;have HE:=zA (fun (W:World) (hW:yT wr W)=>PI (w:=W) (bD.keep aW fun k hk=>hW.block k (by omega)) (by have:=hW.size;omega) hsz);obtain⟨A1,n1,c1,A2,n2,c2,A3,n3,c3,rfl,hw0,⟨hc1,hm1,s1⟩,⟨hc2,jY,s2⟩,⟨hc3,Be,s3⟩⟩:=jF aW;have dK:=hcell 0 _ rfl;have eu:=hcell 1 _ rfl;have ig:=hcell 2 _ rfl;have jf:=hcell 3 _ rfl;have lS:=hcell 4 _ rfl;simp only[show bD.size=5 from rfl,←zH,zI,zK] at dK eu ig jf lS;clear hcell;go_wp2_with fail
   refine (HE.out _ (zD _ _)).mono ?_;rintro e w1 ⟨us,rfl,dU,hb1⟩;have zy:=bD.len (bD.seen dU (hi:=w1.heap.size) fun g hg=>hg.2);have hsu:=bD.seen dU (hi:=w1.heap.size) fun g hg=>hg.2
   obtain⟨A1u,n1u,c1u,A2u,n2u,c2u,A3u,n3u,c3u,rfl,ac1,⟨ahF,ahG,s1u⟩,⟨ahI,ahJ,s2u⟩,⟨aob,aoc,s3u⟩⟩:=jF hsu;have oH:=hpart.below hb1;obtain⟨⟨v0,KE⟩,hf0⟩:=oH.room hlt 0 (by decide);obtain⟨⟨v1,ho1⟩,PG⟩:=oH.room hlt 1 (by decide);obtain⟨⟨v2,ho2⟩,hf2⟩:=oH.room hlt 2 (by decide);obtain⟨⟨v3,Xp⟩,hf3⟩:=oH.room hlt 3 (by decide);obtain⟨⟨v4,U3⟩,hf4⟩:=oH.room hlt 4 (by decide);have xM:=oH.step jh.out zy dU (fun g hg=>hg);have hb2:yT w w1:=hb.trans (hb1.mono z);simp only[show bD.size=5 from rfl,←zH,zI,zK] at KE hf0 ho1 PG ho2 hf2 Xp hf3 U3 hf4 xM;clear hpart oH hb1 HE dU zy dK eu ig jf lS s1 s1u s2 s2u s3 s3u;go_wp2_with fail
   go_roundw
   case rel=>exact⟨k+1,by omega,by go_num,by simpa[putCells] using xM,by go_grown⟩
   case measure=>simp[intOf];omega
  ·go_wp2_with fail
   go_ret;obtain rfl:k=n:=(by omega);exact⟨_,_,rfl,hpart.done,hb⟩
structure iK where
 d_:Int
 iq:Int
 bU:Int
 lM:Bool
def cZ:Lay iK:=Lay.flat 4 (fun x=>[.int .i64 x.d_,.int .i64 x.iq,.int .i64 x.bU,.bool x.lM]) (fun x=>(Lit.int .i64 x.d_).wf=true∧(Lit.int .i64 x.iq).wf=true∧(Lit.int .i64 x.bU).wf=true) (fun _=>rfl)
theorem SG:lD Tryz.prog 311 cZ:=by
 refine lD.to (jq Tryz.underlying311 (by kernel_rfl) (.cons rfl (fZ Tryz.underlying3 (by kernel_rfl)) (.cons rfl (fZ Tryz.underlying3 (by kernel_rfl)) (.cons rfl (fZ Tryz.underlying3 (by kernel_rfl)) (.one rfl (Bd Tryz.underlying4 (by kernel_rfl))))))) rfl fun w hi a vs h => ?_
 obtain⟨a0,a1,a2,a3⟩:=a;obtain⟨_,_,rfl,s0,⟨_,_,rfl,s1,⟨_,_,rfl,s2,s3⟩⟩⟩:=h;obtain⟨rfl,h0⟩:=s0;obtain⟨rfl,h1⟩:=s1;obtain⟨rfl,h2⟩:=s2;obtain⟨rfl,h3⟩:=s3;exact⟨⟨a0,a1,a2,a3⟩,rfl,h0,h1,h2⟩
theorem Nu{w:World}{A:Option Addr}{n c l:Nat}(hl:l≤1048576)(hn:n≤maxLen) :
  Calls Tryz.prog 184 #[.slice A n c,.int .i64 (l:Int)] w (nO w l n):=by
 unfold maxLen at hn;by_cases h:n≤l
 ·have hs:Hid ((l:Int)-(n:Int)=((l-n:Nat):Int)):=zA (by omega);go_enter Tryz.func184,Tryz.ntmps184
  go_wp2
  go_ret;exact⟨zD _ _,.inl ⟨h,by rw[hs.out];rfl⟩⟩
 ·have h':l<n:=(by omega);go_enter Tryz.func184,Tryz.ntmps184
  go_wp2
  go_ret;exact⟨zD _ _,.inr ⟨h',rfl⟩⟩
theorem Nv{w:World}(x:iK):Calls Tryz.prog 273 #[.agg #[.int .i64 x.d_,.int .i64 x.iq,.int .i64 x.bU,.bool x.lM],.agg #[.int .i64 x.d_,.int .i64 x.iq,.int .i64 x.bU,.bool x.lM]] w (iP w):=by
 have hb0:yT w ((w.alloc (.cells #[.int .i64 x.d_,.int .i64 x.iq,.int .i64 x.bU,.bool x.lM] 171)).alloc (.cells #[.int .i64 x.d_,.int .i64 x.iq,.int .i64 x.bU,.bool x.lM] 171)):=((zD _ _).alloc (zC _) _).alloc (by simp) _;go_enter Tryz.func273,Tryz.ntmps273
 go_wp2
 repeat (go_quiet (fail);go_wp2)
 go_ret;exact⟨rfl,by first|exact hb0|exact gz hb0 _|go_grown⟩
theorem KH{A A':Option Addr}{n c c' hi hi':Nat}{xs:List iK}{w:World}(h:a_ cZ w hi A n xs)(h':a_ cZ w hi' A' n xs)(hh:hi≤w.heap.size)(KF:hi'≤w.heap.size)(hn:n≤1048580) :
  Calls Tryz.prog 216 #[.slice A n c,.slice A' n c'] w (iP w):=by
 go_enter Tryz.func216,Tryz.ntmps216
 go_wp2
 go_loopw[5] (fun i wr=>∃k:Nat,k≤n∧i=.int .i64 k∧yT w wr) (fun i _=>n-(intOf i).toNat)
 case atStart=>exact⟨0,zL _,rfl,zD _ _⟩
 case round =>
  obtain⟨k,hk,rfl,hb⟩:=hrel;have z:=hb.size;by_cases hlt:k<n
  ·obtain⟨hx,g,o,vs,rfl,hg,⟨rfl,hw⟩,hc⟩:=(h.below hb hh).at_ hlt;obtain⟨hx',g',o',vs',rfl,nI,⟨rfl,hw'⟩,hc'⟩:=(h'.below hb KF).at_ hlt;have dK:=hc 0 _ rfl;have xw:=hc' 0 _ rfl;have eu:=hc 1 _ rfl;have zh:=hc' 1 _ rfl;have ig:=hc 2 _ rfl;have CS:=hc' 2 _ rfl;have jf:=hc 3 _ rfl;have H_:=hc' 3 _ rfl;simp only[show cZ.size=4 from rfl,←zH,zI,zK] at dK eu ig jf xw zh CS H_;clear hc hc' hw hw';generalize xs[k]=x at *;have HE:=zA (fun W:World=>Nv (w:=W) x);have jJ:(0:Int)≤(k:Int):=(by omega);have u_:(k:Int)<(n:Int):=(by omega);go_wp2_with fail
   go_region_with (go_at_call 273;refine (HE.out _).mono ?_;rintro e w1 ⟨rfl,hb1⟩)
   all_goals
    have oQ:yT w w1:=hb.drew.trans (hb1.mono z);clear hb1 HE dK eu ig jf xw zh CS H_;go_wp2_with fail
    go_roundw
    case rel=>exact⟨k+1,by omega,by go_num,oQ⟩
    case measure=>simp[intOf];omega
  ·go_wp2
   go_ret;exact⟨rfl,hb⟩
theorem PM{w:World}{hi:Nat}{x:iK}{vs:List Value}(h:cZ.see w hi x vs) :
  Calls Tryz.prog 265 #[.agg vs.toArray] w (su cZ w x):=by
 obtain⟨rfl,hw⟩:=h;have HW:=zA hw;clear hw;show Calls Tryz.prog 265 #[.agg #[.int .i64 x.d_,.int .i64 x.iq,.int .i64 x.bU,.bool x.lM]] w (su cZ w x)
 go_enter Tryz.func265,Tryz.ntmps265
 go_wp2
 refine bodyPost_ret (v := .agg #[.int .i64 x.d_,.int .i64 x.iq,.int .i64 x.bU,.bool x.lM]) (by simp[results,Tryz.results265,go_sem]) rfl ?_;exact⟨_,rfl,⟨rfl,HW.out⟩,by go_grown⟩
theorem xR:(Tryz.prog.info? 171).map (fun i=>(i.zero,i.size,i.bytes))=some (some (.agg #[.int .i64 0,.int .i64 0,.int .i64 0,.bool false]),4,32):=by kernel_rfl
theorem Nw{w:World}{A:Option Addr}{n c hi:Nat}{xs:List iK}(h:a_ cZ w hi A n xs)(cu:hi≤w.heap.size)(hn:n≤1048576) :
  Calls Tryz.prog 196 #[.slice A n c] w (vw cZ 171 w n xs):=by
 obtain⟨i0,jJ,hz0,hz1,hz2⟩:=info_parts xR;have hmk:=fun W:World=>run_make (P:=Tryz.prog) W 67 171 i0 _ Tryz.underlying67 jJ hz0 .i64 .i64 n n (by omega) (by omega) (by rw[hz2];omega) (by omega)
 simp only[hz1,yA] at hmk;have HL:=zA h.1;clear jJ hz0 hz1 hz2;go_enter Tryz.func196,Tryz.ntmps196
 go_wp2
 clear hmk;go_loopw[4] (fun i wr=>∃k:Nat,k≤n∧i=.int .i64 k∧Part cZ 171 wr w.heap.size n xs k wr.heap.size∧yT w wr) (fun i _=>n-(intOf i).toNat)
 case atStart =>
  refine⟨0,zL _,rfl,?_,(zD _ _).alloc (zC _) _⟩;have hm:=Own.made (size:=4) (e:=171) w (madeCells #[.int .i64 0,.int .i64 0,.int .i64 0,.bool false] (n*4)) n n (by simp only[maxLen];omega) (by simp[size_madeCells]) (zC _);exact Part.start HL.out hm (by simp)
 case round =>
  obtain⟨k,hk,rfl,hpart,hb⟩:=hrel;have z:=hb.size;by_cases hlt:k<n
  ·obtain⟨hx,g,o,vs,rfl,hg,aW,hcell⟩:=(h.below hb cu).at_ hlt;have jh:=zA (zG hx);generalize xs[k]=x at *;have HE:=zA (fun (W:World) (hW:yT wr W)=>PM (w:=W) (cZ.keep aW fun k hk=>hW.block k (by omega)));obtain⟨rfl,hw⟩:=aW;have dK:=hcell 0 _ rfl;have eu:=hcell 1 _ rfl;have ig:=hcell 2 _ rfl;have jf:=hcell 3 _ rfl;simp only[show cZ.size=4 from rfl,←zH,zI,zK] at dK eu ig jf;clear hcell;go_wp2_with fail
   refine (HE.out _ (zD _ _)).mono ?_;rintro e w1 ⟨us,rfl,dU,hb1⟩;have zy:=cZ.len (cZ.seen dU (hi:=w1.heap.size) fun g hg=>hg.2);have hsu:=cZ.seen dU (hi:=w1.heap.size) fun g hg=>hg.2
   obtain⟨rfl,hwu⟩:=hsu;have oH:=hpart.below hb1;obtain⟨⟨v0,KE⟩,hf0⟩:=oH.room hlt 0 (by decide);obtain⟨⟨v1,ho1⟩,PG⟩:=oH.room hlt 1 (by decide);obtain⟨⟨v2,ho2⟩,hf2⟩:=oH.room hlt 2 (by decide);obtain⟨⟨v3,Xp⟩,hf3⟩:=oH.room hlt 3 (by decide);have xM:=oH.step jh.out zy dU (fun g hg=>hg);have hb2:yT w w1:=hb.trans (hb1.mono z);simp only[show cZ.size=4 from rfl,←zH,zI,zK] at KE hf0 ho1 PG ho2 hf2 Xp hf3 xM;clear hpart oH hb1 HE dU zy dK eu ig jf;go_wp2_with fail
   go_roundw
   case rel=>exact⟨k+1,by omega,by go_num,by simpa[putCells] using xM,by go_grown⟩
   case measure=>simp[intOf];omega
  ·go_wp2_with fail
   go_ret;obtain rfl:k=n:=(by omega);exact⟨_,_,rfl,hpart.done,hb⟩
structure bY where
 ax:Int
 dE:Int
 gJ:List Int
 ai:Int
 jv:List iK
def aI:Lay bY:=(Lay.int.pair (Lay.int.pair ((Lay.int.tail 3).pair (Lay.int.pair (cZ.tail 171))))).via fun x=>(x.ax,(x.dE,(x.gJ,(x.ai,x.jv))))
theorem U4:lD Tryz.prog 154 aI :=
 qG _ (fun a=>⟨⟨a.1,a.2.1,a.2.2.1,a.2.2.2.1,a.2.2.2.2⟩,rfl⟩) (jq Tryz.underlying154 (by kernel_rfl) (.cons rfl (fZ Tryz.underlying3 (by kernel_rfl)) (.cons rfl (fZ Tryz.underlying3 (by kernel_rfl)) (.cons rfl (qH Tryz.underlying22 (by kernel_rfl) (by decide) (fZ Tryz.underlying3 (by kernel_rfl))) (.cons rfl (fZ Tryz.underlying3 (by kernel_rfl)) (.one rfl (qH Tryz.underlying152 (by kernel_rfl) (by decide) SG)))))))
theorem gK{w:World}{hi:Nat}{x:bY}{vs:List Value}(h:aI.see w hi x vs):∃A2 n2 c2 A4 n4 c4,vs=[.int .i64 x.ax,.int .i64 x.dE,.slice A2 n2 c2,.int .i64 x.ai,.slice A4 n4 c4]∧(Lit.int .i64 x.ax).wf=true∧(Lit.int .i64 x.dE).wf=true∧(n2≤c2∧c2≤maxLen∧a_ Lay.int w hi A2 n2 x.gJ)∧(Lit.int .i64 x.ai).wf=true∧(n4≤c4∧c4≤maxLen∧a_ cZ w hi A4 n4 x.jv):=by
 obtain⟨_,_,rfl,s0,⟨_,_,rfl,s1,⟨_,_,rfl,s2,⟨_,_,rfl,s3,s4⟩⟩⟩⟩:=h;obtain⟨rfl,h0⟩:=s0;obtain⟨rfl,h1⟩:=s1;obtain⟨A2,n2,c2,rfl,h2⟩:=s2;obtain⟨rfl,h3⟩:=s3;obtain⟨A4,n4,c4,rfl,h4⟩:=s4;exact⟨A2,n2,c2,A4,n4,c4,rfl,h0,h1,h2,h3,h4⟩
theorem E7{w:World}{F:Nat→Prop}{x:bY}(h0:(Lit.int .i64 x.ax).wf=true)(h1:(Lit.int .i64 x.dE).wf=true){A2:Option Addr}{n2 c2:Nat}{F2:Nat→Prop}(h2:dD Lay.int 3 w F2 A2 n2 c2 x.gJ)(h3:(Lit.int .i64 x.ai).wf=true){A4:Option Addr}{n4 c4:Nat}{F4:Nat→Prop}(h4:dD cZ 171 w F4 A4 n4 c4 x.jv)(k2:∀g,F2 g→F g)(k4:∀g,F4 g→F g)(d24:∀g,F2 g→¬F4 g):aI.own w F x [.int .i64 x.ax,.int .i64 x.dE,.slice A2 n2 c2,.int .i64 x.ai,.slice A4 n4 c4]:=by
 exact⟨_,_,(fun _=>False),(fun g=>F2 g∨F4 g),rfl,⟨rfl,h0⟩,⟨_,_,(fun _=>False),(fun g=>F2 g∨F4 g),rfl,⟨rfl,h1⟩,⟨_,_,F2,(fun g=>F4 g),rfl,⟨A2,n2,c2,rfl,h2⟩,⟨_,_,(fun _=>False),(fun g=>F4 g),rfl,⟨rfl,h3⟩,⟨A4,n4,c4,rfl,h4⟩,(fun g h=>h.elim),(fun g h=>h),(fun g h=>h.elim)⟩,(fun g h=>Or.inl h),(fun g h=>Or.inr h),(fun g h h2=>by first|exact d24 g h h2)⟩,(fun g h=>h.elim),(fun g h=>h),(fun g h=>h.elim)⟩,(fun _ h=>h.elim),(fun g h=>by rcases h with h|h <;> first|exact k2 g h|exact k4 g h),(fun g h=>h.elim)⟩
def bV(x:bY):Nat:=x.gJ.length+x.jv.length
theorem SH{w:World}{hi l:Nat}{x:bY}{vs:List Value}(h:aI.see w hi x vs)(cu:hi≤w.heap.size)(hl:l≤1048576) :
  Calls Tryz.prog 91 #[.agg vs.toArray,.int .i64 (l:Int)] w (nO w l (bV x)):=by
 obtain⟨A2,n2,c2,A4,n4,c4,rfl,hw0,hw1,⟨hc2,jY,s2⟩,hw3,⟨hc4,hm4,s4⟩⟩:=gK h;have hb0:yT w (w.alloc (.cells #[.int .i64 x.ax,.int .i64 x.dE,.slice A2 n2 c2,.int .i64 x.ai,.slice A4 n4 c4] 154)):=(zD _ _).alloc (zC _) _;have hz0:w.heap.size+1≤(w.alloc (.cells #[.int .i64 x.ax,.int .i64 x.dE,.slice A2 n2 c2,.int .i64 x.ai,.slice A4 n4 c4] 154)).heap.size:=(by simp);go_enter Tryz.func91,Tryz.ntmps91
 have L2:=zA s2.1;go_wp2_with fail
 refine (vY (l:=l) (by omega) (zJ hc2 jY)).mono ?_;rintro e w1 ⟨hb1,hcase⟩;have z1:=hb1.size;obtain⟨eX,gQ⟩:=bn hb1;simp only[zF] at z1;have gX:w.heap.size<w1.heap.size:=(by omega);have hB1:yT w w1:=hb0.trans (hb1.mono (by simp));rcases hcase with⟨h10,rfl⟩|⟨h10,rfl⟩
 ·skip
  have L4:=zA s4.1;go_wp2_with fail
  refine (Nu (l:=l-n2) (by omega) (zJ hc4 hm4)).mono ?_;rintro e w2 ⟨hb2,hcase⟩;have z2:=hb2.size;obtain⟨o7,sG⟩:=bn hb2;have rV:w.heap.size<w2.heap.size:=(by omega);have hB2:yT w w2:=hB1.trans (hb2.mono (by omega));rcases hcase with⟨h11,rfl⟩|⟨h11,rfl⟩
  ·go_wp2_with fail
   go_ret;exact⟨hB2,.inl ⟨by unfold bV;rw[L2.out];rw[L4.out];omega,by unfold bV;rw[L2.out];rw[L4.out];go_num⟩⟩
  ·go_wp2_with fail
   go_ret;exact⟨hB2,.inr ⟨by unfold bV;rw[L2.out];rw[L4.out];omega,rfl⟩⟩
 ·go_wp2_with fail
  go_ret;exact⟨hB1,.inr ⟨by unfold bV;rw[L2.out];omega,rfl⟩⟩
theorem PN{w:World}{hi n c l:Nat}{A:Option Addr}{ds:List bY}(h:a_ aI w hi A n ds)(cu:hi≤w.heap.size)(hl:l≤1048576)(hn:n≤maxLen) :
  Calls Tryz.prog 35 #[.slice A n c,.int .i64 (l:Int)] w (nO w l (n+(ds.map bV).sum)):=by
 unfold maxLen at hn;have HL:=zA h.1;by_cases h0:n≤l
 ·go_enter Tryz.func35,Tryz.ntmps35
  go_wp2_with fail
  go_loopw[1,5] (fun q i wr=>∃k:Nat,k≤n∧i=.int .i64 k∧n+((ds.take k).map bV).sum≤l∧q=.int .i64 ((l-(n+((ds.take k).map bV).sum):Nat):Int)∧yT w wr) (fun _ i _=>n-(intOf i).toNat)
  case atStart=>exact⟨0,zL _,rfl,by simpa using h0,by simp;go_num,zD _ _⟩
  case round =>
   obtain⟨k,hk,rfl,hle,rfl,hb⟩:=hrel;have z:=hb.size;by_cases hlt:k<n
   ·obtain⟨hx,g,o,vs,rfl,hg,aW,hcell⟩:=(h.below hb cu).at_ hlt;have iJ:=aW;have KG:=zA (jQ (f:=bV) (zG hx));have Ue:=lh bV ds (k+1);rw[KG.out] at Ue;generalize ds[k]=d at *;obtain⟨A2,n2,c2,A4,n4,c4,rfl,hw0,hw1,⟨hc2,jY,s2⟩,hw3,⟨hc4,hm4,s4⟩⟩:=gK aW;have dK:=hcell 0 _ rfl;have eu:=hcell 1 _ rfl;have ig:=hcell 2 _ rfl;have jf:=hcell 3 _ rfl;have lS:=hcell 4 _ rfl;simp only[show aI.size=5 from rfl,←zH,zI,zK] at dK eu ig jf lS;clear hcell aW s2 s4;generalize hT:((ds.take k).map bV).sum=S at *;have HT:=zA hT;clear hT;go_wp2_with fail
    refine (SH (l:=l-(n+S)) iJ (by omega) (by omega)).mono ?_;rintro e w1 ⟨hb1,hcase⟩;have oQ:yT w w1:=hb.trans (hb1.mono z);clear dK eu ig jf lS hb1 iJ;rcases hcase with⟨h1,rfl⟩|⟨h1,rfl⟩
    ·go_wp2_with fail
     go_roundw
     case rel=>exact⟨k+1,by omega,by go_num,by rw[KG.out];omega,by rw[KG.out];go_num,oQ⟩
     case measure=>simp[intOf];omega
    ·go_wp2_with fail
     go_ret;exact⟨oQ,.inr ⟨by omega,rfl⟩⟩
   ·go_wp2_with fail
    go_ret;obtain rfl:k=n:=(by omega);have Xo:ds.take k=ds:=zU (by rw[HL.out];exact zC _);rw[Xo] at hle ⊢;exact⟨hb,.inl ⟨hle,rfl⟩⟩
 ·have h1:l<n:=(by omega);clear h;go_enter Tryz.func35,Tryz.ntmps35
  go_wp2_with fail
  go_ret;exact⟨zD _ _,.inr ⟨by omega,rfl⟩⟩
theorem PO{w:World}{hi hi':Nat}{x:bY}{vs vs':List Value}(h:aI.see w hi x vs)(h':aI.see w hi' x vs')(cu:hi≤w.heap.size)(vC:hi'≤w.heap.size)(hn:bV x≤1048580) :
  Calls Tryz.prog 130 #[.agg vs.toArray,.agg vs'.toArray] w (iP w):=by
 obtain⟨A2,n2,c2,A4,n4,c4,rfl,hw0,hw1,⟨hc2,jY,s2⟩,hw3,⟨hc4,hm4,s4⟩⟩:=gK h;obtain⟨Xq,n2',SI,Uf,n4',CU,rfl,U5,Xr,⟨U6,U7,PQ⟩,ahL,⟨ahM,ahN,s4'⟩⟩:=gK h';obtain rfl:n2=n2':=s2.1.symm.trans PQ.1;have L2:=zA s2.1;obtain rfl:n4=n4':=s4.1.symm.trans s4'.1;have L4:=zA s4.1;have jS:=hn;unfold bV at jS;rw[L2.out] at jS;rw[L4.out] at jS;have hb0:yT w ((w.alloc (.cells #[.int .i64 x.ax,.int .i64 x.dE,.slice A2 n2 c2,.int .i64 x.ai,.slice A4 n4 c4] 69)).alloc (.cells #[.int .i64 x.ax,.int .i64 x.dE,.slice Xq n2 SI,.int .i64 x.ai,.slice Uf n4 CU] 69)):=((zD _ _).alloc (zC _) _).alloc (by simp) _;go_enter Tryz.func130,Tryz.ntmps130
 go_wp2_with fail
 (try (go_quiet (fail)))
 go_wp2_with fail
 (try (go_quiet (fail)))
 go_wp2_with fail
 refine (uq (s2.below hb0 cu) (PQ.below hb0 vC) (by omega)).mono ?_;rintro e w1 ⟨rfl,hb1⟩;have z1:=hb1.size;obtain⟨eX,gQ⟩:=bn hb1;have hB1:yT w w1:=hb0.trans (hb1.mono (by simp;omega));simp only[zF] at z1;have gX:w.heap.size<w1.heap.size:=(by omega);have ik:w.heap.size+1<w1.heap.size:=(by omega);go_wp2_with fail
 (try (go_quiet (fail)))
 go_wp2_with fail
 refine (KH (s4.below hB1 cu) (s4'.below hB1 vC) (by have:=hB1.size;omega) (by have:=hB1.size;omega) (by omega)).mono ?_;rintro e w2 ⟨rfl,hb2⟩;have z2:=hb2.size;obtain⟨o7,sG⟩:=bn hb2;have hB2:yT w w2:=hB1.trans (hb2.mono (by omega));have rV:w.heap.size<w2.heap.size:=(by omega);have vz:w.heap.size+1<w2.heap.size:=(by omega);go_wp2_with fail
 go_ret;exact⟨rfl,by first|exact hB2|exact gz hB2 _⟩
theorem Ny{A A':Option Addr}{n c c' hi hi':Nat}{xs:List bY}{w:World}(h:a_ aI w hi A n xs)(h':a_ aI w hi' A' n xs)(hh:hi≤w.heap.size)(KF:hi'≤w.heap.size)(hn:n≤1048580)(hs:(xs.map bV).sum≤1048580) :
  Calls Tryz.prog 55 #[.slice A n c,.slice A' n c'] w (iP w):=by
 go_enter Tryz.func55,Tryz.ntmps55
 go_wp2
 go_loopw[5] (fun i wr=>∃k:Nat,k≤n∧i=.int .i64 k∧yT w wr) (fun i _=>n-(intOf i).toNat)
 case atStart=>exact⟨0,zL _,rfl,zD _ _⟩
 case round =>
  obtain⟨k,hk,rfl,hb⟩:=hrel;have z:=hb.size;by_cases hlt:k<n
  ·obtain⟨hx,g,o,vs,rfl,hg,aW,hc⟩:=(h.below hb hh).at_ hlt;obtain⟨hx',g',o',vs',rfl,nI,qh,hc'⟩:=(h'.below hb KF).at_ hlt;have hsz:bV xs[k]≤1048580:=zJ (dI bV (zS hx)) hs;generalize xs[k]=x at *;have HE:=zA (fun (W:World) (hW:yT wr W)=>PO (aI.keep aW fun k hk=>hW.block k (by omega)) (aI.keep qh fun k hk=>hW.block k (by omega)) (by have:=hW.size;omega) (by have:=hW.size;omega) hsz);obtain⟨A2,n2,c2,A4,n4,c4,rfl,hw0,hw1,⟨hc2,jY,s2⟩,hw3,⟨hc4,hm4,s4⟩⟩:=gK aW;obtain⟨Xq,n2',SI,Uf,n4',CU,rfl,U5,Xr,⟨U6,U7,PQ⟩,ahL,⟨ahM,ahN,s4'⟩⟩:=gK qh;have dK:=hc 0 _ rfl;have xw:=hc' 0 _ rfl;have eu:=hc 1 _ rfl;have zh:=hc' 1 _ rfl;have ig:=hc 2 _ rfl;have CS:=hc' 2 _ rfl;have jf:=hc 3 _ rfl;have H_:=hc' 3 _ rfl;have lS:=hc 4 _ rfl;have Wx:=hc' 4 _ rfl;simp only[show aI.size=5 from rfl,←zH,zI,zK] at dK eu ig jf lS xw zh CS H_ Wx;clear hc hc' aW qh s2 PQ s4 s4';have jJ:(0:Int)≤(k:Int):=(by omega);have u_:(k:Int)<(n:Int):=(by omega);have hb0:yT wr wr.drew:=(zD _ _).drew;go_wp2_with fail
   go_region_with (go_at_call 130;refine (HE.out _ hb0).mono ?_;rintro e w1 ⟨rfl,hb1⟩)
   all_goals
    have oQ:yT w w1:=hb.drew.trans (hb1.mono z);clear hb1 HE dK eu ig jf lS xw zh CS H_ Wx;go_wp2_with fail
    go_roundw
    case rel=>exact⟨k+1,by omega,by go_num,oQ⟩
    case measure=>simp[intOf];omega
  ·go_wp2
   go_ret;exact⟨rfl,hb⟩
theorem SK{w:World}{hi:Nat}{x:bY}{vs:List Value}(h:aI.see w hi x vs)(cu:hi≤w.heap.size)(hn:bV x≤1048576) :
  Calls Tryz.prog 110 #[.agg vs.toArray] w (su aI w x):=by
 obtain⟨A2,n2,c2,A4,n4,c4,rfl,hw0,hw1,⟨hc2,jY,s2⟩,hw3,⟨hc4,hm4,s4⟩⟩:=gK h;have L2:=zA s2.1;have L4:=zA s4.1;have jS:=hn;unfold bV at jS;rw[L2.out] at jS;rw[L4.out] at jS;have hb0:yT w (((w.alloc (.cells #[.int .i64 x.ax,.int .i64 x.dE,.slice A2 n2 c2,.int .i64 x.ai,.slice A4 n4 c4] 154)).alloc (.cells #[.int .i64 0,.int .i64 0,.slice none 0 0,.int .i64 0,.slice none 0 0] 69)).alloc (.cells #[.int .i64 0,.int .i64 0,.slice none 0 0,.int .i64 0,.slice none 0 0] 69)):=by go_grown
 go_enter Tryz.func110,Tryz.ntmps110
 go_wp2_with fail
 refine (vZ (s2.below (B:=w.heap.size) ?_ cu) ?_ (by omega)).mono ?_
 ·go_grown
 ·simp;omega
 rintro e w1 ⟨B2,e2,rfl,dU,hb1⟩;have z1:=hb1.size;simp only[zF] at z1 dU;have hB1:yT w w1:=zQ (by go_grown) (hb1.mono (by simp;omega));obtain⟨eX,gQ⟩:=bn hb1;have gX:w.heap.size<w1.heap.size:=(by omega);have ik:w.heap.size+1<w1.heap.size:=(by omega);have CV:w.heap.size+1+1<w1.heap.size:=(by omega);go_wp2_with fail
 refine (Nw (s4.below (B:=w.heap.size) ?_ cu) ?_ (by omega)).mono ?_
 ·repeat (refine Below.setCell ?_ (by dsimp only;omega) _)
  exact hB1
 ·simp;omega
 rintro e w2 ⟨B4,e4,rfl,mQ,hb2⟩;have z2:=hb2.size;simp only[zM] at z2 mQ;have qX:Turned (w.heap.size+1) (w.heap.size+3) w1 w2:=by
  refine Turned.trans ?_ (Turned.of_below hb2 _ _);repeat (refine Turned.setCell ?_ (by simp) (by simp) _)
  exact Turned.refl _ _ _
 have hB2:yT w w2:=hB1.trans (qX.below (by omega) (by omega));replace dU:=dU.turned qX (fun g hg => .inl (by omega));obtain⟨o7,sG⟩:=bn hb2;have rV:w.heap.size<w2.heap.size:=(by omega);have vz:w.heap.size+1<w2.heap.size:=(by omega);have PK:w.heap.size+1+1<w2.heap.size:=(by omega);go_wp2_with fail
 refine bodyPost_ret (v := .agg #[.int .i64 x.ax,.int .i64 x.dE,.slice B2 n2 e2,.int .i64 x.ai,.slice B4 n4 e4]) (by simp[results,Tryz.results110,go_sem,eX,gX,ik,CV,o7,rV,vz,PK]) rfl ?_;refine⟨_,rfl,?_,?_⟩
 ·refine E7 (F:=_) hw0 hw1 (dD.of (aB.turned dU (l:=w.heap.size+1) (r:=w.heap.size+3) ?t2 (fun g hg => .inl (by omega)))) hw3 (dD.of (aB.turned mQ (l:=w.heap.size+1) (r:=w.heap.size+3) ?t4 (fun g hg => .inl (by omega)))) ?k2 ?k4 ?d24
  case t2 =>
   repeat (refine Turned.setCell ?_ (by simp) (by simp) _)
   exact Turned.refl _ _ _
  case t4 =>
   repeat (refine Turned.setCell ?_ (by simp) (by simp) _)
   exact Turned.refl _ _ _
  case k2=>intro g hg;simp only[zM];omega
  case k4=>intro g hg;simp only[zM];omega
  case d24=>intro g hg nI;omega
 ·repeat (refine Below.setCell ?_ (by dsimp only;omega) _)
  exact hB2
theorem KI:(Tryz.prog.info? 69).map (fun i=>(i.zero,i.size,i.bytes))=some (some (.agg #[.int .i64 0,.int .i64 0,.slice none 0 0,.int .i64 0,.slice none 0 0]),5,72):=by kernel_rfl
theorem PR{w:World}{A:Option Addr}{n c hi:Nat}{xs:List bY}(h:a_ aI w hi A n xs)(cu:hi≤w.heap.size)(hn:n≤1048576)(hs:(xs.map bV).sum≤1048576) :
  Calls Tryz.prog 47 #[.slice A n c] w (vw aI 69 w n xs):=by
 obtain⟨i0,jJ,hz0,hz1,hz2⟩:=info_parts KI;have hmk:=fun W:World=>run_make (P:=Tryz.prog) W 36 69 i0 _ Tryz.underlying36 jJ hz0 .i64 .i64 n n (by omega) (by omega) (by rw[hz2];omega) (by omega)
 simp only[hz1,yA] at hmk;have HL:=zA h.1;clear jJ hz0 hz1 hz2;go_enter Tryz.func47,Tryz.ntmps47
 go_wp2
 clear hmk;go_loopw[4] (fun i wr=>∃k:Nat,k≤n∧i=.int .i64 k∧Part aI 69 wr w.heap.size n xs k wr.heap.size∧yT w wr) (fun i _=>n-(intOf i).toNat)
 case atStart =>
  refine⟨0,zL _,rfl,?_,(zD _ _).alloc (zC _) _⟩;have hm:=Own.made (size:=5) (e:=69) w (madeCells #[.int .i64 0,.int .i64 0,.slice none 0 0,.int .i64 0,.slice none 0 0] (n*5)) n n (by simp only[maxLen];omega) (by simp[size_madeCells]) (zC _);exact Part.start HL.out hm (by simp)
 case round =>
  obtain⟨k,hk,rfl,hpart,hb⟩:=hrel;have z:=hb.size;by_cases hlt:k<n
  ·obtain⟨hx,g,o,vs,rfl,hg,aW,hcell⟩:=(h.below hb cu).at_ hlt;have hsz:bV xs[k]≤1048576:=zJ (dI bV (zS hx)) hs;have jh:=zA (zG hx);generalize xs[k]=x at *;have HE:=zA (fun (W:World) (hW:yT wr W)=>SK (w:=W) (aI.keep aW fun k hk=>hW.block k (by omega)) (by have:=hW.size;omega) hsz);obtain⟨A2,n2,c2,A4,n4,c4,rfl,hw0,hw1,⟨hc2,jY,s2⟩,hw3,⟨hc4,hm4,s4⟩⟩:=gK aW;have dK:=hcell 0 _ rfl;have eu:=hcell 1 _ rfl;have ig:=hcell 2 _ rfl;have jf:=hcell 3 _ rfl;have lS:=hcell 4 _ rfl;simp only[show aI.size=5 from rfl,←zH,zI,zK] at dK eu ig jf lS;clear hcell;go_wp2_with fail
   refine (HE.out _ (zD _ _)).mono ?_;rintro e w1 ⟨us,rfl,dU,hb1⟩;have zy:=aI.len (aI.seen dU (hi:=w1.heap.size) fun g hg=>hg.2);have hsu:=aI.seen dU (hi:=w1.heap.size) fun g hg=>hg.2
   obtain⟨A2u,n2u,c2u,A4u,n4u,c4u,rfl,ac1,ahO,⟨ahI,ahJ,s2u⟩,aoe,⟨aof,aog,s4u⟩⟩:=gK hsu;have oH:=hpart.below hb1;obtain⟨⟨v0,KE⟩,hf0⟩:=oH.room hlt 0 (by decide);obtain⟨⟨v1,ho1⟩,PG⟩:=oH.room hlt 1 (by decide);obtain⟨⟨v2,ho2⟩,hf2⟩:=oH.room hlt 2 (by decide);obtain⟨⟨v3,Xp⟩,hf3⟩:=oH.room hlt 3 (by decide);obtain⟨⟨v4,U3⟩,hf4⟩:=oH.room hlt 4 (by decide);have xM:=oH.step jh.out zy dU (fun g hg=>hg);have hb2:yT w w1:=hb.trans (hb1.mono z);simp only[show aI.size=5 from rfl,←zH,zI,zK] at KE hf0 ho1 PG ho2 hf2 Xp hf3 U3 hf4 xM;clear hpart oH hb1 HE dU zy dK eu ig jf lS s2 s2u s4 s4u;go_wp2_with fail
   go_roundw
   case rel=>exact⟨k+1,by omega,by go_num,by simpa[putCells] using xM,by go_grown⟩
   case measure=>simp[intOf];omega
  ·go_wp2_with fail
   go_ret;obtain rfl:k=n:=(by omega);exact⟨_,_,rfl,hpart.done,hb⟩
structure eQ where
 dm:Int
 iW:List Int
def aX:Lay eQ:=(Lay.int.pair (Lay.int.tail 3)).via fun x=>(x.dm,x.iW)
theorem PS:lD Tryz.prog 160 aX :=
 qG _ (fun a=>⟨⟨a.1,a.2⟩,rfl⟩) (jq Tryz.underlying160 (by kernel_rfl) (.cons rfl (fZ Tryz.underlying3 (by kernel_rfl)) (.one rfl (qH Tryz.underlying22 (by kernel_rfl) (by decide) (fZ Tryz.underlying3 (by kernel_rfl))))))
theorem iQ{w:World}{hi:Nat}{x:eQ}{vs:List Value}(h:aX.see w hi x vs):∃A1 n1 c1,vs=[.int .i64 x.dm,.slice A1 n1 c1]∧(Lit.int .i64 x.dm).wf=true∧(n1≤c1∧c1≤maxLen∧a_ Lay.int w hi A1 n1 x.iW):=by
 obtain⟨_,_,rfl,s0,s1⟩:=h;obtain⟨rfl,h0⟩:=s0;obtain⟨A1,n1,c1,rfl,h1⟩:=s1;exact⟨A1,n1,c1,rfl,h0,h1⟩
theorem BU{w:World}{F:Nat→Prop}{x:eQ}(h0:(Lit.int .i64 x.dm).wf=true){A1:Option Addr}{n1 c1:Nat}{F1:Nat→Prop}(h1:dD Lay.int 3 w F1 A1 n1 c1 x.iW)(k1:∀g,F1 g→F g):aX.own w F x [.int .i64 x.dm,.slice A1 n1 c1]:=by
 exact⟨_,_,(fun _=>False),(fun g=>F1 g),rfl,⟨rfl,h0⟩,⟨A1,n1,c1,rfl,h1⟩,(fun _ h=>h.elim),(fun g h=>by first|exact k1 g h),(fun g h=>h.elim)⟩
def dO(x:eQ):Nat:=x.iW.length
theorem Nz{w:World}{hi l:Nat}{x:eQ}{vs:List Value}(h:aX.see w hi x vs)(cu:hi≤w.heap.size)(hl:l≤1048576) :
  Calls Tryz.prog 93 #[.agg vs.toArray,.int .i64 (l:Int)] w (nO w l (dO x)):=by
 obtain⟨A1,n1,c1,rfl,hw0,⟨hc1,hm1,s1⟩⟩:=iQ h;have hb0:yT w (w.alloc (.cells #[.int .i64 x.dm,.slice A1 n1 c1] 160)):=(zD _ _).alloc (zC _) _;have hz0:w.heap.size+1≤(w.alloc (.cells #[.int .i64 x.dm,.slice A1 n1 c1] 160)).heap.size:=(by simp);go_enter Tryz.func93,Tryz.ntmps93
 have L1:=zA s1.1;go_wp2_with fail
 refine (vY (l:=l) (by omega) (zJ hc1 hm1)).mono ?_;rintro e w1 ⟨hb1,hcase⟩;have z1:=hb1.size;obtain⟨eX,gQ⟩:=bn hb1;simp only[zF] at z1;have gX:w.heap.size<w1.heap.size:=(by omega);have hB1:yT w w1:=hb0.trans (hb1.mono (by simp));rcases hcase with⟨h10,rfl⟩|⟨h10,rfl⟩
 ·go_wp2_with fail
  go_ret;exact⟨hB1,.inl ⟨by unfold dO;rw[L1.out];omega,by unfold dO;rw[L1.out];go_num⟩⟩
 ·go_wp2_with fail
  go_ret;exact⟨hB1,.inr ⟨by unfold dO;rw[L1.out];omega,rfl⟩⟩
theorem KJ{w:World}{hi n c l:Nat}{A:Option Addr}{ds:List eQ}(h:a_ aX w hi A n ds)(cu:hi≤w.heap.size)(hl:l≤1048576)(hn:n≤maxLen) :
  Calls Tryz.prog 37 #[.slice A n c,.int .i64 (l:Int)] w (nO w l (n+(ds.map dO).sum)):=by
 unfold maxLen at hn;have HL:=zA h.1;by_cases h0:n≤l
 ·go_enter Tryz.func37,Tryz.ntmps37
  go_wp2_with fail
  go_loopw[1,5] (fun q i wr=>∃k:Nat,k≤n∧i=.int .i64 k∧n+((ds.take k).map dO).sum≤l∧q=.int .i64 ((l-(n+((ds.take k).map dO).sum):Nat):Int)∧yT w wr) (fun _ i _=>n-(intOf i).toNat)
  case atStart=>exact⟨0,zL _,rfl,by simpa using h0,by simp;go_num,zD _ _⟩
  case round =>
   obtain⟨k,hk,rfl,hle,rfl,hb⟩:=hrel;have z:=hb.size;by_cases hlt:k<n
   ·obtain⟨hx,g,o,vs,rfl,hg,aW,hcell⟩:=(h.below hb cu).at_ hlt;have iJ:=aW;have KG:=zA (jQ (f:=dO) (zG hx));have Ue:=lh dO ds (k+1);rw[KG.out] at Ue;generalize ds[k]=d at *;obtain⟨A1,n1,c1,rfl,hw0,⟨hc1,hm1,s1⟩⟩:=iQ aW;have dK:=hcell 0 _ rfl;have eu:=hcell 1 _ rfl;simp only[show aX.size=2 from rfl,←zH,zI,zK] at dK eu;clear hcell aW s1;generalize hT:((ds.take k).map dO).sum=S at *;have HT:=zA hT;clear hT;go_wp2_with fail
    refine (Nz (l:=l-(n+S)) iJ (by omega) (by omega)).mono ?_;rintro e w1 ⟨hb1,hcase⟩;have oQ:yT w w1:=hb.trans (hb1.mono z);clear dK eu hb1 iJ;rcases hcase with⟨h1,rfl⟩|⟨h1,rfl⟩
    ·go_wp2_with fail
     go_roundw
     case rel=>exact⟨k+1,by omega,by go_num,by rw[KG.out];omega,by rw[KG.out];go_num,oQ⟩
     case measure=>simp[intOf];omega
    ·go_wp2_with fail
     go_ret;exact⟨oQ,.inr ⟨by omega,rfl⟩⟩
   ·go_wp2_with fail
    go_ret;obtain rfl:k=n:=(by omega);have Xo:ds.take k=ds:=zU (by rw[HL.out];exact zC _);rw[Xo] at hle ⊢;exact⟨hb,.inl ⟨hle,rfl⟩⟩
 ·have h1:l<n:=(by omega);clear h;go_enter Tryz.func37,Tryz.ntmps37
  go_wp2_with fail
  go_ret;exact⟨zD _ _,.inr ⟨by omega,rfl⟩⟩
theorem KL{w:World}{hi hi':Nat}{x:eQ}{vs vs':List Value}(h:aX.see w hi x vs)(h':aX.see w hi' x vs')(cu:hi≤w.heap.size)(vC:hi'≤w.heap.size)(hn:dO x≤1048580) :
  Calls Tryz.prog 132 #[.agg vs.toArray,.agg vs'.toArray] w (iP w):=by
 obtain⟨A1,n1,c1,rfl,hw0,⟨hc1,hm1,s1⟩⟩:=iQ h;obtain⟨A1',n1',c1',rfl,U5,⟨Xt,NC,Rw⟩⟩:=iQ h';obtain rfl:n1=n1':=s1.1.symm.trans Rw.1;have L1:=zA s1.1;have jS:=hn;unfold dO at jS;rw[L1.out] at jS;have hb0:yT w ((w.alloc (.cells #[.int .i64 x.dm,.slice A1 n1 c1] 137)).alloc (.cells #[.int .i64 x.dm,.slice A1' n1 c1'] 137)):=((zD _ _).alloc (zC _) _).alloc (by simp) _;go_enter Tryz.func132,Tryz.ntmps132
 go_wp2_with fail
 (try (go_quiet (fail)))
 go_wp2_with fail
 refine (uq (s1.below hb0 cu) (Rw.below hb0 vC) (by omega)).mono ?_;rintro e w1 ⟨rfl,hb1⟩;have z1:=hb1.size;obtain⟨eX,gQ⟩:=bn hb1;have hB1:yT w w1:=hb0.trans (hb1.mono (by simp;omega));simp only[zF] at z1;have gX:w.heap.size<w1.heap.size:=(by omega);have ik:w.heap.size+1<w1.heap.size:=(by omega);go_wp2_with fail
 go_ret;exact⟨rfl,by first|exact hB1|exact gz hB1 _⟩
theorem Ip{A A':Option Addr}{n c c' hi hi':Nat}{xs:List eQ}{w:World}(h:a_ aX w hi A n xs)(h':a_ aX w hi' A' n xs)(hh:hi≤w.heap.size)(KF:hi'≤w.heap.size)(hn:n≤1048580)(hs:(xs.map dO).sum≤1048580) :
  Calls Tryz.prog 57 #[.slice A n c,.slice A' n c'] w (iP w):=by
 go_enter Tryz.func57,Tryz.ntmps57
 go_wp2
 go_loopw[5] (fun i wr=>∃k:Nat,k≤n∧i=.int .i64 k∧yT w wr) (fun i _=>n-(intOf i).toNat)
 case atStart=>exact⟨0,zL _,rfl,zD _ _⟩
 case round =>
  obtain⟨k,hk,rfl,hb⟩:=hrel;have z:=hb.size;by_cases hlt:k<n
  ·obtain⟨hx,g,o,vs,rfl,hg,aW,hc⟩:=(h.below hb hh).at_ hlt;obtain⟨hx',g',o',vs',rfl,nI,qh,hc'⟩:=(h'.below hb KF).at_ hlt;have hsz:dO xs[k]≤1048580:=zJ (dI dO (zS hx)) hs;generalize xs[k]=x at *;have HE:=zA (fun (W:World) (hW:yT wr W)=>KL (aX.keep aW fun k hk=>hW.block k (by omega)) (aX.keep qh fun k hk=>hW.block k (by omega)) (by have:=hW.size;omega) (by have:=hW.size;omega) hsz);obtain⟨A1,n1,c1,rfl,hw0,⟨hc1,hm1,s1⟩⟩:=iQ aW;obtain⟨A1',n1',c1',rfl,U5,⟨Xt,NC,Rw⟩⟩:=iQ qh;have dK:=hc 0 _ rfl;have xw:=hc' 0 _ rfl;have eu:=hc 1 _ rfl;have zh:=hc' 1 _ rfl;simp only[show aX.size=2 from rfl,←zH,zI,zK] at dK eu xw zh;clear hc hc' aW qh s1 Rw;have jJ:(0:Int)≤(k:Int):=(by omega);have u_:(k:Int)<(n:Int):=(by omega);have hb0:yT wr wr.drew:=(zD _ _).drew;go_wp2_with fail
   go_region_with (go_at_call 132;refine (HE.out _ hb0).mono ?_;rintro e w1 ⟨rfl,hb1⟩)
   all_goals
    have oQ:yT w w1:=hb.drew.trans (hb1.mono z);clear hb1 HE dK eu xw zh;go_wp2_with fail
    go_roundw
    case rel=>exact⟨k+1,by omega,by go_num,oQ⟩
    case measure=>simp[intOf];omega
  ·go_wp2
   go_ret;exact⟨rfl,hb⟩
theorem ND{w:World}{hi:Nat}{x:eQ}{vs:List Value}(h:aX.see w hi x vs)(cu:hi≤w.heap.size)(hn:dO x≤1048576) :
  Calls Tryz.prog 112 #[.agg vs.toArray] w (su aX w x):=by
 obtain⟨A1,n1,c1,rfl,hw0,⟨hc1,hm1,s1⟩⟩:=iQ h;have L1:=zA s1.1;have jS:=hn;unfold dO at jS;rw[L1.out] at jS;have hb0:yT w (((w.alloc (.cells #[.int .i64 x.dm,.slice A1 n1 c1] 160)).alloc (.cells #[.int .i64 0,.slice none 0 0] 137)).alloc (.cells #[.int .i64 0,.slice none 0 0] 137)):=by go_grown
 go_enter Tryz.func112,Tryz.ntmps112
 go_wp2_with fail
 refine (vZ (s1.below (B:=w.heap.size) ?_ cu) ?_ (by omega)).mono ?_
 ·go_grown
 ·simp;omega
 rintro e w1 ⟨B1,e1,rfl,dU,hb1⟩;have z1:=hb1.size;simp only[zF] at z1 dU;have hB1:yT w w1:=zQ (by go_grown) (hb1.mono (by simp;omega));obtain⟨eX,gQ⟩:=bn hb1;have gX:w.heap.size<w1.heap.size:=(by omega);have ik:w.heap.size+1<w1.heap.size:=(by omega);have CV:w.heap.size+1+1<w1.heap.size:=(by omega);go_wp2_with fail
 refine bodyPost_ret (v := .agg #[.int .i64 x.dm,.slice B1 n1 e1]) (by simp[results,Tryz.results112,go_sem,eX,gX,ik,CV]) rfl ?_;refine⟨_,rfl,?_,?_⟩
 ·refine BU (F:=_) hw0 (dD.of (aB.turned dU (l:=w.heap.size+1) (r:=w.heap.size+3) ?t1 (fun g hg => .inl (by omega)))) ?k1
  case t1 =>
   repeat (refine Turned.setCell ?_ (by simp) (by simp) _)
   exact Turned.refl _ _ _
  case k1=>intro g hg;simp only[zM];omega
 ·repeat (refine Below.setCell ?_ (by dsimp only;omega) _)
  exact hB1
theorem SL:(Tryz.prog.info? 137).map (fun i=>(i.zero,i.size,i.bytes))=some (some (.agg #[.int .i64 0,.slice none 0 0]),2,32):=by kernel_rfl
theorem KN{w:World}{A:Option Addr}{n c hi:Nat}{xs:List eQ}(h:a_ aX w hi A n xs)(cu:hi≤w.heap.size)(hn:n≤1048576)(hs:(xs.map dO).sum≤1048576) :
  Calls Tryz.prog 49 #[.slice A n c] w (vw aX 137 w n xs):=by
 obtain⟨i0,jJ,hz0,hz1,hz2⟩:=info_parts SL;have hmk:=fun W:World=>run_make (P:=Tryz.prog) W 38 137 i0 _ Tryz.underlying38 jJ hz0 .i64 .i64 n n (by omega) (by omega) (by rw[hz2];omega) (by omega)
 simp only[hz1,yA] at hmk;have HL:=zA h.1;clear jJ hz0 hz1 hz2;go_enter Tryz.func49,Tryz.ntmps49
 go_wp2
 clear hmk;go_loopw[4] (fun i wr=>∃k:Nat,k≤n∧i=.int .i64 k∧Part aX 137 wr w.heap.size n xs k wr.heap.size∧yT w wr) (fun i _=>n-(intOf i).toNat)
 case atStart =>
  refine⟨0,zL _,rfl,?_,(zD _ _).alloc (zC _) _⟩;have hm:=Own.made (size:=2) (e:=137) w (madeCells #[.int .i64 0,.slice none 0 0] (n*2)) n n (by simp only[maxLen];omega) (by simp[size_madeCells]) (zC _);exact Part.start HL.out hm (by simp)
 case round =>
  obtain⟨k,hk,rfl,hpart,hb⟩:=hrel;have z:=hb.size;by_cases hlt:k<n
  ·obtain⟨hx,g,o,vs,rfl,hg,aW,hcell⟩:=(h.below hb cu).at_ hlt;have hsz:dO xs[k]≤1048576:=zJ (dI dO (zS hx)) hs;have jh:=zA (zG hx);generalize xs[k]=x at *;have HE:=zA (fun (W:World) (hW:yT wr W)=>ND (w:=W) (aX.keep aW fun k hk=>hW.block k (by omega)) (by have:=hW.size;omega) hsz);obtain⟨A1,n1,c1,rfl,hw0,⟨hc1,hm1,s1⟩⟩:=iQ aW;have dK:=hcell 0 _ rfl;have eu:=hcell 1 _ rfl;simp only[show aX.size=2 from rfl,←zH,zI,zK] at dK eu;clear hcell;go_wp2_with fail
   refine (HE.out _ (zD _ _)).mono ?_;rintro e w1 ⟨us,rfl,dU,hb1⟩;have zy:=aX.len (aX.seen dU (hi:=w1.heap.size) fun g hg=>hg.2);have hsu:=aX.seen dU (hi:=w1.heap.size) fun g hg=>hg.2
   obtain⟨A1u,n1u,c1u,rfl,ac1,⟨ahF,ahG,s1u⟩⟩:=iQ hsu;have oH:=hpart.below hb1;obtain⟨⟨v0,KE⟩,hf0⟩:=oH.room hlt 0 (by decide);obtain⟨⟨v1,ho1⟩,PG⟩:=oH.room hlt 1 (by decide);have xM:=oH.step jh.out zy dU (fun g hg=>hg);have hb2:yT w w1:=hb.trans (hb1.mono z);simp only[show aX.size=2 from rfl,←zH,zI,zK] at KE hf0 ho1 PG xM;clear hpart oH hb1 HE dU zy dK eu s1 s1u;go_wp2_with fail
   go_roundw
   case rel=>exact⟨k+1,by omega,by go_num,by simpa[putCells] using xM,by go_grown⟩
   case measure=>simp[intOf];omega
  ·go_wp2_with fail
   go_ret;obtain rfl:k=n:=(by omega);exact⟨_,_,rfl,hpart.done,hb⟩
structure dY where
 bJ:List bY
 aA:List gy
 ay:List eQ
def bZ:Lay dY:=((aI.slice 69).pair ((bD.slice 135).pair (aX.slice 137))).via fun x=>(x.bJ,(x.aA,x.ay))
theorem U8:lD Tryz.prog 31 bZ :=
 qG _ (fun a=>⟨⟨a.1,a.2.1,a.2.2⟩,rfl⟩) (jq Tryz.underlying31 (by kernel_rfl) (.cons rfl (lY Tryz.underlying27 (by kernel_rfl) (by decide) U4) (.cons rfl (lY Tryz.underlying28 (by kernel_rfl) (by decide) SE) (.one rfl (lY Tryz.underlying29 (by kernel_rfl) (by decide) PS)))))
theorem iV{w:World}{hi:Nat}{x:dY}{vs:List Value}(h:bZ.see w hi x vs):∃A0 n0 c0 A1 n1 c1 A2 n2 c2,vs=[.slice A0 n0 c0,.slice A1 n1 c1,.slice A2 n2 c2]∧(n0≤c0∧c0≤maxLen∧a_ aI w hi A0 n0 x.bJ)∧(n1≤c1∧c1≤maxLen∧a_ bD w hi A1 n1 x.aA)∧(n2≤c2∧c2≤maxLen∧a_ aX w hi A2 n2 x.ay):=by
 obtain⟨_,_,rfl,s0,⟨_,_,rfl,s1,s2⟩⟩:=h;obtain⟨A0,n0,c0,rfl,h0⟩:=s0;obtain⟨A1,n1,c1,rfl,h1⟩:=s1;obtain⟨A2,n2,c2,rfl,h2⟩:=s2;exact⟨A0,n0,c0,A1,n1,c1,A2,n2,c2,rfl,h0,h1,h2⟩
theorem Kt{w:World}{F:Nat→Prop}{x:dY}{A0:Option Addr}{n0 c0:Nat}{F0:Nat→Prop}(h0:aB aI 69 w F0 A0 n0 c0 x.bJ){A1:Option Addr}{n1 c1:Nat}{F1:Nat→Prop}(h1:aB bD 135 w F1 A1 n1 c1 x.aA){A2:Option Addr}{n2 c2:Nat}{F2:Nat→Prop}(h2:aB aX 137 w F2 A2 n2 c2 x.ay)(k0:∀g,F0 g→F g)(k1:∀g,F1 g→F g)(k2:∀g,F2 g→F g)(d01:∀g,F0 g→¬F1 g)(d02:∀g,F0 g→¬F2 g)(d12:∀g,F1 g→¬F2 g):bZ.own w F x [.slice A0 n0 c0,.slice A1 n1 c1,.slice A2 n2 c2]:=by
 exact⟨_,_,F0,(fun g=>F1 g∨F2 g),rfl,⟨A0,n0,c0,rfl,h0⟩,⟨_,_,F1,(fun g=>F2 g),rfl,⟨A1,n1,c1,rfl,h1⟩,⟨A2,n2,c2,rfl,h2⟩,(fun g h=>Or.inl h),(fun g h=>Or.inr h),(fun g h h2=>by first|exact d12 g h h2)⟩,k0,(fun g h=>by rcases h with h|h <;> first|exact k1 g h|exact k2 g h),(fun g h h2=>by rcases h2 with h2|h2 <;> first|exact d01 g h h2|exact d02 g h h2)⟩
def dS(x:dY):Nat:=(x.bJ.length+(x.bJ.map bV).sum)+(x.aA.length+(x.aA.map dN).sum)+(x.ay.length+(x.ay.map dO).sum)
theorem SN{w:World}{hi l:Nat}{x:dY}{vs:List Value}(h:bZ.see w hi x vs)(cu:hi≤w.heap.size)(hl:l≤1048576) :
  Calls Tryz.prog 7 #[.agg vs.toArray,.int .i64 (l:Int)] w (nO w l (dS x)):=by
 obtain⟨A0,n0,c0,A1,n1,c1,A2,n2,c2,rfl,⟨hc0,hm0,s0⟩,⟨hc1,hm1,s1⟩,⟨hc2,jY,s2⟩⟩:=iV h;have hb0:yT w (w.alloc (.cells #[.slice A0 n0 c0,.slice A1 n1 c1,.slice A2 n2 c2] 31)):=(zD _ _).alloc (zC _) _;have hz0:w.heap.size+1≤(w.alloc (.cells #[.slice A0 n0 c0,.slice A1 n1 c1,.slice A2 n2 c2] 31)).heap.size:=(by simp);go_enter Tryz.func7,Tryz.ntmps7
 have L0:=zA s0.1;go_wp2_with fail
 refine (PN (l:=l) (s0.below hb0 cu) (by have:=hb0.size;omega) (by omega) (zJ hc0 hm0)).mono ?_;rintro e w1 ⟨hb1,hcase⟩;have z1:=hb1.size;obtain⟨eX,gQ⟩:=bn hb1;simp only[zF] at z1;have gX:w.heap.size<w1.heap.size:=(by omega);have hB1:yT w w1:=hb0.trans (hb1.mono (by simp));rcases hcase with⟨h10,rfl⟩|⟨h10,rfl⟩
 ·skip
  have L1:=zA s1.1;go_wp2_with fail
  refine (Nq (l:=l-(n0+(x.bJ.map bV).sum)) (s1.below hB1 cu) (by have:=hB1.size;omega) (by omega) (zJ hc1 hm1)).mono ?_;rintro e w2 ⟨hb2,hcase⟩;have z2:=hb2.size;obtain⟨o7,sG⟩:=bn hb2;have rV:w.heap.size<w2.heap.size:=(by omega);have hB2:yT w w2:=hB1.trans (hb2.mono (by omega));rcases hcase with⟨h11,rfl⟩|⟨h11,rfl⟩
  ·skip
   have L2:=zA s2.1;go_wp2_with fail
   refine (KJ (l:=l-(n0+(x.bJ.map bV).sum)-(n1+(x.aA.map dN).sum)) (s2.below hB2 cu) (by have:=hB2.size;omega) (by omega) (zJ hc2 jY)).mono ?_;rintro e w3 ⟨hb3,hcase⟩;have z3:=hb3.size;obtain⟨z7,E8⟩:=bn hb3;have E_:w.heap.size<w3.heap.size:=(by omega);have qx:yT w w3:=hB2.trans (hb3.mono (by omega));rcases hcase with⟨Bf,rfl⟩|⟨Bf,rfl⟩
   ·go_wp2_with fail
    go_ret;exact⟨qx,.inl ⟨by unfold dS;rw[L0.out];rw[L1.out];rw[L2.out];omega,by unfold dS;rw[L0.out];rw[L1.out];rw[L2.out];go_num⟩⟩
   ·go_wp2_with fail
    go_ret;exact⟨qx,.inr ⟨by unfold dS;rw[L0.out];rw[L1.out];rw[L2.out];omega,rfl⟩⟩
  ·go_wp2_with fail
   go_ret;exact⟨hB2,.inr ⟨by unfold dS;rw[L0.out];rw[L1.out];omega,rfl⟩⟩
 ·go_wp2_with fail
  go_ret;exact⟨hB1,.inr ⟨by unfold dS;rw[L0.out];omega,rfl⟩⟩
theorem zk{w:World}{hi:Nat}{x:dY}{vs:List Value}(h:bZ.see w hi x vs)(cu:hi≤w.heap.size)(hn:dS x≤1048576) :
  Calls Tryz.prog 10 #[.agg vs.toArray] w (su bZ w x):=by
 obtain⟨A0,n0,c0,A1,n1,c1,A2,n2,c2,rfl,⟨hc0,hm0,s0⟩,⟨hc1,hm1,s1⟩,⟨hc2,jY,s2⟩⟩:=iV h;have L0:=zA s0.1;have L1:=zA s1.1;have L2:=zA s2.1;have jS:=hn;unfold dS at jS;rw[L0.out] at jS;rw[L1.out] at jS;rw[L2.out] at jS;have hb0:yT w (((w.alloc (.cells #[.slice A0 n0 c0,.slice A1 n1 c1,.slice A2 n2 c2] 31)).alloc (.cells #[.slice none 0 0,.slice none 0 0,.slice none 0 0] 40)).alloc (.cells #[.slice none 0 0,.slice none 0 0,.slice none 0 0] 40)):=by go_grown
 go_enter Tryz.func10,Tryz.ntmps10
 go_wp2_with fail
 refine (PR (s0.below (B:=w.heap.size) ?_ cu) ?_ (by omega) (by omega)).mono ?_
 ·go_grown
 ·simp;omega
 rintro e w1 ⟨B0,e0,rfl,dU,hb1⟩;have z1:=hb1.size;simp only[zF] at z1 dU;have hB1:yT w w1:=zQ (by go_grown) (hb1.mono (by simp;omega));obtain⟨eX,gQ⟩:=bn hb1;have gX:w.heap.size<w1.heap.size:=(by omega);have ik:w.heap.size+1<w1.heap.size:=(by omega);have CV:w.heap.size+1+1<w1.heap.size:=(by omega);go_wp2_with fail
 refine (Ns (s1.below (B:=w.heap.size) ?_ cu) ?_ (by omega) (by omega)).mono ?_
 ·repeat (refine Below.setCell ?_ (by dsimp only;omega) _)
  exact hB1
 ·simp;omega
 rintro e w2 ⟨B1,e1,rfl,mQ,hb2⟩;have z2:=hb2.size;simp only[zM] at z2 mQ;have qX:Turned (w.heap.size+1) (w.heap.size+3) w1 w2:=by
  refine Turned.trans ?_ (Turned.of_below hb2 _ _);repeat (refine Turned.setCell ?_ (by simp) (by simp) _)
  exact Turned.refl _ _ _
 have hB2:yT w w2:=hB1.trans (qX.below (by omega) (by omega));replace dU:=dU.turned qX (fun g hg => .inl (by omega));obtain⟨o7,sG⟩:=bn hb2;have rV:w.heap.size<w2.heap.size:=(by omega);have vz:w.heap.size+1<w2.heap.size:=(by omega);have PK:w.heap.size+1+1<w2.heap.size:=(by omega);go_wp2_with fail
 refine (KN (s2.below (B:=w.heap.size) ?_ cu) ?_ (by omega) (by omega)).mono ?_
 ·repeat (refine Below.setCell ?_ (by dsimp only;omega) _)
  exact hB2
 ·simp;omega
 rintro e w3 ⟨B2,e2,rfl,xx,hb3⟩;have z3:=hb3.size;simp only[zM] at z3 xx;have qA:Turned (w.heap.size+1) (w.heap.size+3) w2 w3:=by
  refine Turned.trans ?_ (Turned.of_below hb3 _ _);repeat (refine Turned.setCell ?_ (by simp) (by simp) _)
  exact Turned.refl _ _ _
 have qx:yT w w3:=hB2.trans (qA.below (by omega) (by omega));replace dU:=dU.turned qA (fun g hg => .inl (by omega));replace mQ:=mQ.turned qA (fun g hg => .inl (by omega));obtain⟨z7,E8⟩:=bn hb3;have E_:w.heap.size<w3.heap.size:=(by omega);have Nr:w.heap.size+1<w3.heap.size:=(by omega);have U1:w.heap.size+1+1<w3.heap.size:=(by omega);go_wp2_with fail
 refine bodyPost_ret (v := .agg #[.slice B0 n0 e0,.slice B1 n1 e1,.slice B2 n2 e2]) (by simp[results,Tryz.results10,go_sem,eX,gX,ik,CV,o7,rV,vz,PK,z7,E_,Nr,U1]) rfl ?_;refine⟨_,rfl,?_,?_⟩
 ·refine Kt (F:=_) (aB.turned dU (l:=w.heap.size+1) (r:=w.heap.size+3) ?t0 (fun g hg => .inl (by omega))) (aB.turned mQ (l:=w.heap.size+1) (r:=w.heap.size+3) ?t1 (fun g hg => .inl (by omega))) (aB.turned xx (l:=w.heap.size+1) (r:=w.heap.size+3) ?t2 (fun g hg => .inl (by omega))) ?k0 ?k1 ?k2 ?d01 ?d02 ?d12
  case t0 =>
   repeat (refine Turned.setCell ?_ (by simp) (by simp) _)
   exact Turned.refl _ _ _
  case t1 =>
   repeat (refine Turned.setCell ?_ (by simp) (by simp) _)
   exact Turned.refl _ _ _
  case t2 =>
   repeat (refine Turned.setCell ?_ (by simp) (by simp) _)
   exact Turned.refl _ _ _
  case k0=>intro g hg;simp only[zM];omega
  case k1=>intro g hg;simp only[zM];omega
  case k2=>intro g hg;simp only[zM];omega
  case d01=>intro g hg nI;omega
  case d02=>intro g hg nI;omega
  case d12=>intro g hg nI;omega
 ·repeat (refine Below.setCell ?_ (by dsimp only;omega) _)
  exact qx
end Go.Proofs.YtjcoapnggojpdaaGreatDoor
