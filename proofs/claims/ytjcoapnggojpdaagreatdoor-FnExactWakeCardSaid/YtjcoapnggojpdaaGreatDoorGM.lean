/- Texts of the proof, laid compactly. -/
import Derived.Test.YtjcoapnggojpdaaGreatDoorGDEng
import Derived.Test.YtjcoapnggojpdaaGreatDoorGDProg
set_option maxHeartbeats 2000000
set_option maxRecDepth 100000
namespace Go.Proofs.YtjcoapnggojpdaaGreatDoor
set_option linter.unusedSimpArgs false
set_option linter.unusedVariables false
open Go.RowKit
def mkInt(z:Int):Int:=z
def g8(k:Int)(n:Nat):List Int:=(List.range n).map fun (i:Nat)=>mkInt (k+1*(i:Int))
theorem ry(k:Int)(n:Nat):(g8 k n).length=n:=by simp[g8]
theorem AB{xs:List Int}{k:Int}{n j:Nat}(hl:xs.length=n)(hj:j<n) :
  (g8 k j++xs.drop j).set j (mkInt (k+1*(j:Int)))=g8 k (j+1)++xs.drop (j+1):=by
 apply List.ext_getElem?
 intro i;simp only[g8,List.getElem?_set,yM,yN,yL,zZ,List.length_range,List.length_drop,List.getElem?_drop];rcases Nat.lt_trichotomy i j with h|h|h
 ·simp[show ¬j=i from by omega,h,show i<j+1 from by omega]
 ·subst h;simp[show i<i+(xs.length-i) from by omega]
 ·simp[show ¬j=i from by omega,show ¬i<j from by omega,show ¬i<j+1 from by omega,show j+(i-j)=i from by omega,show j+1+(i-(j+1))=i from by omega]
def TZ(w:World)(F:Nat→Prop)(e:TypeId)(A:Option Addr)(n c:Nat)(k:Int)(en:Ending)(w':World):Prop :=
 en=.returned (.int .i64 (k+1*(n:Int)))∧aB Lay.int e w' F A n c (g8 k n)∧au F w w'
theorem Md{w:World}{F:Nat→Prop}{e:TypeId}{A:Option Addr}{n c:Nat}{k:Int}{xs:List Int}(h:aB Lay.int e w F A n c xs)(hn:n≤1048580)(hk0:0≤k)(hk:k≤16777216) :
  Calls Tryz.prog 61 #[.slice A n c,.int .i64 k] w (TZ w F e A n c k):=by
 have HL:=zA h.1;go_enter Tryz.func61,Tryz.ntmps61
 go_wp2_with fail
 go_loopw[1,5] (fun q i wr=>∃j:Nat,j≤n∧i=.int .i64 j∧q=.int .i64 (k+1*(j:Int))∧aB Lay.int e wr F A n c (g8 k j++xs.drop j)∧au F w wr) (fun _ i _=>n-(intOf i).toNat)
 case atStart=>exact⟨0,zL _,rfl,by simp,by simpa[g8] using h,au.refl _ _⟩
 case round =>
  obtain⟨j,hj,rfl,rfl,hown,ht⟩:=hrel;by_cases hlt:j<n
  ·obtain⟨hx,g,G,vs,rfl,hFg,MP,ve,AX,⟨rfl,hw⟩,hcell,hfr,hput⟩:=hown.focus hlt;have dK:=hcell 0 _ (by decide) rfl;have QV:=hfr (j*(Lay.int).size+0);simp only[show (Lay.int).size=1 from rfl,zI,zK] at dK QV;generalize (g8 k j++xs.drop j)[j]=x at *;clear hcell hfr hw;have hz0:0≤k+1*(j:Int):=(by omega);have hz1:k+1*(j:Int)≤33554432:=(by omega);have HZ:=zA (show k+1*(j:Int)+1=k+1*((j+1:Nat):Int) by omega);have HST:=zA (AB (k:=k) HL.out hlt);have HP:=zA hput;clear hput;generalize k+1*(j:Int)=z at *;go_wp2_with fail
   go_roundw
   case rel =>
    have hrow:=HP.out (putCells wr g (j*1) [.int .i64 z]) (mkInt z) [.int .i64 z] rfl ⟨rfl,iE (z:=z) (by omega) (by omega)⟩ (au.put _ _ _ (au.refl _ _) (Or.inr rfl)) rfl;rw[HST.out] at hrow;refine⟨j+1,by omega,by go_num,by rw[←HZ.out];try go_num,by first|exact hrow|simpa[putCells] using hrow,?_⟩;have GX:au F w (putCells wr g (j*1) [.int .i64 z]):=au.put _ _ _ ht hFg;first|exact GX|simpa[putCells] using GX
   case measure=>simp[intOf];omega
  ·go_wp2_with fail
   go_ret;obtain rfl:j=n:=(by omega);refine⟨rfl,?_,ht⟩;rw[List.drop_of_length_le (by rw[HL.out];exact zC _),List.append_nil] at hown;exact hown
theorem Me{w:World}{hi:Nat}{A:Option Addr}{n c:Nat}{k:Int}(h:a_ Lay.int w hi A n (g8 k n))(hn:n≤1048580)(hk0:0≤k)(hk:k≤16777216) :
  Calls Tryz.prog 139 #[.slice A n c,.int .i64 k] w fun e w'=>e=.returned (.int .i64 (k+1*(n:Int)))∧w=w':=by
 go_enter Tryz.func139,Tryz.ntmps139
 go_wp2_with fail
 go_loop[1,5] (fun q i=>∃j:Nat,j≤n∧i=.int .i64 j∧q=.int .i64 (k+1*(j:Int))) (fun _ i=>n-(intOf i).toNat)
 case atStart=>exact⟨0,zL _,rfl,by simp⟩
 case round =>
  obtain⟨j,hj,rfl,rfl⟩:=hrel;by_cases hlt:j<n
  ·obtain⟨hx,g,o,vs,rfl,hg,⟨rfl,hw⟩,hcell⟩:=h.at_ hlt;have Z4:(g8 k n)[j]=mkInt (k+1*(j:Int)):=(by simp[g8]);rw[Z4] at hcell;have dK:=hcell 0 _ rfl;simp only[show (Lay.int).size=1 from rfl,←zH,zI,zK,mkInt] at dK;clear hcell hw Z4;have hz0:0≤k+1*(j:Int):=(by omega);have hz1:k+1*(j:Int)≤33554432:=(by omega);have HZ:=zA (show k+1*(j:Int)+1=k+1*((j+1:Nat):Int) by omega);generalize k+1*(j:Int)=z at *;go_wp2_with fail
   go_round
   case rel=>exact⟨j+1,by omega,by go_num,by rw[←HZ.out];try go_num⟩
   case measure=>simp[intOf];omega
  ·go_wp2_with fail
   go_ret;obtain rfl:j=n:=(by omega);exact⟨rfl,rfl⟩
def QW(w:World)(F:Nat→Prop)(e:TypeId)(A:Option Addr)(n c:Nat)(k:Int)(en:Ending)(w':World):Prop :=
 en=.returned (.int .i64 (k+1*(n:Int)))∧dD Lay.int e w' F A n c (g8 k n)∧au F w w'
theorem Jj{w:World}{F:Nat→Prop}{e:TypeId}{A:Option Addr}{n c:Nat}{k:Int}{xs:List Int}(h:dD Lay.int e w F A n c xs)(hn:n≤1048580)(hk0:0≤k)(hk:k≤16777216) :
  Calls Tryz.prog 61 #[.slice A n c,.int .i64 k] w (QW w F e A n c k):=by
 have HL:=zA h.1;go_enter Tryz.func61,Tryz.ntmps61
 go_wp2_with fail
 go_loopw[1,5] (fun q i wr=>∃j:Nat,j≤n∧i=.int .i64 j∧q=.int .i64 (k+1*(j:Int))∧dD Lay.int e wr F A n c (g8 k j++xs.drop j)∧au F w wr) (fun _ i _=>n-(intOf i).toNat)
 case atStart=>exact⟨0,zL _,rfl,by simp,by simpa[g8] using h,au.refl _ _⟩
 case round =>
  obtain⟨j,hj,rfl,rfl,hown,ht⟩:=hrel;by_cases hlt:j<n
  ·obtain⟨hx,g,o,G,vs,rfl,hFg,MP,ve,AX,⟨rfl,hw⟩,hcell,hfr,hput⟩:=hown.focus hlt;have dK:=hcell 0 _ (by decide) rfl;have QV:=hfr (o+(j*(Lay.int).size+0));simp only[show (Lay.int).size=1 from rfl,←zH,zI,zK] at dK QV;generalize (g8 k j++xs.drop j)[j]=x at *;clear hcell hfr hw;have hz0:0≤k+1*(j:Int):=(by omega);have hz1:k+1*(j:Int)≤33554432:=(by omega);have HZ:=zA (show k+1*(j:Int)+1=k+1*((j+1:Nat):Int) by omega);have HST:=zA (AB (k:=k) HL.out hlt);have HP:=zA hput;clear hput;generalize k+1*(j:Int)=z at *;go_wp2_with fail
   go_roundw
   case rel =>
    have hrow:=HP.out (putCells wr g (o+j*1) [.int .i64 z]) (mkInt z) [.int .i64 z] rfl ⟨rfl,iE (z:=z) (by omega) (by omega)⟩ (au.put _ _ _ (au.refl _ _) (Or.inr rfl)) rfl;rw[HST.out] at hrow;refine⟨j+1,by omega,by go_num,by rw[←HZ.out];try go_num,by first|exact hrow|simpa[putCells] using hrow,?_⟩;have GX:au F w (putCells wr g (o+j*1) [.int .i64 z]):=au.put _ _ _ ht hFg;first|exact GX|simpa[putCells] using GX
   case measure=>simp[intOf];omega
  ·go_wp2_with fail
   go_ret;obtain rfl:j=n:=(by omega);refine⟨rfl,?_,ht⟩;rw[List.drop_of_length_le (by rw[HL.out];exact zC _),List.append_nil] at hown;exact hown
theorem Jk{w:World}{F:Nat→Prop}{e:TypeId}{A:Option Addr}{n c:Nat}{k:Int}{xs:List Int}(h:aB Lay.int e w F A n c xs)(hn:n≤1048580)(hk0:0≤k)(hk:k≤16777216) :
  Calls Tryz.prog 61 #[.slice A n c,.int .i64 k] w fun en w'=>en=.returned (.int .i64 (k+(n:Int)))∧aB Lay.int e w' F A n c (g8 k n)∧au F w w' :=
 (Md h hn hk0 hk).mono fun en w' hm=>by have h1:=hm.1;rw[Int.one_mul] at h1;exact⟨h1,hm.2⟩
theorem sO{w:World}{F:Nat→Prop}{e:TypeId}{A:Option Addr}{n c:Nat}{k:Int}{xs:List Int}(h:dD Lay.int e w F A n c xs)(hn:n≤1048580)(hk0:0≤k)(hk:k≤16777216) :
  Calls Tryz.prog 61 #[.slice A n c,.int .i64 k] w fun en w'=>en=.returned (.int .i64 (k+(n:Int)))∧dD Lay.int e w' F A n c (g8 k n)∧au F w w' :=
 (Jj h hn hk0 hk).mono fun en w' hm=>by have h1:=hm.1;rw[Int.one_mul] at h1;exact⟨h1,hm.2⟩
theorem uX{w:World}{hi:Nat}{A:Option Addr}{n c:Nat}{k:Int}(h:a_ Lay.int w hi A n (g8 k n))(hn:n≤1048580)(hk0:0≤k)(hk:k≤16777216) :
  Calls Tryz.prog 139 #[.slice A n c,.int .i64 k] w fun e w'=>e=.returned (.int .i64 (k+(n:Int)))∧w=w' :=
 (Me h hn hk0 hk).mono fun en w' hm=>by have h1:=hm.1;rw[Int.one_mul] at h1;exact⟨h1,hm.2⟩
def vK(z:Int):di:=⟨z,(z+1),(z+1+1)⟩
def fK(k:Int)(n:Nat):List di:=(List.range n).map fun (i:Nat)=>vK (k+3*(i:Int))
theorem sQ(k:Int)(n:Nat):(fK k n).length=n:=by simp[fK]
theorem vM{xs:List di}{k:Int}{n j:Nat}(hl:xs.length=n)(hj:j<n) :
  (fK k j++xs.drop j).set j (vK (k+3*(j:Int)))=fK k (j+1)++xs.drop (j+1):=by
 apply List.ext_getElem?
 intro i;simp only[fK,List.getElem?_set,yM,yN,yL,zZ,List.length_range,List.length_drop,List.getElem?_drop];rcases Nat.lt_trichotomy i j with h|h|h
 ·simp[show ¬j=i from by omega,h,show i<j+1 from by omega]
 ·subst h;simp[show i<i+(xs.length-i) from by omega]
 ·simp[show ¬j=i from by omega,show ¬i<j from by omega,show ¬i<j+1 from by omega,show j+(i-j)=i from by omega,show j+1+(i-(j+1))=i from by omega]
def MB(w:World)(F:Nat→Prop)(e:TypeId)(A:Option Addr)(n c:Nat)(k:Int)(en:Ending)(w':World):Prop :=
 en=.returned (.int .i64 (k+3*(n:Int)))∧aB aN e w' F A n c (fK k n)∧au F w w'
theorem Uy{w:World}{F:Nat→Prop}{e:TypeId}{A:Option Addr}{n c:Nat}{k:Int}{xs:List di}(h:aB aN e w F A n c xs)(hn:n≤1048580)(hk0:0≤k)(hk:k≤16777216) :
  Calls Tryz.prog 138 #[.slice A n c,.int .i64 k] w (MB w F e A n c k):=by
 have HL:=zA h.1;go_enter Tryz.func138,Tryz.ntmps138
 go_wp2_with fail
 go_loopw[1,5] (fun q i wr=>∃j:Nat,j≤n∧i=.int .i64 j∧q=.int .i64 (k+3*(j:Int))∧aB aN e wr F A n c (fK k j++xs.drop j)∧au F w wr) (fun _ i _=>n-(intOf i).toNat)
 case atStart=>exact⟨0,zL _,rfl,by simp,by simpa[fK] using h,au.refl _ _⟩
 case round =>
  obtain⟨j,hj,rfl,rfl,hown,ht⟩:=hrel;by_cases hlt:j<n
  ·obtain⟨hx,g,G,vs,rfl,hFg,MP,ve,AX,⟨rfl,hw⟩,hcell,hfr,hput⟩:=hown.focus hlt;have dK:=hcell 0 _ (by decide) rfl;have QV:=hfr (j*(aN).size+0);have eu:=hcell 1 _ (by decide) rfl;have V5:=hfr (j*(aN).size+1);have ig:=hcell 2 _ (by decide) rfl;have V6:=hfr (j*(aN).size+2);simp only[show (aN).size=3 from rfl,zI,zK] at dK QV eu V5 ig V6;generalize (fK k j++xs.drop j)[j]=x at *;clear hcell hfr hw;have hz0:0≤k+3*(j:Int):=(by omega);have hz1:k+3*(j:Int)≤33554432:=(by omega);have HZ:=zA (show k+3*(j:Int)+3=k+3*((j+1:Nat):Int) by omega);have HST:=zA (vM (k:=k) HL.out hlt);have HP:=zA hput;clear hput;generalize k+3*(j:Int)=z at *;go_wp2_with fail
   go_roundw
   case rel =>
    have hrow:=HP.out (putCells wr g (j*3) [.int .i64 z,.int .i64 (z+1),.int .i64 (z+1+1)]) (vK z) [.int .i64 z,.int .i64 (z+1),.int .i64 (z+1+1)] rfl ⟨rfl,⟨iE (z:=z) (by omega) (by omega),iE (z:=(z+1)) (by omega) (by omega),iE (z:=(z+1+1)) (by omega) (by omega)⟩⟩ (au.put _ _ _ (au.refl _ _) (Or.inr rfl)) rfl;rw[HST.out] at hrow;refine⟨j+1,by omega,by go_num,by rw[←HZ.out];try go_num,by first|exact hrow|simpa[putCells] using hrow,?_⟩;have GX:au F w (putCells wr g (j*3) [.int .i64 z,.int .i64 (z+1),.int .i64 (z+1+1)]):=au.put _ _ _ ht hFg;first|exact GX|simpa[putCells] using GX
   case measure=>simp[intOf];omega
  ·go_wp2_with fail
   go_ret;obtain rfl:j=n:=(by omega);refine⟨rfl,?_,ht⟩;rw[List.drop_of_length_le (by rw[HL.out];exact zC _),List.append_nil] at hown;exact hown
theorem xn{w:World}{hi:Nat}{A:Option Addr}{n c:Nat}{k:Int}(h:a_ aN w hi A n (fK k n))(hn:n≤1048580)(hk0:0≤k)(hk:k≤16777216) :
  Calls Tryz.prog 141 #[.slice A n c,.int .i64 k] w fun e w'=>e=.returned (.int .i64 (k+3*(n:Int)))∧w=w':=by
 go_enter Tryz.func141,Tryz.ntmps141
 go_wp2_with fail
 go_loop[1,5] (fun q i=>∃j:Nat,j≤n∧i=.int .i64 j∧q=.int .i64 (k+3*(j:Int))) (fun _ i=>n-(intOf i).toNat)
 case atStart=>exact⟨0,zL _,rfl,by simp⟩
 case round =>
  obtain⟨j,hj,rfl,rfl⟩:=hrel;by_cases hlt:j<n
  ·obtain⟨hx,g,o,vs,rfl,hg,⟨rfl,hw⟩,hcell⟩:=h.at_ hlt;have Z4:(fK k n)[j]=vK (k+3*(j:Int)):=(by simp[fK]);rw[Z4] at hcell;have dK:=hcell 0 _ rfl;have eu:=hcell 1 _ rfl;have ig:=hcell 2 _ rfl;simp only[show (aN).size=3 from rfl,←zH,zI,zK,vK] at dK eu ig;clear hcell hw Z4;have hz0:0≤k+3*(j:Int):=(by omega);have hz1:k+3*(j:Int)≤33554432:=(by omega);have HZ:=zA (show k+3*(j:Int)+3=k+3*((j+1:Nat):Int) by omega);generalize k+3*(j:Int)=z at *;go_wp2_with fail
   go_round
   case rel=>exact⟨j+1,by omega,by go_num,by rw[←HZ.out];try go_num⟩
   case measure=>simp[intOf];omega
  ·go_wp2_with fail
   go_ret;obtain rfl:j=n:=(by omega);exact⟨rfl,rfl⟩
def Jl(w:World)(F:Nat→Prop)(e:TypeId)(A:Option Addr)(n c:Nat)(k:Int)(en:Ending)(w':World):Prop :=
 en=.returned (.int .i64 (k+3*(n:Int)))∧dD aN e w' F A n c (fK k n)∧au F w w'
theorem vN{w:World}{F:Nat→Prop}{e:TypeId}{A:Option Addr}{n c:Nat}{k:Int}{xs:List di}(h:dD aN e w F A n c xs)(hn:n≤1048580)(hk0:0≤k)(hk:k≤16777216) :
  Calls Tryz.prog 138 #[.slice A n c,.int .i64 k] w (Jl w F e A n c k):=by
 have HL:=zA h.1;go_enter Tryz.func138,Tryz.ntmps138
 go_wp2_with fail
 go_loopw[1,5] (fun q i wr=>∃j:Nat,j≤n∧i=.int .i64 j∧q=.int .i64 (k+3*(j:Int))∧dD aN e wr F A n c (fK k j++xs.drop j)∧au F w wr) (fun _ i _=>n-(intOf i).toNat)
 case atStart=>exact⟨0,zL _,rfl,by simp,by simpa[fK] using h,au.refl _ _⟩
 case round =>
  obtain⟨j,hj,rfl,rfl,hown,ht⟩:=hrel;by_cases hlt:j<n
  ·obtain⟨hx,g,o,G,vs,rfl,hFg,MP,ve,AX,⟨rfl,hw⟩,hcell,hfr,hput⟩:=hown.focus hlt;have dK:=hcell 0 _ (by decide) rfl;have QV:=hfr (o+(j*(aN).size+0));have eu:=hcell 1 _ (by decide) rfl;have V5:=hfr (o+(j*(aN).size+1));have ig:=hcell 2 _ (by decide) rfl;have V6:=hfr (o+(j*(aN).size+2));simp only[show (aN).size=3 from rfl,←zH,zI,zK] at dK QV eu V5 ig V6;generalize (fK k j++xs.drop j)[j]=x at *;clear hcell hfr hw;have hz0:0≤k+3*(j:Int):=(by omega);have hz1:k+3*(j:Int)≤33554432:=(by omega);have HZ:=zA (show k+3*(j:Int)+3=k+3*((j+1:Nat):Int) by omega);have HST:=zA (vM (k:=k) HL.out hlt);have HP:=zA hput;clear hput;generalize k+3*(j:Int)=z at *;go_wp2_with fail
   go_roundw
   case rel =>
    have hrow:=HP.out (putCells wr g (o+j*3) [.int .i64 z,.int .i64 (z+1),.int .i64 (z+1+1)]) (vK z) [.int .i64 z,.int .i64 (z+1),.int .i64 (z+1+1)] rfl ⟨rfl,⟨iE (z:=z) (by omega) (by omega),iE (z:=(z+1)) (by omega) (by omega),iE (z:=(z+1+1)) (by omega) (by omega)⟩⟩ (au.put _ _ _ (au.refl _ _) (Or.inr rfl)) rfl;rw[HST.out] at hrow;refine⟨j+1,by omega,by go_num,by rw[←HZ.out];try go_num,by first|exact hrow|simpa[putCells] using hrow,?_⟩;have GX:au F w (putCells wr g (o+j*3) [.int .i64 z,.int .i64 (z+1),.int .i64 (z+1+1)]):=au.put _ _ _ ht hFg;first|exact GX|simpa[putCells] using GX
   case measure=>simp[intOf];omega
  ·go_wp2_with fail
   go_ret;obtain rfl:j=n:=(by omega);refine⟨rfl,?_,ht⟩;rw[List.drop_of_length_le (by rw[HL.out];exact zC _),List.append_nil] at hown;exact hown
theorem T1{w:World}{F:Nat→Prop}{x:gy}{vs:List Value}(h:bD.own w F x vs):∃(A1:Option Addr) (n1 c1:Nat) (F1:Nat→Prop) (A2:Option Addr) (n2 c2:Nat) (F2:Nat→Prop) (A3:Option Addr) (n3 c3:Nat) (F3:Nat→Prop),vs=[.int .i64 x.dC,.slice A1 n1 c1,.slice A2 n2 c2,.slice A3 n3 c3,.bool x.aC]∧(Lit.int .i64 x.dC).wf=true∧(dD Lay.int 3 w F1 A1 n1 c1 x.k6∧∀g,F1 g→F g)∧(dD aN 49 w F2 A2 n2 c2 x.dh∧∀g,F2 g→F g)∧(dD aN 49 w F3 A3 n3 c3 x.dG∧∀g,F3 g→F g)∧(∀g,F1 g→¬F2 g)∧(∀g,F1 g→¬F3 g)∧(∀g,F2 g→¬F3 g):=by
 obtain⟨_,_,F0,R1,rfl,s0,⟨_,_,F1,R2,rfl,s1,⟨_,_,F2,R3,rfl,s2,⟨_,_,F3,R4,rfl,s3,s4,k3,r3,d3⟩,k2,r2,d2⟩,k1,r1,d1⟩,k0,r0,d0⟩:=h;obtain⟨rfl,h0⟩:=s0;obtain⟨A1,n1,c1,rfl,h1⟩:=s1;obtain⟨A2,n2,c2,rfl,h2⟩:=s2;obtain⟨A3,n3,c3,rfl,h3⟩:=s3;obtain⟨rfl,h4⟩:=s4;exact⟨A1,n1,c1,F1,A2,n2,c2,F2,A3,n3,c3,F3,rfl,h0,⟨h1,(fun g h=>r0 g (k1 g h))⟩,⟨h2,(fun g h=>r0 g (r1 g (k2 g h)))⟩,⟨h3,(fun g h=>r0 g (r1 g (r2 g (k3 g h))))⟩,(fun g hi hj=>d1 g hi ((fun g h=>k2 g h) g hj)),(fun g hi hj=>d1 g hi ((fun g h=>r2 g (k3 g h)) g hj)),(fun g hi hj=>d2 g hi ((fun g h=>k3 g h) g hj))⟩
def iF(x:gy):Int:=1+((x.k6.length:Int))+(3*(x.dh.length:Int))+(3*(x.dG.length:Int))+1
def uY(z:Int)(x:gy):gy:=⟨z,g8 (z+1) x.k6.length,fK (z+1+((x.k6.length:Int))) x.dh.length,fK (z+1+((x.k6.length:Int))+(3*(x.dh.length:Int))) x.dG.length,(z+1+((x.k6.length:Int))+(3*(x.dh.length:Int))+(3*(x.dG.length:Int)))%3==0⟩
def hZ:Int→List gy→List gy
 |_,[]=>[]
 |z,x::r=>uY z x::hZ (z+iF x) r
theorem oJ(l:List gy):∀z,(hZ z l).length=l.length:=by
 induction l with
 |nil=>intro z;rfl
 |cons x l ih=>intro z;simp[hZ,ih]
theorem GY(l:List gy)(x:gy):∀z,hZ z (l++[x])=hZ z l++[uY (z+(l.map iF).sum) x]:=by
 induction l with
 |nil=>intro z;simp[hZ]
 |cons y l ih=>intro z;simp[hZ,ih,Int.add_assoc]
theorem GZ{xs:List gy}{k:Int}{j:Nat}{x:gy}(hx:xs[j]? =some x) :
  (hZ k (xs.take j)++xs.drop j).set j (uY (k+((xs.take j).map iF).sum) x)=hZ k (xs.take (j+1))++xs.drop (j+1):=by
 obtain⟨hj,rfl⟩:=zO.1 hx;have hl:(hZ k (xs.take j)).length=j:=by rw[oJ,List.length_take];omega
 rw[List.take_succ_eq_append_getElem hj,GY,List.drop_eq_getElem_cons hj,List.set_append,yF (by omega),hl,yJ,List.set_cons_zero,List.append_assoc];rfl
theorem ou(x:gy):0≤iF x:=by
 unfold iF;omega
def QX(w:World)(F:Nat→Prop)(e:TypeId)(A:Option Addr)(n c:Nat)(k:Int)(xs:List gy)(en:Ending)(w':World):Prop :=
 en=.returned (.int .i64 (k+(xs.map iF).sum))∧aB bD e w' F A n c (hZ k xs)∧au F w w'
theorem Jm{w:World}{F:Nat→Prop}{e:TypeId}{A:Option Addr}{n c:Nat}{k:Int}{xs:List gy}(h:aB bD e w F A n c xs)(hn:n≤1048580)(hs:∀x∈xs,dN x≤1048580)(hk0:0≤k)(hk:k+(xs.map iF).sum≤16777216) :
  Calls Tryz.prog 65 #[.slice A n c,.int .i64 k] w (QX w F e A n c k xs):=by
 have HL:=zA h.1;have HK:=zA hk;clear hk;go_enter Tryz.func65,Tryz.ntmps65
 go_wp2_with fail
 go_loopw[1,5] (fun q i wr=>∃(j:Nat) (z:Int),j≤n∧i=.int .i64 j∧q=.int .i64 z∧Hid (z=k+((xs.take j).map iF).sum)∧aB bD e wr F A n c (hZ k (xs.take j)++xs.drop j)∧au F w wr) (fun _ i _=>n-(intOf i).toNat)
 case atStart=>exact⟨0,k,zL _,rfl,rfl,zA (by simp),by simpa[hZ] using h,au.refl _ _⟩
 case round =>
  obtain⟨j,z,hj,rfl,rfl,HZ,hown,ht⟩:=hrel;by_cases hlt:j<n
  ·obtain⟨hx,g,G,us,rfl,AX,hrow,hel⟩:=hown.open_ hlt;have BF:j<xs.length:=by rw[HL.out];exact hlt
   have he:(hZ k (xs.take j)++xs.drop j)[j]=xs[j]:=by
    have hm:(hZ k (xs.take j)).length=j:=by rw[oJ,List.length_take];omega
    rw[List.getElem_append_right (by omega)];simp[hm]
   rw[he] at hel;clear he hown hx;have jh:=zA (zG BF);have QY:=hs _ (zS BF);have hz0:0≤z:=by have:=jr ou (xs.take j);have:=HZ.out;omega
   have QZ:z+iF xs[j]≤16777216:=by
    have h1:=qQ ou jh.out;have:=HZ.out;have:=HK.out;omega
   have HST:=zA (GZ (k:=k) jh.out);have Q0:=zA (qg iF jh.out);rw[←HZ.out] at HST;generalize xs[j]=x at *;clear BF;obtain⟨A1,n1,c1,F1,A2,n2,c2,F2,A3,n3,c3,F3,rfl,hw0,⟨o1,k1⟩,⟨o2,k2⟩,⟨o3,k3⟩,Q1,abC,Q2⟩:=T1 hel;have l1:=o1.1;subst l1;have hg1:¬F1 g:=fun h=>hrow.not (k1 g h)
   have l2:=o2.1;subst l2;have hg2:¬F2 g:=fun h=>hrow.not (k2 g h)
   have l3:=o3.1;subst l3;have hg3:¬F3 g:=fun h=>hrow.not (k3 g h)
   unfold dN at QY;unfold iF at QZ;have dK:wr.cell? ⟨g,j*5+0,none⟩=some (.int .i64 x.dC):=hrow.cell (j:=0) rfl (by decide);have eu:wr.cell? ⟨g,j*5+1,none⟩=some (.slice A1 x.k6.length c1):=hrow.cell (j:=1) rfl (by decide);have ig:wr.cell? ⟨g,j*5+2,none⟩=some (.slice A2 x.dh.length c2):=hrow.cell (j:=2) rfl (by decide);have jf:wr.cell? ⟨g,j*5+3,none⟩=some (.slice A3 x.dG.length c3):=hrow.cell (j:=3) rfl (by decide);have lS:wr.cell? ⟨g,j*5+4,none⟩=some (.bool x.aC):=hrow.cell (j:=4) rfl (by decide);have ff:=hrow.free;simp only[zI,zK] at dK eu ig jf lS;go_wp2_with fail
   refine (sO (F:=F1) (by exact (o1).setCell hg1 _) (by omega) (by omega) (by omega)).mono ?_;rintro e w1 ⟨rfl,q1,t1⟩;have Sj:=(ht.setCell (p:=⟨g,j*5+0,none⟩) hrow.here (.int .i64 z)).trans (t1.wide fun b hb=>hrow.Io b (k1 b hb));have uG:=eF.turned (hrow.BP (o:=0) (by decide) (.int .i64 z)) t1 k1;have Z5:=dD.jE (dD.setCell (o:=j*5+0) o2 hg2 (.int .i64 z)) t1 (fun b hb hb2=>Q1 b hb2 hb);have o3_:=dD.jE (dD.setCell (o:=j*5+0) o3 hg3 (.int .i64 z)) t1 (fun b hb hb2=>abC b hb2 hb);clear hrow ht t1 dK eu ig jf lS ff;have hrow:=uG;clear uG;have ht:=Sj;clear Sj;clear o1;have o1:=q1;clear q1;clear o2;have o2:=Z5;clear Z5;clear o3;have o3:=o3_;clear o3_;have dK:w1.cell? ⟨g,j*5+0,none⟩=some (.int .i64 z):=hrow.cell (j:=0) rfl (by decide);have eu:w1.cell? ⟨g,j*5+1,none⟩=some (.slice A1 x.k6.length c1):=hrow.cell (j:=1) rfl (by decide);have ig:w1.cell? ⟨g,j*5+2,none⟩=some (.slice A2 x.dh.length c2):=hrow.cell (j:=2) rfl (by decide);have jf:w1.cell? ⟨g,j*5+3,none⟩=some (.slice A3 x.dG.length c3):=hrow.cell (j:=3) rfl (by decide);have lS:w1.cell? ⟨g,j*5+4,none⟩=some (.bool x.aC):=hrow.cell (j:=4) rfl (by decide);have ff:=hrow.free;simp only[zI,zK] at dK eu ig jf lS;go_wp2_with fail
   refine (vN (F:=F2) (by exact o2) (by omega) (by omega) (by omega)).mono ?_;rintro e w2 ⟨rfl,q2,t2⟩;have qX:=ht.trans (t2.wide fun b hb=>hrow.Io b (k2 b hb));have hrow2:=eF.turned hrow t2 k2;have o1_:=dD.jE o1 t2 (fun b hb hb2=>Q1 b hb hb2);have o3_:=dD.jE o3 t2 (fun b hb hb2=>Q2 b hb2 hb);clear hrow ht t2 dK eu ig jf lS ff;have hrow:=hrow2;clear hrow2;have ht:=qX;clear qX;clear o2;have o2:=q2;clear q2;clear o1;have o1:=o1_;clear o1_;clear o3;have o3:=o3_;clear o3_;have dK:w2.cell? ⟨g,j*5+0,none⟩=some (.int .i64 z):=hrow.cell (j:=0) rfl (by decide);have eu:w2.cell? ⟨g,j*5+1,none⟩=some (.slice A1 x.k6.length c1):=hrow.cell (j:=1) rfl (by decide);have ig:w2.cell? ⟨g,j*5+2,none⟩=some (.slice A2 x.dh.length c2):=hrow.cell (j:=2) rfl (by decide);have jf:w2.cell? ⟨g,j*5+3,none⟩=some (.slice A3 x.dG.length c3):=hrow.cell (j:=3) rfl (by decide);have lS:w2.cell? ⟨g,j*5+4,none⟩=some (.bool x.aC):=hrow.cell (j:=4) rfl (by decide);have ff:=hrow.free;simp only[zI,zK] at dK eu ig jf lS;go_wp2_with fail
   refine (vN (F:=F3) (by exact o3) (by omega) (by omega) (by omega)).mono ?_;rintro e w3 ⟨rfl,q3,t3⟩;have qA:=ht.trans (t3.wide fun b hb=>hrow.Io b (k3 b hb));have hrow3:=eF.turned hrow t3 k3;have o1_:=dD.jE o1 t3 (fun b hb hb2=>abC b hb hb2);have Z5:=dD.jE o2 t3 (fun b hb hb2=>Q2 b hb hb2);clear hrow ht t3 dK eu ig jf lS ff;have hrow:=hrow3;clear hrow3;have ht:=qA;clear qA;clear o3;have o3:=q3;clear q3;clear o1;have o1:=o1_;clear o1_;clear o2;have o2:=Z5;clear Z5;have dK:w3.cell? ⟨g,j*5+0,none⟩=some (.int .i64 z):=hrow.cell (j:=0) rfl (by decide);have eu:w3.cell? ⟨g,j*5+1,none⟩=some (.slice A1 x.k6.length c1):=hrow.cell (j:=1) rfl (by decide);have ig:w3.cell? ⟨g,j*5+2,none⟩=some (.slice A2 x.dh.length c2):=hrow.cell (j:=2) rfl (by decide);have jf:w3.cell? ⟨g,j*5+3,none⟩=some (.slice A3 x.dG.length c3):=hrow.cell (j:=3) rfl (by decide);have lS:w3.cell? ⟨g,j*5+4,none⟩=some (.bool x.aC):=hrow.cell (j:=4) rfl (by decide);have ff:=hrow.free;simp only[zI,zK] at dK eu ig jf lS;go_wp2_with fail
   go_roundw
   case rel =>
    have hshut:=eF.shut (hrow.BP (o:=4) (by decide) (.bool ((z+1+(x.k6.length:Int)+3*(x.dh.length:Int)+3*(x.dG.length:Int))%3==0))) (x':=uY z x) (zi (iE (z:=z) (by omega) (by omega)) (dD.setCell (o:=j*5+4) o1 hg1 (.bool ((z+1+(x.k6.length:Int)+3*(x.dh.length:Int)+3*(x.dG.length:Int))%3==0))) (dD.setCell (o:=j*5+4) o2 hg2 (.bool ((z+1+(x.k6.length:Int)+3*(x.dh.length:Int)+3*(x.dG.length:Int))%3==0))) (dD.setCell (o:=j*5+4) o3 hg3 (.bool ((z+1+(x.k6.length:Int)+3*(x.dh.length:Int)+3*(x.dG.length:Int))%3==0))) k1 k2 k3 Q1 abC Q2);rw[HST.out] at hshut;exact⟨j+1,z+1+(x.k6.length:Int)+3*(x.dh.length:Int)+3*(x.dG.length:Int)+1,by omega,by go_num,by go_num,zA (by rw[Q0.out];have h1:=HZ.out;have h2:iF x=1+(x.k6.length:Int)+3*(x.dh.length:Int)+3*(x.dG.length:Int)+1:=rfl;omega),by first|exact hshut|(simp only[Int.add_mul_emod_self_left] at hshut;exact hshut),(ht.setCell (p:=⟨g,j*5+4,none⟩) hrow.here _)⟩
   case measure=>simp[intOf];omega
  ·go_wp2_with fail
   go_ret;obtain rfl:j=n:=(by omega);have e1:xs.take j=xs:=zU (by rw[HL.out];exact zC _);have hz:=HZ.out;rw[e1] at hown hz;rw[List.drop_of_length_le (by rw[HL.out];exact zC _),List.append_nil] at hown;exact⟨by rw[←hz];rfl,hown,ht⟩
theorem AO{x:gy}:∀{xs:List gy} {k:Int} {j:Nat},xs[j]? =some x→(hZ k xs)[j]? =some (uY (k+((xs.take j).map iF).sum) x)
 |[],_,_,h=>by simp at h
 |y::xs,k,0,h=>by
  simp at h;subst h;simp[hZ]
 |y::xs,k,j+1,h=>by
  have:=AO (xs:=xs) (k:=k+iF y) (j:=j) (by simpa using h);simp only[hZ,List.getElem?_cons_succ,this,List.take_succ_cons,yQ,List.sum_cons,Int.add_assoc]
theorem Jn{w:World}{hi:Nat}{A:Option Addr}{n c:Nat}{k:Int}{xs:List gy}(h:a_ bD w hi A n (hZ k xs))(hn:n≤1048580)(hs:∀x∈xs,dN x≤1048580)(hk0:0≤k)(hk:k+(xs.map iF).sum≤16777216) :
  Calls Tryz.prog 68 #[.slice A n c,.int .i64 k] w fun e w'=>e=.returned (.int .i64 (k+(xs.map iF).sum))∧w=w':=by
 have HL:=zA (show xs.length=n by rw[←h.1,oJ]);have HK:=zA hk;clear hk;go_enter Tryz.func68,Tryz.ntmps68
 go_wp2_with fail
 go_loop[1,5] (fun q i=>∃(j:Nat) (z:Int),j≤n∧i=.int .i64 j∧q=.int .i64 z∧Hid (z=k+((xs.take j).map iF).sum)) (fun _ i=>n-(intOf i).toNat)
 case atStart=>exact⟨0,k,zL _,rfl,rfl,zA (by simp)⟩
 case round =>
  obtain⟨j,z,hj,rfl,rfl,HZ⟩:=hrel;by_cases hlt:j<n
  ·obtain⟨hx,g,o,vs,rfl,hg,aW,hcell⟩:=h.at_ hlt;have BF:j<xs.length:=by rw[HL.out];exact hlt
   have jh:=zA (zG BF);have he:(hZ k xs)[j]=uY z xs[j]:=by
    have h1:=AO (k:=k) jh.out;rw[←HZ.out] at h1;exact zW ((zG hx).symm.trans h1)
   rw[he] at aW;clear he hx;have QY:=hs _ (zS BF);have hz0:0≤z:=by have:=jr ou (xs.take j);have:=HZ.out;omega
   have QZ:z+iF xs[j]≤16777216:=by
    have h1:=qQ ou jh.out;have:=HZ.out;have:=HK.out;omega
   have Q0:=zA (qg iF jh.out);generalize xs[j]=x at *;clear BF;obtain⟨A1,n1,c1,A2,n2,c2,A3,n3,c3,rfl,hw0,⟨hc1,hm1,s1⟩,⟨hc2,jY,s2⟩,⟨hc3,Be,s3⟩⟩:=jF aW;have l1:x.k6.length=n1:=by have h1:=s1.1;simpa[uY,ry] using h1
   subst l1;replace s1:a_ Lay.int w hi A1 x.k6.length (g8 (z+1) x.k6.length):=s1;have l2:x.dh.length=n2:=by have h1:=s2.1;simpa[uY,sQ] using h1
   subst l2;replace s2:a_ aN w hi A2 x.dh.length (fK (z+1+(x.k6.length:Int)) x.dh.length):=s2;have l3:x.dG.length=n3:=by have h1:=s3.1;simpa[uY,sQ] using h1
   subst l3;replace s3:a_ aN w hi A3 x.dG.length (fK (z+1+(x.k6.length:Int)+3*(x.dh.length:Int)) x.dG.length):=s3;have dK:=hcell 0 _ rfl;have eu:=hcell 1 _ rfl;have ig:=hcell 2 _ rfl;have jf:=hcell 3 _ rfl;have lS:=hcell 4 _ rfl;simp only[show (bD).size=5 from rfl,←zH,zI,zK,uY] at dK eu ig jf lS;clear hcell aW hw0;unfold dN at QY;unfold iF at QZ;have hd1:decide (z+1+(x.k6.length:Int)<0)=false:=yD (by omega);go_wp2_with fail
   refine (uX s1 (by omega) (by omega) (by omega)).mono ?_;rintro e w' ⟨rfl,rfl⟩;have hd2:decide (z+1+(x.k6.length:Int)+3*(x.dh.length:Int)<0)=false:=yD (by omega);go_wp2_with fail
   refine (xn s2 (by omega) (by omega) (by omega)).mono ?_;rintro e w' ⟨rfl,rfl⟩;have hd3:decide (z+1+(x.k6.length:Int)+3*(x.dh.length:Int)+3*(x.dG.length:Int)<0)=false:=yD (by omega);go_wp2_with fail
   refine (xn s3 (by omega) (by omega) (by omega)).mono ?_;rintro e w' ⟨rfl,rfl⟩;go_wp2_with fail
   go_round
   case rel=>exact⟨j+1,z+1+(x.k6.length:Int)+3*(x.dh.length:Int)+3*(x.dG.length:Int)+1,by omega,by go_num,by go_num,zA (by rw[Q0.out];have h1:=HZ.out;have h2:iF x=1+(x.k6.length:Int)+3*(x.dh.length:Int)+3*(x.dG.length:Int)+1:=rfl;omega)⟩
   case measure=>simp[intOf];omega
  ·go_wp2_with fail
   go_ret;obtain rfl:j=n:=(by omega);have hz:=HZ.out;rw[zU (by rw[HL.out];exact zC _)] at hz;exact⟨by rw[←hz];rfl,rfl⟩
def C3(z:Int):iK:=⟨z,(z+1),(z+1+1),(z+1+1+1)%3==0⟩
def iU(k:Int)(n:Nat):List iK:=(List.range n).map fun (i:Nat)=>C3 (k+4*(i:Int))
theorem C5(k:Int)(n:Nat):(iU k n).length=n:=by simp[iU]
theorem y6{xs:List iK}{k:Int}{n j:Nat}(hl:xs.length=n)(hj:j<n) :
  (iU k j++xs.drop j).set j (C3 (k+4*(j:Int)))=iU k (j+1)++xs.drop (j+1):=by
 apply List.ext_getElem?
 intro i;simp only[iU,List.getElem?_set,yM,yN,yL,zZ,List.length_range,List.length_drop,List.getElem?_drop];rcases Nat.lt_trichotomy i j with h|h|h
 ·simp[show ¬j=i from by omega,h,show i<j+1 from by omega]
 ·subst h;simp[show i<i+(xs.length-i) from by omega]
 ·simp[show ¬j=i from by omega,show ¬i<j from by omega,show ¬i<j+1 from by omega,show j+(i-j)=i from by omega,show j+1+(i-(j+1))=i from by omega]
def Q3(w:World)(F:Nat→Prop)(e:TypeId)(A:Option Addr)(n c:Nat)(k:Int)(en:Ending)(w':World):Prop :=
 en=.returned (.int .i64 (k+4*(n:Int)))∧aB cZ e w' F A n c (iU k n)∧au F w w'
theorem WQ{w:World}{F:Nat→Prop}{e:TypeId}{A:Option Addr}{n c:Nat}{k:Int}{xs:List iK}(h:aB cZ e w F A n c xs)(hn:n≤1048580)(hk0:0≤k)(hk:k≤16777216) :
  Calls Tryz.prog 137 #[.slice A n c,.int .i64 k] w (Q3 w F e A n c k):=by
 have HL:=zA h.1;go_enter Tryz.func137,Tryz.ntmps137
 go_wp2_with fail
 go_loopw[1,5] (fun q i wr=>∃j:Nat,j≤n∧i=.int .i64 j∧q=.int .i64 (k+4*(j:Int))∧aB cZ e wr F A n c (iU k j++xs.drop j)∧au F w wr) (fun _ i _=>n-(intOf i).toNat)
 case atStart=>exact⟨0,zL _,rfl,by simp,by simpa[iU] using h,au.refl _ _⟩
 case round =>
  obtain⟨j,hj,rfl,rfl,hown,ht⟩:=hrel;by_cases hlt:j<n
  ·obtain⟨hx,g,G,vs,rfl,hFg,MP,ve,AX,⟨rfl,hw⟩,hcell,hfr,hput⟩:=hown.focus hlt;have dK:=hcell 0 _ (by decide) rfl;have QV:=hfr (j*(cZ).size+0);have eu:=hcell 1 _ (by decide) rfl;have V5:=hfr (j*(cZ).size+1);have ig:=hcell 2 _ (by decide) rfl;have V6:=hfr (j*(cZ).size+2);have jf:=hcell 3 _ (by decide) rfl;have ff3:=hfr (j*(cZ).size+3);simp only[show (cZ).size=4 from rfl,zI,zK] at dK QV eu V5 ig V6 jf ff3;generalize (iU k j++xs.drop j)[j]=x at *;clear hcell hfr hw;have hz0:0≤k+4*(j:Int):=(by omega);have hz1:k+4*(j:Int)≤33554432:=(by omega);have HZ:=zA (show k+4*(j:Int)+4=k+4*((j+1:Nat):Int) by omega);have HST:=zA (y6 (k:=k) HL.out hlt);have HP:=zA hput;clear hput;generalize k+4*(j:Int)=z at *;go_wp2_with fail
   go_roundw
   case rel =>
    have hrow:=HP.out (putCells wr g (j*4) [.int .i64 z,.int .i64 (z+1),.int .i64 (z+1+1),.bool ((z+1+1+1)%3==0)]) (C3 z) [.int .i64 z,.int .i64 (z+1),.int .i64 (z+1+1),.bool ((z+1+1+1)%3==0)] rfl ⟨rfl,⟨iE (z:=z) (by omega) (by omega),iE (z:=(z+1)) (by omega) (by omega),iE (z:=(z+1+1)) (by omega) (by omega)⟩⟩ (au.put _ _ _ (au.refl _ _) (Or.inr rfl)) rfl;rw[HST.out] at hrow;refine⟨j+1,by omega,by go_num,by rw[←HZ.out];try go_num,by first|exact hrow|simpa[putCells] using hrow,?_⟩;have GX:au F w (putCells wr g (j*4) [.int .i64 z,.int .i64 (z+1),.int .i64 (z+1+1),.bool ((z+1+1+1)%3==0)]):=au.put _ _ _ ht hFg;first|exact GX|simpa[putCells] using GX
   case measure=>simp[intOf];omega
  ·go_wp2_with fail
   go_ret;obtain rfl:j=n:=(by omega);refine⟨rfl,?_,ht⟩;rw[List.drop_of_length_le (by rw[HL.out];exact zC _),List.append_nil] at hown;exact hown
theorem Jo{w:World}{hi:Nat}{A:Option Addr}{n c:Nat}{k:Int}(h:a_ cZ w hi A n (iU k n))(hn:n≤1048580)(hk0:0≤k)(hk:k≤16777216) :
  Calls Tryz.prog 140 #[.slice A n c,.int .i64 k] w fun e w'=>e=.returned (.int .i64 (k+4*(n:Int)))∧w=w':=by
 go_enter Tryz.func140,Tryz.ntmps140
 go_wp2_with fail
 go_loop[1,5] (fun q i=>∃j:Nat,j≤n∧i=.int .i64 j∧q=.int .i64 (k+4*(j:Int))) (fun _ i=>n-(intOf i).toNat)
 case atStart=>exact⟨0,zL _,rfl,by simp⟩
 case round =>
  obtain⟨j,hj,rfl,rfl⟩:=hrel;by_cases hlt:j<n
  ·obtain⟨hx,g,o,vs,rfl,hg,⟨rfl,hw⟩,hcell⟩:=h.at_ hlt;have Z4:(iU k n)[j]=C3 (k+4*(j:Int)):=(by simp[iU]);rw[Z4] at hcell;have dK:=hcell 0 _ rfl;have eu:=hcell 1 _ rfl;have ig:=hcell 2 _ rfl;have jf:=hcell 3 _ rfl;simp only[show (cZ).size=4 from rfl,←zH,zI,zK,C3] at dK eu ig jf;clear hcell hw Z4;have hz0:0≤k+4*(j:Int):=(by omega);have hz1:k+4*(j:Int)≤33554432:=(by omega);have HZ:=zA (show k+4*(j:Int)+4=k+4*((j+1:Nat):Int) by omega);generalize k+4*(j:Int)=z at *;go_wp2_with fail
   go_round
   case rel=>exact⟨j+1,by omega,by go_num,by rw[←HZ.out];try go_num⟩
   case measure=>simp[intOf];omega
  ·go_wp2_with fail
   go_ret;obtain rfl:j=n:=(by omega);exact⟨rfl,rfl⟩
def OW(w:World)(F:Nat→Prop)(e:TypeId)(A:Option Addr)(n c:Nat)(k:Int)(en:Ending)(w':World):Prop :=
 en=.returned (.int .i64 (k+4*(n:Int)))∧dD cZ e w' F A n c (iU k n)∧au F w w'
theorem G6{w:World}{F:Nat→Prop}{e:TypeId}{A:Option Addr}{n c:Nat}{k:Int}{xs:List iK}(h:dD cZ e w F A n c xs)(hn:n≤1048580)(hk0:0≤k)(hk:k≤16777216) :
  Calls Tryz.prog 137 #[.slice A n c,.int .i64 k] w (OW w F e A n c k):=by
 have HL:=zA h.1;go_enter Tryz.func137,Tryz.ntmps137
 go_wp2_with fail
 go_loopw[1,5] (fun q i wr=>∃j:Nat,j≤n∧i=.int .i64 j∧q=.int .i64 (k+4*(j:Int))∧dD cZ e wr F A n c (iU k j++xs.drop j)∧au F w wr) (fun _ i _=>n-(intOf i).toNat)
 case atStart=>exact⟨0,zL _,rfl,by simp,by simpa[iU] using h,au.refl _ _⟩
 case round =>
  obtain⟨j,hj,rfl,rfl,hown,ht⟩:=hrel;by_cases hlt:j<n
  ·obtain⟨hx,g,o,G,vs,rfl,hFg,MP,ve,AX,⟨rfl,hw⟩,hcell,hfr,hput⟩:=hown.focus hlt;have dK:=hcell 0 _ (by decide) rfl;have QV:=hfr (o+(j*(cZ).size+0));have eu:=hcell 1 _ (by decide) rfl;have V5:=hfr (o+(j*(cZ).size+1));have ig:=hcell 2 _ (by decide) rfl;have V6:=hfr (o+(j*(cZ).size+2));have jf:=hcell 3 _ (by decide) rfl;have ff3:=hfr (o+(j*(cZ).size+3));simp only[show (cZ).size=4 from rfl,←zH,zI,zK] at dK QV eu V5 ig V6 jf ff3;generalize (iU k j++xs.drop j)[j]=x at *;clear hcell hfr hw;have hz0:0≤k+4*(j:Int):=(by omega);have hz1:k+4*(j:Int)≤33554432:=(by omega);have HZ:=zA (show k+4*(j:Int)+4=k+4*((j+1:Nat):Int) by omega);have HST:=zA (y6 (k:=k) HL.out hlt);have HP:=zA hput;clear hput;generalize k+4*(j:Int)=z at *;go_wp2_with fail
   go_roundw
   case rel =>
    have hrow:=HP.out (putCells wr g (o+j*4) [.int .i64 z,.int .i64 (z+1),.int .i64 (z+1+1),.bool ((z+1+1+1)%3==0)]) (C3 z) [.int .i64 z,.int .i64 (z+1),.int .i64 (z+1+1),.bool ((z+1+1+1)%3==0)] rfl ⟨rfl,⟨iE (z:=z) (by omega) (by omega),iE (z:=(z+1)) (by omega) (by omega),iE (z:=(z+1+1)) (by omega) (by omega)⟩⟩ (au.put _ _ _ (au.refl _ _) (Or.inr rfl)) rfl;rw[HST.out] at hrow;refine⟨j+1,by omega,by go_num,by rw[←HZ.out];try go_num,by first|exact hrow|simpa[putCells] using hrow,?_⟩;have GX:au F w (putCells wr g (o+j*4) [.int .i64 z,.int .i64 (z+1),.int .i64 (z+1+1),.bool ((z+1+1+1)%3==0)]):=au.put _ _ _ ht hFg;first|exact GX|simpa[putCells] using GX
   case measure=>simp[intOf];omega
  ·go_wp2_with fail
   go_ret;obtain rfl:j=n:=(by omega);refine⟨rfl,?_,ht⟩;rw[List.drop_of_length_le (by rw[HL.out];exact zC _),List.append_nil] at hown;exact hown
theorem V7{w:World}{F:Nat→Prop}{x:bY}{vs:List Value}(h:aI.own w F x vs):∃(A2:Option Addr) (n2 c2:Nat) (F2:Nat→Prop) (A4:Option Addr) (n4 c4:Nat) (F4:Nat→Prop),vs=[.int .i64 x.ax,.int .i64 x.dE,.slice A2 n2 c2,.int .i64 x.ai,.slice A4 n4 c4]∧(Lit.int .i64 x.ax).wf=true∧(Lit.int .i64 x.dE).wf=true∧(dD Lay.int 3 w F2 A2 n2 c2 x.gJ∧∀g,F2 g→F g)∧(Lit.int .i64 x.ai).wf=true∧(dD cZ 171 w F4 A4 n4 c4 x.jv∧∀g,F4 g→F g)∧(∀g,F2 g→¬F4 g):=by
 obtain⟨_,_,F0,R1,rfl,s0,⟨_,_,F1,R2,rfl,s1,⟨_,_,F2,R3,rfl,s2,⟨_,_,F3,R4,rfl,s3,s4,k3,r3,d3⟩,k2,r2,d2⟩,k1,r1,d1⟩,k0,r0,d0⟩:=h;obtain⟨rfl,h0⟩:=s0;obtain⟨rfl,h1⟩:=s1;obtain⟨A2,n2,c2,rfl,h2⟩:=s2;obtain⟨rfl,h3⟩:=s3;obtain⟨A4,n4,c4,rfl,h4⟩:=s4;exact⟨A2,n2,c2,F2,A4,n4,c4,R4,rfl,h0,h1,⟨h2,(fun g h=>r0 g (r1 g (k2 g h)))⟩,h3,⟨h4,(fun g h=>r0 g (r1 g (r2 g (r3 g h))))⟩,(fun g hi hj=>d2 g hi ((fun g h=>r3 g h) g hj))⟩
def jc(x:bY):Int:=1+1+((x.gJ.length:Int))+1+(4*(x.jv.length:Int))
def CG(z:Int)(x:bY):bY:=⟨z,z+1,g8 (z+1+1) x.gJ.length,z+1+1+((x.gJ.length:Int)),iU (z+1+1+((x.gJ.length:Int))+1) x.jv.length⟩
def iR:Int→List bY→List bY
 |_,[]=>[]
 |z,x::r=>CG z x::iR (z+jc x) r
theorem pF(l:List bY):∀z,(iR z l).length=l.length:=by
 induction l with
 |nil=>intro z;rfl
 |cons x l ih=>intro z;simp[iR,ih]
theorem Jp(l:List bY)(x:bY):∀z,iR z (l++[x])=iR z l++[CG (z+(l.map jc).sum) x]:=by
 induction l with
 |nil=>intro z;simp[iR]
 |cons y l ih=>intro z;simp[iR,ih,Int.add_assoc]
theorem Jq{xs:List bY}{k:Int}{j:Nat}{x:bY}(hx:xs[j]? =some x) :
  (iR k (xs.take j)++xs.drop j).set j (CG (k+((xs.take j).map jc).sum) x)=iR k (xs.take (j+1))++xs.drop (j+1):=by
 obtain⟨hj,rfl⟩:=zO.1 hx;have hl:(iR k (xs.take j)).length=j:=by rw[pF,List.length_take];omega
 rw[List.take_succ_eq_append_getElem hj,Jp,List.drop_eq_getElem_cons hj,List.set_append,yF (by omega),hl,yJ,List.set_cons_zero,List.append_assoc];rfl
theorem pJ(x:bY):0≤jc x:=by
 unfold jc;omega
def T2(w:World)(F:Nat→Prop)(e:TypeId)(A:Option Addr)(n c:Nat)(k:Int)(xs:List bY)(en:Ending)(w':World):Prop :=
 en=.returned (.int .i64 (k+(xs.map jc).sum))∧aB aI e w' F A n c (iR k xs)∧au F w w'
theorem MC{w:World}{F:Nat→Prop}{e:TypeId}{A:Option Addr}{n c:Nat}{k:Int}{xs:List bY}(h:aB aI e w F A n c xs)(hn:n≤1048580)(hs:∀x∈xs,bV x≤1048580)(hk0:0≤k)(hk:k+(xs.map jc).sum≤16777216) :
  Calls Tryz.prog 64 #[.slice A n c,.int .i64 k] w (T2 w F e A n c k xs):=by
 have HL:=zA h.1;have HK:=zA hk;clear hk;go_enter Tryz.func64,Tryz.ntmps64
 go_wp2_with fail
 go_loopw[1,5] (fun q i wr=>∃(j:Nat) (z:Int),j≤n∧i=.int .i64 j∧q=.int .i64 z∧Hid (z=k+((xs.take j).map jc).sum)∧aB aI e wr F A n c (iR k (xs.take j)++xs.drop j)∧au F w wr) (fun _ i _=>n-(intOf i).toNat)
 case atStart=>exact⟨0,k,zL _,rfl,rfl,zA (by simp),by simpa[iR] using h,au.refl _ _⟩
 case round =>
  obtain⟨j,z,hj,rfl,rfl,HZ,hown,ht⟩:=hrel;by_cases hlt:j<n
  ·obtain⟨hx,g,G,us,rfl,AX,hrow,hel⟩:=hown.open_ hlt;have BF:j<xs.length:=by rw[HL.out];exact hlt
   have he:(iR k (xs.take j)++xs.drop j)[j]=xs[j]:=by
    have hm:(iR k (xs.take j)).length=j:=by rw[pF,List.length_take];omega
    rw[List.getElem_append_right (by omega)];simp[hm]
   rw[he] at hel;clear he hown hx;have jh:=zA (zG BF);have QY:=hs _ (zS BF);have hz0:0≤z:=by have:=jr pJ (xs.take j);have:=HZ.out;omega
   have QZ:z+jc xs[j]≤16777216:=by
    have h1:=qQ pJ jh.out;have:=HZ.out;have:=HK.out;omega
   have HST:=zA (Jq (k:=k) jh.out);have Q0:=zA (qg jc jh.out);rw[←HZ.out] at HST;generalize xs[j]=x at *;clear BF;obtain⟨A2,n2,c2,F2,A4,n4,c4,F4,rfl,hw0,hw1,⟨o2,k2⟩,hw3,⟨o4,k4⟩,abE⟩:=V7 hel;have l2:=o2.1;subst l2;have hg2:¬F2 g:=fun h=>hrow.not (k2 g h)
   have l4:=o4.1;subst l4;have hg4:¬F4 g:=fun h=>hrow.not (k4 g h)
   unfold bV at QY;unfold jc at QZ;have dK:wr.cell? ⟨g,j*5+0,none⟩=some (.int .i64 x.ax):=hrow.cell (j:=0) rfl (by decide);have eu:wr.cell? ⟨g,j*5+1,none⟩=some (.int .i64 x.dE):=hrow.cell (j:=1) rfl (by decide);have ig:wr.cell? ⟨g,j*5+2,none⟩=some (.slice A2 x.gJ.length c2):=hrow.cell (j:=2) rfl (by decide);have jf:wr.cell? ⟨g,j*5+3,none⟩=some (.int .i64 x.ai):=hrow.cell (j:=3) rfl (by decide);have lS:wr.cell? ⟨g,j*5+4,none⟩=some (.slice A4 x.jv.length c4):=hrow.cell (j:=4) rfl (by decide);have ff:=hrow.free;simp only[zI,zK] at dK eu ig jf lS;go_wp2_with fail
   refine (sO (F:=F2) (by exact ((o2).setCell hg2 _).setCell hg2 _) (by omega) (by omega) (by omega)).mono ?_;rintro e w1 ⟨rfl,q2,t2⟩;have Sj:=((ht.setCell (p:=⟨g,j*5+0,none⟩) hrow.here (.int .i64 z)).setCell (p:=⟨g,j*5+1,none⟩) hrow.here (.int .i64 (z+1))).trans (t2.wide fun b hb=>hrow.Io b (k2 b hb));have uG:=eF.turned ((hrow.BP (o:=0) (by decide) (.int .i64 z)).BP (o:=1) (by decide) (.int .i64 (z+1))) t2 k2;have o4_:=dD.jE (dD.setCell (o:=j*5+1) (dD.setCell (o:=j*5+0) o4 hg4 (.int .i64 z)) hg4 (.int .i64 (z+1))) t2 (fun b hb hb2=>abE b hb2 hb);clear hrow ht t2 dK eu ig jf lS ff;have hrow:=uG;clear uG;have ht:=Sj;clear Sj;clear o2;have o2:=q2;clear q2;clear o4;have o4:=o4_;clear o4_;have dK:w1.cell? ⟨g,j*5+0,none⟩=some (.int .i64 z):=hrow.cell (j:=0) rfl (by decide);have eu:w1.cell? ⟨g,j*5+1,none⟩=some (.int .i64 (z+1)):=hrow.cell (j:=1) rfl (by decide);have ig:w1.cell? ⟨g,j*5+2,none⟩=some (.slice A2 x.gJ.length c2):=hrow.cell (j:=2) rfl (by decide);have jf:w1.cell? ⟨g,j*5+3,none⟩=some (.int .i64 x.ai):=hrow.cell (j:=3) rfl (by decide);have lS:w1.cell? ⟨g,j*5+4,none⟩=some (.slice A4 x.jv.length c4):=hrow.cell (j:=4) rfl (by decide);have ff:=hrow.free;simp only[zI,zK] at dK eu ig jf lS;go_wp2_with fail
   refine (G6 (F:=F4) (by exact (o4).setCell hg4 _) (by omega) (by omega) (by omega)).mono ?_;rintro e w2 ⟨rfl,q4,t4⟩;have qX:=(ht.setCell (p:=⟨g,j*5+3,none⟩) hrow.here (.int .i64 (z+1+1+(x.gJ.length:Int)))).trans (t4.wide fun b hb=>hrow.Io b (k4 b hb));have hrow2:=eF.turned (hrow.BP (o:=3) (by decide) (.int .i64 (z+1+1+(x.gJ.length:Int)))) t4 k4;have Z5:=dD.jE (dD.setCell (o:=j*5+3) o2 hg2 (.int .i64 (z+1+1+(x.gJ.length:Int)))) t4 (fun b hb hb2=>abE b hb hb2);clear hrow ht t4 dK eu ig jf lS ff;have hrow:=hrow2;clear hrow2;have ht:=qX;clear qX;clear o4;have o4:=q4;clear q4;clear o2;have o2:=Z5;clear Z5;have dK:w2.cell? ⟨g,j*5+0,none⟩=some (.int .i64 z):=hrow.cell (j:=0) rfl (by decide);have eu:w2.cell? ⟨g,j*5+1,none⟩=some (.int .i64 (z+1)):=hrow.cell (j:=1) rfl (by decide);have ig:w2.cell? ⟨g,j*5+2,none⟩=some (.slice A2 x.gJ.length c2):=hrow.cell (j:=2) rfl (by decide);have jf:w2.cell? ⟨g,j*5+3,none⟩=some (.int .i64 (z+1+1+(x.gJ.length:Int))):=hrow.cell (j:=3) rfl (by decide);have lS:w2.cell? ⟨g,j*5+4,none⟩=some (.slice A4 x.jv.length c4):=hrow.cell (j:=4) rfl (by decide);have ff:=hrow.free;simp only[zI,zK] at dK eu ig jf lS;go_wp2_with fail
   go_roundw
   case rel =>
    have hshut:=eF.shut hrow (x':=CG z x) (E7 (iE (z:=z) (by omega) (by omega)) (iE (z:=z+1) (by omega) (by omega)) o2 (iE (z:=z+1+1+(x.gJ.length:Int)) (by omega) (by omega)) o4 k2 k4 abE);rw[HST.out] at hshut;exact⟨j+1,z+1+1+(x.gJ.length:Int)+1+4*(x.jv.length:Int),by omega,by go_num,by go_num,zA (by rw[Q0.out];have h1:=HZ.out;have h2:jc x=1+1+(x.gJ.length:Int)+1+4*(x.jv.length:Int):=rfl;omega),hshut,ht⟩
   case measure=>simp[intOf];omega
  ·go_wp2_with fail
   go_ret;obtain rfl:j=n:=(by omega);have e1:xs.take j=xs:=zU (by rw[HL.out];exact zC _);have hz:=HZ.out;rw[e1] at hown hz;rw[List.drop_of_length_le (by rw[HL.out];exact zC _),List.append_nil] at hown;exact⟨by rw[←hz];rfl,hown,ht⟩
theorem CJ{x:bY}:∀{xs:List bY} {k:Int} {j:Nat},xs[j]? =some x→(iR k xs)[j]? =some (CG (k+((xs.take j).map jc).sum) x)
 |[],_,_,h=>by simp at h
 |y::xs,k,0,h=>by
  simp at h;subst h;simp[iR]
 |y::xs,k,j+1,h=>by
  have:=CJ (xs:=xs) (k:=k+jc y) (j:=j) (by simpa using h);simp only[iR,List.getElem?_cons_succ,this,List.take_succ_cons,yQ,List.sum_cons,Int.add_assoc]
theorem MF{w:World}{hi:Nat}{A:Option Addr}{n c:Nat}{k:Int}{xs:List bY}(h:a_ aI w hi A n (iR k xs))(hn:n≤1048580)(hs:∀x∈xs,bV x≤1048580)(hk0:0≤k)(hk:k+(xs.map jc).sum≤16777216) :
  Calls Tryz.prog 67 #[.slice A n c,.int .i64 k] w fun e w'=>e=.returned (.int .i64 (k+(xs.map jc).sum))∧w=w':=by
 have HL:=zA (show xs.length=n by rw[←h.1,pF]);have HK:=zA hk;clear hk;go_enter Tryz.func67,Tryz.ntmps67
 go_wp2_with fail
 go_loop[1,5] (fun q i=>∃(j:Nat) (z:Int),j≤n∧i=.int .i64 j∧q=.int .i64 z∧Hid (z=k+((xs.take j).map jc).sum)) (fun _ i=>n-(intOf i).toNat)
 case atStart=>exact⟨0,k,zL _,rfl,rfl,zA (by simp)⟩
 case round =>
  obtain⟨j,z,hj,rfl,rfl,HZ⟩:=hrel;by_cases hlt:j<n
  ·obtain⟨hx,g,o,vs,rfl,hg,aW,hcell⟩:=h.at_ hlt;have BF:j<xs.length:=by rw[HL.out];exact hlt
   have jh:=zA (zG BF);have he:(iR k xs)[j]=CG z xs[j]:=by
    have h1:=CJ (k:=k) jh.out;rw[←HZ.out] at h1;exact zW ((zG hx).symm.trans h1)
   rw[he] at aW;clear he hx;have QY:=hs _ (zS BF);have hz0:0≤z:=by have:=jr pJ (xs.take j);have:=HZ.out;omega
   have QZ:z+jc xs[j]≤16777216:=by
    have h1:=qQ pJ jh.out;have:=HZ.out;have:=HK.out;omega
   have Q0:=zA (qg jc jh.out);generalize xs[j]=x at *;clear BF;obtain⟨A2,n2,c2,A4,n4,c4,rfl,hw0,hw1,⟨hc2,jY,s2⟩,hw3,⟨hc4,hm4,s4⟩⟩:=gK aW;have l2:x.gJ.length=n2:=by have h1:=s2.1;simpa[CG,ry] using h1
   subst l2;replace s2:a_ Lay.int w hi A2 x.gJ.length (g8 (z+1+1) x.gJ.length):=s2;have l4:x.jv.length=n4:=by have h1:=s4.1;simpa[CG,C5] using h1
   subst l4;replace s4:a_ cZ w hi A4 x.jv.length (iU (z+1+1+(x.gJ.length:Int)+1) x.jv.length):=s4;have dK:=hcell 0 _ rfl;have eu:=hcell 1 _ rfl;have ig:=hcell 2 _ rfl;have jf:=hcell 3 _ rfl;have lS:=hcell 4 _ rfl;simp only[show (aI).size=5 from rfl,←zH,zI,zK,CG] at dK eu ig jf lS;clear hcell aW hw0 hw1 hw3;unfold bV at QY;unfold jc at QZ;have hd2:decide (z+1+1+(x.gJ.length:Int)<0)=false:=yD (by omega);go_wp2_with fail
   refine (uX s2 (by omega) (by omega) (by omega)).mono ?_;rintro e w' ⟨rfl,rfl⟩;have hd4:decide (z+1+1+(x.gJ.length:Int)+1+4*(x.jv.length:Int)<0)=false:=yD (by omega);go_wp2_with fail
   refine (Jo s4 (by omega) (by omega) (by omega)).mono ?_;rintro e w' ⟨rfl,rfl⟩;go_wp2_with fail
   go_round
   case rel=>exact⟨j+1,z+1+1+(x.gJ.length:Int)+1+4*(x.jv.length:Int),by omega,by go_num,by go_num,zA (by rw[Q0.out];have h1:=HZ.out;have h2:jc x=1+1+(x.gJ.length:Int)+1+4*(x.jv.length:Int):=rfl;omega)⟩
   case measure=>simp[intOf];omega
  ·go_wp2_with fail
   go_ret;obtain rfl:j=n:=(by omega);have hz:=HZ.out;rw[zU (by rw[HL.out];exact zC _)] at hz;exact⟨by rw[←hz];rfl,rfl⟩
theorem Q4{w:World}{F:Nat→Prop}{x:eQ}{vs:List Value}(h:aX.own w F x vs):∃(A1:Option Addr) (n1 c1:Nat) (F1:Nat→Prop),vs=[.int .i64 x.dm,.slice A1 n1 c1]∧(Lit.int .i64 x.dm).wf=true∧(dD Lay.int 3 w F1 A1 n1 c1 x.iW∧∀g,F1 g→F g):=by
 obtain⟨_,_,F0,R1,rfl,s0,s1,k0,r0,d0⟩:=h;obtain⟨rfl,h0⟩:=s0;obtain⟨A1,n1,c1,rfl,h1⟩:=s1;exact⟨A1,n1,c1,R1,rfl,h0,⟨h1,(fun g h=>r0 g h)⟩⟩
def h_(x:eQ):Int:=1+((x.iW.length:Int))
def uH(z:Int)(x:eQ):eQ:=⟨z,g8 (z+1) x.iW.length⟩
def fU:Int→List eQ→List eQ
 |_,[]=>[]
 |z,x::r=>uH z x::fU (z+h_ x) r
theorem nG(l:List eQ):∀z,(fU z l).length=l.length:=by
 induction l with
 |nil=>intro z;rfl
 |cons x l ih=>intro z;simp[fU,ih]
theorem Ee(l:List eQ)(x:eQ):∀z,fU z (l++[x])=fU z l++[uH (z+(l.map h_).sum) x]:=by
 induction l with
 |nil=>intro z;simp[fU]
 |cons y l ih=>intro z;simp[fU,ih,Int.add_assoc]
theorem Ef{xs:List eQ}{k:Int}{j:Nat}{x:eQ}(hx:xs[j]? =some x) :
  (fU k (xs.take j)++xs.drop j).set j (uH (k+((xs.take j).map h_).sum) x)=fU k (xs.take (j+1))++xs.drop (j+1):=by
 obtain⟨hj,rfl⟩:=zO.1 hx;have hl:(fU k (xs.take j)).length=j:=by rw[nG,List.length_take];omega
 rw[List.take_succ_eq_append_getElem hj,Ee,List.drop_eq_getElem_cons hj,List.set_append,yF (by omega),hl,yJ,List.set_cons_zero,List.append_assoc];rfl
theorem m6(x:eQ):0≤h_ x:=by
 unfold h_;omega
def OX(w:World)(F:Nat→Prop)(e:TypeId)(A:Option Addr)(n c:Nat)(k:Int)(xs:List eQ)(en:Ending)(w':World):Prop :=
 en=.returned (.int .i64 (k+(xs.map h_).sum))∧aB aX e w' F A n c (fU k xs)∧au F w w'
theorem G7{w:World}{F:Nat→Prop}{e:TypeId}{A:Option Addr}{n c:Nat}{k:Int}{xs:List eQ}(h:aB aX e w F A n c xs)(hn:n≤1048580)(hs:∀x∈xs,dO x≤1048580)(hk0:0≤k)(hk:k+(xs.map h_).sum≤16777216) :
  Calls Tryz.prog 66 #[.slice A n c,.int .i64 k] w (OX w F e A n c k xs):=by
 have HL:=zA h.1;have HK:=zA hk;clear hk;go_enter Tryz.func66,Tryz.ntmps66
 go_wp2_with fail
 go_loopw[1,5] (fun q i wr=>∃(j:Nat) (z:Int),j≤n∧i=.int .i64 j∧q=.int .i64 z∧Hid (z=k+((xs.take j).map h_).sum)∧aB aX e wr F A n c (fU k (xs.take j)++xs.drop j)∧au F w wr) (fun _ i _=>n-(intOf i).toNat)
 case atStart=>exact⟨0,k,zL _,rfl,rfl,zA (by simp),by simpa[fU] using h,au.refl _ _⟩
 case round =>
  obtain⟨j,z,hj,rfl,rfl,HZ,hown,ht⟩:=hrel;by_cases hlt:j<n
  ·obtain⟨hx,g,G,us,rfl,AX,hrow,hel⟩:=hown.open_ hlt;have BF:j<xs.length:=by rw[HL.out];exact hlt
   have he:(fU k (xs.take j)++xs.drop j)[j]=xs[j]:=by
    have hm:(fU k (xs.take j)).length=j:=by rw[nG,List.length_take];omega
    rw[List.getElem_append_right (by omega)];simp[hm]
   rw[he] at hel;clear he hown hx;have jh:=zA (zG BF);have QY:=hs _ (zS BF);have hz0:0≤z:=by have:=jr m6 (xs.take j);have:=HZ.out;omega
   have QZ:z+h_ xs[j]≤16777216:=by
    have h1:=qQ m6 jh.out;have:=HZ.out;have:=HK.out;omega
   have HST:=zA (Ef (k:=k) jh.out);have Q0:=zA (qg h_ jh.out);rw[←HZ.out] at HST;generalize xs[j]=x at *;clear BF;obtain⟨A1,n1,c1,F1,rfl,hw0,⟨o1,k1⟩⟩:=Q4 hel;have l1:=o1.1;subst l1;have hg1:¬F1 g:=fun h=>hrow.not (k1 g h)
   unfold dO at QY;unfold h_ at QZ;have dK:wr.cell? ⟨g,j*2+0,none⟩=some (.int .i64 x.dm):=hrow.cell (j:=0) rfl (by decide);have eu:wr.cell? ⟨g,j*2+1,none⟩=some (.slice A1 x.iW.length c1):=hrow.cell (j:=1) rfl (by decide);have ff:=hrow.free;simp only[zI,zK] at dK eu;go_wp2_with fail
   refine (sO (F:=F1) (by exact (o1).setCell hg1 _) (by omega) (by omega) (by omega)).mono ?_;rintro e w1 ⟨rfl,q1,t1⟩;have Sj:=(ht.setCell (p:=⟨g,j*2+0,none⟩) hrow.here (.int .i64 z)).trans (t1.wide fun b hb=>hrow.Io b (k1 b hb));have uG:=eF.turned (hrow.BP (o:=0) (by decide) (.int .i64 z)) t1 k1;clear hrow ht t1 dK eu ff;have hrow:=uG;clear uG;have ht:=Sj;clear Sj;clear o1;have o1:=q1;clear q1;have dK:w1.cell? ⟨g,j*2+0,none⟩=some (.int .i64 z):=hrow.cell (j:=0) rfl (by decide);have eu:w1.cell? ⟨g,j*2+1,none⟩=some (.slice A1 x.iW.length c1):=hrow.cell (j:=1) rfl (by decide);have ff:=hrow.free;simp only[zI,zK] at dK eu;go_wp2_with fail
   go_roundw
   case rel =>
    have hshut:=eF.shut hrow (x':=uH z x) (BU (iE (z:=z) (by omega) (by omega)) o1 k1);rw[HST.out] at hshut;exact⟨j+1,z+1+(x.iW.length:Int),by omega,by go_num,by go_num,zA (by rw[Q0.out];have h1:=HZ.out;have h2:h_ x=1+(x.iW.length:Int):=rfl;omega),hshut,ht⟩
   case measure=>simp[intOf];omega
  ·go_wp2_with fail
   go_ret;obtain rfl:j=n:=(by omega);have e1:xs.take j=xs:=zU (by rw[HL.out];exact zC _);have hz:=HZ.out;rw[e1] at hown hz;rw[List.drop_of_length_le (by rw[HL.out];exact zC _),List.append_nil] at hown;exact⟨by rw[←hz];rfl,hown,ht⟩
theorem y7{x:eQ}:∀{xs:List eQ} {k:Int} {j:Nat},xs[j]? =some x→(fU k xs)[j]? =some (uH (k+((xs.take j).map h_).sum) x)
 |[],_,_,h=>by simp at h
 |y::xs,k,0,h=>by
  simp at h;subst h;simp[fU]
 |y::xs,k,j+1,h=>by
  have:=y7 (xs:=xs) (k:=k+h_ y) (j:=j) (by simpa using h);simp only[fU,List.getElem?_cons_succ,this,List.take_succ_cons,yQ,List.sum_cons,Int.add_assoc]
theorem G8{w:World}{hi:Nat}{A:Option Addr}{n c:Nat}{k:Int}{xs:List eQ}(h:a_ aX w hi A n (fU k xs))(hn:n≤1048580)(hs:∀x∈xs,dO x≤1048580)(hk0:0≤k)(hk:k+(xs.map h_).sum≤16777216) :
  Calls Tryz.prog 69 #[.slice A n c,.int .i64 k] w fun e w'=>e=.returned (.int .i64 (k+(xs.map h_).sum))∧w=w':=by
 have HL:=zA (show xs.length=n by rw[←h.1,nG]);have HK:=zA hk;clear hk;go_enter Tryz.func69,Tryz.ntmps69
 go_wp2_with fail
 go_loop[1,5] (fun q i=>∃(j:Nat) (z:Int),j≤n∧i=.int .i64 j∧q=.int .i64 z∧Hid (z=k+((xs.take j).map h_).sum)) (fun _ i=>n-(intOf i).toNat)
 case atStart=>exact⟨0,k,zL _,rfl,rfl,zA (by simp)⟩
 case round =>
  obtain⟨j,z,hj,rfl,rfl,HZ⟩:=hrel;by_cases hlt:j<n
  ·obtain⟨hx,g,o,vs,rfl,hg,aW,hcell⟩:=h.at_ hlt;have BF:j<xs.length:=by rw[HL.out];exact hlt
   have jh:=zA (zG BF);have he:(fU k xs)[j]=uH z xs[j]:=by
    have h1:=y7 (k:=k) jh.out;rw[←HZ.out] at h1;exact zW ((zG hx).symm.trans h1)
   rw[he] at aW;clear he hx;have QY:=hs _ (zS BF);have hz0:0≤z:=by have:=jr m6 (xs.take j);have:=HZ.out;omega
   have QZ:z+h_ xs[j]≤16777216:=by
    have h1:=qQ m6 jh.out;have:=HZ.out;have:=HK.out;omega
   have Q0:=zA (qg h_ jh.out);generalize xs[j]=x at *;clear BF;obtain⟨A1,n1,c1,rfl,hw0,⟨hc1,hm1,s1⟩⟩:=iQ aW;have l1:x.iW.length=n1:=by have h1:=s1.1;simpa[uH,ry] using h1
   subst l1;replace s1:a_ Lay.int w hi A1 x.iW.length (g8 (z+1) x.iW.length):=s1;have dK:=hcell 0 _ rfl;have eu:=hcell 1 _ rfl;simp only[show (aX).size=2 from rfl,←zH,zI,zK,uH] at dK eu;clear hcell aW hw0;unfold dO at QY;unfold h_ at QZ;have hd1:decide (z+1+(x.iW.length:Int)<0)=false:=yD (by omega);go_wp2_with fail
   refine (uX s1 (by omega) (by omega) (by omega)).mono ?_;rintro e w' ⟨rfl,rfl⟩;go_wp2_with fail
   go_round
   case rel=>exact⟨j+1,z+1+(x.iW.length:Int),by omega,by go_num,by go_num,zA (by rw[Q0.out];have h1:=HZ.out;have h2:h_ x=1+(x.iW.length:Int):=rfl;omega)⟩
   case measure=>simp[intOf];omega
  ·go_wp2_with fail
   go_ret;obtain rfl:j=n:=(by omega);have hz:=HZ.out;rw[zU (by rw[HL.out];exact zC _)] at hz;exact⟨by rw[←hz];rfl,rfl⟩
theorem V8{w:World}{F:Nat→Prop}{x:dY}{vs:List Value}(h:bZ.own w F x vs):∃(A0:Option Addr) (n0 c0:Nat) (F0:Nat→Prop) (A1:Option Addr) (n1 c1:Nat) (F1:Nat→Prop) (A2:Option Addr) (n2 c2:Nat) (F2:Nat→Prop),vs=[.slice A0 n0 c0,.slice A1 n1 c1,.slice A2 n2 c2]∧(aB aI 69 w F0 A0 n0 c0 x.bJ∧∀g,F0 g→F g)∧(aB bD 135 w F1 A1 n1 c1 x.aA∧∀g,F1 g→F g)∧(aB aX 137 w F2 A2 n2 c2 x.ay∧∀g,F2 g→F g)∧(∀g,F0 g→¬F1 g)∧(∀g,F0 g→¬F2 g)∧(∀g,F1 g→¬F2 g):=by
 obtain⟨_,_,F0,R1,rfl,s0,⟨_,_,F1,R2,rfl,s1,s2,k1,r1,d1⟩,k0,r0,d0⟩:=h;obtain⟨A0,n0,c0,rfl,h0⟩:=s0;obtain⟨A1,n1,c1,rfl,h1⟩:=s1;obtain⟨A2,n2,c2,rfl,h2⟩:=s2;exact⟨A0,n0,c0,F0,A1,n1,c1,F1,A2,n2,c2,R2,rfl,⟨h0,(fun g h=>k0 g h)⟩,⟨h1,(fun g h=>r0 g (k1 g h))⟩,⟨h2,(fun g h=>r0 g (r1 g h))⟩,(fun g hi hj=>d0 g hi ((fun g h=>k1 g h) g hj)),(fun g hi hj=>d0 g hi ((fun g h=>r1 g h) g hj)),(fun g hi hj=>d1 g hi ((fun g h=>h) g hj))⟩
def lJ(x:dY):Int:=(x.bJ.map jc).sum+(x.aA.map iF).sum+(x.ay.map h_).sum
def C6(k:Int)(x:dY):dY:=⟨iR k x.bJ,hZ (k+(x.bJ.map jc).sum) x.aA,fU (k+(x.bJ.map jc).sum+(x.aA.map iF).sum) x.ay⟩
theorem DK{w:World}{F:Nat→Prop}{x:dY}{vs:List Value}{k:Int}(h:bZ.own w F x vs)(hF:∀g,F g→g<w.heap.size)(hs:dS x≤1048580)(hk0:0≤k)(hk:k+lJ x≤16777216) :
  Calls Tryz.prog 16 #[.agg vs.toArray,.int .i64 k] w fun e w'=>e=.returned (.int .i64 (k+lJ x))∧bZ.own w' F (C6 k x) vs∧au F w w':=by
 obtain⟨A0,n0,c0,F0,A1,n1,c1,F1,A2,n2,c2,F2,rfl,⟨o0,k0⟩,⟨o1,k1⟩,⟨o2,k2⟩,abG,Q5,Q1⟩:=V8 h;have l0:=o0.1;subst l0;have hq0:=jr pJ x.bJ;have l1:=o1.1;subst l1;have hq1:=jr ou x.aA;have l2:=o2.1;subst l2;have hq2:=jr m6 x.ay;unfold dS at hs;have hk2:=hk;unfold lJ at hk2;have hs0:∀y∈x.bJ,bV y≤1048580:=fun y hy=>by have:=dI bV hy;omega
 have hs1:∀y∈x.aA,dN y≤1048580:=fun y hy=>by have:=dI dN hy;omega
 have hs2:∀y∈x.ay,dO y≤1048580:=fun y hy=>by have:=dI dO hy;omega
 have HV:=zA (show lJ x=lJ x from rfl);unfold lJ at HV;clear hk h;have ht:au F w (w.alloc (.cells #[.slice A0 x.bJ.length c0,.slice A1 x.aA.length c1,.slice A2 x.ay.length c2] 40)):=au.of_below ((zD _ _).alloc (zC _) _) F;replace o0:=o0.stay (w':=(w.alloc (.cells #[.slice A0 x.bJ.length c0,.slice A1 x.aA.length c1,.slice A2 x.ay.length c2] 40))) (fun b _ hlt=>Below.heap_alloc w _ b hlt) (by simp);replace o1:=o1.stay (w':=(w.alloc (.cells #[.slice A0 x.bJ.length c0,.slice A1 x.aA.length c1,.slice A2 x.ay.length c2] 40))) (fun b _ hlt=>Below.heap_alloc w _ b hlt) (by simp);replace o2:=o2.stay (w':=(w.alloc (.cells #[.slice A0 x.bJ.length c0,.slice A1 x.aA.length c1,.slice A2 x.ay.length c2] 40))) (fun b _ hlt=>Below.heap_alloc w _ b hlt) (by simp);have oG:∀o,(w.alloc (.cells #[.slice A0 x.bJ.length c0,.slice A1 x.aA.length c1,.slice A2 x.ay.length c2] 40)).cell? ⟨w.heap.size,o,none⟩=(w.alloc (.cells #[.slice A0 x.bJ.length c0,.slice A1 x.aA.length c1,.slice A2 x.ay.length c2] 40)).cell? ⟨w.heap.size,o,none⟩:=fun _=>rfl
 have hz0:w.heap.size<(w.alloc (.cells #[.slice A0 x.bJ.length c0,.slice A1 x.aA.length c1,.slice A2 x.ay.length c2] 40)).heap.size:=(by simp);clear oG;go_enter Tryz.func16,Tryz.ntmps16
 go_wp2_with fail
 refine (MC (F:=F0) o0 (by omega) (fun y hy=>zJ (hs0 y hy) (by decide)) (by omega) (by omega)).mono ?_;rintro e w1 ⟨rfl,q0,t0⟩;have hz1:w.heap.size<w1.heap.size:=zV hz0 t0.size;have hb1:w1.heap[w.heap.size]? =(w.alloc (.cells #[.slice A0 x.bJ.length c0,.slice A1 x.aA.length c1,.slice A2 x.ay.length c2] 40)).heap[w.heap.size]? :=t0.block _ hz0 (fun hb=>yI _ (hF _ (k0 _ hb)));have eX:∀o,w1.cell? ⟨w.heap.size,o,none⟩=(w.alloc (.cells #[.slice A0 x.bJ.length c0,.slice A1 x.aA.length c1,.slice A2 x.ay.length c2] 40)).cell? ⟨w.heap.size,o,none⟩:=fun o=>World.cell?_of_block hb1
 replace ht:=ht.trans (t0.wide k0);replace o1:=o1.jE t0 (fun b hb hb2=>abG b hb2 hb);replace o2:=o2.jE t0 (fun b hb hb2=>Q5 b hb2 hb);clear t0;go_wp2_with fail
 refine (Jm (F:=F1) o1 (by omega) (fun y hy=>zJ (hs1 y hy) (by decide)) (by omega) (by omega)).mono ?_;rintro e w2 ⟨rfl,q1,t1⟩;have hz2:w.heap.size<w2.heap.size:=zV hz1 t1.size;have hb2:w2.heap[w.heap.size]? =w1.heap[w.heap.size]? :=t1.block _ hz1 (fun hb=>yI _ (hF _ (k1 _ hb)));replace hb2:=hb2.trans hb1;have o7:∀o,w2.cell? ⟨w.heap.size,o,none⟩=(w.alloc (.cells #[.slice A0 x.bJ.length c0,.slice A1 x.aA.length c1,.slice A2 x.ay.length c2] 40)).cell? ⟨w.heap.size,o,none⟩:=fun o=>World.cell?_of_block hb2
 replace ht:=ht.trans (t1.wide k1);replace o2:=o2.jE t1 (fun b hb hb2=>Q1 b hb2 hb);replace q0:=q0.jE t1 (fun b hb hb2=>abG b hb hb2);clear t1;go_wp2_with fail
 refine (G7 (F:=F2) o2 (by omega) (fun y hy=>zJ (hs2 y hy) (by decide)) (by omega) (by omega)).mono ?_;rintro e w3 ⟨rfl,q2,t2⟩;have hz3:w.heap.size<w3.heap.size:=zV hz2 t2.size;have hb3:w3.heap[w.heap.size]? =w2.heap[w.heap.size]? :=t2.block _ hz2 (fun hb=>yI _ (hF _ (k2 _ hb)));replace hb3:=hb3.trans hb2;have z7:∀o,w3.cell? ⟨w.heap.size,o,none⟩=(w.alloc (.cells #[.slice A0 x.bJ.length c0,.slice A1 x.aA.length c1,.slice A2 x.ay.length c2] 40)).cell? ⟨w.heap.size,o,none⟩:=fun o=>World.cell?_of_block hb3
 replace ht:=ht.trans (t2.wide k2);replace q0:=q0.jE t2 (fun b hb hb2=>Q5 b hb hb2);replace q1:=q1.jE t2 (fun b hb hb2=>Q1 b hb hb2);clear t2;go_wp2_with fail
 go_ret;exact⟨by unfold lJ;go_num,Kt (x:=C6 k x) q0 q1 q2 k0 k1 k2 abG Q5 Q1,ht⟩
theorem DL{w:World}{hi:Nat}{x:dY}{vs:List Value}{k:Int}(h:bZ.see w hi (C6 k x) vs)(cu:hi≤w.heap.size)(hs:dS x≤1048580)(hk0:0≤k)(hk:k+lJ x≤16777216) :
  Calls Tryz.prog 17 #[.agg vs.toArray,.int .i64 k] w fun e w'=>e=.returned (.int .i64 (k+lJ x))∧yT w w':=by
 obtain⟨A0,n0,c0,A1,n1,c1,A2,n2,c2,rfl,⟨hc0,hm0,s0⟩,⟨hc1,hm1,s1⟩,⟨hc2,jY,s2⟩⟩:=iV h;have l0:x.bJ.length=n0:=by have h1:=s0.1;simpa[C6,pF] using h1
 subst l0;have l1:x.aA.length=n1:=by have h1:=s1.1;simpa[C6,oJ] using h1
 subst l1;have l2:x.ay.length=n2:=by have h1:=s2.1;simpa[C6,nG] using h1
 subst l2;replace s0:a_ aI (w.alloc (.cells #[.slice A0 x.bJ.length c0,.slice A1 x.aA.length c1,.slice A2 x.ay.length c2] 40)) hi A0 x.bJ.length (iR (k) x.bJ):=s0.below ((zD _ _).alloc (zC _) _) cu;replace s1:a_ bD (w.alloc (.cells #[.slice A0 x.bJ.length c0,.slice A1 x.aA.length c1,.slice A2 x.ay.length c2] 40)) hi A1 x.aA.length (hZ (k+(x.bJ.map jc).sum) x.aA):=s1.below ((zD _ _).alloc (zC _) _) cu;replace s2:a_ aX (w.alloc (.cells #[.slice A0 x.bJ.length c0,.slice A1 x.aA.length c1,.slice A2 x.ay.length c2] 40)) hi A2 x.ay.length (fU (k+(x.bJ.map jc).sum+(x.aA.map iF).sum) x.ay):=s2.below ((zD _ _).alloc (zC _) _) cu;unfold dS at hs;have hk2:=hk;unfold lJ at hk2;clear hk h;have hq0:=jr pJ x.bJ;have hs0:∀y∈x.bJ,bV y≤1048580:=fun y hy=>by have:=dI bV hy;omega
 have hq1:=jr ou x.aA;have hs1:∀y∈x.aA,dN y≤1048580:=fun y hy=>by have:=dI dN hy;omega
 have hq2:=jr m6 x.ay;have hs2:∀y∈x.ay,dO y≤1048580:=fun y hy=>by have:=dI dO hy;omega
 go_enter Tryz.func17,Tryz.ntmps17
 have hd0:decide (k+(x.bJ.map jc).sum<0)=false:=yD (by omega);go_wp2_with fail
 refine (MF s0 (by omega) (fun y hy=>zJ (hs0 y hy) (by decide)) (by omega) (by omega)).mono ?_;rintro e w' ⟨rfl,rfl⟩;have hd1:decide (k+(x.bJ.map jc).sum+(x.aA.map iF).sum<0)=false:=yD (by omega);go_wp2_with fail
 refine (Jn s1 (by omega) (fun y hy=>zJ (hs1 y hy) (by decide)) (by omega) (by omega)).mono ?_;rintro e w' ⟨rfl,rfl⟩;have hd2:decide (k+(x.bJ.map jc).sum+(x.aA.map iF).sum+(x.ay.map h_).sum<0)=false:=yD (by omega);go_wp2_with fail
 refine (G8 s2 (by omega) (fun y hy=>zJ (hs2 y hy) (by decide)) (by omega) (by omega)).mono ?_;rintro e w' ⟨rfl,rfl⟩;go_wp2_with fail
 go_ret;exact⟨by unfold lJ;go_num,by go_grown⟩
theorem r7{α:Type}{f:α→Int}{s:α→Nat}{a b:Int}(h:∀x,f x≤a+b*(s x:Int)):∀l:List α,(l.map f).sum≤a*(l.length:Int)+b*((l.map s).sum:Nat)
 |[]=>by simp
 |x::l=>by
  have h1:=r7 h l;have h2:=h x;simp only[yQ,List.sum_cons,yB,Int.natCast_add,Int.mul_add];omega
theorem G9{x:dY}(h:dS x≤1048580):0≤lJ x∧lJ x≤8388700:=by
 have g1:=r7 (f:=jc) (s:=bV) (a:=4) (b:=4) (fun g=>by unfold jc bV;omega) x.bJ;have g2:=r7 (f:=iF) (s:=dN) (a:=4) (b:=4) (fun g=>by unfold iF dN;omega) x.aA;have g3:=r7 (f:=h_) (s:=dO) (a:=4) (b:=4) (fun g=>by unfold h_ dO;omega) x.ay;have p1:=jr pJ x.bJ;have p2:=jr ou x.aA;have p3:=jr m6 x.ay;unfold dS at h;unfold lJ;omega
def mkCase(z:Int):ja:=⟨z%3==0,(z+1),(z+1+1),(z+1+1+1),(z+1+1+1+1)⟩
def pU(k:Int)(n:Nat):List ja:=(List.range n).map fun (i:Nat)=>mkCase (k+5*(i:Int))
theorem G_{xs:List ja}{k:Int}{n j:Nat}(hl:xs.length=n)(hj:j<n) :
  (pU k j++xs.drop j).set j (mkCase (k+5*(j:Int)))=pU k (j+1)++xs.drop (j+1):=by
 apply List.ext_getElem?
 intro i;simp only[pU,List.getElem?_set,yM,yN,yL,zZ,List.length_range,List.length_drop,List.getElem?_drop];rcases Nat.lt_trichotomy i j with h|h|h
 ·simp[show ¬j=i from by omega,h,show i<j+1 from by omega]
 ·subst h;simp[show i<i+(xs.length-i) from by omega]
 ·simp[show ¬j=i from by omega,show ¬i<j from by omega,show ¬i<j+1 from by omega,show j+(i-j)=i from by omega,show j+1+(i-(j+1))=i from by omega]
def Q6(w:World)(F:Nat→Prop)(e:TypeId)(A:Option Addr)(n c:Nat)(k:Int)(en:Ending)(w':World):Prop :=
 en=.returned (.int .i64 (k+5*(n:Int)))∧aB fJ e w' F A n c (pU k n)∧au F w w'
theorem Jr{w:World}{F:Nat→Prop}{e:TypeId}{A:Option Addr}{n c:Nat}{k:Int}{xs:List ja}(h:aB fJ e w F A n c xs)(hn:n≤1048576)(hk0:0≤k)(hk:k≤16777216) :
  Calls Tryz.prog 135 #[.slice A n c,.int .i64 k] w (Q6 w F e A n c k):=by
 have HL:=zA h.1;go_enter Tryz.func135,Tryz.ntmps135
 go_wp2_with fail
 go_loopw[1,5] (fun q i wr=>∃j:Nat,j≤n∧i=.int .i64 j∧q=.int .i64 (k+5*(j:Int))∧aB fJ e wr F A n c (pU k j++xs.drop j)∧au F w wr) (fun _ i _=>n-(intOf i).toNat)
 case atStart=>exact⟨0,zL _,rfl,by simp,by simpa[pU] using h,au.refl _ _⟩
 case round =>
  obtain⟨j,hj,rfl,rfl,hown,ht⟩:=hrel;by_cases hlt:j<n
  ·obtain⟨hx,g,G,vs,rfl,hFg,MP,ve,AX,⟨rfl,hw⟩,hcell,hfr,hput⟩:=hown.focus hlt;have dK:=hcell 0 _ (by decide) rfl;have QV:=hfr (j*(fJ).size+0);have eu:=hcell 1 _ (by decide) rfl;have V5:=hfr (j*(fJ).size+1);have ig:=hcell 2 _ (by decide) rfl;have V6:=hfr (j*(fJ).size+2);have jf:=hcell 3 _ (by decide) rfl;have ff3:=hfr (j*(fJ).size+3);have lS:=hcell 4 _ (by decide) rfl;have ff4:=hfr (j*(fJ).size+4);simp only[show (fJ).size=5 from rfl,zI,zK] at dK QV eu V5 ig V6 jf ff3 lS ff4;generalize (pU k j++xs.drop j)[j]=x at *;clear hcell hfr hw;have hz0:0≤k+5*(j:Int):=(by omega);have hz1:k+5*(j:Int)≤33554432:=(by omega);have HZ:=zA (show k+5*(j:Int)+5=k+5*((j+1:Nat):Int) by omega);have HST:=zA (G_ (k:=k) HL.out hlt);have HP:=zA hput;clear hput;generalize k+5*(j:Int)=z at *;go_wp2_with fail
   go_roundw
   case rel =>
    have hrow:=HP.out (putCells wr g (j*5) [.bool (z%3==0),.int .i64 (z+1),.int .i64 (z+1+1),.int .i64 (z+1+1+1),.int .i64 (z+1+1+1+1)]) (mkCase z) [.bool (z%3==0),.int .i64 (z+1),.int .i64 (z+1+1),.int .i64 (z+1+1+1),.int .i64 (z+1+1+1+1)] rfl ⟨rfl,⟨iE (z:=(z+1)) (by omega) (by omega),iE (z:=(z+1+1)) (by omega) (by omega),iE (z:=(z+1+1+1)) (by omega) (by omega),iE (z:=(z+1+1+1+1)) (by omega) (by omega)⟩⟩ (au.put _ _ _ (au.refl _ _) (Or.inr rfl)) rfl;rw[HST.out] at hrow;refine⟨j+1,by omega,by go_num,by rw[←HZ.out];try go_num,by first|exact hrow|simpa[putCells] using hrow,?_⟩;have GX:au F w (putCells wr g (j*5) [.bool (z%3==0),.int .i64 (z+1),.int .i64 (z+1+1),.int .i64 (z+1+1+1),.int .i64 (z+1+1+1+1)]):=au.put _ _ _ ht hFg;first|exact GX|simpa[putCells] using GX
   case measure=>simp[intOf];omega
  ·go_wp2_with fail
   go_ret;obtain rfl:j=n:=(by omega);refine⟨rfl,?_,ht⟩;rw[List.drop_of_length_le (by rw[HL.out];exact zC _),List.append_nil] at hown;exact hown
theorem OY{w:World}{F:Nat→Prop}{x:eG}{vs:List Value}(h:bM.own w F x vs):∃(A0:Option Addr) (n0 c0:Nat) (F0:Nat→Prop),vs=[.slice A0 n0 c0,.int .i64 x.fV]∧(aB fJ 165 w F0 A0 n0 c0 x.dw∧∀g,F0 g→F g)∧(Lit.int .i64 x.fV).wf=true:=by
 obtain⟨_,_,F0,R1,rfl,s0,s1,k0,r0,d0⟩:=h;obtain⟨A0,n0,c0,rfl,h0⟩:=s0;obtain⟨rfl,h1⟩:=s1;exact⟨A0,n0,c0,F0,rfl,⟨h0,(fun g h=>k0 g h)⟩,h1⟩
def jA(x:eG):Int:=(5*(x.dw.length:Int))+1
def CO(z:Int)(x:eG):eG:=⟨pU z x.dw.length,z+(5*(x.dw.length:Int))⟩
def iw:Int→List eG→List eG
 |_,[]=>[]
 |z,x::r=>CO z x::iw (z+jA x) r
theorem sS(l:List eG):∀z,(iw z l).length=l.length:=by
 induction l with
 |nil=>intro z;rfl
 |cons x l ih=>intro z;simp[iw,ih]
theorem C7(l:List eG)(x:eG):∀z,iw z (l++[x])=iw z l++[CO (z+(l.map jA).sum) x]:=by
 induction l with
 |nil=>intro z;simp[iw]
 |cons y l ih=>intro z;simp[iw,ih,Int.add_assoc]
theorem C8{xs:List eG}{k:Int}{j:Nat}{x:eG}(hx:xs[j]? =some x) :
  (iw k (xs.take j)++xs.drop j).set j (CO (k+((xs.take j).map jA).sum) x)=iw k (xs.take (j+1))++xs.drop (j+1):=by
 obtain⟨hj,rfl⟩:=zO.1 hx;have hl:(iw k (xs.take j)).length=j:=by rw[sS,List.length_take];omega
 rw[List.take_succ_eq_append_getElem hj,C7,List.drop_eq_getElem_cons hj,List.set_append,yF (by omega),hl,yJ,List.set_cons_zero,List.append_assoc];rfl
theorem qO(x:eG):0≤jA x:=by
 unfold jA;omega
def MG(w:World)(F:Nat→Prop)(e:TypeId)(A:Option Addr)(n c:Nat)(k:Int)(xs:List eG)(en:Ending)(w':World):Prop :=
 en=.returned (.int .i64 (k+(xs.map jA).sum))∧aB bM e w' F A n c (iw k xs)∧au F w w'
theorem Eg{w:World}{F:Nat→Prop}{e:TypeId}{A:Option Addr}{n c:Nat}{k:Int}{xs:List eG}(h:aB bM e w F A n c xs)(hn:n≤1048576)(hs:∀x∈xs,dJ x≤1048576)(hk0:0≤k)(hk:k+(xs.map jA).sum≤16777216) :
  Calls Tryz.prog 62 #[.slice A n c,.int .i64 k] w (MG w F e A n c k xs):=by
 have HL:=zA h.1;have HK:=zA hk;clear hk;go_enter Tryz.func62,Tryz.ntmps62
 go_wp2_with fail
 go_loopw[1,5] (fun q i wr=>∃(j:Nat) (z:Int),j≤n∧i=.int .i64 j∧q=.int .i64 z∧Hid (z=k+((xs.take j).map jA).sum)∧aB bM e wr F A n c (iw k (xs.take j)++xs.drop j)∧au F w wr) (fun _ i _=>n-(intOf i).toNat)
 case atStart=>exact⟨0,k,zL _,rfl,rfl,zA (by simp),by simpa[iw] using h,au.refl _ _⟩
 case round =>
  obtain⟨j,z,hj,rfl,rfl,HZ,hown,ht⟩:=hrel;by_cases hlt:j<n
  ·obtain⟨hx,g,G,us,rfl,AX,hrow,hel⟩:=hown.open_ hlt;have BF:j<xs.length:=by rw[HL.out];exact hlt
   have he:(iw k (xs.take j)++xs.drop j)[j]=xs[j]:=by
    have hm:(iw k (xs.take j)).length=j:=by rw[sS,List.length_take];omega
    rw[List.getElem_append_right (by omega)];simp[hm]
   rw[he] at hel;clear he hown hx;have jh:=zA (zG BF);have QY:=hs _ (zS BF);have hz0:0≤z:=by have:=jr qO (xs.take j);have:=HZ.out;omega
   have QZ:z+jA xs[j]≤16777216:=by
    have h1:=qQ qO jh.out;have:=HZ.out;have:=HK.out;omega
   have HST:=zA (C8 (k:=k) jh.out);have Q0:=zA (qg jA jh.out);rw[←HZ.out] at HST;generalize xs[j]=x at *;clear BF;obtain⟨A0,n0,c0,F0,rfl,⟨o0,k0⟩,hw1⟩:=OY hel;have l0:=o0.1;subst l0;have hg0:¬F0 g:=fun h=>hrow.not (k0 g h)
   unfold dJ at QY;unfold jA at QZ;have dK:wr.cell? ⟨g,j*2+0,none⟩=some (.slice A0 x.dw.length c0):=hrow.cell (j:=0) rfl (by decide);have eu:wr.cell? ⟨g,j*2+1,none⟩=some (.int .i64 x.fV):=hrow.cell (j:=1) rfl (by decide);have ff:=hrow.free;simp only[zI,zK] at dK eu;go_wp2_with fail
   refine (Jr (F:=F0) (by exact o0) (by omega) (by omega) (by omega)).mono ?_;rintro e w1 ⟨rfl,q0,t0⟩;have Sj:=ht.trans (t0.wide fun b hb=>hrow.Io b (k0 b hb));have uG:=eF.turned hrow t0 k0;clear hrow ht t0 dK eu ff;have hrow:=uG;clear uG;have ht:=Sj;clear Sj;clear o0;have o0:=q0;clear q0;have dK:w1.cell? ⟨g,j*2+0,none⟩=some (.slice A0 x.dw.length c0):=hrow.cell (j:=0) rfl (by decide);have eu:w1.cell? ⟨g,j*2+1,none⟩=some (.int .i64 x.fV):=hrow.cell (j:=1) rfl (by decide);have ff:=hrow.free;simp only[zI,zK] at dK eu;go_wp2_with fail
   go_roundw
   case rel =>
    have hshut:=eF.shut (hrow.BP (o:=1) (by decide) (.int .i64 (z+5*(x.dw.length:Int)))) (x':=CO z x) (JD (aB.setCell (o:=j*2+1) o0 hg0 (.int .i64 (z+5*(x.dw.length:Int)))) (iE (z:=z+5*(x.dw.length:Int)) (by omega) (by omega)) k0);rw[HST.out] at hshut;exact⟨j+1,z+5*(x.dw.length:Int)+1,by omega,by go_num,by go_num,zA (by rw[Q0.out];have h1:=HZ.out;have h2:jA x=5*(x.dw.length:Int)+1:=rfl;omega),by first|exact hshut|(simp only[Int.add_mul_emod_self_left] at hshut;exact hshut),(ht.setCell (p:=⟨g,j*2+1,none⟩) hrow.here _)⟩
   case measure=>simp[intOf];omega
  ·go_wp2_with fail
   go_ret;obtain rfl:j=n:=(by omega);have e1:xs.take j=xs:=zU (by rw[HL.out];exact zC _);have hz:=HZ.out;rw[e1] at hown hz;rw[List.drop_of_length_le (by rw[HL.out];exact zC _),List.append_nil] at hown;exact⟨by rw[←hz];rfl,hown,ht⟩
def MH(z:Int):iG:=⟨z,(z+1),(z+1+1),(z+1+1+1)⟩
def oz(k:Int)(n:Nat):List iG:=(List.range n).map fun (i:Nat)=>MH (k+4*(i:Int))
theorem Eh{xs:List iG}{k:Int}{n j:Nat}(hl:xs.length=n)(hj:j<n) :
  (oz k j++xs.drop j).set j (MH (k+4*(j:Int)))=oz k (j+1)++xs.drop (j+1):=by
 apply List.ext_getElem?
 intro i;simp only[oz,List.getElem?_set,yM,yN,yL,zZ,List.length_range,List.length_drop,List.getElem?_drop];rcases Nat.lt_trichotomy i j with h|h|h
 ·simp[show ¬j=i from by omega,h,show i<j+1 from by omega]
 ·subst h;simp[show i<i+(xs.length-i) from by omega]
 ·simp[show ¬j=i from by omega,show ¬i<j from by omega,show ¬i<j+1 from by omega,show j+(i-j)=i from by omega,show j+1+(i-(j+1))=i from by omega]
def OZ(w:World)(F:Nat→Prop)(e:TypeId)(A:Option Addr)(n c:Nat)(k:Int)(en:Ending)(w':World):Prop :=
 en=.returned (.int .i64 (k+4*(n:Int)))∧aB dX e w' F A n c (oz k n)∧au F w w'
theorem Ha{w:World}{F:Nat→Prop}{e:TypeId}{A:Option Addr}{n c:Nat}{k:Int}{xs:List iG}(h:aB dX e w F A n c xs)(hn:n≤1048576)(hk0:0≤k)(hk:k≤16777216) :
  Calls Tryz.prog 136 #[.slice A n c,.int .i64 k] w (OZ w F e A n c k):=by
 have HL:=zA h.1;go_enter Tryz.func136,Tryz.ntmps136
 go_wp2_with fail
 go_loopw[1,5] (fun q i wr=>∃j:Nat,j≤n∧i=.int .i64 j∧q=.int .i64 (k+4*(j:Int))∧aB dX e wr F A n c (oz k j++xs.drop j)∧au F w wr) (fun _ i _=>n-(intOf i).toNat)
 case atStart=>exact⟨0,zL _,rfl,by simp,by simpa[oz] using h,au.refl _ _⟩
 case round =>
  obtain⟨j,hj,rfl,rfl,hown,ht⟩:=hrel;by_cases hlt:j<n
  ·obtain⟨hx,g,G,vs,rfl,hFg,MP,ve,AX,⟨rfl,hw⟩,hcell,hfr,hput⟩:=hown.focus hlt;have dK:=hcell 0 _ (by decide) rfl;have QV:=hfr (j*(dX).size+0);have eu:=hcell 1 _ (by decide) rfl;have V5:=hfr (j*(dX).size+1);have ig:=hcell 2 _ (by decide) rfl;have V6:=hfr (j*(dX).size+2);have jf:=hcell 3 _ (by decide) rfl;have ff3:=hfr (j*(dX).size+3);simp only[show (dX).size=4 from rfl,zI,zK] at dK QV eu V5 ig V6 jf ff3;generalize (oz k j++xs.drop j)[j]=x at *;clear hcell hfr hw;have hz0:0≤k+4*(j:Int):=(by omega);have hz1:k+4*(j:Int)≤33554432:=(by omega);have HZ:=zA (show k+4*(j:Int)+4=k+4*((j+1:Nat):Int) by omega);have HST:=zA (Eh (k:=k) HL.out hlt);have HP:=zA hput;clear hput;generalize k+4*(j:Int)=z at *;go_wp2_with fail
   go_roundw
   case rel =>
    have hrow:=HP.out (putCells wr g (j*4) [.int .i64 z,.int .i64 (z+1),.int .i64 (z+1+1),.int .i64 (z+1+1+1)]) (MH z) [.int .i64 z,.int .i64 (z+1),.int .i64 (z+1+1),.int .i64 (z+1+1+1)] rfl ⟨rfl,⟨iE (z:=z) (by omega) (by omega),iE (z:=(z+1)) (by omega) (by omega),iE (z:=(z+1+1)) (by omega) (by omega),iE (z:=(z+1+1+1)) (by omega) (by omega)⟩⟩ (au.put _ _ _ (au.refl _ _) (Or.inr rfl)) rfl;rw[HST.out] at hrow;refine⟨j+1,by omega,by go_num,by rw[←HZ.out];try go_num,by first|exact hrow|simpa[putCells] using hrow,?_⟩;have GX:au F w (putCells wr g (j*4) [.int .i64 z,.int .i64 (z+1),.int .i64 (z+1+1),.int .i64 (z+1+1+1)]):=au.put _ _ _ ht hFg;first|exact GX|simpa[putCells] using GX
   case measure=>simp[intOf];omega
  ·go_wp2_with fail
   go_ret;obtain rfl:j=n:=(by omega);refine⟨rfl,?_,ht⟩;rw[List.drop_of_length_le (by rw[HL.out];exact zC _),List.append_nil] at hown;exact hown
theorem T3{w:World}{F:Nat→Prop}{x:mM}{vs:List Value}(h:eU.own w F x vs):∃(A0:Option Addr) (n0 c0:Nat) (F0:Nat→Prop),vs=[.slice A0 n0 c0]∧(aB dX 76 w F0 A0 n0 c0 x.jT∧∀g,F0 g→F g):=by
 have s0:=h;obtain⟨A0,n0,c0,rfl,h0⟩:=s0;exact⟨A0,n0,c0,F,rfl,⟨h0,(fun g h=>h)⟩⟩
def m5(x:mM):Int:=(4*(x.jT.length:Int))
def MI(z:Int)(x:mM):mM:=⟨oz z x.jT.length⟩
def jB:Int→List mM→List mM
 |_,[]=>[]
 |z,x::r=>MI z x::jB (z+m5 x) r
theorem vO(l:List mM):∀z,(jB z l).length=l.length:=by
 induction l with
 |nil=>intro z;rfl
 |cons x l ih=>intro z;simp[jB,ih]
theorem He(l:List mM)(x:mM):∀z,jB z (l++[x])=jB z l++[MI (z+(l.map m5).sum) x]:=by
 induction l with
 |nil=>intro z;simp[jB]
 |cons y l ih=>intro z;simp[jB,ih,Int.add_assoc]
theorem Hf{xs:List mM}{k:Int}{j:Nat}{x:mM}(hx:xs[j]? =some x) :
  (jB k (xs.take j)++xs.drop j).set j (MI (k+((xs.take j).map m5).sum) x)=jB k (xs.take (j+1))++xs.drop (j+1):=by
 obtain⟨hj,rfl⟩:=zO.1 hx;have hl:(jB k (xs.take j)).length=j:=by rw[vO,List.length_take];omega
 rw[List.take_succ_eq_append_getElem hj,He,List.drop_eq_getElem_cons hj,List.set_append,yF (by omega),hl,yJ,List.set_cons_zero,List.append_assoc];rfl
theorem uF(x:mM):0≤m5 x:=by
 unfold m5;omega
def Q7(w:World)(F:Nat→Prop)(e:TypeId)(A:Option Addr)(n c:Nat)(k:Int)(xs:List mM)(en:Ending)(w':World):Prop :=
 en=.returned (.int .i64 (k+(xs.map m5).sum))∧aB eU e w' F A n c (jB k xs)∧au F w w'
theorem Js{w:World}{F:Nat→Prop}{e:TypeId}{A:Option Addr}{n c:Nat}{k:Int}{xs:List mM}(h:aB eU e w F A n c xs)(hn:n≤1048576)(hs:∀x∈xs,g7 x≤1048576)(hk0:0≤k)(hk:k+(xs.map m5).sum≤16777216) :
  Calls Tryz.prog 63 #[.slice A n c,.int .i64 k] w (Q7 w F e A n c k xs):=by
 have HL:=zA h.1;have HK:=zA hk;clear hk;go_enter Tryz.func63,Tryz.ntmps63
 go_wp2_with fail
 go_loopw[1,5] (fun q i wr=>∃(j:Nat) (z:Int),j≤n∧i=.int .i64 j∧q=.int .i64 z∧Hid (z=k+((xs.take j).map m5).sum)∧aB eU e wr F A n c (jB k (xs.take j)++xs.drop j)∧au F w wr) (fun _ i _=>n-(intOf i).toNat)
 case atStart=>exact⟨0,k,zL _,rfl,rfl,zA (by simp),by simpa[jB] using h,au.refl _ _⟩
 case round =>
  obtain⟨j,z,hj,rfl,rfl,HZ,hown,ht⟩:=hrel;by_cases hlt:j<n
  ·obtain⟨hx,g,G,us,rfl,AX,hrow,hel⟩:=hown.open_ hlt;have BF:j<xs.length:=by rw[HL.out];exact hlt
   have he:(jB k (xs.take j)++xs.drop j)[j]=xs[j]:=by
    have hm:(jB k (xs.take j)).length=j:=by rw[vO,List.length_take];omega
    rw[List.getElem_append_right (by omega)];simp[hm]
   rw[he] at hel;clear he hown hx;have jh:=zA (zG BF);have QY:=hs _ (zS BF);have hz0:0≤z:=by have:=jr uF (xs.take j);have:=HZ.out;omega
   have QZ:z+m5 xs[j]≤16777216:=by
    have h1:=qQ uF jh.out;have:=HZ.out;have:=HK.out;omega
   have HST:=zA (Hf (k:=k) jh.out);have Q0:=zA (qg m5 jh.out);rw[←HZ.out] at HST;generalize xs[j]=x at *;clear BF;obtain⟨A0,n0,c0,F0,rfl,⟨o0,k0⟩⟩:=T3 hel;have l0:=o0.1;subst l0;have hg0:¬F0 g:=fun h=>hrow.not (k0 g h)
   unfold g7 at QY;unfold m5 at QZ;have dK:wr.cell? ⟨g,j*1+0,none⟩=some (.slice A0 x.jT.length c0):=hrow.cell (j:=0) rfl (by decide);have ff:=hrow.free;simp only[zI,zK] at dK;go_wp2_with fail
   refine (Ha (F:=F0) (by exact o0) (by omega) (by omega) (by omega)).mono ?_;rintro e w1 ⟨rfl,q0,t0⟩;have Sj:=ht.trans (t0.wide fun b hb=>hrow.Io b (k0 b hb));have uG:=eF.turned hrow t0 k0;clear hrow ht t0 dK ff;have hrow:=uG;clear uG;have ht:=Sj;clear Sj;clear o0;have o0:=q0;clear q0;have dK:w1.cell? ⟨g,j*1+0,none⟩=some (.slice A0 x.jT.length c0):=hrow.cell (j:=0) rfl (by decide);have ff:=hrow.free;simp only[zI,zK] at dK;go_wp2_with fail
   go_roundw
   case rel =>
    have hshut:=eF.shut hrow (x':=MI z x) (Rz o0 k0);rw[HST.out] at hshut;exact⟨j+1,z+4*(x.jT.length:Int),by omega,by go_num,by go_num,zA (by rw[Q0.out];have h1:=HZ.out;have h2:m5 x=4*(x.jT.length:Int):=rfl;omega),by first|exact hshut|(simp only[Int.add_mul_emod_self_left] at hshut;exact hshut),ht⟩
   case measure=>simp[intOf];omega
  ·go_wp2_with fail
   go_ret;obtain rfl:j=n:=(by omega);have e1:xs.take j=xs:=zU (by rw[HL.out];exact zC _);have hz:=HZ.out;rw[e1] at hown hz;rw[List.drop_of_length_le (by rw[HL.out];exact zC _),List.append_nil] at hown;exact⟨by rw[←hz];rfl,hown,ht⟩
theorem T4{w:World}{F:Nat→Prop}{x:aS}{vs:List Value}(h:aV.own w F x vs):∃(A0:Option Addr) (n0 c0:Nat) (F0:Nat→Prop) (A2:Option Addr) (n2 c2:Nat) (F2:Nat→Prop) (A3:Option Addr) (n3 c3:Nat) (F3:Nat→Prop),vs=[.slice A0 n0 c0,.int .i64 x.ay,.slice A2 n2 c2,.slice A3 n3 c3]∧(aB Lay.int 3 w F0 A0 n0 c0 x.iD∧∀g,F0 g→F g)∧(Lit.int .i64 x.ay).wf=true∧(aB bM 168 w F2 A2 n2 c2 x.dR∧∀g,F2 g→F g)∧(aB eU 180 w F3 A3 n3 c3 x.dP∧∀g,F3 g→F g)∧(∀g,F0 g→¬F2 g)∧(∀g,F0 g→¬F3 g)∧(∀g,F2 g→¬F3 g):=by
 obtain⟨_,_,F0,R1,rfl,s0,⟨_,_,F1,R2,rfl,s1,⟨_,_,F2,R3,rfl,s2,s3,k2,r2,d2⟩,k1,r1,d1⟩,k0,r0,d0⟩:=h;obtain⟨A0,n0,c0,rfl,h0⟩:=s0;obtain⟨rfl,h1⟩:=s1;obtain⟨A2,n2,c2,rfl,h2⟩:=s2;obtain⟨A3,n3,c3,rfl,h3⟩:=s3;exact⟨A0,n0,c0,F0,A2,n2,c2,F2,A3,n3,c3,R3,rfl,⟨h0,(fun g h=>k0 g h)⟩,h1,⟨h2,(fun g h=>r0 g (r1 g (k2 g h)))⟩,⟨h3,(fun g h=>r0 g (r1 g (r2 g h)))⟩,(fun g hi hj=>d0 g hi ((fun g h=>r1 g (k2 g h)) g hj)),(fun g hi hj=>d0 g hi ((fun g h=>r1 g (r2 g h)) g hj)),(fun g hi hj=>d2 g hi ((fun g h=>h) g hj))⟩
def mO(x:aS):Int:=(x.iD.length:Int)+(x.dR.map jA).sum+(x.dP.map m5).sum
def Sl(k:Int)(x:aS):aS:=⟨g8 k x.iD.length,x.ay,iw (k+(x.iD.length:Int)) x.dR,jB (k+(x.iD.length:Int)+(x.dR.map jA).sum) x.dP⟩
theorem MJ{w:World}{F:Nat→Prop}{x:aS}{vs:List Value}{k:Int}(h:aV.own w F x vs)(hF:∀g,F g→g<w.heap.size)(hs:dV x≤1048576)(hk0:0≤k)(hk:k+mO x≤16777216) :
  Calls Tryz.prog 15 #[.agg vs.toArray,.int .i64 k] w fun e w'=>e=.returned (.int .i64 (k+mO x))∧aV.own w' F (Sl k x) vs∧au F w w':=by
 obtain⟨A0,n0,c0,F0,A2,n2,c2,F2,A3,n3,c3,F3,rfl,⟨o0,k0⟩,hw1,⟨o2,k2⟩,⟨o3,k3⟩,Q5,abH,Q2⟩:=T4 h;have l0:=o0.1;subst l0;have l2:=o2.1;subst l2;have hq2:=jr qO x.dR;have l3:=o3.1;subst l3;have hq3:=jr uF x.dP;unfold dV at hs;have hk2:=hk;unfold mO at hk2;have hs2:∀y∈x.dR,dJ y≤1048576:=fun y hy=>by have:=dI dJ hy;omega
 have hs3:∀y∈x.dP,g7 y≤1048576:=fun y hy=>by have:=dI g7 hy;omega
 have HV:=zA (show mO x=mO x from rfl);unfold mO at HV;clear hk h;have ht:au F w (w.alloc (.cells #[.slice A0 x.iD.length c0,.int .i64 x.ay,.slice A2 x.dR.length c2,.slice A3 x.dP.length c3] 46)):=au.of_below ((zD _ _).alloc (zC _) _) F;replace o0:=o0.stay (w':=(w.alloc (.cells #[.slice A0 x.iD.length c0,.int .i64 x.ay,.slice A2 x.dR.length c2,.slice A3 x.dP.length c3] 46))) (fun b _ hlt=>Below.heap_alloc w _ b hlt) (by simp);replace o2:=o2.stay (w':=(w.alloc (.cells #[.slice A0 x.iD.length c0,.int .i64 x.ay,.slice A2 x.dR.length c2,.slice A3 x.dP.length c3] 46))) (fun b _ hlt=>Below.heap_alloc w _ b hlt) (by simp);replace o3:=o3.stay (w':=(w.alloc (.cells #[.slice A0 x.iD.length c0,.int .i64 x.ay,.slice A2 x.dR.length c2,.slice A3 x.dP.length c3] 46))) (fun b _ hlt=>Below.heap_alloc w _ b hlt) (by simp);have oG:∀o,(w.alloc (.cells #[.slice A0 x.iD.length c0,.int .i64 x.ay,.slice A2 x.dR.length c2,.slice A3 x.dP.length c3] 46)).cell? ⟨w.heap.size,o,none⟩=(w.alloc (.cells #[.slice A0 x.iD.length c0,.int .i64 x.ay,.slice A2 x.dR.length c2,.slice A3 x.dP.length c3] 46)).cell? ⟨w.heap.size,o,none⟩:=fun _=>rfl
 have hz0:w.heap.size<(w.alloc (.cells #[.slice A0 x.iD.length c0,.int .i64 x.ay,.slice A2 x.dR.length c2,.slice A3 x.dP.length c3] 46)).heap.size:=(by simp);clear oG;go_enter Tryz.func15,Tryz.ntmps15
 go_wp2_with fail
 refine (Jk (F:=F0) o0 (by omega) (by omega) (by omega)).mono ?_;rintro e w1 ⟨rfl,q0,t0⟩;have hz1:w.heap.size<w1.heap.size:=zV hz0 t0.size;have hb1:w1.heap[w.heap.size]? =(w.alloc (.cells #[.slice A0 x.iD.length c0,.int .i64 x.ay,.slice A2 x.dR.length c2,.slice A3 x.dP.length c3] 46)).heap[w.heap.size]? :=t0.block _ hz0 (fun hb=>yI _ (hF _ (k0 _ hb)));have eX:∀o,w1.cell? ⟨w.heap.size,o,none⟩=(w.alloc (.cells #[.slice A0 x.iD.length c0,.int .i64 x.ay,.slice A2 x.dR.length c2,.slice A3 x.dP.length c3] 46)).cell? ⟨w.heap.size,o,none⟩:=fun o=>World.cell?_of_block hb1
 replace ht:=ht.trans (t0.wide k0);replace o2:=o2.jE t0 (fun b hb hb2=>Q5 b hb2 hb);replace o3:=o3.jE t0 (fun b hb hb2=>abH b hb2 hb);clear t0;go_wp2_with fail
 refine (Eg (F:=F2) o2 (by omega) hs2 (by omega) (by omega)).mono ?_;rintro e w2 ⟨rfl,q2,t2⟩;have hz2:w.heap.size<w2.heap.size:=zV hz1 t2.size;have hb2:w2.heap[w.heap.size]? =w1.heap[w.heap.size]? :=t2.block _ hz1 (fun hb=>yI _ (hF _ (k2 _ hb)));replace hb2:=hb2.trans hb1;have o7:∀o,w2.cell? ⟨w.heap.size,o,none⟩=(w.alloc (.cells #[.slice A0 x.iD.length c0,.int .i64 x.ay,.slice A2 x.dR.length c2,.slice A3 x.dP.length c3] 46)).cell? ⟨w.heap.size,o,none⟩:=fun o=>World.cell?_of_block hb2
 replace ht:=ht.trans (t2.wide k2);replace o3:=o3.jE t2 (fun b hb hb2=>Q2 b hb2 hb);replace q0:=q0.jE t2 (fun b hb hb2=>Q5 b hb hb2);clear t2;go_wp2_with fail
 refine (Js (F:=F3) o3 (by omega) hs3 (by omega) (by omega)).mono ?_;rintro e w3 ⟨rfl,q3,t3⟩;have hz3:w.heap.size<w3.heap.size:=zV hz2 t3.size;have hb3:w3.heap[w.heap.size]? =w2.heap[w.heap.size]? :=t3.block _ hz2 (fun hb=>yI _ (hF _ (k3 _ hb)));replace hb3:=hb3.trans hb2;have z7:∀o,w3.cell? ⟨w.heap.size,o,none⟩=(w.alloc (.cells #[.slice A0 x.iD.length c0,.int .i64 x.ay,.slice A2 x.dR.length c2,.slice A3 x.dP.length c3] 46)).cell? ⟨w.heap.size,o,none⟩:=fun o=>World.cell?_of_block hb3
 replace ht:=ht.trans (t3.wide k3);replace q0:=q0.jE t3 (fun b hb hb2=>abH b hb hb2);replace q2:=q2.jE t3 (fun b hb hb2=>Q2 b hb hb2);clear t3;go_wp2_with fail
 go_ret;exact⟨by unfold mO;go_num,RD (x:=Sl k x) q0 hw1 q2 q3 k0 k2 k3 Q5 abH Q2,ht⟩
end Go.Proofs.YtjcoapnggojpdaaGreatDoor
