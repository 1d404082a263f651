/- Texts of the proof, laid compactly. -/
import Derived.Test.YtjcoapnggojpdaaGreatDoorInstrOkA
set_option maxHeartbeats 2000000
set_option maxRecDepth 100000
namespace Go.Proofs.YtjcoapnggojpdaaGreatDoor
set_option linter.unusedSimpArgs false
set_option linter.unusedVariables false
open Go.RowKit
theorem IP{A0 A2 A3:Option Addr}{n0 c0 n2 c2 n3 c3:Nat}{mus n a b c:Int}{w:World}(jS:n0≤1048576)(o8:n2≤1048576)(wG:n3≤1048576)(hm:0≤mus+9223372036854775807)(jY:mus≤9223372036854775807)(hn:0≤n)(hn':n≤1048576) :
  Calls Tryz.prog 253 #[.agg #[.slice A0 n0 c0,.int .i64 mus,.slice A2 n2 c2,.slice A3 n3 c3],.int .i64 n,.agg #[.int .i64 4,.int .i64 a,.int .i64 b,.int .i64 c]] w fun e w'=>e=.returned (.bool ((fD a b c 3)&&(jC a)&&(jC b)&&(jC c)))∧yT w w':=by
 have HF:=zA (fun W:World=>show Calls Tryz.prog 296 #[.int .i64 4] W fun e w'=>e=.returned (.int .i64 3)∧W=w' from eH 4 W);cases r0:fD a b c 3
 ·have r1:fD a b c 3=false:=r0;go_enter Tryz.func253,Tryz.ntmps253
  go_wp2_with fail
  refine (HF.out _).mono ?_;rintro e w0 ⟨rfl,rfl⟩;go_wp2_with fail
  refine (aK _ _ _ _ _ _ (by omega)).mono ?_;rintro e w1 ⟨rfl,hb1⟩;have z1:=hb1.size;simp only[zF] at z1;obtain⟨eX,gQ⟩:=bn hb1;have gX:w.heap.size<w1.heap.size:=(by omega);have ik:w.heap.size+1<w1.heap.size:=(by omega);have hB1:yT w w1:=zQ (by go_grown) (hb1.mono (by simp;omega));go_wp2_with fail
  go_ret;exact⟨rfl,hB1⟩
 ·cases t0:jC a
  ·go_enter Tryz.func253,Tryz.ntmps253
   go_wp2_with fail
   refine (HF.out _).mono ?_;rintro e w0 ⟨rfl,rfl⟩;go_wp2_with fail
   refine (aK _ _ _ _ _ _ (by omega)).mono ?_;rintro e w1 ⟨rfl,hb1⟩;have z1:=hb1.size;simp only[zF] at z1;obtain⟨eX,gQ⟩:=bn hb1;have gX:w.heap.size<w1.heap.size:=(by omega);have ik:w.heap.size+1<w1.heap.size:=(by omega);have hB1:yT w w1:=zQ (by go_grown) (hb1.mono (by simp;omega));go_wp2_with fail
   refine (aY _ _).mono ?_;rintro e w9 ⟨rfl,rfl⟩;go_wp2_with fail
   go_ret;exact⟨rfl,hB1⟩
  ·cases t1:jC b
   ·go_enter Tryz.func253,Tryz.ntmps253
    go_wp2_with fail
    refine (HF.out _).mono ?_;rintro e w0 ⟨rfl,rfl⟩;go_wp2_with fail
    refine (aK _ _ _ _ _ _ (by omega)).mono ?_;rintro e w1 ⟨rfl,hb1⟩;have z1:=hb1.size;simp only[zF] at z1;obtain⟨eX,gQ⟩:=bn hb1;have gX:w.heap.size<w1.heap.size:=(by omega);have ik:w.heap.size+1<w1.heap.size:=(by omega);have hB1:yT w w1:=zQ (by go_grown) (hb1.mono (by simp;omega));go_wp2_with fail
    refine (aY _ _).mono ?_;rintro e w9 ⟨rfl,rfl⟩;go_wp2_with fail
    refine (aY _ _).mono ?_;rintro e w9 ⟨rfl,rfl⟩;go_wp2_with fail
    go_ret;exact⟨rfl,hB1⟩
   ·cases t2:jC c
    ·go_enter Tryz.func253,Tryz.ntmps253
     go_wp2_with fail
     refine (HF.out _).mono ?_;rintro e w0 ⟨rfl,rfl⟩;go_wp2_with fail
     refine (aK _ _ _ _ _ _ (by omega)).mono ?_;rintro e w1 ⟨rfl,hb1⟩;have z1:=hb1.size;simp only[zF] at z1;obtain⟨eX,gQ⟩:=bn hb1;have gX:w.heap.size<w1.heap.size:=(by omega);have ik:w.heap.size+1<w1.heap.size:=(by omega);have hB1:yT w w1:=zQ (by go_grown) (hb1.mono (by simp;omega));go_wp2_with fail
     refine (aY _ _).mono ?_;rintro e w9 ⟨rfl,rfl⟩;go_wp2_with fail
     refine (aY _ _).mono ?_;rintro e w9 ⟨rfl,rfl⟩;go_wp2_with fail
     refine (aY _ _).mono ?_;rintro e w9 ⟨rfl,rfl⟩;go_wp2_with fail
     go_ret;exact⟨rfl,hB1⟩
    ·go_enter Tryz.func253,Tryz.ntmps253
     go_wp2_with fail
     refine (HF.out _).mono ?_;rintro e w0 ⟨rfl,rfl⟩;go_wp2_with fail
     refine (aK _ _ _ _ _ _ (by omega)).mono ?_;rintro e w1 ⟨rfl,hb1⟩;have z1:=hb1.size;simp only[zF] at z1;obtain⟨eX,gQ⟩:=bn hb1;have gX:w.heap.size<w1.heap.size:=(by omega);have ik:w.heap.size+1<w1.heap.size:=(by omega);have hB1:yT w w1:=zQ (by go_grown) (hb1.mono (by simp;omega));go_wp2_with fail
     refine (aY _ _).mono ?_;rintro e w9 ⟨rfl,rfl⟩;go_wp2_with fail
     refine (aY _ _).mono ?_;rintro e w9 ⟨rfl,rfl⟩;go_wp2_with fail
     refine (aY _ _).mono ?_;rintro e w9 ⟨rfl,rfl⟩;go_wp2_with fail
     go_ret;exact⟨rfl,hB1⟩
theorem IQ{A0 A2 A3:Option Addr}{n0 c0 n2 c2 n3 c3:Nat}{mus n a b c:Int}{w:World}(jS:n0≤1048576)(o8:n2≤1048576)(wG:n3≤1048576)(hm:0≤mus+9223372036854775807)(jY:mus≤9223372036854775807)(hn:0≤n)(hn':n≤1048576) :
  Calls Tryz.prog 253 #[.agg #[.slice A0 n0 c0,.int .i64 mus,.slice A2 n2 c2,.slice A3 n3 c3],.int .i64 n,.agg #[.int .i64 5,.int .i64 a,.int .i64 b,.int .i64 c]] w fun e w'=>e=.returned (.bool ((fD a b c 3)&&(jC a)&&(jC b)&&(jC c)))∧yT w w':=by
 have HF:=zA (fun W:World=>show Calls Tryz.prog 296 #[.int .i64 5] W fun e w'=>e=.returned (.int .i64 3)∧W=w' from eH 5 W);cases r0:fD a b c 3
 ·have r1:fD a b c 3=false:=r0;go_enter Tryz.func253,Tryz.ntmps253
  go_wp2_with fail
  refine (HF.out _).mono ?_;rintro e w0 ⟨rfl,rfl⟩;go_wp2_with fail
  refine (aK _ _ _ _ _ _ (by omega)).mono ?_;rintro e w1 ⟨rfl,hb1⟩;have z1:=hb1.size;simp only[zF] at z1;obtain⟨eX,gQ⟩:=bn hb1;have gX:w.heap.size<w1.heap.size:=(by omega);have ik:w.heap.size+1<w1.heap.size:=(by omega);have hB1:yT w w1:=zQ (by go_grown) (hb1.mono (by simp;omega));go_wp2_with fail
  go_ret;exact⟨rfl,hB1⟩
 ·cases t0:jC a
  ·go_enter Tryz.func253,Tryz.ntmps253
   go_wp2_with fail
   refine (HF.out _).mono ?_;rintro e w0 ⟨rfl,rfl⟩;go_wp2_with fail
   refine (aK _ _ _ _ _ _ (by omega)).mono ?_;rintro e w1 ⟨rfl,hb1⟩;have z1:=hb1.size;simp only[zF] at z1;obtain⟨eX,gQ⟩:=bn hb1;have gX:w.heap.size<w1.heap.size:=(by omega);have ik:w.heap.size+1<w1.heap.size:=(by omega);have hB1:yT w w1:=zQ (by go_grown) (hb1.mono (by simp;omega));go_wp2_with fail
   refine (aY _ _).mono ?_;rintro e w9 ⟨rfl,rfl⟩;go_wp2_with fail
   go_ret;exact⟨rfl,hB1⟩
  ·cases t1:jC b
   ·go_enter Tryz.func253,Tryz.ntmps253
    go_wp2_with fail
    refine (HF.out _).mono ?_;rintro e w0 ⟨rfl,rfl⟩;go_wp2_with fail
    refine (aK _ _ _ _ _ _ (by omega)).mono ?_;rintro e w1 ⟨rfl,hb1⟩;have z1:=hb1.size;simp only[zF] at z1;obtain⟨eX,gQ⟩:=bn hb1;have gX:w.heap.size<w1.heap.size:=(by omega);have ik:w.heap.size+1<w1.heap.size:=(by omega);have hB1:yT w w1:=zQ (by go_grown) (hb1.mono (by simp;omega));go_wp2_with fail
    refine (aY _ _).mono ?_;rintro e w9 ⟨rfl,rfl⟩;go_wp2_with fail
    refine (aY _ _).mono ?_;rintro e w9 ⟨rfl,rfl⟩;go_wp2_with fail
    go_ret;exact⟨rfl,hB1⟩
   ·cases t2:jC c
    ·go_enter Tryz.func253,Tryz.ntmps253
     go_wp2_with fail
     refine (HF.out _).mono ?_;rintro e w0 ⟨rfl,rfl⟩;go_wp2_with fail
     refine (aK _ _ _ _ _ _ (by omega)).mono ?_;rintro e w1 ⟨rfl,hb1⟩;have z1:=hb1.size;simp only[zF] at z1;obtain⟨eX,gQ⟩:=bn hb1;have gX:w.heap.size<w1.heap.size:=(by omega);have ik:w.heap.size+1<w1.heap.size:=(by omega);have hB1:yT w w1:=zQ (by go_grown) (hb1.mono (by simp;omega));go_wp2_with fail
     refine (aY _ _).mono ?_;rintro e w9 ⟨rfl,rfl⟩;go_wp2_with fail
     refine (aY _ _).mono ?_;rintro e w9 ⟨rfl,rfl⟩;go_wp2_with fail
     refine (aY _ _).mono ?_;rintro e w9 ⟨rfl,rfl⟩;go_wp2_with fail
     go_ret;exact⟨rfl,hB1⟩
    ·go_enter Tryz.func253,Tryz.ntmps253
     go_wp2_with fail
     refine (HF.out _).mono ?_;rintro e w0 ⟨rfl,rfl⟩;go_wp2_with fail
     refine (aK _ _ _ _ _ _ (by omega)).mono ?_;rintro e w1 ⟨rfl,hb1⟩;have z1:=hb1.size;simp only[zF] at z1;obtain⟨eX,gQ⟩:=bn hb1;have gX:w.heap.size<w1.heap.size:=(by omega);have ik:w.heap.size+1<w1.heap.size:=(by omega);have hB1:yT w w1:=zQ (by go_grown) (hb1.mono (by simp;omega));go_wp2_with fail
     refine (aY _ _).mono ?_;rintro e w9 ⟨rfl,rfl⟩;go_wp2_with fail
     refine (aY _ _).mono ?_;rintro e w9 ⟨rfl,rfl⟩;go_wp2_with fail
     refine (aY _ _).mono ?_;rintro e w9 ⟨rfl,rfl⟩;go_wp2_with fail
     go_ret;exact⟨rfl,hB1⟩
theorem IW{A0 A2 A3:Option Addr}{n0 c0 n2 c2 n3 c3:Nat}{mus n a b c:Int}{w:World}(jS:n0≤1048576)(o8:n2≤1048576)(wG:n3≤1048576)(hm:0≤mus+9223372036854775807)(jY:mus≤9223372036854775807)(hn:0≤n)(hn':n≤1048576) :
  Calls Tryz.prog 253 #[.agg #[.slice A0 n0 c0,.int .i64 mus,.slice A2 n2 c2,.slice A3 n3 c3],.int .i64 n,.agg #[.int .i64 8,.int .i64 a,.int .i64 b,.int .i64 c]] w fun e w'=>e=.returned (.bool ((fD a b c 2)&&(inB a (-1) ((n0:Int)-1))&&(jC b)))∧yT w w':=by
 have HF:=zA (fun W:World=>show Calls Tryz.prog 296 #[.int .i64 8] W fun e w'=>e=.returned (.int .i64 2)∧W=w' from eH 8 W);cases r0:fD a b c 2
 ·have r1:fD a b c 2=false:=r0;go_enter Tryz.func253,Tryz.ntmps253
  go_wp2_with fail
  refine (HF.out _).mono ?_;rintro e w0 ⟨rfl,rfl⟩;go_wp2_with fail
  refine (aK _ _ _ _ _ _ (by omega)).mono ?_;rintro e w1 ⟨rfl,hb1⟩;have z1:=hb1.size;simp only[zF] at z1;obtain⟨eX,gQ⟩:=bn hb1;have gX:w.heap.size<w1.heap.size:=(by omega);have ik:w.heap.size+1<w1.heap.size:=(by omega);have hB1:yT w w1:=zQ (by go_grown) (hb1.mono (by simp;omega));go_wp2_with fail
  go_ret;exact⟨rfl,hB1⟩
 ·cases t0:inB a (-1) ((n0:Int)-1)
  ·go_enter Tryz.func253,Tryz.ntmps253
   go_wp2_with fail
   refine (HF.out _).mono ?_;rintro e w0 ⟨rfl,rfl⟩;go_wp2_with fail
   refine (aK _ _ _ _ _ _ (by omega)).mono ?_;rintro e w1 ⟨rfl,hb1⟩;have z1:=hb1.size;simp only[zF] at z1;obtain⟨eX,gQ⟩:=bn hb1;have gX:w.heap.size<w1.heap.size:=(by omega);have ik:w.heap.size+1<w1.heap.size:=(by omega);have hB1:yT w w1:=zQ (by go_grown) (hb1.mono (by simp;omega));go_wp2_with fail
   refine (iH _ _ _ _ _ _ _ _ _ _ _ _ (by omega)).mono ?_;rintro e w2 ⟨rfl,hb2⟩;have z2:=hb2.size;obtain⟨o7,sG⟩:=bn hb2;have rV:w.heap.size<w2.heap.size:=(by omega);have vz:w.heap.size+1<w2.heap.size:=(by omega);have hB2:yT w w2:=hB1.trans (hb2.mono (by omega));go_wp2_with fail
   go_ret;exact⟨rfl,hB2⟩
  ·cases t1:jC b
   ·go_enter Tryz.func253,Tryz.ntmps253
    go_wp2_with fail
    refine (HF.out _).mono ?_;rintro e w0 ⟨rfl,rfl⟩;go_wp2_with fail
    refine (aK _ _ _ _ _ _ (by omega)).mono ?_;rintro e w1 ⟨rfl,hb1⟩;have z1:=hb1.size;simp only[zF] at z1;obtain⟨eX,gQ⟩:=bn hb1;have gX:w.heap.size<w1.heap.size:=(by omega);have ik:w.heap.size+1<w1.heap.size:=(by omega);have hB1:yT w w1:=zQ (by go_grown) (hb1.mono (by simp;omega));go_wp2_with fail
    refine (iH _ _ _ _ _ _ _ _ _ _ _ _ (by omega)).mono ?_;rintro e w2 ⟨rfl,hb2⟩;have z2:=hb2.size;obtain⟨o7,sG⟩:=bn hb2;have rV:w.heap.size<w2.heap.size:=(by omega);have vz:w.heap.size+1<w2.heap.size:=(by omega);have hB2:yT w w2:=hB1.trans (hb2.mono (by omega));go_wp2_with fail
    refine (aY _ _).mono ?_;rintro e w9 ⟨rfl,rfl⟩;go_wp2_with fail
    go_ret;exact⟨rfl,hB2⟩
   ·go_enter Tryz.func253,Tryz.ntmps253
    go_wp2_with fail
    refine (HF.out _).mono ?_;rintro e w0 ⟨rfl,rfl⟩;go_wp2_with fail
    refine (aK _ _ _ _ _ _ (by omega)).mono ?_;rintro e w1 ⟨rfl,hb1⟩;have z1:=hb1.size;simp only[zF] at z1;obtain⟨eX,gQ⟩:=bn hb1;have gX:w.heap.size<w1.heap.size:=(by omega);have ik:w.heap.size+1<w1.heap.size:=(by omega);have hB1:yT w w1:=zQ (by go_grown) (hb1.mono (by simp;omega));go_wp2_with fail
    refine (iH _ _ _ _ _ _ _ _ _ _ _ _ (by omega)).mono ?_;rintro e w2 ⟨rfl,hb2⟩;have z2:=hb2.size;obtain⟨o7,sG⟩:=bn hb2;have rV:w.heap.size<w2.heap.size:=(by omega);have vz:w.heap.size+1<w2.heap.size:=(by omega);have hB2:yT w w2:=hB1.trans (hb2.mono (by omega));go_wp2_with fail
    refine (aY _ _).mono ?_;rintro e w9 ⟨rfl,rfl⟩;go_wp2_with fail
    go_ret;exact⟨rfl,hB2⟩
theorem FY{A0 A2 A3:Option Addr}{n0 c0 n2 c2 n3 c3:Nat}{mus n a b c:Int}{w:World}(jS:n0≤1048576)(o8:n2≤1048576)(wG:n3≤1048576)(hm:0≤mus+9223372036854775807)(jY:mus≤9223372036854775807)(hn:0≤n)(hn':n≤1048576) :
  Calls Tryz.prog 253 #[.agg #[.slice A0 n0 c0,.int .i64 mus,.slice A2 n2 c2,.slice A3 n3 c3],.int .i64 n,.agg #[.int .i64 10,.int .i64 a,.int .i64 b,.int .i64 c]] w fun e w'=>e=.returned (.bool ((fD a b c 1)&&(inB a (-1) ((n0:Int)-1))))∧yT w w':=by
 have HF:=zA (fun W:World=>show Calls Tryz.prog 296 #[.int .i64 10] W fun e w'=>e=.returned (.int .i64 1)∧W=w' from eH 10 W);cases r0:fD a b c 1
 ·have r1:fD a b c 1=false:=r0;go_enter Tryz.func253,Tryz.ntmps253
  go_wp2_with fail
  refine (HF.out _).mono ?_;rintro e w0 ⟨rfl,rfl⟩;go_wp2_with fail
  refine (aK _ _ _ _ _ _ (by omega)).mono ?_;rintro e w1 ⟨rfl,hb1⟩;have z1:=hb1.size;simp only[zF] at z1;obtain⟨eX,gQ⟩:=bn hb1;have gX:w.heap.size<w1.heap.size:=(by omega);have ik:w.heap.size+1<w1.heap.size:=(by omega);have hB1:yT w w1:=zQ (by go_grown) (hb1.mono (by simp;omega));go_wp2_with fail
  go_ret;exact⟨rfl,hB1⟩
 ·cases t0:inB a (-1) ((n0:Int)-1)
  ·go_enter Tryz.func253,Tryz.ntmps253
   go_wp2_with fail
   refine (HF.out _).mono ?_;rintro e w0 ⟨rfl,rfl⟩;go_wp2_with fail
   refine (aK _ _ _ _ _ _ (by omega)).mono ?_;rintro e w1 ⟨rfl,hb1⟩;have z1:=hb1.size;simp only[zF] at z1;obtain⟨eX,gQ⟩:=bn hb1;have gX:w.heap.size<w1.heap.size:=(by omega);have ik:w.heap.size+1<w1.heap.size:=(by omega);have hB1:yT w w1:=zQ (by go_grown) (hb1.mono (by simp;omega));go_wp2_with fail
   refine (iH _ _ _ _ _ _ _ _ _ _ _ _ (by omega)).mono ?_;rintro e w2 ⟨rfl,hb2⟩;have z2:=hb2.size;obtain⟨o7,sG⟩:=bn hb2;have rV:w.heap.size<w2.heap.size:=(by omega);have vz:w.heap.size+1<w2.heap.size:=(by omega);have hB2:yT w w2:=hB1.trans (hb2.mono (by omega));go_wp2_with fail
   go_ret;exact⟨rfl,hB2⟩
  ·go_enter Tryz.func253,Tryz.ntmps253
   go_wp2_with fail
   refine (HF.out _).mono ?_;rintro e w0 ⟨rfl,rfl⟩;go_wp2_with fail
   refine (aK _ _ _ _ _ _ (by omega)).mono ?_;rintro e w1 ⟨rfl,hb1⟩;have z1:=hb1.size;simp only[zF] at z1;obtain⟨eX,gQ⟩:=bn hb1;have gX:w.heap.size<w1.heap.size:=(by omega);have ik:w.heap.size+1<w1.heap.size:=(by omega);have hB1:yT w w1:=zQ (by go_grown) (hb1.mono (by simp;omega));go_wp2_with fail
   refine (iH _ _ _ _ _ _ _ _ _ _ _ _ (by omega)).mono ?_;rintro e w2 ⟨rfl,hb2⟩;have z2:=hb2.size;obtain⟨o7,sG⟩:=bn hb2;have rV:w.heap.size<w2.heap.size:=(by omega);have vz:w.heap.size+1<w2.heap.size:=(by omega);have hB2:yT w w2:=hB1.trans (hb2.mono (by omega));go_wp2_with fail
   go_ret;exact⟨rfl,hB2⟩
theorem FZ{A0 A2 A3:Option Addr}{n0 c0 n2 c2 n3 c3:Nat}{mus n a b c:Int}{w:World}(jS:n0≤1048576)(o8:n2≤1048576)(wG:n3≤1048576)(hm:0≤mus+9223372036854775807)(jY:mus≤9223372036854775807)(hn:0≤n)(hn':n≤1048576) :
  Calls Tryz.prog 253 #[.agg #[.slice A0 n0 c0,.int .i64 mus,.slice A2 n2 c2,.slice A3 n3 c3],.int .i64 n,.agg #[.int .i64 11,.int .i64 a,.int .i64 b,.int .i64 c]] w fun e w'=>e=.returned (.bool ((fD a b c 1)&&(inB a 0 ((n2:Int)-1))))∧yT w w':=by
 have HF:=zA (fun W:World=>show Calls Tryz.prog 296 #[.int .i64 11] W fun e w'=>e=.returned (.int .i64 1)∧W=w' from eH 11 W);cases r0:fD a b c 1
 ·have r1:fD a b c 1=false:=r0;go_enter Tryz.func253,Tryz.ntmps253
  go_wp2_with fail
  refine (HF.out _).mono ?_;rintro e w0 ⟨rfl,rfl⟩;go_wp2_with fail
  refine (aK _ _ _ _ _ _ (by omega)).mono ?_;rintro e w1 ⟨rfl,hb1⟩;have z1:=hb1.size;simp only[zF] at z1;obtain⟨eX,gQ⟩:=bn hb1;have gX:w.heap.size<w1.heap.size:=(by omega);have ik:w.heap.size+1<w1.heap.size:=(by omega);have hB1:yT w w1:=zQ (by go_grown) (hb1.mono (by simp;omega));go_wp2_with fail
  go_ret;exact⟨rfl,hB1⟩
 ·cases t0:inB a 0 ((n2:Int)-1)
  ·go_enter Tryz.func253,Tryz.ntmps253
   go_wp2_with fail
   refine (HF.out _).mono ?_;rintro e w0 ⟨rfl,rfl⟩;go_wp2_with fail
   refine (aK _ _ _ _ _ _ (by omega)).mono ?_;rintro e w1 ⟨rfl,hb1⟩;have z1:=hb1.size;simp only[zF] at z1;obtain⟨eX,gQ⟩:=bn hb1;have gX:w.heap.size<w1.heap.size:=(by omega);have ik:w.heap.size+1<w1.heap.size:=(by omega);have hB1:yT w w1:=zQ (by go_grown) (hb1.mono (by simp;omega));go_wp2_with fail
   refine (jd _ _ _ _).mono ?_;rintro e w9 ⟨rfl,rfl⟩;go_wp2_with fail
   go_ret;exact⟨rfl,hB1⟩
  ·go_enter Tryz.func253,Tryz.ntmps253
   go_wp2_with fail
   refine (HF.out _).mono ?_;rintro e w0 ⟨rfl,rfl⟩;go_wp2_with fail
   refine (aK _ _ _ _ _ _ (by omega)).mono ?_;rintro e w1 ⟨rfl,hb1⟩;have z1:=hb1.size;simp only[zF] at z1;obtain⟨eX,gQ⟩:=bn hb1;have gX:w.heap.size<w1.heap.size:=(by omega);have ik:w.heap.size+1<w1.heap.size:=(by omega);have hB1:yT w w1:=zQ (by go_grown) (hb1.mono (by simp;omega));go_wp2_with fail
   refine (jd _ _ _ _).mono ?_;rintro e w9 ⟨rfl,rfl⟩;go_wp2_with fail
   go_ret;exact⟨rfl,hB1⟩
end Go.Proofs.YtjcoapnggojpdaaGreatDoor
