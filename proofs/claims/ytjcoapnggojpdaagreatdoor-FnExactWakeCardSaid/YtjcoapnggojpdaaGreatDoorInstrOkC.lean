/- Texts of the proof, laid compactly. -/
import Derived.Test.YtjcoapnggojpdaaGreatDoorInstrOkA
import Derived.Test.YtjcoapnggojpdaaGreatDoorFlow
set_option maxHeartbeats 2000000
set_option maxRecDepth 100000
namespace Go.Proofs.YtjcoapnggojpdaaGreatDoor
set_option linter.unusedSimpArgs false
set_option linter.unusedVariables false
open Go.RowKit
theorem IX{A0 A2 A3:Option Addr}{n0 c0 n2 c2 n3 c3:Nat}{mus n a b c:Int}{w:World}(jS:n0≤1048576)(o8:n2≤1048576)(wG:n3≤1048576)(hm:0≤mus+9223372036854775807)(jY:mus≤9223372036854775807)(hn:0≤n)(hn':n≤1048576) :
  Calls Tryz.prog 253 #[.agg #[.slice A0 n0 c0,.int .i64 mus,.slice A2 n2 c2,.slice A3 n3 c3],.int .i64 n,.agg #[.int .i64 9,.int .i64 a,.int .i64 b,.int .i64 c]] w fun e w'=>e=.returned (.bool ((fD a b c 3)&&(inB a (-1) ((n0:Int)-1))&&(jC b)&&(jC c)))∧yT w w':=by
 have HF:=zA (fun W:World=>show Calls Tryz.prog 296 #[.int .i64 9] W fun e w'=>e=.returned (.int .i64 3)∧W=w' from eH 9 W);cases r0:fD a b c 3
 ·have r1:fD a b c 3=false:=r0;go_enter Tryz.func253,Tryz.ntmps253
  go_wp2_with fail
  refine (HF.out _).mono ?_;rintro e w0 ⟨rfl,rfl⟩;go_wp2_with fail
  refine (aK _ _ _ _ _ _ (by omega)).mono ?_;rintro e w1 ⟨rfl,hb1⟩;have z1:=hb1.size;simp only[zF] at z1;obtain⟨eX,gQ⟩:=bn hb1;have gX:w.heap.size<w1.heap.size:=(by omega);have ik:w.heap.size+1<w1.heap.size:=(by omega);have hB1:yT w w1:=zQ (by go_grown) (hb1.mono (by simp;omega));go_wp2_with fail
  go_ret;exact⟨rfl,hB1⟩
 ·cases t0:inB a (-1) ((n0:Int)-1)
  ·go_enter Tryz.func253,Tryz.ntmps253
   go_wp2_with fail
   refine (HF.out _).mono ?_;rintro e w0 ⟨rfl,rfl⟩;go_wp2_with fail
   refine (aK _ _ _ _ _ _ (by omega)).mono ?_;rintro e w1 ⟨rfl,hb1⟩;have z1:=hb1.size;simp only[zF] at z1;obtain⟨eX,gQ⟩:=bn hb1;have gX:w.heap.size<w1.heap.size:=(by omega);have ik:w.heap.size+1<w1.heap.size:=(by omega);have hB1:yT w w1:=zQ (by go_grown) (hb1.mono (by simp;omega));go_wp2_with fail
   refine (iH _ _ _ _ _ _ _ _ _ _ _ _ (by omega)).mono ?_;rintro e w2 ⟨rfl,hb2⟩;have z2:=hb2.size;obtain⟨o7,sG⟩:=bn hb2;have rV:w.heap.size<w2.heap.size:=(by omega);have vz:w.heap.size+1<w2.heap.size:=(by omega);have hB2:yT w w2:=hB1.trans (hb2.mono (by omega));go_wp2_with fail
   go_ret;exact⟨rfl,hB2⟩
  ·cases t1:jC b
   ·go_enter Tryz.func253,Tryz.ntmps253
    go_wp2_with fail
    refine (HF.out _).mono ?_;rintro e w0 ⟨rfl,rfl⟩;go_wp2_with fail
    refine (aK _ _ _ _ _ _ (by omega)).mono ?_;rintro e w1 ⟨rfl,hb1⟩;have z1:=hb1.size;simp only[zF] at z1;obtain⟨eX,gQ⟩:=bn hb1;have gX:w.heap.size<w1.heap.size:=(by omega);have ik:w.heap.size+1<w1.heap.size:=(by omega);have hB1:yT w w1:=zQ (by go_grown) (hb1.mono (by simp;omega));go_wp2_with fail
    refine (iH _ _ _ _ _ _ _ _ _ _ _ _ (by omega)).mono ?_;rintro e w2 ⟨rfl,hb2⟩;have z2:=hb2.size;obtain⟨o7,sG⟩:=bn hb2;have rV:w.heap.size<w2.heap.size:=(by omega);have vz:w.heap.size+1<w2.heap.size:=(by omega);have hB2:yT w w2:=hB1.trans (hb2.mono (by omega));go_wp2_with fail
    refine (aY _ _).mono ?_;rintro e w9 ⟨rfl,rfl⟩;go_wp2_with fail
    go_ret;exact⟨rfl,hB2⟩
   ·cases t2:jC c
    ·go_enter Tryz.func253,Tryz.ntmps253
     go_wp2_with fail
     refine (HF.out _).mono ?_;rintro e w0 ⟨rfl,rfl⟩;go_wp2_with fail
     refine (aK _ _ _ _ _ _ (by omega)).mono ?_;rintro e w1 ⟨rfl,hb1⟩;have z1:=hb1.size;simp only[zF] at z1;obtain⟨eX,gQ⟩:=bn hb1;have gX:w.heap.size<w1.heap.size:=(by omega);have ik:w.heap.size+1<w1.heap.size:=(by omega);have hB1:yT w w1:=zQ (by go_grown) (hb1.mono (by simp;omega));go_wp2_with fail
     refine (iH _ _ _ _ _ _ _ _ _ _ _ _ (by omega)).mono ?_;rintro e w2 ⟨rfl,hb2⟩;have z2:=hb2.size;obtain⟨o7,sG⟩:=bn hb2;have rV:w.heap.size<w2.heap.size:=(by omega);have vz:w.heap.size+1<w2.heap.size:=(by omega);have hB2:yT w w2:=hB1.trans (hb2.mono (by omega));go_wp2_with fail
     refine (aY _ _).mono ?_;rintro e w9 ⟨rfl,rfl⟩;go_wp2_with fail
     refine (aY _ _).mono ?_;rintro e w9 ⟨rfl,rfl⟩;go_wp2_with fail
     go_ret;exact⟨rfl,hB2⟩
    ·go_enter Tryz.func253,Tryz.ntmps253
     go_wp2_with fail
     refine (HF.out _).mono ?_;rintro e w0 ⟨rfl,rfl⟩;go_wp2_with fail
     refine (aK _ _ _ _ _ _ (by omega)).mono ?_;rintro e w1 ⟨rfl,hb1⟩;have z1:=hb1.size;simp only[zF] at z1;obtain⟨eX,gQ⟩:=bn hb1;have gX:w.heap.size<w1.heap.size:=(by omega);have ik:w.heap.size+1<w1.heap.size:=(by omega);have hB1:yT w w1:=zQ (by go_grown) (hb1.mono (by simp;omega));go_wp2_with fail
     refine (iH _ _ _ _ _ _ _ _ _ _ _ _ (by omega)).mono ?_;rintro e w2 ⟨rfl,hb2⟩;have z2:=hb2.size;obtain⟨o7,sG⟩:=bn hb2;have rV:w.heap.size<w2.heap.size:=(by omega);have vz:w.heap.size+1<w2.heap.size:=(by omega);have hB2:yT w w2:=hB1.trans (hb2.mono (by omega));go_wp2_with fail
     refine (aY _ _).mono ?_;rintro e w9 ⟨rfl,rfl⟩;go_wp2_with fail
     refine (aY _ _).mono ?_;rintro e w9 ⟨rfl,rfl⟩;go_wp2_with fail
     go_ret;exact⟨rfl,hB2⟩
theorem F8{A0 A2 A3:Option Addr}{n0 c0 n2 c2 n3 c3:Nat}{mus n a b c:Int}{w:World}(jS:n0≤1048576)(o8:n2≤1048576)(wG:n3≤1048576)(hm:0≤mus+9223372036854775807)(jY:mus≤9223372036854775807)(hn:0≤n)(hn':n≤1048576) :
  Calls Tryz.prog 253 #[.agg #[.slice A0 n0 c0,.int .i64 mus,.slice A2 n2 c2,.slice A3 n3 c3],.int .i64 n,.agg #[.int .i64 12,.int .i64 a,.int .i64 b,.int .i64 c]] w fun e w'=>e=.returned (.bool ((fD a b c 1)&&(inB a 0 (mus-1))))∧yT w w':=by
 have HF:=zA (fun W:World=>show Calls Tryz.prog 296 #[.int .i64 12] W fun e w'=>e=.returned (.int .i64 1)∧W=w' from eH 12 W);cases r0:fD a b c 1
 ·have r1:fD a b c 1=false:=r0;go_enter Tryz.func253,Tryz.ntmps253
  go_wp2_with fail
  refine (HF.out _).mono ?_;rintro e w0 ⟨rfl,rfl⟩;go_wp2_with fail
  refine (aK _ _ _ _ _ _ (by omega)).mono ?_;rintro e w1 ⟨rfl,hb1⟩;have z1:=hb1.size;simp only[zF] at z1;obtain⟨eX,gQ⟩:=bn hb1;have gX:w.heap.size<w1.heap.size:=(by omega);have ik:w.heap.size+1<w1.heap.size:=(by omega);have hB1:yT w w1:=zQ (by go_grown) (hb1.mono (by simp;omega));go_wp2_with fail
  go_ret;exact⟨rfl,hB1⟩
 ·cases t0:inB a 0 (mus-1)
  ·go_enter Tryz.func253,Tryz.ntmps253
   go_wp2_with fail
   refine (HF.out _).mono ?_;rintro e w0 ⟨rfl,rfl⟩;go_wp2_with fail
   refine (aK _ _ _ _ _ _ (by omega)).mono ?_;rintro e w1 ⟨rfl,hb1⟩;have z1:=hb1.size;simp only[zF] at z1;obtain⟨eX,gQ⟩:=bn hb1;have gX:w.heap.size<w1.heap.size:=(by omega);have ik:w.heap.size+1<w1.heap.size:=(by omega);have hB1:yT w w1:=zQ (by go_grown) (hb1.mono (by simp;omega));go_wp2_with fail
   refine (jd _ _ _ _).mono ?_;rintro e w9 ⟨rfl,rfl⟩;go_wp2_with fail
   go_ret;exact⟨rfl,hB1⟩
  ·go_enter Tryz.func253,Tryz.ntmps253
   go_wp2_with fail
   refine (HF.out _).mono ?_;rintro e w0 ⟨rfl,rfl⟩;go_wp2_with fail
   refine (aK _ _ _ _ _ _ (by omega)).mono ?_;rintro e w1 ⟨rfl,hb1⟩;have z1:=hb1.size;simp only[zF] at z1;obtain⟨eX,gQ⟩:=bn hb1;have gX:w.heap.size<w1.heap.size:=(by omega);have ik:w.heap.size+1<w1.heap.size:=(by omega);have hB1:yT w w1:=zQ (by go_grown) (hb1.mono (by simp;omega));go_wp2_with fail
   refine (jd _ _ _ _).mono ?_;rintro e w9 ⟨rfl,rfl⟩;go_wp2_with fail
   go_ret;exact⟨rfl,hB1⟩
theorem F_{A0 A2 A3:Option Addr}{n0 c0 n2 c2 n3 c3:Nat}{mus n a b c:Int}{w:World}(jS:n0≤1048576)(o8:n2≤1048576)(wG:n3≤1048576)(hm:0≤mus+9223372036854775807)(jY:mus≤9223372036854775807)(hn:0≤n)(hn':n≤1048576) :
  Calls Tryz.prog 253 #[.agg #[.slice A0 n0 c0,.int .i64 mus,.slice A2 n2 c2,.slice A3 n3 c3],.int .i64 n,.agg #[.int .i64 13,.int .i64 a,.int .i64 b,.int .i64 c]] w fun e w'=>e=.returned (.bool ((fD a b c 1)&&(inB a 0 (mus-1))))∧yT w w':=by
 have HF:=zA (fun W:World=>show Calls Tryz.prog 296 #[.int .i64 13] W fun e w'=>e=.returned (.int .i64 1)∧W=w' from eH 13 W);cases r0:fD a b c 1
 ·have r1:fD a b c 1=false:=r0;go_enter Tryz.func253,Tryz.ntmps253
  go_wp2_with fail
  refine (HF.out _).mono ?_;rintro e w0 ⟨rfl,rfl⟩;go_wp2_with fail
  refine (aK _ _ _ _ _ _ (by omega)).mono ?_;rintro e w1 ⟨rfl,hb1⟩;have z1:=hb1.size;simp only[zF] at z1;obtain⟨eX,gQ⟩:=bn hb1;have gX:w.heap.size<w1.heap.size:=(by omega);have ik:w.heap.size+1<w1.heap.size:=(by omega);have hB1:yT w w1:=zQ (by go_grown) (hb1.mono (by simp;omega));go_wp2_with fail
  go_ret;exact⟨rfl,hB1⟩
 ·cases t0:inB a 0 (mus-1)
  ·go_enter Tryz.func253,Tryz.ntmps253
   go_wp2_with fail
   refine (HF.out _).mono ?_;rintro e w0 ⟨rfl,rfl⟩;go_wp2_with fail
   refine (aK _ _ _ _ _ _ (by omega)).mono ?_;rintro e w1 ⟨rfl,hb1⟩;have z1:=hb1.size;simp only[zF] at z1;obtain⟨eX,gQ⟩:=bn hb1;have gX:w.heap.size<w1.heap.size:=(by omega);have ik:w.heap.size+1<w1.heap.size:=(by omega);have hB1:yT w w1:=zQ (by go_grown) (hb1.mono (by simp;omega));go_wp2_with fail
   refine (jd _ _ _ _).mono ?_;rintro e w9 ⟨rfl,rfl⟩;go_wp2_with fail
   go_ret;exact⟨rfl,hB1⟩
  ·go_enter Tryz.func253,Tryz.ntmps253
   go_wp2_with fail
   refine (HF.out _).mono ?_;rintro e w0 ⟨rfl,rfl⟩;go_wp2_with fail
   refine (aK _ _ _ _ _ _ (by omega)).mono ?_;rintro e w1 ⟨rfl,hb1⟩;have z1:=hb1.size;simp only[zF] at z1;obtain⟨eX,gQ⟩:=bn hb1;have gX:w.heap.size<w1.heap.size:=(by omega);have ik:w.heap.size+1<w1.heap.size:=(by omega);have hB1:yT w w1:=zQ (by go_grown) (hb1.mono (by simp;omega));go_wp2_with fail
   refine (jd _ _ _ _).mono ?_;rintro e w9 ⟨rfl,rfl⟩;go_wp2_with fail
   go_ret;exact⟨rfl,hB1⟩
theorem Gf{A0 A2 A3:Option Addr}{n0 c0 n2 c2 n3 c3:Nat}{mus n a b c:Int}{w:World}(jS:n0≤1048576)(o8:n2≤1048576)(wG:n3≤1048576)(hm:0≤mus+9223372036854775807)(jY:mus≤9223372036854775807)(hn:0≤n)(hn':n≤1048576) :
  Calls Tryz.prog 253 #[.agg #[.slice A0 n0 c0,.int .i64 mus,.slice A2 n2 c2,.slice A3 n3 c3],.int .i64 n,.agg #[.int .i64 14,.int .i64 a,.int .i64 b,.int .i64 c]] w fun e w'=>e=.returned (.bool ((fD a b c 2)&&(inB a 0 ((n3:Int)-1))&&(jC b)))∧yT w w':=by
 have HF:=zA (fun W:World=>show Calls Tryz.prog 296 #[.int .i64 14] W fun e w'=>e=.returned (.int .i64 2)∧W=w' from eH 14 W);cases r0:fD a b c 2
 ·have r1:fD a b c 2=false:=r0;go_enter Tryz.func253,Tryz.ntmps253
  go_wp2_with fail
  refine (HF.out _).mono ?_;rintro e w0 ⟨rfl,rfl⟩;go_wp2_with fail
  refine (aK _ _ _ _ _ _ (by omega)).mono ?_;rintro e w1 ⟨rfl,hb1⟩;have z1:=hb1.size;simp only[zF] at z1;obtain⟨eX,gQ⟩:=bn hb1;have gX:w.heap.size<w1.heap.size:=(by omega);have ik:w.heap.size+1<w1.heap.size:=(by omega);have hB1:yT w w1:=zQ (by go_grown) (hb1.mono (by simp;omega));go_wp2_with fail
  go_ret;exact⟨rfl,hB1⟩
 ·cases t0:inB a 0 ((n3:Int)-1)
  ·go_enter Tryz.func253,Tryz.ntmps253
   go_wp2_with fail
   refine (HF.out _).mono ?_;rintro e w0 ⟨rfl,rfl⟩;go_wp2_with fail
   refine (aK _ _ _ _ _ _ (by omega)).mono ?_;rintro e w1 ⟨rfl,hb1⟩;have z1:=hb1.size;simp only[zF] at z1;obtain⟨eX,gQ⟩:=bn hb1;have gX:w.heap.size<w1.heap.size:=(by omega);have ik:w.heap.size+1<w1.heap.size:=(by omega);have hB1:yT w w1:=zQ (by go_grown) (hb1.mono (by simp;omega));go_wp2_with fail
   refine (jd _ _ _ _).mono ?_;rintro e w9 ⟨rfl,rfl⟩;go_wp2_with fail
   go_ret;exact⟨rfl,hB1⟩
  ·cases t1:jC b
   ·go_enter Tryz.func253,Tryz.ntmps253
    go_wp2_with fail
    refine (HF.out _).mono ?_;rintro e w0 ⟨rfl,rfl⟩;go_wp2_with fail
    refine (aK _ _ _ _ _ _ (by omega)).mono ?_;rintro e w1 ⟨rfl,hb1⟩;have z1:=hb1.size;simp only[zF] at z1;obtain⟨eX,gQ⟩:=bn hb1;have gX:w.heap.size<w1.heap.size:=(by omega);have ik:w.heap.size+1<w1.heap.size:=(by omega);have hB1:yT w w1:=zQ (by go_grown) (hb1.mono (by simp;omega));go_wp2_with fail
    refine (jd _ _ _ _).mono ?_;rintro e w9 ⟨rfl,rfl⟩;go_wp2_with fail
    refine (aY _ _).mono ?_;rintro e w9 ⟨rfl,rfl⟩;go_wp2_with fail
    go_ret;exact⟨rfl,hB1⟩
   ·go_enter Tryz.func253,Tryz.ntmps253
    go_wp2_with fail
    refine (HF.out _).mono ?_;rintro e w0 ⟨rfl,rfl⟩;go_wp2_with fail
    refine (aK _ _ _ _ _ _ (by omega)).mono ?_;rintro e w1 ⟨rfl,hb1⟩;have z1:=hb1.size;simp only[zF] at z1;obtain⟨eX,gQ⟩:=bn hb1;have gX:w.heap.size<w1.heap.size:=(by omega);have ik:w.heap.size+1<w1.heap.size:=(by omega);have hB1:yT w w1:=zQ (by go_grown) (hb1.mono (by simp;omega));go_wp2_with fail
    refine (jd _ _ _ _).mono ?_;rintro e w9 ⟨rfl,rfl⟩;go_wp2_with fail
    refine (aY _ _).mono ?_;rintro e w9 ⟨rfl,rfl⟩;go_wp2_with fail
    go_ret;exact⟨rfl,hB1⟩
theorem Gg{A0 A2 A3:Option Addr}{n0 c0 n2 c2 n3 c3:Nat}{mus n a b c:Int}{w:World}(jS:n0≤1048576)(o8:n2≤1048576)(wG:n3≤1048576)(hm:0≤mus+9223372036854775807)(jY:mus≤9223372036854775807)(hn:0≤n)(hn':n≤1048576) :
  Calls Tryz.prog 253 #[.agg #[.slice A0 n0 c0,.int .i64 mus,.slice A2 n2 c2,.slice A3 n3 c3],.int .i64 n,.agg #[.int .i64 15,.int .i64 a,.int .i64 b,.int .i64 c]] w fun e w'=>e=.returned (.bool ((fD a b c 1)&&(jC a)))∧yT w w':=by
 have HF:=zA (fun W:World=>show Calls Tryz.prog 296 #[.int .i64 15] W fun e w'=>e=.returned (.int .i64 1)∧W=w' from eH 15 W);cases r0:fD a b c 1
 ·have r1:fD a b c 1=false:=r0;go_enter Tryz.func253,Tryz.ntmps253
  go_wp2_with fail
  refine (HF.out _).mono ?_;rintro e w0 ⟨rfl,rfl⟩;go_wp2_with fail
  refine (aK _ _ _ _ _ _ (by omega)).mono ?_;rintro e w1 ⟨rfl,hb1⟩;have z1:=hb1.size;simp only[zF] at z1;obtain⟨eX,gQ⟩:=bn hb1;have gX:w.heap.size<w1.heap.size:=(by omega);have ik:w.heap.size+1<w1.heap.size:=(by omega);have hB1:yT w w1:=zQ (by go_grown) (hb1.mono (by simp;omega));go_wp2_with fail
  go_ret;exact⟨rfl,hB1⟩
 ·cases t0:jC a
  ·go_enter Tryz.func253,Tryz.ntmps253
   go_wp2_with fail
   refine (HF.out _).mono ?_;rintro e w0 ⟨rfl,rfl⟩;go_wp2_with fail
   refine (aK _ _ _ _ _ _ (by omega)).mono ?_;rintro e w1 ⟨rfl,hb1⟩;have z1:=hb1.size;simp only[zF] at z1;obtain⟨eX,gQ⟩:=bn hb1;have gX:w.heap.size<w1.heap.size:=(by omega);have ik:w.heap.size+1<w1.heap.size:=(by omega);have hB1:yT w w1:=zQ (by go_grown) (hb1.mono (by simp;omega));go_wp2_with fail
   refine (aY _ _).mono ?_;rintro e w9 ⟨rfl,rfl⟩;go_wp2_with fail
   go_ret;exact⟨rfl,hB1⟩
  ·go_enter Tryz.func253,Tryz.ntmps253
   go_wp2_with fail
   refine (HF.out _).mono ?_;rintro e w0 ⟨rfl,rfl⟩;go_wp2_with fail
   refine (aK _ _ _ _ _ _ (by omega)).mono ?_;rintro e w1 ⟨rfl,hb1⟩;have z1:=hb1.size;simp only[zF] at z1;obtain⟨eX,gQ⟩:=bn hb1;have gX:w.heap.size<w1.heap.size:=(by omega);have ik:w.heap.size+1<w1.heap.size:=(by omega);have hB1:yT w w1:=zQ (by go_grown) (hb1.mono (by simp;omega));go_wp2_with fail
   refine (aY _ _).mono ?_;rintro e w9 ⟨rfl,rfl⟩;go_wp2_with fail
   go_ret;exact⟨rfl,hB1⟩
inductive Cf where
 |val (v:Value)
 |eff (f:World→World)
def Cf.w:Cf→World→World
 | .val _,W=>W
 | .eff f,W=>f W
def Cf.v:Cf→Value
 | .val v=>v
 | .eff _=>undef
def Cf.ok(P:Program)(o:Oper)(ρ:Operand→Value)(W:World):Cf→Prop
 | .val v=>(execOp ρ o).run P W=.ok (.value v) W
 | .eff f=>(execOp ρ o).run P W=.ok .skip (f W)
def LJ(T:List Cf)(i:Nat)(W:World):World:=(T.take i).foldl (fun W t=>t.w W) W
def QL(V:Nat→Value)(T:List Cf)(t:Nat):Nat→Value:=fun j=>if j<t then V j else ((T[j-t]?).map Cf.v).getD undef
theorem OC{T:List Cf}{i:Nat}{W:World}(h:i<T.length):LJ T (i+1) W=(T[i]).w (LJ T i W):=by
 unfold LJ;rw[List.take_add_one,zG h,Option.toList_some,List.foldl_append];rfl
def RZ(l:List Oper)(D:List (Option Tmp))(t:Nat)(late:List Nat):Bool :=
 mJ l.toArray&&A8 D&&decide (l.map (·.dst)=D)&&decide (t≤l.length)&&late.all (· <t) &&
 (List.range l.length).all fun k=>decide (k<t)||((List.range k).all fun j=>late.contains j||jD l l.length k j)&&((l[k]?).map fun o=>o.guard.isNone).getD true && !late.contains k
theorem GH{V V':Nat→Value}:∀(ds:List (Option Tmp)) (n:Nat) (a:Act),(∀j,n≤j→j<n+ds.length→V j=V' j)→oD V n ds a=oD V' n ds a:=by
 intro ds;induction ds with
 |nil=>intro n a _;rfl
 |cons d ds ih =>
  intro n a h;show oD V (n+1) ds _=oD V' (n+1) ds _
  rw[h n (zC _) (by simp)];exact ih (n+1) _ fun j hj hl=>h j (by omega) (by simp at hl ⊢;omega)
section
variable {P:Program} {l:List Oper} {D:List (Option Tmp)} {S:List SP} {w0:World} {a0:Act} {Q:Exit→Act→World→Prop}
structure QM (L:Nat→Prop) (D:List (Option Tmp)) (V:Nat→Value) (a0:Act) (ρ:Operand→Value):Prop where
 at_:∀j d,L j→D[j]? =some (some d)→ρ (.tmp d)=V j
 off:∀t,D.all (· != some t)=true→ρ (.tmp t)=a0.eval (.tmp t)
 const:∀c,ρ (.const c)=c
theorem Ea{id:Nat}(D:List (Option Tmp))(t:Nat)(late:List Nat)(S:List SP)(VL:Nat→Value)(hm:P.follows .mixedOrders=true)(m8:RZ l D t late=true)(hsz:D.all (fun d=>d.all (· <a0.tmps.size))=true)
  (EU:∀k o,k∈late→l[k]? =some o→k<t∧o.guard=none∧S.getD k SP.any=SP.eq (VL k)∧∀(ρ:Operand→Value) (W:World),(∀t,D.all (· != some t)=true→ρ (.tmp t)=a0.eval (.tmp t))→(∀c,ρ (.const c)=c)→(execOp ρ o).run P W=.ok (.value (VL k)) W)
  (hsteps:∀Q',lC P l D S w0 a0 Q' 0 (l.take t))
  (hend:∀(V:Nat→Value) (lo hi:Nat→Nat) (W:World),yT w0 W→(∀k,k<t→late.contains k=false→Pv S w0 W V lo hi k)→(∀k,k∈late→V k=VL k)→(∀j k,j<t→k<t→late.contains j=false→late.contains k=false→j≠k→hi j≤lo k∨hi k≤lo j) →
   ∃T:List Cf,T.length=l.length-t ∧
    (∀(i:Nat) (o:Oper) (hi:i<T.length),l[t+i]? =some o→∀ρ:Operand→Value,QM (fun j=>jD l l.length (t+i) j=true) D (QL V T t) a0 ρ→(T[i]).ok P o ρ (LJ T i W)) ∧
    Kept (Q .normal (oD (QL V T t) 0 D a0) (LJ T (l.length-t) W))) :
  (Code.region id l.toArray true).wp P Q a0 w0:=by
 simp only[RZ,zT,decide_eq_true_eq] at m8;obtain⟨⟨⟨⟨⟨A_,ET⟩,hD⟩,Ue⟩,aje⟩,hlast⟩:=m8;have hDl:D.length=l.length:=by rw[←hD,yL]
 have GI:∀k,k<l.length→t≤k→(∀j,j<k→late.contains j=false→jD l l.length k j=true)∧(∀o,l[k]? =some o→o.guard=none)∧late.contains k=false:=fun k hk hd=>by
  have h1:=zY.1 hlast k (List.mem_range.2 hk);simp only[Bool.or_eq_true,zT,decide_eq_true_eq] at h1;rcases h1 with h1|⟨⟨h1,h2⟩,h3⟩
  ·omega
  ·refine⟨fun j hj hl => ?_,fun o ho => ?_,by simpa using h3⟩
   ·have h4:=zY.1 h1 j (List.mem_range.2 hj);rw[hl] at h4;simpa using h4
   ·rw[ho] at h2;simpa using h2
 have hDo:∀(k:Nat) (o:Oper),l[k]? =some o→D[k]? =some o.dst:=fun k o ho=>by rw[←hD,yM,ho];rfl
 have hDs:∀j d,D[j]? =some (some d)→d<a0.tmps.size:=fun j d hj=>by
  have h2:=zY.1 hsz _ (List.mem_of_getElem? hj);simpa using h2
 have hRd:∀V:Nat→Value,Reads D V a0 (oD V 0 D a0).eval:=fun V=>⟨fun j d hj=>by
  have h1:=Px (V:=V) D 0 j a0 d ET hj (hDs j d hj);rwa [yH] at h1,fun t ht=>Ep D 0 a0 ht,fun _=>rfl,fun _=>rfl,fun _=>rfl⟩
 have hput:∀(V:Nat→Value) (k:Nat) (o:Oper) (v:Value),l[k]? =some o→(oD V 0 D a0).put o.dst v=oD (uK V k v) 0 D a0:=fun V k o v ho=>by
  have:=Kz (V:=V) (v:=v) D 0 k a0 _ ET (hDo k o ho);rwa [yH] at this
 let init:Nat→Value:=fun k=>BL a0 ((D[k]?).getD none)
 let IA:(Nat→Prop)→Act→World→Prop:=fun L a W=>UM l D S w0 a0 L a W∧∀k,L k→k<t
 let IB:(Nat→Prop)→Act→World→Prop:=fun L a W'=>∃(V LM:Nat→Value) (W:World) (T:List Cf) (i:Nat),0<i∧t+i≤l.length∧T.length=l.length-t ∧
  (∀(i:Nat) (o:Oper) (hi:i<T.length),l[t+i]? =some o→∀ρ:Operand→Value,QM (fun j=>jD l l.length (t+i) j=true) D (QL V T t) a0 ρ→(T[i]).ok P o ρ (LJ T i W))∧(∀k,k∈late→V k=VL k) ∧
  Kept (Q .normal (oD (QL V T t) 0 D a0) (LJ T (l.length-t) W))∧W'=LJ T i W∧a=oD LM 0 D a0∧(∀j,L j→LM j=QL V T t j)∧(∀j,j<t→late.contains j=false→L j)∧(∀j,t≤j→(L j↔j<t+i))∧vV l L
 let I:(Nat→Prop)→Act→World→Prop:=fun L a W=>IA L a W∨IB L a W
 have OD:∀(L:Nat→Prop) (a:Act) (W':World) (V LM:Nat→Value) (W:World) (T:List Cf) (m:Nat) (o:Oper),l[t+m]? =some o→T.length=l.length-t →
   (∀(i:Nat) (o:Oper) (hi:i<T.length),l[t+i]? =some o→∀ρ:Operand→Value,QM (fun j=>jD l l.length (t+i) j=true) D (QL V T t) a0 ρ→(T[i]).ok P o ρ (LJ T i W))→(∀k,k∈late→V k=VL k) →
   Kept (Q .normal (oD (QL V T t) 0 D a0) (LJ T (l.length-t) W))→W'=LJ T m W→a=oD LM 0 D a0→(∀j,L j→LM j=QL V T t j)→(∀j,j<t→late.contains j=false→L j)→(∀j,t≤j→(L j↔j<t+m))→vV l L→(∀e∈o.after,Region.binds .any e=true→L e.on) →
   wpOp P l.toArray Q (t+m) (I fun j=>L j∨j=t+m) a W':=by
  intro L a W' V LM W T m o ho ZO hT X6 hQ hW ha hV hLl CQ hC BM;have Py:t+m<l.length:=(zO.1 ho).1;have hmT:m<T.length:=(by omega);have hg:=(GI (t+m) Py (by omega)).2.1 o ho;subst ha hW;have hR:=hRd LM;have hrun:=hT m o hmT ho (oD LM 0 D a0).eval ⟨fun j d hj hd=>(hR.at_ j d hd).trans (hV j (lV hC _ _ j hj fun o' BH e he hb=>by
   have:o'=o:=by rw[ho] at BH;exact (zW BH).symm
   subst this;exact BM e he hb)),hR.off,hR.const⟩
  have hnext:∀v,v=(T[m]).v→I (fun j=>L j∨j=t+m) ((oD LM 0 D a0).put o.dst v) (LJ T (m+1) W):=fun v hv => .inr ⟨V,uK LM (t+m) v,W,T,m+1,by omega,by omega,ZO,hT,X6,hQ,rfl,hput LM _ o v ho,fun j hj=>by
    by_cases XL:j=t+m
    ·subst XL;rw[eY,hv];unfold QL;rw[yF (by omega),show t+m-t=m by omega,zG hmT];rfl
    ·rw[dF XL];exact hV j (hj.resolve_right XL),fun j hj hl => .inl (hLl j hj hl),fun j hj=>by
    show (L j∨j=t+m)↔_
    rw[CQ j hj];omega,fun k hk o' h1 e he hb=>by
    rcases hk with hk|rfl
    ·exact .inl (hC k hk o' h1 e he hb)
    ·have:o'=o:=by rw[ho] at h1;exact (zW h1).symm
     subst this;exact .inl (BM e he hb)⟩
  have ho2:l.toArray[t+m]? =some o:=by simpa using ho
  refine wpOp_step ho2 fun K hK => ?_
  rw[yG (by simp[Region.wanted,hg])];unfold Oper.wp;cases hTm:T[m] with
  |val v =>
   rw[hTm] at hrun;simp only[Cf.ok] at hrun;rw[hrun];have h9:=hK _ _ (hnext v (by rw[hTm];rfl));rw[OC hmT,hTm] at h9;exact h9
  |eff f =>
   rw[hTm] at hrun;simp only[Cf.ok] at hrun;rw[hrun];have h9:=hK _ _ (hnext undef (by rw[hTm];rfl));rw[OC hmT,hTm] at h9;exact h9
 refine wp_region_any hm (vW (I:=I) A_ ?_ ?_ _ _ _ _ (by simp) (by simp) ?_)
 ·intro i hir L a W hI hn BM;have Jy:i<l.length:=by simpa using hir
  have ho:l[i]? =some l[i]:=zG Jy;have BH:l.toArray[i]? =some l[i]:=by simp
  have hcl:∀o,l[i]? =some o→∀e∈o.after,Region.binds .any e=true→L e.on:=fun o h1 e he hb=>BM o (by simpa using h1) e he hb
  rcases hI with⟨⟨V,lo,hi,rfl,hB,hG,hA,hU,aei,hC⟩,MQ⟩|⟨V,LM,W0,T,m,hm0,Py,ZO,hT,X6,hQ,rfl,rfl,hV,hLl,CQ,hC⟩
  ·by_cases hit:i<t
   ·refine wpOp_step BH fun K hK => ?_
    have hstep:=lC.at _ 0 (hsteps Q) i l[i] (by rw[List.getElem?_take_of_lt hit,ho]);rw[yH] at hstep;refine (hstep V lo hi W hB (fun j hj=>hG j (lV hC _ i j hj hcl)) (fun j d hj hd=>hU j d (fun Wv => ?_) hd) _ (hRd V) K (show Shut _ from fun v W' hb hp=>hK _ _ (.inl ⟨?_,?_⟩))).out
    ·rcases hj with rfl|hj
     ·exact hn Wv
     ·exact hn (lV hC _ j i hj fun o h1 e he hb=>hC j Wv o h1 e he hb)
    ·refine⟨uK V i v,uK lo i W.heap.size,uK hi i W'.heap.size,hput V i _ v ho,hB.trans (hb.mono hB.size),?_,?_,?_,?_,?_⟩
     ·intro k hk;by_cases rE:k=i
      ·subst rE;exact⟨by rw[eY];exact hB.size,by rw[eY,eY];exact hb.size,by rw[eY];exact zC _,by rw[eY,eY,eY];exact hp⟩
      ·have h1:=(hG k (hk.resolve_right rE)).up hb;exact⟨by rw[dF rE];exact h1.b0,by rw[dF rE,dF rE];exact h1.b1,by rw[dF rE];exact h1.b2,by rw[dF rE,dF rE,dF rE];exact h1.p⟩
     ·intro j k hj hk hjk;by_cases rF:j=i
      ·subst rF;have hkL:=hk.resolve_right (Ne.symm hjk);rw[eY,eY,dF (Ne.symm hjk),dF (Ne.symm hjk)];exact .inr (hG k hkL).b2
      ·by_cases rE:k=i
       ·subst rE;rw[eY,eY,dF rF,dF rF];exact .inl (hG j (hj.resolve_right rF)).b2
       ·rw[dF rF,dF rF,dF rE,dF rE];exact hA j k (hj.resolve_right rF) (hk.resolve_right rE) hjk
     ·intro k d hk hd;rw[dF fun h=>hk (.inr h)];exact hU k d (fun h=>hk (.inl h)) hd
     ·intro k hk;rcases hk with hk|rfl
      ·exact aei k hk
      ·have:=hDo k _ ho;exact (zO.1 this).1
     ·intro k hk o h1 e he hb';rcases hk with hk|rfl
      ·exact .inl (hC k hk o h1 e he hb')
      ·exact .inl (hcl o h1 e he hb')
    ·intro k hk;rcases hk with hk|rfl
     ·exact MQ k hk
     ·exact hit
   ·have hall:∀j,j<i→late.contains j=false→L j:=fun j hj hl=>lV hC _ i j ((GI i Jy (by omega)).1 j hj hl) hcl
    have jJ:i=t:=by
     by_cases h:t<i
     ·have:=MQ _ (hall t h (GI t (by omega) (zC _)).2.2);omega
     ·omega
    subst jJ;let V2:Nat→Value:=fun k=>if late.contains k=true then VL k else V k
    have WH:∀k,k<i→late.contains k=false→Pv S w0 W V2 lo hi k:=fun k hk hl=>by
     have h1:=hG k (hall k hk hl);exact⟨h1.b0,h1.b1,h1.b2,by show (S.getD k SP.any).p (lo k) (hi k) W (if late.contains k=true then VL k else V k);rw[yF (by rw[hl];decide)];exact h1.p⟩
    obtain⟨T,ZO,hT,hQ⟩:=hend V2 lo hi W hB WH (fun k hk=>by
     show (if late.contains k=true then VL k else V k)=VL k
     rw[yG (by simpa using hk)]) (fun j k hj hk h1 h2 hjk=>hA j k (hall j hj h1) (hall k hk h2) hjk)
    refine OD L _ W V2 V W T 0 l[i] (by simp) ZO hT (fun k hk=>by
     show (if late.contains k=true then VL k else V k)=VL k
     rw[yG (by simpa using hk)]) hQ rfl rfl (fun j hj => ?_) (fun j hj hl=>hall j hj hl) (fun j hj=>⟨fun h=>by have:=MQ j h;omega,fun h=>by omega⟩) hC (fun e he hb=>hcl _ ho e he hb)
    have hjt:=MQ j hj;unfold QL;rw[yG hjt];show V j=if late.contains j=true then VL j else V j
    split
    ·rename_i hl
     have Ii:j<l.length:=(by omega);have h2:=(hG j hj).p;obtain⟨-,-,h3,-⟩:=EU j l[j] (by simpa using hl) (zG Ii);rw[h3] at h2;exact h2
    ·rfl
  ·by_cases hit:i<t
   ·
    have hli:late.contains i=true:=by
     cases h:late.contains i with
     |true=>rfl
     |false=>exact absurd (hLl i hit h) hn
    obtain⟨-,hg,h3,hrun⟩:=EU i l[i] (by simpa using hli) ho;have hR:=hRd LM;refine wpOp_step BH fun K hK => ?_
    rw[yG (by simp[Region.wanted,hg])];unfold Oper.wp;rw[hrun (oD LM 0 D a0).eval _ hR.off hR.const];refine hK _ _ (.inr ⟨V,uK LM i (VL i),W0,T,m,hm0,Py,ZO,hT,X6,hQ,rfl,hput LM _ _ _ ho,fun j hj => ?_,fun j hj hl => .inl (hLl j hj hl),fun j hj => ?_,fun k hk o' h1 e he hb => ?_⟩)
    ·by_cases rF:j=i
     ·subst rF;rw[eY];unfold QL;rw[yG hit];exact (X6 j (by simpa using hli)).symm
     ·rw[dF rF];exact hV j (hj.resolve_right rF)
    ·show (L j∨j=i)↔_
     rw[CQ j hj];omega
    ·rcases hk with hk|rfl
     ·exact .inl (hC k hk o' h1 e he hb)
     ·exact .inl (hcl o' h1 e he hb)
   ·have hge:t+m≤i:=by
     apply Classical.byContradiction
     intro h;exact hn ((CQ i (by omega)).2 (by omega))
    have jJ:i=t+m:=by
     by_cases h:t+m<i
     ·have:=(CQ (t+m) (by omega)).1 (lV hC _ i (t+m) ((GI i Jy (by omega)).1 _ h (GI (t+m) (by omega) (by omega)).2.2) hcl);omega
     ·omega
    subst jJ;exact OD L _ _ V LM W0 T m l[t+m] ho ZO hT X6 hQ rfl rfl hV hLl CQ hC (fun e he hb=>hcl _ ho e he hb)
 ·intro L a W hL hI;have hL':∀j,j<l.length→L j:=fun j hj=>hL j (by simpa using hj)
  rcases hI with⟨⟨V,lo,hi,rfl,hB,hG,hA,hU,aei,hC⟩,MQ⟩|⟨V,LM,W0,T,m,hm0,Py,ZO,hT,X6,hQ,rfl,rfl,hV,hLl,CQ,hC⟩
  ·have hnl:l.length=t:=by
    by_cases h:t<l.length
    ·have:=MQ _ (hL' t h);omega
    ·omega
   have hV2:∀k,k∈late→V k=VL k:=fun k hk=>by
    have hkt:k<l.length:=by
     have:=zY.1 aje k hk;simp only[decide_eq_true_eq] at this;omega
    have h2:=(hG k (hL' k hkt)).p;obtain⟨-,-,h3,-⟩:=EU k l[k] hk (zG hkt);rw[h3] at h2;exact h2
   obtain⟨T,ZO,hT,hQ⟩:=hend V lo hi W hB (fun k hk _=>hG k (hL' k (by omega))) hV2 (fun j k hj hk _ _ hjk=>hA j k (hL' j (by omega)) (hL' k (by omega)) hjk);have hT0:T=[]:=List.eq_nil_of_length_eq_zero (by omega);subst hT0;have h9:=hQ.out;rw[show l.length-t=0 by omega] at h9;have:oD (QL V [] t) 0 D a0=oD V 0 D a0:=GH D 0 a0 fun j _ hj=>by unfold QL;rw[yG (by omega)]
   rw[this] at h9;exact h9
  ·have hnl:t+m=l.length:=by
    by_cases h:t+m<l.length
    ·have:=(CQ (t+m) (by omega)).1 (hL' _ h);omega
    ·omega
   have h9:=hQ.out;rw[show l.length-t=m by omega] at h9;have:oD LM 0 D a0=oD (QL V T t) 0 D a0:=GH D 0 a0 fun j _ hj=>hV j (hL' j (by omega))
   rw[this];exact h9
 ·rw[vg];refine .inl ⟨⟨init,fun _=>0,fun _=>0,?_,Below.drew (zD _ _),fun k h=>h.elim,fun j k h=>h.elim,?_,fun k h=>h.elim,fun i h=>h.elim⟩,fun k h=>h.elim⟩
  ·exact (ES D 0 a0 fun i d hi _=>by rw[yH];show BL a0 ((D[i]?).getD none)=_;rw[hi];rfl).symm
  ·intro k d _ hd;show BL a0 ((D[k]?).getD none)=_
   simp only[hd,Option.getD_some];rfl
end
end Go.Proofs.YtjcoapnggojpdaaGreatDoor
