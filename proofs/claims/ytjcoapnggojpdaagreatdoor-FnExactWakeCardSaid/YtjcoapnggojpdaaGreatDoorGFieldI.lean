/- Texts of the proof, laid compactly. -/
import Derived.WideKeyEntry
import Derived.Test.YtjcoapnggojpdaaGreatDoorSelectS
set_option maxHeartbeats 2000000
set_option maxRecDepth 100000
namespace Go.Proofs.YtjcoapnggojpdaaGreatDoor
set_option linter.unusedSimpArgs false
set_option linter.unusedVariables false
open Go.RowKit Go.MapKept Go.ChangeMaps
open Go.Maps (Keyed)
open Go.WideElems (Fit rd rg pl rd_key rd_val)
section
variable {P:Program} {w:World} {t k e:TypeId} {B n:Nat} {D:DataW Unit} {key:Value} {kl:Lit}
theorem VE(K:Keyed P k)(ht:P.underlying t=some (.map k e)){es:Array MapEntry}{clock:Nat}{z:Value}(hz:(zeroValue e).run P w=.ok z w)(hb:w.heap[B]? =some (.map es clock))(hk:∀x∈es.toList,∃l,keyOf P k x.key=some l)
  (hkey:keyOf P k key=some kl){v:Value}(h1:∃x∈es.toList,x.key=key)(h2:∀x∈es.toList,x.key=key→x.val=v) :
  (Go.Instr.lookup t (.map (some B)) key false).run P w=.ok v w:=by
 rcases K.find w hkey es.toList hk with⟨a1,a2⟩|⟨j,e0,a1,a2,a3⟩
 ·obtain⟨x,hx,hxk⟩:=h1;exact absurd hxk (a2 x hx)
 ·have:=h2 e0 (List.mem_of_getElem? a2) a3;simp[Go.Instr.lookup,run_underlying ht,MapKept.run_getObj_map hb,K.check w _ hkey,a1,this,Result.andThen]
theorem bump_any(K:WideMaps.KeyLaw P k)(ht:P.underlying t=some (.map k e))(he:P.underlying e=some (.int .i64))(hz:∀u:World,(zeroValue e).run P u=.ok (.int .i64 0) u)
  (h:w.ownsMap P k (plainElem P e) B n D)(hn:n<maxLen)(hkey:keyOf P k key=some kl) :
  ∃(c:Int) (st:Nat) (w1:World),D.atKey kl (.lit (.int .i64 0))=.lit (.int .i64 c)∧(Lit.int .i64 c).wf=true ∧
   (Go.Instr.lookup t (.map (some B)) key false).run P w=.ok (.int .i64 c) w ∧
   (Go.Instr.mapEntry t (.map (some B)) key).run P w=.ok (.tuple #[.int .i64 c,.int .i64 st]) w1 ∧
   (Go.Instr.lookup t (.map (some B)) key false).run P w1=.ok (.int .i64 c) w1 ∧
   ∀c':Int,(Lit.int .i64 c').wf=true→∃w3,(Go.Instr.entryStore t (.map (some B)) (.int .i64 st) (.int .i64 c')).run P w1=.ok () w3 ∧
    w3.ownsMap P k (plainElem P e) B (n+1) (D.put kl (.lit (.int .i64 c')))∧w.grownBy w3 (some B):=by
 obtain⟨c,hl,hat,hwc⟩:=h.lookup_int (Keyed.of_law K) ht he (hz w) hkey;have aaH:=fun (c':Int) (hc:(Lit.int .i64 c').wf=true)=>h.update (val := .int .i64 c') (Keyed.of_law K) ht hn hkey (plainElem_int he hc)
 obtain⟨es,clock,hb,F,hs,hD⟩:=h;obtain⟨v0,st,es1,clock1,VF,hv0,hst⟩:=Go.WideElems.entry_then_store K ht hz hb F hkey;have hb1:(setBlock w B (.map es1 clock1)).heap[B]? =some (.map es1 clock1):=heap_setBlock_same hb _;have hsame:∀{v':Value} {s':Nat} {es2:Array MapEntry} {clock2:Nat},(Go.Instr.mapEntry t (.map (some B)) key).run P w=.ok (.tuple #[v',goInt s']) (setBlock w B (.map es2 clock2))→v0=v'∧es1=es2:=by
  intro v' s' es2 clock2 h2;rw[VF] at h2;injection h2 with h3 h4
  injection h3 with h3
  have h5:=congrArg (fun W:World=>W.heap[B]?) h4;simp only[hb1,heap_setBlock_same hb] at h5;injection h5 with h5
  injection h5 with h5 h6
  refine⟨?_,h5⟩;simp at h3;exact h3.1
 have hkeys:∀x∈es.toList,∃l,keyOf P k x.key=some l:=F.keys;obtain⟨aaJ,aiv⟩:((∃x∈es1.toList,x.key=key)∧(∀x∈es1.toList,x.key=key→x.val=v0)∧∀x∈es1.toList,∃l,keyOf P k x.key=some l)∧v0=.int .i64 c:=by
  rcases K.find w hkey es.toList hkeys with⟨h1,h2⟩|⟨j,e0,h1,h2,h3⟩
  ·have hrun:(Go.Instr.mapEntry t (.map (some B)) key).run P w=.ok (.tuple #[.int .i64 0,goInt clock]) (setBlock w B (.map (es.push ⟨key,.int .i64 0,clock⟩) (clock+1))):=by
    simp[Go.Instr.mapEntry,run_underlying ht,MapKept.run_getObj_map hb,K.check w false hkey,h1,hz,MapKept.run_setObj_map _ hb,Result.andThen,setBlock]
   obtain⟨rfl,rfl⟩:=hsame hrun;have hl2:(Go.Instr.lookup t (.map (some B)) key false).run P w=.ok (.int .i64 0) w:=by
    simp[Go.Instr.lookup,run_underlying ht,MapKept.run_getObj_map hb,K.check w _ hkey,h1,hz,Result.andThen]
   rw[hl2] at hl;injection hl with hl _
   refine⟨⟨⟨⟨key,.int .i64 0,clock⟩,by simp,rfl⟩,fun x hx hxk => ?_,fun x hx => ?_⟩,hl⟩
   ·simp only[Array.toList_push,List.mem_append,List.mem_singleton] at hx;rcases hx with hx|rfl
    ·exact absurd hxk (h2 x hx)
    ·rfl
   ·simp only[Array.toList_push,List.mem_append,List.mem_singleton] at hx;rcases hx with hx|rfl
    ·exact hkeys x hx
    ·exact⟨kl,hkey⟩
  ·have hj:es[j]? =some e0:=by simpa using h2
   have hm:es.modify j (fun e=>{e with key:=key})=es:=by
    apply Array.ext'
    rw[Array.toList_modify,modify_eq_set _ _ _ _ h2];have:({e0 with key:=key}:MapEntry)=e0:=by rw[←h3]
    rw[this];exact Go.WideElems.set_self _ _ _ h2
   have hrun:(Go.Instr.mapEntry t (.map (some B)) key).run P w=.ok (.tuple #[e0.val,goInt e0.born]) (setBlock w B (.map es clock)):=by
    simp[Go.Instr.mapEntry,run_underlying ht,MapKept.run_getObj_map hb,K.check w false hkey,h1,hj,h3,K.stays w hkey,hm,MapKept.run_setObj_map _ hb,Result.andThen,setBlock]
   obtain⟨rfl,rfl⟩:=hsame hrun;have hl2:(Go.Instr.lookup t (.map (some B)) key false).run P w=.ok e0.val w:=by
    simp[Go.Instr.lookup,run_underlying ht,MapKept.run_getObj_map hb,K.check w _ hkey,h1,Result.andThen]
   rw[hl2] at hl;injection hl with hl _
   refine⟨⟨⟨e0,List.mem_of_getElem? h2,h3⟩,fun x hx hxk => ?_,hkeys⟩,hl⟩;obtain⟨i,hi⟩:=List.getElem?_of_mem hx;by_cases Uc:i=j
   ·subst Uc;rw[h2] at hi;injection hi with hi
    rw[hi]
   ·exact absurd (hxk.trans h3.symm) (h3.symm ▸ Go.WideElems.other_key F h2 hi Uc)
 subst aiv;refine⟨c,st,_,hat,hwc,hl,VF,VE (Keyed.of_law K) ht (hz _) hb1 aaJ.2.2 hkey aaJ.1 aaJ.2.1,fun c' hc => ?_⟩;obtain⟨es',clock',r1,r2⟩:=hst _ (.int .i64 c') hb1;obtain⟨w3,r3,r4,r5⟩:=aaH c' hc;rw[r2] at r3;injection r3 with _ r3
 refine⟨w3,?_,r4,r5⟩;rw[←r3];have e2:setBlock (setBlock w B (.map es1 clock1)) B (.map es' clock')=setBlock w B (.map es' clock'):=(by simp[setBlock]);rw[←e2];exact r1
end
theorem laidOutP:laidOutB Tryz.prog=true:=by kernel_rfl
theorem Qu:WideMaps.KeyLaw Tryz.prog 341 :=
 deep_law_laid laidOutP (m:=2) (by omega) (of_decide_eq_true (by kernel_rfl)) (by kernel_rfl) (by rw[Tryz.underlying341])
theorem Lm(w:World):(zeroValue 3).run Tryz.prog w=.ok (.int .i64 0) w:=by kernel_rfl
def Oj(a b:Int):Lit := .string (keyBytes [.int .i64 a,.int .i64 b])
theorem RQ{a b:Int}(ha:(Lit.int .i64 a).wf=true)(hb:(Lit.int .i64 b).wf=true):keyOf Tryz.prog 341 (.agg #[.int .i64 a,.int .i64 b])=some (Oj a b):=by
 have h1:Tryz.prog.keyType 341=true:=(by kernel_rfl);have h2:(Value.agg #[.int .i64 a,.int .i64 b]).formed Tryz.prog 341=true:=by
  have:Tryz.prog.cellsOf 341=2:=(by kernel_rfl);simp[Value.formed,Tryz.underlying341,this]
 have h3:Tryz.prog.keyLits (Tryz.prog.types.size+1) 341 [.int .i64 a,.int .i64 b]=some [.int .i64 a,.int .i64 b]:=by
  obtain⟨m,hm⟩:∃m,Tryz.prog.types.size=m+1:=⟨Tryz.prog.types.size-1,by have:1≤Tryz.prog.types.size:=of_decide_eq_true (by kernel_rfl);omega⟩
  have c1:Tryz.prog.cellsOf 341=2:=(by kernel_rfl);have c2:Tryz.prog.cellsOf 3=1:=(by kernel_rfl);rw[hm];simp[Program.keyLits,Tryz.underlying341,Tryz.underlying3,c1,c2,ha,hb]
 unfold keyOf;rw[Tryz.underlying341];simp only[h1,h2,Bool.and_self,if_true];show (Option.map _ (Tryz.prog.keyLits (Tryz.prog.types.size+1) 341 [.int .i64 a,.int .i64 b]))=_
 rw[h3];rfl
def qp(w:World)(B:Nat)(met:List (Int × Int)):Prop :=
 ∃D:DataW Unit,w.ownsMap Tryz.prog 341 (plainElem Tryz.prog 3) B met.length D∧Go.Maps.IsMap D ∧
  ∀a b,(Lit.int .i64 a).wf=true→(Lit.int .i64 b).wf=true→D.atKey (Oj a b) (.lit (.int .i64 0))=.lit (.int .i64 (met.count (a,b):Nat))
theorem qp.keep{w w':World}{B:Nat}{met:List (Int × Int)}(h:qp w B met)(hk:w'.heap[B]? =w.heap[B]?):qp w' B met:=by
 obtain⟨D,⟨es,clock,hb,F,hs,hD⟩,h2⟩:=h;exact⟨D,⟨es,clock,hk.trans hb,F,hs,hD⟩,h2⟩
theorem qp.made(w:World):qp (w.alloc (.map #[] 0)) w.heap.size [] :=
 ⟨.map [],World.ownsMap_made _ _ _ _,⟨[],rfl⟩,fun a b _ _=>by simp[DataW.atKey]⟩
theorem qp.lt{w:World}{B:Nat}{met:List (Int × Int)}(h:qp w B met):B<w.heap.size:=by
 obtain⟨D,h,_⟩:=h;exact h.lt
theorem VG{c:Int}(h:0≤c)(h2:c≤4611686018427387904):(Lit.int .i64 c).wf=true:=WalkArith.wf_i64 (by omega)
theorem first_any{w:World}{B:Nat}{met:List (Int × Int)}{a b:Int}(h:qp w B met)(ha:(Lit.int .i64 a).wf=true)(hb:(Lit.int .i64 b).wf=true)(hl:met.length≤4294967296) :
  Calls Tryz.prog 300 #[.map (some B),.agg #[.int .i64 a,.int .i64 b]] w fun e w'=>e=.returned (.bool (!met.contains (a,b)))∧qp w' B (met++[(a,b)])∧Turned B (B+1) w w':=by
 obtain⟨D,hown,hD,hat⟩:=h;have hB:=hown.lt;have hk:=RQ ha hb;have hcm:=List.count_le_length (a:=(a,b)) (l:=met);obtain⟨c,st,w1,hc,hwc,hl0,VF,Rk,hst⟩:=bump_any (w:=(w.alloc (.cells #[.int .i64 a,.int .i64 b] 341)).drew) Qu Tryz.underlying337 Tryz.underlying3 Lm (hown.alloc (.cells #[.int .i64 a,.int .i64 b] 341)) (by unfold maxLen;omega) hk;have hcc:c=(met.count (a,b):Nat):=by
  have:=hat a b ha hb;rw[hc] at this;injection this with this
  injection this
 obtain⟨w3,aoM,VH,hg3⟩:=hst (c+1) (VG (by omega) (by omega));have hD3:Go.Maps.IsMap (D.put (Oj a b) (.lit (.int .i64 (c+1)))):=Go.Maps.IsMap.put hD _ _;have aaK:(D.put (Oj a b) (.lit (.int .i64 (c+1)))).atKey (Oj a b) (.lit (.int .i64 0))=.lit (.int .i64 (c+1)):=Go.Maps.atKey_put_same hD (by unfold Oj;trivial) _ _;obtain⟨c3,hl3,hc3,_⟩:=VH.lookup_int (Keyed.of_law Qu) Tryz.underlying337 Tryz.underlying3 (Lm _) hk;have XA:c3=c+1:=by
  rw[aaK] at hc3;injection hc3 with hc3
  injection hc3 with _ hc3
  exact hc3.symm
 subst XA;have hpost:qp w3 B (met++[(a,b)]):=by
  refine⟨_,by simpa using VH,hD3,fun a' b' ha' hb' => ?_⟩;by_cases he:(a',b')=(a,b)
  ·injection he with e1 e2
   subst e1 e2;rw[aaK,hcc];simp[List.count_append]
  ·have hne:Oj a' b'≠Oj a b:=fun e=>he (by
    have h1:=RQ ha' hb';rw[e] at h1;have:=(Keyed.of_law Qu).inj h1 hk;simp at this;rw[this.1,this.2])
   rw[Go.Maps.atKey_put_other hne,hat a' b' ha' hb',List.count_append];simp[List.count_cons,Ne.symm he]
 have VI:((c+1:Int)==1) = !met.contains (a,b):=by
  rw[hcc,Bool.eq_iff_iff];have h0:=List.count_eq_zero (a:=(a,b)) (l:=met);simp only[beq_iff_eq,Bool.not_eq_true',List.contains_eq_mem,decide_eq_false_iff_not,←h0];omega
 have hturn:Turned B (B+1) w w3:=⟨hg3.os,hg3.tape,hg3.output,by have:=hg3.size;simp at this;omega,fun i hi ho=>by
  rw[hg3.block i (by simp;omega) (by simp;omega)];exact Below.heap_alloc w _ _ hi⟩
 have hcl:∀j,w3.cell? ⟨w.heap.size,j,none⟩=(w.alloc (.cells #[.int .i64 a,.int .i64 b] 341)).cell? ⟨w.heap.size,j,none⟩:=fun j =>
  World.cell?_of_block (hg3.block _ (by simp) (by simp;omega))
 have Tu:w3.cell? ⟨w.heap.size,0,none⟩=some (.int .i64 a):=by rw[hcl];simp
 have eX:w3.cell? ⟨w.heap.size,0+1,none⟩=some (.int .i64 b):=by rw[hcl];simp
 have hwr:wrap64 (c+1)=c+1:=(by unfold wrap64;omega);have HP:=zA (And.intro hpost hturn);have hz3:=hturn.size;have hlt3:w.heap.size<w3.heap.size:=by have:=hg3.size;simp at this;omega
 clear hpost hturn hst hown VH hat aaK hD hD3 hc hc3 hcl hg3 hcm hcc;go_enter Tryz.func300,Tryz.ntmps300
 go_wp2
 go_region
 all_goals
  go_wp2
  go_ret;exact⟨by simp,HP.out⟩
open Go.RowKit
theorem lq(v c:Int)(w:World):Calls Tryz.prog 117 #[.int .i64 v,.int .i64 c] w fun e w'=>e=.returned (.bool (inB v 0 (c-1)))∧w=w':=by
 by_cases h0:0≤v
 ·by_cases h1:v<c
  ·rw[wK (by omega)];go_enter Tryz.func117,Tryz.ntmps117
   go_wp2
   go_ret;exact⟨rfl,rfl⟩
  ·rw[wL (by omega)];have h2:decide (v<c)=false:=yD h1;clear h1;go_enter Tryz.func117,Tryz.ntmps117
   go_wp2
   go_ret;exact⟨rfl,rfl⟩
 ·rw[wL (by omega)];have h2:decide (0≤v)=false:=yD h0;clear h0;go_enter Tryz.func117,Tryz.ntmps117
  go_wp2
  go_ret;exact⟨rfl,rfl⟩
theorem TB(v:Int)(w:World):Calls Tryz.prog 51 #[.int .i64 v] w fun e w'=>e=.returned (.bool (IJ v))∧w=w':=by
 by_cases h0:0≤v
 ·by_cases h1:v≤999
  ·rw[N_ (by omega)];go_enter Tryz.func51,Tryz.ntmps51
   go_wp2
   go_ret;exact⟨rfl,rfl⟩
  ·rw[Ey (by omega)];have h2:decide (v≤999)=false:=yD h1;clear h1;go_enter Tryz.func51,Tryz.ntmps51
   go_wp2
   go_ret;exact⟨rfl,rfl⟩
 ·rw[Ey (by omega)];have h2:decide (0≤v)=false:=yD h0;clear h0;go_enter Tryz.func51,Tryz.ntmps51
  go_wp2
  go_ret;exact⟨rfl,rfl⟩
def dA(n0 n2 n3:Nat)(mus n name v:Int):Bool :=
 if name=1 then jC v
 else if name=2 then IJ v
 else if name=3 then inB v 0 (n-1)
 else if name=4 then inB v (-1) ((n0:Int)-1)
 else if name=5 then inB v 0 ((n2:Int)-1)
 else if name=6 then inB v 0 (mus-1)
 else if name=7 then inB v 0 ((n3:Int)-1)
 else v==0
theorem Dx{A0 A2 A3:Option Addr}{n0 c0 n2 c2 n3 c3:Nat}{mus n name v:Int}(w:World)(hname:0≤name∧name≤7) :
  Calls Tryz.prog 309 #[.agg #[.slice A0 n0 c0,.int .i64 mus,.slice A2 n2 c2,.slice A3 n3 c3],.int .i64 n,.int .i64 name,.int .i64 v] w fun e w'=>e=.returned (.bool (dA n0 n2 n3 mus n name v))∧yT w w':=by
 have hn:name=0∨name=1∨name=2∨name=3∨name=4∨name=5∨name=6∨name=7:=(by omega);clear hname;rcases hn with rfl|rfl|rfl|rfl|rfl|rfl|rfl|rfl
 ·have e0:dA n0 n2 n3 mus n 0 v=(v==0):=rfl;rw[e0];go_enter Tryz.func309,Tryz.ntmps309
  go_wp2_with fail
  go_ret;exact⟨rfl,by go_grown⟩
 ·have e0:dA n0 n2 n3 mus n 1 v=inB v 0 (6-1):=rfl;rw[e0];go_enter Tryz.func309,Tryz.ntmps309
  go_wp2_with fail
  refine (lq _ _ _).mono ?_;rintro e w1 ⟨rfl,rfl⟩;go_wp2_with fail
  go_ret;exact⟨rfl,by go_grown⟩
 ·have e0:dA n0 n2 n3 mus n 2 v=IJ v:=rfl;rw[e0];go_enter Tryz.func309,Tryz.ntmps309
  go_wp2_with fail
  refine (TB _ _).mono ?_;rintro e w1 ⟨rfl,rfl⟩;go_wp2_with fail
  go_ret;exact⟨rfl,by go_grown⟩
 ·have e0:dA n0 n2 n3 mus n 3 v=inB v 0 (n-1):=rfl;rw[e0];go_enter Tryz.func309,Tryz.ntmps309
  go_wp2_with fail
  refine (lq _ _ _).mono ?_;rintro e w1 ⟨rfl,rfl⟩;go_wp2_with fail
  go_ret;exact⟨rfl,by go_grown⟩
 ·have e0:dA n0 n2 n3 mus n 4 v=inB v (-1) ((n0:Int)-1):=rfl;rw[e0];by_cases hv:v = -1
  ·subst hv;rw[wK (by omega)];go_enter Tryz.func309,Tryz.ntmps309
   go_wp2_with fail
   go_ret;exact⟨rfl,by go_grown⟩
  ·have e1:inB v (-1) ((n0:Int)-1)=inB v 0 ((n0:Int)-1):=by unfold inB;exact decide_eq_decide.2 (by omega)
   have e2:(v == -1)=false:=by simpa using hv
   rw[e1];clear hv e1 e0;go_enter Tryz.func309,Tryz.ntmps309
   go_wp2_with fail
   refine (lq _ _ _).mono ?_;rintro e w1 ⟨rfl,rfl⟩;go_wp2_with fail
   go_ret;exact⟨rfl,by go_grown⟩
 ·have e0:dA n0 n2 n3 mus n 5 v=inB v 0 ((n2:Int)-1):=rfl;rw[e0];go_enter Tryz.func309,Tryz.ntmps309
  go_wp2_with fail
  refine (lq _ _ _).mono ?_;rintro e w1 ⟨rfl,rfl⟩;go_wp2_with fail
  go_ret;exact⟨rfl,by go_grown⟩
 ·have e0:dA n0 n2 n3 mus n 6 v=inB v 0 (mus-1):=rfl;rw[e0];go_enter Tryz.func309,Tryz.ntmps309
  go_wp2_with fail
  refine (lq _ _ _).mono ?_;rintro e w1 ⟨rfl,rfl⟩;go_wp2_with fail
  go_ret;exact⟨rfl,by go_grown⟩
 ·have e0:dA n0 n2 n3 mus n 7 v=inB v 0 ((n3:Int)-1):=rfl;rw[e0];go_enter Tryz.func309,Tryz.ntmps309
  go_wp2_with fail
  refine (lq _ _ _).mono ?_;rintro e w1 ⟨rfl,rfl⟩;go_wp2_with fail
  go_ret;exact⟨rfl,by go_grown⟩
theorem fF{A0 A2 A3:Option Addr}{n0 c0 n2 c2 n3 c3:Nat}{mus n a b c n1 n2' n3':Int}{w:World}(z:Nat)(hz:1≤z)(hz2:z≤15)(h1:0≤n1∧n1≤7)(h2:0≤n2'∧n2'≤7)(h3:0≤n3'∧n3'≤7)
  (c1:w.cell? ⟨1,z*4+1,none⟩=some (.int .i64 n1))(SI:w.cell? ⟨1,z*4+1+1,none⟩=some (.int .i64 n2'))(c3':w.cell? ⟨1,z*4+1+2,none⟩=some (.int .i64 n3')) :
  Calls Tryz.prog 302 #[.agg #[.slice A0 n0 c0,.int .i64 mus,.slice A2 n2 c2,.slice A3 n3 c3],.int .i64 n,.agg #[.int .i64 (z:Int),.int .i64 a,.int .i64 b,.int .i64 c]] w fun e w'=>e=.returned (.bool (dA n0 n2 n3 mus n n1 a&&(dA n0 n2 n3 mus n n2' b&&dA n0 n2 n3 mus n n3' c)))∧yT w w':=by
 have hg0:1<w.heap.size:=World.block_lt_of_cell? w _ c1;have Pg:¬w.heap.size=0:=(by omega);have hgp:0<w.heap.size:=(by omega);have e1:=wK (n:=(z:Int)) (lo:=1) (hi:=15) (by omega);have step:∀(nm v:Int) (W:World),0≤nm∧nm≤7→Calls Tryz.prog 309 #[.agg #[.slice A0 n0 c0,.int .i64 mus,.slice A2 n2 c2,.slice A3 n3 c3],.int .i64 n,.int .i64 nm,.int .i64 v] W fun e w'=>e=.returned (.bool (dA n0 n2 n3 mus n nm v))∧yT W w':=fun nm v W h=>Dx W h
 have HS:=zA step;clear step;generalize O4:dA n0 n2 n3 mus n n1 a=F1;generalize hF2:dA n0 n2 n3 mus n n2' b=F2;generalize ZE:dA n0 n2 n3 mus n n3' c=F3;have G1:=zA O4;have G2:=zA hF2;have G3:=zA ZE;clear O4 hF2 ZE;go_enter Tryz.func302,Tryz.ntmps302
 go_wp2_with fail
 refine (Oa _ _).mono ?_;rw[e1];rintro e w1 ⟨rfl,rfl⟩;go_wp2_with fail
 refine (HS.out _ _ _ h1).mono ?_;rw[G1.out];rintro e wa ⟨rfl,sU⟩;have za:=sU.size;simp only[zF] at za;obtain⟨XO,XP⟩:=bn sU;have XQ:w.heap.size<wa.heap.size:=(by omega);have aiw:w.heap.size+1<wa.heap.size:=(by omega);have aoN:w.heap.size+1+1<wa.heap.size:=(by omega);have Qr:yT w wa:=zQ (by go_grown) (sU.mono (by simp;omega));clear sU;cases F1
 ·go_wp2_with fail
  go_ret;exact⟨rfl,Qr⟩
 ·go_wp2_with fail
  refine (HS.out _ _ _ h2).mono ?_;rw[G2.out];rintro e wb ⟨rfl,oQ⟩;have zb:=oQ.size;obtain⟨adK,adL⟩:=bn oQ;have adM:w.heap.size<wb.heap.size:=(by omega);have aix:w.heap.size+1<wb.heap.size:=(by omega);have aoO:w.heap.size+1+1<wb.heap.size:=(by omega);have XR:yT w wb:=Qr.trans (oQ.mono (by omega));clear oQ;cases F2
  ·go_wp2_with fail
   go_ret;exact⟨rfl,XR⟩
  ·go_wp2_with fail
   refine (HS.out _ _ _ h3).mono ?_;rw[G3.out];rintro e wc ⟨rfl,Qs⟩;have hBc:yT w wc:=XR.trans (Qs.mono (by omega));clear Qs;go_wp2_with fail
   go_ret;exact⟨rfl,hBc⟩
theorem Ol{n0 n2 n3:Nat}{mus n a b c:Int} :
  (dA n0 n2 n3 mus n 0 a&&(dA n0 n2 n3 mus n 0 b&&dA n0 n2 n3 mus n 0 c))=fP n0 n2 n3 mus n 1 a b c ∧
  (dA n0 n2 n3 mus n 1 a&&(dA n0 n2 n3 mus n 2 b&&dA n0 n2 n3 mus n 0 c))=fP n0 n2 n3 mus n 2 a b c ∧
  (dA n0 n2 n3 mus n 1 a&&(dA n0 n2 n3 mus n 1 b&&dA n0 n2 n3 mus n 1 c))=fP n0 n2 n3 mus n 3 a b c ∧
  (dA n0 n2 n3 mus n 1 a&&(dA n0 n2 n3 mus n 1 b&&dA n0 n2 n3 mus n 1 c))=fP n0 n2 n3 mus n 4 a b c ∧
  (dA n0 n2 n3 mus n 1 a&&(dA n0 n2 n3 mus n 1 b&&dA n0 n2 n3 mus n 1 c))=fP n0 n2 n3 mus n 5 a b c ∧
  (dA n0 n2 n3 mus n 3 a&&(dA n0 n2 n3 mus n 0 b&&dA n0 n2 n3 mus n 0 c))=fP n0 n2 n3 mus n 6 a b c ∧
  (dA n0 n2 n3 mus n 1 a&&(dA n0 n2 n3 mus n 3 b&&dA n0 n2 n3 mus n 0 c))=fP n0 n2 n3 mus n 7 a b c ∧
  (dA n0 n2 n3 mus n 4 a&&(dA n0 n2 n3 mus n 1 b&&dA n0 n2 n3 mus n 0 c))=fP n0 n2 n3 mus n 8 a b c ∧
  (dA n0 n2 n3 mus n 4 a&&(dA n0 n2 n3 mus n 1 b&&dA n0 n2 n3 mus n 1 c))=fP n0 n2 n3 mus n 9 a b c ∧
  (dA n0 n2 n3 mus n 4 a&&(dA n0 n2 n3 mus n 0 b&&dA n0 n2 n3 mus n 0 c))=fP n0 n2 n3 mus n 10 a b c ∧
  (dA n0 n2 n3 mus n 5 a&&(dA n0 n2 n3 mus n 0 b&&dA n0 n2 n3 mus n 0 c))=fP n0 n2 n3 mus n 11 a b c ∧
  (dA n0 n2 n3 mus n 6 a&&(dA n0 n2 n3 mus n 0 b&&dA n0 n2 n3 mus n 0 c))=fP n0 n2 n3 mus n 12 a b c ∧
  (dA n0 n2 n3 mus n 6 a&&(dA n0 n2 n3 mus n 0 b&&dA n0 n2 n3 mus n 0 c))=fP n0 n2 n3 mus n 13 a b c ∧
  (dA n0 n2 n3 mus n 7 a&&(dA n0 n2 n3 mus n 1 b&&dA n0 n2 n3 mus n 0 c))=fP n0 n2 n3 mus n 14 a b c ∧
  (dA n0 n2 n3 mus n 1 a&&(dA n0 n2 n3 mus n 0 b&&dA n0 n2 n3 mus n 0 c))=fP n0 n2 n3 mus n 15 a b c:=by
 refine⟨?_,?_,?_,?_,?_,?_,?_,?_,?_,?_,?_,?_,?_,?_,?_⟩;all_goals
  rw[Bool.eq_iff_iff];simp[dA,fP,fD,inB,jC,IJ];try omega
theorem D6{A0 A2 A3:Option Addr}{n0 c0 n2 c2 n3 c3:Nat}{mus n op a b c:Int}{w:World}(hC:qN w) :
  Calls Tryz.prog 302 #[.agg #[.slice A0 n0 c0,.int .i64 mus,.slice A2 n2 c2,.slice A3 n3 c3],.int .i64 n,.agg #[.int .i64 op,.int .i64 a,.int .i64 b,.int .i64 c]] w fun e w'=>e=.returned (.bool (fP n0 n2 n3 mus n op a b c))∧yT w w':=by
 by_cases h:1≤op∧op≤15
 ·have E := @Ol n0 n2 n3 mus n a b c;obtain⟨e1,e2,e3,e4,e5,e6,e7,e8,e9,XU,e11,e12,Ug,WG,e15⟩:=E;rcases FW h with rfl|rfl|rfl|rfl|rfl|rfl|rfl|rfl|rfl|rfl|rfl|rfl|rfl|rfl|rfl
  ·rw[←e1];exact fF (n1:=0) (n2':=0) (n3':=0) 1 (by decide) (by decide) (by decide) (by decide) (by decide) (hC 0 (by decide)).2.1 (hC 0 (by decide)).2.2.1 (hC 0 (by decide)).2.2.2
  ·rw[←e2];exact fF (n1:=1) (n2':=2) (n3':=0) 2 (by decide) (by decide) (by decide) (by decide) (by decide) (hC 1 (by decide)).2.1 (hC 1 (by decide)).2.2.1 (hC 1 (by decide)).2.2.2
  ·rw[←e3];exact fF (n1:=1) (n2':=1) (n3':=1) 3 (by decide) (by decide) (by decide) (by decide) (by decide) (hC 2 (by decide)).2.1 (hC 2 (by decide)).2.2.1 (hC 2 (by decide)).2.2.2
  ·rw[←e4];exact fF (n1:=1) (n2':=1) (n3':=1) 4 (by decide) (by decide) (by decide) (by decide) (by decide) (hC 3 (by decide)).2.1 (hC 3 (by decide)).2.2.1 (hC 3 (by decide)).2.2.2
  ·rw[←e5];exact fF (n1:=1) (n2':=1) (n3':=1) 5 (by decide) (by decide) (by decide) (by decide) (by decide) (hC 4 (by decide)).2.1 (hC 4 (by decide)).2.2.1 (hC 4 (by decide)).2.2.2
  ·rw[←e6];exact fF (n1:=3) (n2':=0) (n3':=0) 6 (by decide) (by decide) (by decide) (by decide) (by decide) (hC 5 (by decide)).2.1 (hC 5 (by decide)).2.2.1 (hC 5 (by decide)).2.2.2
  ·rw[←e7];exact fF (n1:=1) (n2':=3) (n3':=0) 7 (by decide) (by decide) (by decide) (by decide) (by decide) (hC 6 (by decide)).2.1 (hC 6 (by decide)).2.2.1 (hC 6 (by decide)).2.2.2
  ·rw[←e8];exact fF (n1:=4) (n2':=1) (n3':=0) 8 (by decide) (by decide) (by decide) (by decide) (by decide) (hC 7 (by decide)).2.1 (hC 7 (by decide)).2.2.1 (hC 7 (by decide)).2.2.2
  ·rw[←e9];exact fF (n1:=4) (n2':=1) (n3':=1) 9 (by decide) (by decide) (by decide) (by decide) (by decide) (hC 8 (by decide)).2.1 (hC 8 (by decide)).2.2.1 (hC 8 (by decide)).2.2.2
  ·rw[←XU];exact fF (n1:=4) (n2':=0) (n3':=0) 10 (by decide) (by decide) (by decide) (by decide) (by decide) (hC 9 (by decide)).2.1 (hC 9 (by decide)).2.2.1 (hC 9 (by decide)).2.2.2
  ·rw[←e11];exact fF (n1:=5) (n2':=0) (n3':=0) 11 (by decide) (by decide) (by decide) (by decide) (by decide) (hC 10 (by decide)).2.1 (hC 10 (by decide)).2.2.1 (hC 10 (by decide)).2.2.2
  ·rw[←e12];exact fF (n1:=6) (n2':=0) (n3':=0) 12 (by decide) (by decide) (by decide) (by decide) (by decide) (hC 11 (by decide)).2.1 (hC 11 (by decide)).2.2.1 (hC 11 (by decide)).2.2.2
  ·rw[←Ug];exact fF (n1:=6) (n2':=0) (n3':=0) 13 (by decide) (by decide) (by decide) (by decide) (by decide) (hC 12 (by decide)).2.1 (hC 12 (by decide)).2.2.1 (hC 12 (by decide)).2.2.2
  ·rw[←WG];exact fF (n1:=7) (n2':=1) (n3':=0) 14 (by decide) (by decide) (by decide) (by decide) (by decide) (hC 13 (by decide)).2.1 (hC 13 (by decide)).2.2.1 (hC 13 (by decide)).2.2.2
  ·rw[←e15];exact fF (n1:=1) (n2':=0) (n3':=0) 15 (by decide) (by decide) (by decide) (by decide) (by decide) (hC 14 (by decide)).2.1 (hC 14 (by decide)).2.2.1 (hC 14 (by decide)).2.2.2
 ·have e0:fP n0 n2 n3 mus n op a b c=false:=by
   unfold fP;repeat rw[yF (by omega)]
  rw[e0];have e1:=wL h;clear h hC e0;go_enter Tryz.func302,Tryz.ntmps302
  go_wp2_with fail
  refine (Oa _ _).mono ?_;rw[e1];rintro e w1 ⟨rfl,rfl⟩;go_wp2_with fail
  go_ret;exact⟨rfl,by go_grown⟩
end Go.Proofs.YtjcoapnggojpdaaGreatDoor
