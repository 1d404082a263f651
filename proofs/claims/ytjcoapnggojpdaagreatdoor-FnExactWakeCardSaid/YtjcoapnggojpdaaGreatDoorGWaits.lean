/- Texts of the proof, laid compactly. -/
import Derived.Maps.RangeWalk
import Derived.Test.YtjcoapnggojpdaaGreatDoorPlaceI
set_option maxHeartbeats 8000000
set_option maxRecDepth 100000
namespace Go.Proofs.YtjcoapnggojpdaaGreatDoor
set_option linter.unusedSimpArgs false
set_option linter.unusedVariables false
open Go.RowKit Go.MapKept Go.ChangeMaps
open Go.Maps (Keyed)
theorem EG:WideMaps.KeyLaw Tryz.prog 94 :=
 deep_law_laid laidOutP (m:=3) (by omega) (of_decide_eq_true (by kernel_rfl)) (by kernel_rfl) (by rw[Tryz.underlying94])
def Jg(x:b7):Lit := .string (keyBytes [.bool x.nS,.int .i64 x.iq,.bool x.gI,.int .i64 x.fG,.int .i64 x.bK,.int .i64 x.bU])
theorem size3:∃m,Tryz.prog.types.size=m+2:=⟨Tryz.prog.types.size-2,by have:2≤Tryz.prog.types.size:=of_decide_eq_true (by kernel_rfl);omega⟩
theorem LZ{x:b7}(h:DY x):keyOf Tryz.prog 94 (.agg (uZ x).toArray)=some (Jg x):=by
 obtain⟨ha,hb,hc,hd⟩:=h;obtain⟨mu,ob,sn,g,ca,va⟩:=x;simp only at ha hb hc hd;have h1:Tryz.prog.keyType 94=true:=(by kernel_rfl);have h2:(Value.agg (uZ ⟨mu,ob,sn,g,ca,va⟩).toArray).formed Tryz.prog 94=true:=by
  have:Tryz.prog.cellsOf 94=6:=(by kernel_rfl);simp[Value.formed,Tryz.underlying94,this]
 have h3:Tryz.prog.keyLits (Tryz.prog.types.size+1) 94 (uZ ⟨mu,ob,sn,g,ca,va⟩)=some [.bool mu,.int .i64 ob,.bool sn,.int .i64 g,.int .i64 ca,.int .i64 va]:=by
  obtain⟨m,hm⟩:=size3;have c1:Tryz.prog.cellsOf 94=6:=(by kernel_rfl);have c2:Tryz.prog.cellsOf 3=1:=(by kernel_rfl);have c3:Tryz.prog.cellsOf 4=1:=(by kernel_rfl);have c4:Tryz.prog.cellsOf 49=3:=(by kernel_rfl);rw[hm];simp[Program.keyLits,Tryz.underlying94,Tryz.underlying3,Tryz.underlying4,Tryz.underlying49,c1,c2,c3,c4,ha,hb,hc,hd];rw[yG (by intro i hi;match i,hi with|0,_=>simp|1,_=>simp|2,_=>simp)];rfl
 unfold keyOf;rw[Tryz.underlying94];simp only[h1,h2,Bool.and_self,if_true];show (Option.map _ (Tryz.prog.keyLits (Tryz.prog.types.size+1) 94 (uZ ⟨mu,ob,sn,g,ca,va⟩)))=_
 rw[h3];rfl
theorem CB{d:Nat}{v:Value}{l:List Lit}(h:Tryz.prog.keyLits (d+1) 3 [v]=some l):∃z,v=.int .i64 z∧(Lit.int .i64 z).wf=true∧l=[.int .i64 z]:=by
 unfold Program.keyLits at h;rw[Tryz.underlying3] at h;cases v <;> simp at h
 obtain⟨⟨rfl,hw⟩,rfl⟩:=h;exact⟨_,rfl,hw,rfl⟩
theorem JV{d:Nat}{v:Value}{l:List Lit}(h:Tryz.prog.keyLits (d+1) 4 [v]=some l):∃b,v=.bool b∧l=[.bool b]:=by
 unfold Program.keyLits at h;rw[Tryz.underlying4] at h;cases v <;> simp at h
 subst h;exact⟨_,rfl,rfl⟩
theorem OQ{d:Nat}{u v w:Value}{l:List Lit}(h:Tryz.prog.keyLits (d+2) 49 [u,v,w]=some l):∃a b c,u=.int .i64 a∧v=.int .i64 b∧w=.int .i64 c∧(Lit.int .i64 a).wf=true∧(Lit.int .i64 b).wf=true∧(Lit.int .i64 c).wf=true∧l=[.int .i64 a,.int .i64 b,.int .i64 c]:=by
 have c2:Tryz.prog.cellsOf 3=1:=(by kernel_rfl);have c4:Tryz.prog.cellsOf 49=3:=(by kernel_rfl);unfold Program.keyLits at h;rw[Tryz.underlying49] at h;simp[c2,c4,Option.bind_eq_some_iff] at h;obtain⟨la,h0,_,⟨lb,h1,_,⟨lc,h2,rfl⟩,rfl⟩,rfl⟩:=h;obtain⟨a,rfl,wa,rfl⟩:=CB h0;obtain⟨b,rfl,wb,rfl⟩:=CB h1;obtain⟨c,rfl,wc,rfl⟩:=CB h2;exact⟨a,b,c,rfl,rfl,rfl,wa,wb,wc,rfl⟩
theorem OT{v:Value}{kl:Lit}(h:keyOf Tryz.prog 94 v=some kl):∃x,v=.agg (uZ x).toArray∧DY x∧kl=Jg x:=by
 have c1:Tryz.prog.cellsOf 94=6:=(by kernel_rfl);have c2:Tryz.prog.cellsOf 3=1:=(by kernel_rfl);have c3:Tryz.prog.cellsOf 4=1:=(by kernel_rfl);have c4:Tryz.prog.cellsOf 49=3:=(by kernel_rfl);unfold keyOf at h;rw[Tryz.underlying94] at h;simp only at h;split at h
 ·rename_i hf
  rw[zT] at hf;have hf2:=hf.2;unfold Value.formed at hf2;cases v <;> simp[Tryz.underlying94] at hf2
  rename_i cs
  rw[c1] at hf2;obtain⟨l,rfl⟩:∃l:List Value,cs=l.toArray:=⟨cs.toList,by simp⟩
  simp at hf2;match l,hf2 with
  |[v0,v1,v2,v3,v4,v5],_ =>
   obtain⟨m,hm⟩:=size3;rw[hm] at h;rw[Option.map_eq_some_iff] at h;obtain⟨ls,h,rfl⟩:=h;unfold Program.keyLits at h;rw[Tryz.underlying94] at h;simp[c1,c2,c3,c4,Value.cells,Option.bind_eq_some_iff] at h;obtain⟨la,h0,_,⟨lb,h1,_,⟨lc,h2,_,⟨ld,h3,rfl⟩,rfl⟩,rfl⟩,rfl⟩:=h;obtain⟨mu,rfl,rfl⟩:=JV h0;obtain⟨ob,rfl,w1,rfl⟩:=CB h1;obtain⟨sn,rfl,rfl⟩:=JV h2;obtain⟨g,ca,va,rfl,rfl,rfl,w3,w4,w5,rfl⟩:=OQ h3;exact⟨⟨mu,ob,sn,g,ca,va⟩,rfl,⟨w1,w3,w4,w5⟩,rfl⟩
 ·cases h
theorem VY{x y:b7}(hx:DY x)(hy:DY y)(h:Jg x=Jg y):x=y:=by
 have h1:=LZ hx;rw[h] at h1;have h2:=(Keyed.of_law EG).inj h1 (LZ hy);obtain⟨mu,ob,sn,g,ca,va⟩:=x;obtain⟨mu',ob',sn',g',ca',va'⟩:=y;simp at h2;obtain⟨rfl,rfl,rfl,rfl,rfl,rfl⟩:=h2;rfl
def iT(w:World)(B:Nat)(a b:List b7):Prop :=
 ∃D:DataW Unit,w.ownsMap Tryz.prog 94 (plainElem Tryz.prog 3) B (a.length+b.length) D∧Go.Maps.IsMap D ∧
  ∀x,DY x→D.atKey (Jg x) (.lit (.int .i64 0))=.lit (.int .i64 ((a.count x:Int)-(b.count x:Int)))
theorem iT.keep{w w':World}{B:Nat}{a b:List b7}(h:iT w B a b)(hk:w'.heap[B]? =w.heap[B]?):iT w' B a b:=by
 obtain⟨D,⟨es,clock,hb,F,hs,hD⟩,h2⟩:=h;exact⟨D,⟨es,clock,hk.trans hb,F,hs,hD⟩,h2⟩
theorem iT.lt{w:World}{B:Nat}{a b:List b7}(h:iT w B a b):B<w.heap.size:=by
 obtain⟨D,h,_⟩:=h;exact h.lt
theorem iT.made(w:World):iT (w.alloc (.map #[] 0)) w.heap.size [] [] :=
 ⟨.map [],World.ownsMap_made _ _ _ _,⟨[],rfl⟩,fun x _=>by simp[DataW.atKey]⟩
theorem iT.bump{w:World}{B:Nat}{a b:List b7}{x:b7}(h:iT w B a b)(hx:DY x)(hl:a.length+b.length≤4194304) :
  ∃(c:Int) (st:Nat) (w1:World),(Go.Instr.lookup 253 (.map (some B)) (.agg (uZ x).toArray) false).run Tryz.prog w=.ok (.int .i64 c) w ∧
   (Go.Instr.mapEntry 253 (.map (some B)) (.agg (uZ x).toArray)).run Tryz.prog w=.ok (.tuple #[.int .i64 c,.int .i64 st]) w1 ∧
   (Go.Instr.lookup 253 (.map (some B)) (.agg (uZ x).toArray) false).run Tryz.prog w1=.ok (.int .i64 c) w1∧(-4194304≤c∧c≤4194304) ∧
   (∃w3,(Go.Instr.entryStore 253 (.map (some B)) (.int .i64 st) (.int .i64 (c+1))).run Tryz.prog w1=.ok () w3∧iT w3 B (a++[x]) b∧w.grownBy w3 (some B)) ∧
   (∃w3,(Go.Instr.entryStore 253 (.map (some B)) (.int .i64 st) (.int .i64 (c-1))).run Tryz.prog w1=.ok () w3∧iT w3 B a (b++[x])∧w.grownBy w3 (some B)):=by
 obtain⟨D,hown,hD,hat⟩:=h;have hk:=LZ hx;obtain⟨c,st,w1,hc,hwc,hl0,VF,Rk,hst⟩:=bump_any EG Tryz.underlying253 Tryz.underlying3 Lm hown (by unfold maxLen;omega) hk;have hca:=List.count_le_length (a:=x) (l:=a);have hcb:=List.count_le_length (a:=x) (l:=b);have hcc:c=(a.count x:Int)-(b.count x:Int):=by
  have:=hat x hx;rw[hc] at this;injection this with this
  injection this
 have hput:∀(d:Int) (y:b7),DY y→(D.put (Jg x) (.lit (.int .i64 d))).atKey (Jg y) (.lit (.int .i64 0))=if y=x then .lit (.int .i64 d) else .lit (.int .i64 ((a.count y:Int)-(b.count y:Int))):=by
  intro d y hy;by_cases he:y=x
  ·subst he;rw[yG rfl];exact Go.Maps.atKey_put_same hD (by unfold Jg;trivial) _ _
  ·rw[yF he,Go.Maps.atKey_put_other (fun e=>he (VY hy hx e)),hat y hy]
 refine⟨c,st,w1,hl0,VF,Rk,by omega,?_,?_⟩
 ·obtain⟨w3,h1,h2,h3⟩:=hst (c+1) (WalkArith.wf_i64 (by omega));refine⟨w3,h1,⟨_,by rw[zZ];have e:a.length+[x].length+b.length=a.length+b.length+1:=(by simp;omega);rw[e];exact h2,Go.Maps.IsMap.put hD _ _,fun y hy => ?_⟩,h3⟩
  rw[hput _ y hy,List.count_append];by_cases he:y=x
  ·subst he;rw[yG rfl,hcc];simp[List.count_cons];omega
  ·rw[yF he];simp[List.count_cons,Ne.symm he]
 ·obtain⟨w3,h1,h2,h3⟩:=hst (c-1) (WalkArith.wf_i64 (by omega));refine⟨w3,h1,⟨_,by rw[zZ];exact h2,Go.Maps.IsMap.put hD _ _,fun y hy => ?_⟩,h3⟩;rw[hput _ y hy,List.count_append];by_cases he:y=x
  ·subst he;rw[yG rfl,hcc];simp[List.count_cons];omega
  ·rw[yF he];simp[List.count_cons,Ne.symm he]
theorem rY{w w':World}{B:Nat}(h:w.grownBy w' (some B)):Turned B (B+1) w w' :=
 ⟨h.os,h.tape,h.output,h.size,fun i hi ho=>h.block i hi (by simp;omega)⟩
theorem VZ{w:World}{B n cp c9:Nat}{A:Option Addr}{a b ps:List b7}{F:Nat→Prop}(h:iT w B a b)(hs:aB lU 94 w F A n c9 ps)(hF:∀g,F g→B<g∧g<w.heap.size)(hn:n≤1048576)(hl:a.length+n+b.length≤4194304)(hw:∀x∈ps,DY x) :
  Calls Tryz.prog 201 #[.map (some B),.slice A n cp] w fun e w'=>e=.returned (.tuple #[])∧iT w' B (a++ps) b∧Turned B (B+1) w w':=by
 have HL:=zA hs.1;have HW:=zA hw;have HS:=zA (fun (W:World) (hW:Turned B (B+1) w W)=>(hs.stay (w':=W) (fun g hg hlt=>hW.block g hlt (.inr (by have:=hF g hg;omega))) hW.size).seen (hi:=W.heap.size) (fun g hg=>by have:=hF g hg;have:=hW.size;omega));go_enter Tryz.func201,Tryz.ntmps201
 go_wp2_with fail
 go_loopw[8] (fun i wr=>∃k:Nat,k≤n∧i=.int .i64 k∧iT wr B (a++ps.take k) b∧Turned B (B+1) w wr) (fun i _=>n-(intOf i).toNat)
 case atStart=>exact⟨0,zL _,rfl,by simpa using h,Turned.refl _ _ _⟩
 case round =>
  obtain⟨k,hk,rfl,hr,ht⟩:=hrel;by_cases hlt:k<n
  ·obtain⟨hx,g,o,vs,rfl,hg,⟨rfl,hwx⟩,hcell⟩:=(HS.out wr ht).at_ hlt;have jh:=zA (zG hx);generalize ps[k]=x at *;have dK:=hcell 0 _ rfl;have eu:=hcell 1 _ rfl;have ig:=hcell 2 _ rfl;have jf:=hcell 3 _ rfl;have lS:=hcell 4 _ rfl;have WJ:=hcell 5 _ rfl;simp only[show lU.size=6 from rfl,←zH,zI] at dK eu ig jf lS WJ;clear hcell;have D_:=hr.lt;have hb0:yT wr (wr.alloc (.cells (uZ x).toArray 94)).drew:=((zD _ _).alloc (zC _) _).drew;obtain⟨c,st,w1,l0,ent,l1,hcr,⟨w3,hst,hr3,hg3⟩,-⟩:=iT.bump (hr.keep (w':=(wr.alloc (.cells (uZ x).toArray 94)).drew) (hb0.block _ D_)) hwx (by rw[zZ,List.length_take];omega);have hwr:wrap64 (c+1)=c+1:=(by unfold wrap64;omega);have xy:=zA hr3;have HT3:=zA (ht.trans ((Turned.of_below hb0 B (B+1)).trans (rY hg3)));clear hr3 hg3 hr;go_wp2
   go_region
   all_goals
    go_wp2
    go_roundw
    case rel=>exact⟨k+1,by omega,by go_num,by rw[List.take_add_one,jh.out];simpa using xy.out,HT3.out⟩
    case measure=>simp[intOf];omega
  ·obtain rfl:k=n:=(by omega);rw[zU (by rw[HL.out];exact zC _)] at hr;have HR:=zA hr;clear hr;go_wp2_with fail
   refine bodyPost_end (v := .tuple #[]) ?_ rfl ?_;·simp[results,Tryz.results201,go_sem]
   exact⟨rfl,HR.out,ht⟩
theorem QQ{w:World}{B:Nat}{a b:List b7}(h:iT w B a b)(ha:∀x∈a,DY x)(hb:∀x∈b,DY x) :
  Calls Tryz.prog 204 #[.map (some B)] w fun e w'=>e=.returned (.bool (decide (a.Perm b)))∧yT w w':=by
 obtain⟨D,hown,hD,hat⟩:=h;have HA:=zA hat;have HWA:=zA ha;have HWB:=zA hb;have HB:=zA hown.lt;clear hat ha hb;go_enter Tryz.func204,Tryz.ntmps204
 go_wp2_with (first|(at_range;refine wpList_range_own _ rfl _ 253 rfl 94 3 (Keyed.of_law EG) Tryz.underlying253 _ B _ D rfl hown ?_;intro w0 hrg0 hg0 hs0)|go_in)
 go_frame
 go_loopw[4] (fun _ wr=>∃(left:Lit→Bool) (cnt:Nat),wr.ranges Tryz.prog 94 (plainElem Tryz.prog 3) B w.heap.size (a.length+b.length) D left cnt∧Hid (∀y,DY y→left (Jg y)=false→D.atKey (Jg y) (.lit (.int .i64 0))=.lit (.int .i64 0))∧yT w wr) (fun _ wr=>wr.rangeLeft B w.heap.size)
 case atStart=>exact⟨_,_,hrg0,zA (fun y _ hl=>Go.Maps.atKey_of_not_has hl _),⟨hg0.os,hg0.tape,hg0.output,hg0.size,fun i hi=>hg0.block i hi (by simp)⟩⟩
 case round =>
  obtain⟨left,cnt,hrg,HZ,hbr⟩:=hrel;go_wp2_with (first|(at_next;refine wpList_next_ranges _ rfl _ rfl 94 (Keyed.of_law EG) (plainElem Tryz.prog 3) (fun x:b7 => .agg (uZ x).toArray) (Value.int .i64) (fun key kl hkey=>by obtain⟨x,hx,-,-⟩:=OT hkey;exact⟨x,hx⟩) (fun v y hv=>by obtain⟨c,rfl,_⟩:=plainElem_int_inv Tryz.underlying3 hv;exact⟨c,rfl⟩) B w.heap.size _ D left cnt rfl hrg ?_ ?_)|go_in)
  ·intro hc0 hl0;have HR:=zA (show decide (a.Perm b)=true from yE ((JE a b).2 fun y=>by
    by_cases hy:DY y
    ·have h1:=HZ.out y hy (hl0 _);rw[HA.out y hy] at h1;injection h1 with h1
     injection h1
    ·rw[List.count_eq_zero.2 (fun hm=>hy (HWA.out y hm)),List.count_eq_zero.2 (fun hm=>hy (HWB.out y hm))];rfl))
   clear HZ hrg;go_wp2_with fail
   go_ret;exact⟨by rw[HR.out];rfl,hbr⟩
  ·intro x c kl y1 y2 w1 cnt1 hkey hlk hv hat hrg1 hlt hg1 hs1 hen;obtain⟨x',hx',hwx,rfl⟩:=OT hkey;have EI:x=x':=by
    obtain⟨mu,ob,sn,g,ca,va⟩:=x;obtain⟨mu',ob',sn',g',ca',va'⟩:=x';simp at hx';obtain⟨rfl,rfl,rfl,rfl,rfl,rfl⟩:=hx';rfl
   subst EI;obtain⟨c',ec,ez,hwc⟩:=plainElem_int_inv Tryz.underlying3 hv;injection ec with _ ec
   subst ec;injection ez with ez1 ez2
   subst ez1 ez2;have HAT:=zA hat;have hb1:yT w w1:=hbr.trans ⟨hg1.os,hg1.tape,hg1.output,hg1.size,fun i hi=>hg1.block i (by have:=hbr.size;omega) (by simp;omega)⟩;have iC:=zA hb1;have ajL:=zA hrg1;have HM:=zA (show w1.rangeLeft B w.heap.size<wr.rangeLeft B w.heap.size by rw[hrg1.left_eq,hrg.left_eq];exact hlt);clear hat hb1 hrg1 hv hkey hx';by_cases h0:c=0
   ·subst h0;go_wp2_with fail
    go_roundw
    case rel =>
     refine⟨_,_,ajL.out,zA (fun y hy hl => ?_),iC.out⟩;simp only[Bool.and_eq_false_iff,Bool.not_eq_false'] at hl;rcases hl with hl|hl
     ·exact HZ.out y hy hl
     ·rw[WideAt.sameKey_eq hl];exact HAT.out _
    case measure=>exact HM.out
   ·have q0:(c != 0)=true:=(by simp[h0]);have HR:=zA (show decide (a.Perm b)=false from yD (fun hp=>h0 (by
     have h1:=(JE a b).1 hp x;have h2:=HA.out x hwx;rw[HAT.out] at h2;injection h2 with h2
     injection h2 with _ h2
     omega)))
    clear h0;go_wp2_with fail
    go_ret;exact⟨by rw[HR.out];rfl,iC.out⟩
theorem L8{w:World}{B hi:Nat}{a b:List b7}{x:gy}{vs:List Value}{num:Int}(h:iT w B a b)(hs:bD.see w hi x vs)(cu:hi≤w.heap.size)(hB:hi≤B)(hl:a.length+b.length+dN x≤4194304)(Yf:(Lit.int .i64 num).wf=true) :
  Calls Tryz.prog 202 #[.map (some B),.int .i64 num,.agg vs.toArray] w fun e w'=>e=.returned (.tuple #[])∧iT w' B a (b++wH num x)∧Turned B (B+1) w w':=by
 obtain⟨A1,n1,c1,A2,n2,c2,A3,n3,c3,rfl,-,-,⟨hc2,jY,s2⟩,⟨hc3,Be,s3⟩⟩:=jF hs;have WM:=zA s2.1;have HL3:=zA s3.1;have o8:n2≤4194304:=by have:=s2.1;unfold dN at hl;omega
 have wG:n3≤4194304:=by have:=s3.1;unfold dN at hl;omega
 have hl2:a.length+b.length+n2+n3≤4194304:=by have:=s2.1;have:=s3.1;unfold dN at hl;omega
 have hBw:=h.lt;have hb0:yT w (w.alloc (.cells #[.int .i64 x.dC,.slice A1 n1 c1,.slice A2 n2 c2,.slice A3 n3 c3,.bool x.aC] 135)):=(zD _ _).alloc (zC _) _;have oG:=ak w #[.int .i64 x.dC,.slice A1 n1 c1,.slice A2 n2 c2,.slice A3 n3 c3,.bool x.aC] 135;have XX:=h.keep (hb0.block _ hBw);have hz0:(w.alloc (.cells #[.int .i64 x.dC,.slice A1 n1 c1,.slice A2 n2 c2,.slice A3 n3 c3,.bool x.aC] 135)).heap.size=w.heap.size+1:=(by simp);have Fa:=zA (fun (W:World) (hW:Turned B (B+1) (w.alloc (.cells #[.int .i64 x.dC,.slice A1 n1 c1,.slice A2 n2 c2,.slice A3 n3 c3,.bool x.aC] 135)) W)=>(s2.below hb0 cu).keep (w':=W) fun k hk=>hW.block k (by omega) (.inl (by omega)));have PU:=zA (fun (W:World) (hW:Turned B (B+1) (w.alloc (.cells #[.int .i64 x.dC,.slice A1 n1 c1,.slice A2 n2 c2,.slice A3 n3 c3,.bool x.aC] 135)) W)=>(s3.below hb0 cu).keep (w':=W) fun k hk=>hW.block k (by omega) (.inl (by omega)));have HBX:=zA (fun (W:World) (hW:Turned B (B+1) (w.alloc (.cells #[.int .i64 x.dC,.slice A1 n1 c1,.slice A2 n2 c2,.slice A3 n3 c3,.bool x.aC] 135)) W)=>show W.heap[w.heap.size]? =some (.cells #[.int .i64 x.dC,.slice A1 n1 c1,.slice A2 n2 c2,.slice A3 n3 c3,.bool x.aC] 135 (0,0)) from by rw[hW.block w.heap.size (by omega) (.inr (by omega))];exact oG);have gW:=zA (Turned.of_below hb0 B (B+1));clear h hs s2 s3 hb0;go_enter Tryz.func202,Tryz.ntmps202
 go_upto_region 1 with (fail)
 generalize hW0:(w.alloc (.cells #[.int .i64 x.dC,.slice A1 n1 c1,.slice A2 n2 c2,.slice A3 n3 c3,.bool x.aC] 135))=W0 at *;clear hW0;have x2:=ae (j:=2) oG rfl;have ht0:=Turned.refl B (B+1) W0;go_wp2_with fail
 clear x2;go_loopw[13] (fun i wr=>∃k:Nat,k≤n2∧i=.int .i64 k∧iT wr B a (b++(x.dh.take k).map (um num true))∧Turned B (B+1) W0 wr) (fun i _=>n2-(intOf i).toNat)
 case atStart=>exact⟨0,zL _,rfl,by simpa using XX,ht0⟩
 case round =>
  rename World=>wr
  obtain⟨k,hk,rfl,hr,ht⟩:=hrel;by_cases hlt:k<n2
  ·obtain⟨hx,g,o,vs,rfl,hg,⟨rfl,hwx⟩,hcell⟩:=(Fa.out wr ht).at_ hlt;have jh:=zA (zG hx);generalize x.dh[k]=d at *;have dK:=hcell 0 _ rfl;have eu:=hcell 1 _ rfl;have ig:=hcell 2 _ rfl;simp only[show aN.size=3 from rfl,←zH,zI] at dK eu ig;clear hcell;have D_:=hr.lt;have hb0:yT wr (wr.alloc (.cells #[.int .i64 d.fG,.int .i64 d.bK,.int .i64 d.bU] 49)).drew:=((zD _ _).alloc (zC _) _).drew;obtain⟨c,st,w1,l0,ent,l1,hcr,-,⟨w3,hst,hr3,hg3⟩⟩:=iT.bump (x:=um num true d) (hr.keep (w':=(wr.alloc (.cells #[.int .i64 d.fG,.int .i64 d.bK,.int .i64 d.bU] 49)).drew) (hb0.block _ D_)) ⟨Yf,hwx.1,hwx.2.1,hwx.2.2⟩ (by simp only[zZ,yL,List.length_take];omega);simp only[uZ,um] at l0 ent l1;have hwr:wrap64 (c-1)=c-1:=(by unfold wrap64;omega);have xy:=zA hr3;have HT3:=zA (ht.trans ((Turned.of_below hb0 B (B+1)).trans (rY hg3)));clear hr3 hg3 hr;go_wp2
   go_region
   all_goals
    go_wp2
    go_roundw
    case rel=>exact⟨k+1,by omega,by go_num,by rw[List.take_add_one,jh.out,Option.toList_some,List.map_append,←List.append_assoc];exact xy.out,HT3.out⟩
    case measure=>simp[intOf];omega
  ·obtain rfl:k=n2:=(by omega);rw[zU (by rw[WM.out];exact zC _)] at hr;have x3:=ae (j:=3) (HBX.out wr ht) rfl;have XX:iT wr B a (b++x.dh.map (um num true)):=hr;have ht0:=ht;clear hr ht;go_wp2_with fail
   clear x3;go_loopw[29] (fun i wr=>∃k:Nat,k≤n3∧i=.int .i64 k∧iT wr B a (b++x.dh.map (um num true)++(x.dG.take k).map (um num false))∧Turned B (B+1) W0 wr) (fun i _=>n3-(intOf i).toNat)
   case atStart=>exact⟨0,zL _,rfl,by simpa using XX,ht0⟩
   case round =>
    rename World=>wr
    obtain⟨k,hk,rfl,hr,ht⟩:=hrel;by_cases hlt:k<n3
    ·obtain⟨hx,g,o,vs,rfl,hg,⟨rfl,hwx⟩,hcell⟩:=(PU.out wr ht).at_ hlt;have jh:=zA (zG hx);generalize x.dG[k]=d at *;have dK:=hcell 0 _ rfl;have eu:=hcell 1 _ rfl;have ig:=hcell 2 _ rfl;simp only[show aN.size=3 from rfl,←zH,zI] at dK eu ig;clear hcell;have D_:=hr.lt;have hb0:yT wr (wr.alloc (.cells #[.int .i64 d.fG,.int .i64 d.bK,.int .i64 d.bU] 49)).drew:=((zD _ _).alloc (zC _) _).drew;obtain⟨c,st,w1,l0,ent,l1,hcr,-,⟨w3,hst,hr3,hg3⟩⟩:=iT.bump (x:=um num false d) (hr.keep (w':=(wr.alloc (.cells #[.int .i64 d.fG,.int .i64 d.bK,.int .i64 d.bU] 49)).drew) (hb0.block _ D_)) ⟨Yf,hwx.1,hwx.2.1,hwx.2.2⟩ (by simp only[zZ,yL,List.length_take];have:=WM.out;omega);simp only[uZ,um] at l0 ent l1;have hwr:wrap64 (c-1)=c-1:=(by unfold wrap64;omega);have xy:=zA hr3;have HT3:=zA (ht.trans ((Turned.of_below hb0 B (B+1)).trans (rY hg3)));clear hr3 hg3 hr;go_wp2
     go_region
     all_goals
      go_wp2
      go_roundw
      case rel=>exact⟨k+1,by omega,by go_num,by rw[List.take_add_one,jh.out,Option.toList_some,List.map_append,←List.append_assoc];exact xy.out,HT3.out⟩
      case measure=>simp[intOf];omega
    ·obtain rfl:k=n3:=(by omega);rw[zU (by rw[HL3.out];exact zC _)] at hr;have HR:=zA hr;clear hr;go_wp2_with fail
     refine bodyPost_end (v := .tuple #[]) ?_ rfl ?_;·simp[results,Tryz.results202,go_sem]
     exact⟨rfl,by unfold wH;rw[←List.append_assoc];exact HR.out,gW.out.trans ht⟩
theorem Jh{w:World}{B hi:Nat}{a b:List b7}{x:eQ}{vs:List Value}{num:Int}(h:iT w B a b)(hs:aX.see w hi x vs)(cu:hi≤w.heap.size)(hB:hi≤B)(hl:a.length+b.length+dO x≤4194304)(Yf:(Lit.int .i64 num).wf=true) :
  Calls Tryz.prog 203 #[.map (some B),.int .i64 num,.agg vs.toArray] w fun e w'=>e=.returned (.tuple #[])∧iT w' B a (b++x.iW.map (IG num))∧Turned B (B+1) w w':=by
 obtain⟨A1,n1,c1,rfl,-,⟨hc1,hm1,s1⟩⟩:=iQ hs;have HL:=zA s1.1;have Zm:n1≤4194304:=by have:=s1.1;unfold dO at hl;omega
 have hl2:a.length+b.length+n1≤4194304:=by have:=s1.1;unfold dO at hl;omega
 have hBw:=h.lt;have hb0:yT w (w.alloc (.cells #[.int .i64 x.dm,.slice A1 n1 c1] 137)):=(zD _ _).alloc (zC _) _;have oG:=ak w #[.int .i64 x.dm,.slice A1 n1 c1] 137;have XX:=h.keep (hb0.block _ hBw);have hz0:(w.alloc (.cells #[.int .i64 x.dm,.slice A1 n1 c1] 137)).heap.size=w.heap.size+1:=(by simp);have HS:=zA (fun (W:World) (hW:Turned B (B+1) (w.alloc (.cells #[.int .i64 x.dm,.slice A1 n1 c1] 137)) W)=>(s1.below hb0 cu).keep (w':=W) fun k hk=>hW.block k (by omega) (.inl (by omega)));have gW:=zA (Turned.of_below hb0 B (B+1));clear h hs s1 hb0;go_enter Tryz.func203,Tryz.ntmps203
 go_upto_region 1 with (fail)
 generalize hW0:(w.alloc (.cells #[.int .i64 x.dm,.slice A1 n1 c1] 137))=W0 at *;clear hW0;have x1:=ae (j:=1) oG rfl;have ht0:=Turned.refl B (B+1) W0;go_wp2_with fail
 clear x1;go_loopw[11] (fun i wr=>∃k:Nat,k≤n1∧i=.int .i64 k∧iT wr B a (b++(x.iW.take k).map (IG num))∧Turned B (B+1) W0 wr) (fun i _=>n1-(intOf i).toNat)
 case atStart=>exact⟨0,zL _,rfl,by simpa using XX,ht0⟩
 case round =>
  rename World=>wr
  obtain⟨k,hk,rfl,hr,ht⟩:=hrel;by_cases hlt:k<n1
  ·obtain⟨hx,g,o,vs,rfl,hg,⟨rfl,hwx⟩,hcell⟩:=(HS.out wr ht).at_ hlt;have jh:=zA (zG hx);generalize x.iW[k]=d at *;have dK:=hcell 0 _ rfl;simp only[Lay.int,Lay.flat,zI,zK] at dK;clear hcell;have D_:=hr.lt;have hlen:a.length+(b++(x.iW.take k).map (IG num)).length≤4194304:=by simp only[zZ,yL,List.length_take];omega
   have HLEN:=zA hlen;have Vt:=zA (fun (W:World) (hW:Below wr.heap.size wr.drew W)=>iT.bump (x:=IG num d) (hr.keep (w':=W) (hW.block _ D_)) ⟨Yf,hwx,N1,XE⟩ hlen);have HTR:=zA ht;have yX:=zA (show ∀W,iT W B a (b++(x.iW.take k).map (IG num)++[IG num d])→iT W B a (b++(x.iW.take (k+1)).map (IG num)) from fun W hW=>by rw[List.take_add_one,jh.out,Option.toList_some,List.map_append,←List.append_assoc];exact hW);clear hr ht jh;go_wp2_with fail
   go_region_with (go_at_call 208;refine (AA num d _).mono ?_;rintro e w5 ⟨rfl,hb5⟩;obtain⟨c,st,w1,l0,ent,l1,hcr,-,⟨w3,hst,hr3,hg3⟩⟩:=Vt.out w5 hb5;have hwr:wrap64 (c-1)=c-1:=(by unfold wrap64;omega);have hwk:IntKind.i64.wrap (c-1)=c-1:=((IntKind.wrap_i64 _).trans (by omega));have xy:=zA hr3;have HT3:=zA (HTR.out.drew.trans ((Turned.of_below hb5 B (B+1)).trans (rY hg3)));clear hr3 hg3 hb5)
   all_goals
    go_wp2_with fail
    go_roundw
    case rel=>exact⟨k+1,by omega,by go_num,yX.out _ xy.out,HT3.out⟩
    case measure=>simp[intOf];omega
  ·obtain rfl:k=n1:=(by omega);rw[zU (by rw[HL.out];exact zC _)] at hr;have HR:=zA hr;clear hr;go_wp2_with fail
   refine bodyPost_end (v := .tuple #[]) ?_ rfl ?_;·simp[results,Tryz.results203,go_sem]
   exact⟨rfl,HR.out,gW.out.trans ht⟩
theorem QR(k:Int)(c:gy):(wH k c).length≤dN c:=by
 unfold wH dN;simp;try omega
theorem uB{cs:List gy}{k:Nat}{c:gy}(h:cs[k]? =some c):k7 cs (k+1)=k7 cs k++wH k c:=by
 unfold k7;rw[vF,h]
theorem uC{ms:List eQ}{k:Nat}{m:eQ}(h:ms[k]? =some m):oW ms (k+1)=oW ms k++m.iW.map (IG k):=by
 unfold oW;rw[vF,h]
theorem uD{p:aS}{gs:List bY}{k:Nat}{g:bY}(h:gs[k]? =some g):nX p gs (k+1)=nX p gs k++toldOf p g k:=by
 unfold nX;rw[vF,h]
theorem qK{cs:List gy}:∀k,k≤cs.length→(k7 cs k).length≤((cs.take k).map dN).sum
 |0,_=>by simp[k7]
 |k+1,hk=>by
  have h1:=qK k (by omega:k≤cs.length);have h2:cs[k]? =some cs[k]:=zG (by omega);rw[uB h2,zZ,jQ h2];have:=QR k cs[k];omega
theorem wS{ms:List eQ}:∀k,k≤ms.length→(oW ms k).length≤((ms.take k).map dO).sum
 |0,_=>by simp[oW]
 |k+1,hk=>by
  have h1:=wS k (by omega:k≤ms.length);have h2:ms[k]? =some ms[k]:=zG (by omega);rw[uC h2,zZ,yL,jQ h2];have:dO ms[k]=ms[k].iW.length:=rfl;omega
theorem BC{p:aS}{g:bY}{n:Int}(hp:dH p=true)(hg:nJ (dn p g.ax) g=true):(toldOf p g n).length≤4:=by
 unfold toldOf;split
 ·exact Dp hp hg
 ·simp
theorem BD{p:aS}(hp:dH p=true){gs:List bY}(hg:∀g∈gs,nJ (dn p g.ax) g=true):∀k,k≤gs.length→(nX p gs k).length≤4*k
 |0,_=>by simp[nX]
 |k+1,hk=>by
  have h1:=BD hp hg k (by omega:k≤gs.length);have h2:gs[k]? =some gs[k]:=zG (by omega);rw[uD h2,zZ];have:=BC (n:=k) hp (hg _ (zS (by omega:k<gs.length)));omega
theorem JW{p:aS}{g:bY}{n:Int}(hp:dH p=true)(hg:nJ (dn p g.ax) g=true)(hn:(Lit.int .i64 n).wf=true):∀x∈toldOf p g n,DY x:=by
 intro x hx;unfold toldOf at hx;split at hx
 ·exact Bi hp hg hn x hx
 ·cases hx
theorem JU{p:aS}(hp:dH p=true){gs:List bY}(hl:gs.length≤1048576)(hg:∀g∈gs,nJ (dn p g.ax) g=true):∀x∈nX p gs gs.length,DY x:=by
 intro x hx;unfold nX at hx;obtain⟨j,hj,hx⟩:=List.mem_flatMap.1 hx;have Ii:=List.mem_range.1 hj;rw[zG Ii] at hx;exact JW hp (hg _ (zS Ii)) (WalkArith.wf_i64 (by omega)) x hx
theorem OU{w:World}{hi n:Nat}{A:Option Addr}{l:List di}(h:a_ aN w hi A n l):∀d∈l,(Lit.int .i64 d.fG).wf=true∧(Lit.int .i64 d.bK).wf=true∧(Lit.int .i64 d.bU).wf=true:=by
 intro d hd;obtain⟨i,hi9⟩:=List.getElem?_of_mem hd;have h8:=(zO.1 hi9)
 obtain⟨hx,g,o,ws,-,-,⟨rfl,hw⟩,-⟩:=h.at_ (i:=i) (by rw[←h.1];exact h8.1);rw[h8.2] at hw;exact hw
theorem JR{w:World}{hi n:Nat}{A:Option Addr}{cs:List gy}(h:a_ bD w hi A n cs)(hn:n≤1048576):∀x∈k7 cs cs.length,DY x:=by
 intro x hx;unfold k7 at hx;obtain⟨j,hj,hx⟩:=List.mem_flatMap.1 hx;have Ii:=List.mem_range.1 hj;rw[zG Ii] at hx;have hjn:j<n:=by rw[←h.1];exact Ii
 obtain⟨_,g,o,ws,-,-,aW,-⟩:=h.at_ hjn;obtain⟨A1,n1,c1,A2,n2,c2,A3,n3,c3,rfl,-,-,⟨-,-,s2⟩,⟨-,-,s3⟩⟩:=jF aW;have hk:(Lit.int .i64 ((j:Nat):Int)).wf=true:=WalkArith.wf_i64 (by omega);unfold wH at hx;rcases List.mem_append.1 hx with hx|hx
 ·obtain⟨d,hd,rfl⟩:=List.mem_map.1 hx;have h9:=OU s2 d hd;exact⟨hk,h9.1,h9.2.1,h9.2.2⟩
 ·obtain⟨d,hd,rfl⟩:=List.mem_map.1 hx;have h9:=OU s3 d hd;exact⟨hk,h9.1,h9.2.1,h9.2.2⟩
theorem JS{w:World}{hi n:Nat}{A:Option Addr}{ms:List eQ}(h:a_ aX w hi A n ms)(hn:n≤1048576):∀x∈oW ms ms.length,DY x:=by
 intro x hx;unfold oW at hx;obtain⟨j,hj,hx⟩:=List.mem_flatMap.1 hx;have Ii:=List.mem_range.1 hj;rw[zG Ii] at hx;have hjn:j<n:=by rw[←h.1];exact Ii
 obtain⟨_,g,o,ws,-,-,aW,-⟩:=h.at_ hjn;obtain⟨A1,n1,c1,rfl,-,⟨-,-,s1⟩⟩:=iQ aW;obtain⟨d,hd,rfl⟩:=List.mem_map.1 hx;obtain⟨i,hi9⟩:=List.getElem?_of_mem hd;have h8:=(zO.1 hi9)
 obtain⟨hx,g,o,ws,-,-,⟨rfl,hw⟩,-⟩:=s1.at_ (i:=i) (by rw[←s1.1];exact h8.1);rw[h8.2] at hw;exact⟨WalkArith.wf_i64 (by simp only[IG];omega),hw,N1,XE⟩
theorem Ed{w:World}{hi:Nat}{p:aS}{x:dY}{vs us:List Value}(hp:aV.see w hi p vs)(he:bZ.see w hi x us)(cu:hi≤w.heap.size)(nH:dV p≤1048576)(hne:dS x≤1048576)(m8:dH p=true)(AX:∀g∈x.bJ,nJ (dn p g.ax) g=true) :
  Calls Tryz.prog 116 #[.agg vs.toArray,.agg us.toArray] w fun e w'=>e=.returned (.bool (decide ((Cb p x).Perm (qm x))))∧yT w w':=by
 have rM:=zA (fun (W:World) (hW:∀k,k<w.heap.size→W.heap[k]? =w.heap[k]?)=>aV.keep hp (w':=W) fun k hk=>hW k (by omega));obtain⟨A0,n0,c0,B2,m2,d2,A3,n3,c3,rfl,-⟩:=fH hp;obtain⟨A4,n4,c4,A5,n5,c5,A6,n6,c6,rfl,⟨hc4,hm4,s4⟩,⟨hc5,hm5,s5⟩,⟨hc6,hm6,s6⟩⟩:=iV he;obtain⟨gs,cs,ms⟩:=x;simp only at s4 s5 s6 AX;have L4:=s4.1;have L5:=s5.1;have L6:=s6.1;have hz:n4+(gs.map bV).sum+(n5+(cs.map dN).sum)+(n6+(ms.map dO).sum)≤1048576:=by unfold dS at hne;simp only at hne;omega
 have Ri:=zA (JU m8 (by omega) AX);have HWF:=zA (show ∀y∈k7 cs cs.length++oW ms ms.length,DY y from fun y hy=>by
  rcases List.mem_append.1 hy with hy|hy
  ·exact JR s5 (by omega) y hy
  ·exact JS s6 (by omega) y hy)
 have HS4:=zA (fun (W:World) (hW:∀k,k<w.heap.size→W.heap[k]? =w.heap[k]?)=>s4.keep (w':=W) fun k hk=>hW k (by omega));have WL:=zA (fun (W:World) (hW:∀k,k<w.heap.size→W.heap[k]? =w.heap[k]?)=>s5.keep (w':=W) fun k hk=>hW k (by omega));have HS6:=zA (fun (W:World) (hW:∀k,k<w.heap.size→W.heap[k]? =w.heap[k]?)=>s6.keep (w':=W) fun k hk=>hW k (by omega));have Uk:=zA AX;have Ut:=zA L4;have R7:=zA L5;have VV:=zA L6;clear hp he AX s4 s5 s6 hne L4 L5 L6;unfold Cb qm;simp only;have hB0:yT w ((w.alloc (.cells #[.slice A0 n0 c0,.int .i64 p.ay,.slice B2 m2 d2,.slice A3 n3 c3] 46)).alloc (.cells #[.slice A4 n4 c4,.slice A5 n5 c5,.slice A6 n6 c6] 40)):=((zD _ _).alloc (zC _) _).alloc (by simp) _;have lG:=af (ak w #[.slice A0 n0 c0,.int .i64 p.ay,.slice B2 m2 d2,.slice A3 n3 c3] 46) ((zD _ _).alloc (zC _) (.cells #[.slice A4 n4 c4,.slice A5 n5 c5,.slice A6 n6 c6] 40)) (by simp);have mX:=ak (w.alloc (.cells #[.slice A0 n0 c0,.int .i64 p.ay,.slice B2 m2 d2,.slice A3 n3 c3] 46)) #[.slice A4 n4 c4,.slice A5 n5 c5,.slice A6 n6 c6] 40;rw[zF] at mX;have hz0:((w.alloc (.cells #[.slice A0 n0 c0,.int .i64 p.ay,.slice B2 m2 d2,.slice A3 n3 c3] 46)).alloc (.cells #[.slice A4 n4 c4,.slice A5 n5 c5,.slice A6 n6 c6] 40)).heap.size=w.heap.size+2:=(by simp);have hmm := @run_makeMap Tryz.prog;go_enter Tryz.func116,Tryz.ntmps116
 go_upto_region 1 with (fail)
 generalize ((w.alloc (.cells #[.slice A0 n0 c0,.int .i64 p.ay,.slice B2 m2 d2,.slice A3 n3 c3] 46)).alloc (.cells #[.slice A4 n4 c4,.slice A5 n5 c5,.slice A6 n6 c6] 40))=W0 at *;have hr1:=iT.made W0;rw[hz0] at hr1;have hb1:yT W0 (W0.alloc (.map #[] 0)):=(zD _ _).alloc (zC _) _;have hz1:(W0.alloc (.map #[] 0)).heap.size=w.heap.size+3:=(by simp[hz0]);have vS:=af lG hb1 (by omega);have EH:=af mX hb1 (by omega);have hB1:=hB0.trans (hb1.mono (by omega));go_upto_region 2 with (fail)
 generalize (W0.alloc (.map #[] 0))=W1 at *;clear hmm
 (try simp only[hz0])
 have HK:=zA (fun (W:World) (hW:Turned (w.heap.size+2) (w.heap.size+3) W1 W)=>show (∀k,k<w.heap.size→W.heap[k]? =w.heap[k]?) from fun k hk=>(hW.block k (by omega) (.inl (by omega))).trans (hB1.block k hk));have HP1:=zA (fun (W:World) (hW:Turned (w.heap.size+2) (w.heap.size+3) W1 W)=>show W.heap[w.heap.size]? =some (.cells #[.slice A0 n0 c0,.int .i64 p.ay,.slice B2 m2 d2,.slice A3 n3 c3] 46 (0,0)) from by rw[hW.block _ (by omega) (.inl (by omega))];exact vS);have HE1:=zA (fun (W:World) (hW:Turned (w.heap.size+2) (w.heap.size+3) W1 W)=>show W.heap[w.heap.size+1]? =some (.cells #[.slice A4 n4 c4,.slice A5 n5 c5,.slice A6 n6 c6] 40 (0,0)) from by rw[hW.block _ (by omega) (.inl (by omega))];exact EH);have iC:=zA hB1;have HT1:=zA (Turned.refl (w.heap.size+2) (w.heap.size+3) W1);have DV:=zA hr1;clear lG mX vS EH hB1 hr1 hb1 hB0;have e0:=ae (j:=0) (HE1.out W1 HT1.out) rfl;go_wp2_with fail
 clear e0;go_loopw[16] (fun i wr=>∃k:Nat,k≤n4∧i=.int .i64 k∧iT wr (w.heap.size+2) (nX p gs k) []∧Turned (w.heap.size+2) (w.heap.size+3) W1 wr) (fun i _=>n4-(intOf i).toNat)
 case atStart=>exact⟨0,zL _,rfl,DV.out,HT1.out⟩
 case round =>
  obtain⟨k,hk,rfl,hr,ht⟩:=hrel;have Eu:=ht.size;by_cases hlt:k<n4
  ·obtain⟨hx,g,o,ws,rfl,hg,aW,hcell⟩:=(HS4.out wr (HK.out wr ht)).at_ hlt;have jh:=zG hx;have hgb:=Uk.out _ (zS hx);have HST:=zA (uD (p:=p) jh);have Ue:=BD m8 Uk.out k (by omega);generalize gs[k]=d at *;have hwt:=JW (n:=(k:Int)) m8 hgb (WalkArith.wf_i64 (by omega));have htn:=BC (n:=(k:Int)) m8 hgb;have iJ:=aW;obtain⟨E2,ZY,e2,E4,m4',e4,rfl,-⟩:=gK aW;have dK:=hcell 0 _ rfl;have eu:=hcell 1 _ rfl;have ig:=hcell 2 _ rfl;have jf:=hcell 3 _ rfl;have lS:=hcell 4 _ rfl;simp only[show aI.size=5 from rfl,←zH,zI,zK] at dK eu ig jf lS;have mZ:yT wr (wr.alloc (.cells #[.int .i64 d.ax,.int .i64 d.dE,.slice E2 ZY e2,.int .i64 d.ai,.slice E4 m4' e4] 69)):=(zD _ _).alloc (zC _) _;have WO:=ht.trans (Turned.of_below mZ _ _);have z_:=HP1.out _ WO;have p0:=ae (j:=0) z_ rfl;have p1:=ae (j:=1) z_ rfl;have p2:=ae (j:=2) z_ rfl;have p3:=ae (j:=3) z_ rfl;have HPO:=zA (Cj (n:=(k:Int)) (rM.out _ (HK.out _ WO)) (aI.keep iJ (w':=(wr.alloc (.cells #[.int .i64 d.ax,.int .i64 d.dE,.slice E2 ZY e2,.int .i64 d.ai,.slice E4 m4' e4] 69))) fun k9 RX=>mZ.block k9 (by omega)) (by simp;omega) nH m8 hgb);have HRA:=zA (hr.keep (w':=(wr.alloc (.cells #[.int .i64 d.ax,.int .i64 d.dE,.slice E2 ZY e2,.int .i64 d.ai,.slice E4 m4' e4] 69))) (mZ.block _ hr.lt));have ZZ:=zA WO;have Ox:(wr.alloc (.cells #[.int .i64 d.ax,.int .i64 d.dE,.slice E2 ZY e2,.int .i64 d.ai,.slice E4 m4' e4] 69)).heap.size=wr.heap.size+1:=(by simp);clear hcell aW iJ hr ht WO mZ z_ hgb;go_wp2_with fail
   refine HPO.out.mono ?_;rintro e w5 ⟨B5,c9,rfl,rq,hb5⟩;have Vf:=hb5.size;have hr5:=HRA.out.keep (hb5.block _ (by omega));have ht5:=ZZ.out.trans (Turned.of_below hb5 _ _);have hrow:=rowP rq hwt;have HTL:=zA (VZ (cp:=c9) hr5 hrow (fun g9 hg9=>by have h8:=hg9.1;exact⟨by omega,hg9.2⟩) (by omega) (by simp only[yC];omega) hwt);have Ry:=zA ht5;clear p0 p1 p2 p3 dK eu ig jf lS rq hb5 hr5 ht5 hrow;go_wp2_with fail
   refine HTL.out.mono ?_;rintro e w6 ⟨rfl,Z0,Jv⟩;have HR6:=zA Z0;have Ls:=zA (Ry.out.trans Jv);clear Z0 Jv;go_wp2_with fail
   go_roundw
   case rel=>exact⟨k+1,by omega,by go_num,by rw[HST.out];exact HR6.out,Ls.out⟩
   case measure=>simp[intOf];omega
  ·obtain rfl:k=n4:=(by omega);have HR4:=zA hr;have HT4:=zA ht;have Ve:wr.heap.size≥w.heap.size+3:=(by omega);clear hr ht Eu;have e1:=ae (j:=1) (HE1.out wr HT4.out) rfl;go_wp2_with fail
   clear e1;have Ue:=BD m8 Uk.out k (by rw[Ut.out];exact zC _);go_loopw[31] (fun i wq=>∃j:Nat,j≤n5∧i=.int .i64 j∧iT wq (w.heap.size+2) (nX p gs k) (k7 cs j)∧Turned (w.heap.size+2) (w.heap.size+3) W1 wq) (fun i _=>n5-(intOf i).toNat)
   case atStart=>exact⟨0,zL _,rfl,HR4.out,HT4.out⟩
   case round =>
    rename World=>wq
    obtain⟨j,hj,rfl,hr,ht⟩:=hrel;have Eu:=ht.size;by_cases hlt:j<n5
    ·obtain⟨hx,g,o,ws,rfl,hg,aW,hcell⟩:=(WL.out wq (HK.out wq ht)).at_ hlt;have jh:=zG hx;have HST:=zA (uB jh);have Xv:=qK (cs:=cs) j (by omega);have hfs:=jQ (f:=dN) jh;have hft:=lh dN cs (j+1);generalize cs[j]=d at *;have iJ:=aW;obtain⟨E1,m1',e1,E2,ZY,e2,E3,m3',e3,rfl,-⟩:=jF aW;have dK:=hcell 0 _ rfl;have eu:=hcell 1 _ rfl;have ig:=hcell 2 _ rfl;have jf:=hcell 3 _ rfl;have lS:=hcell 4 _ rfl;simp only[show bD.size=5 from rfl,←zH,zI,zK] at dK eu ig jf lS;have mZ:yT wq (wq.alloc (.cells #[.int .i64 d.dC,.slice E1 m1' e1,.slice E2 ZY e2,.slice E3 m3' e3,.bool d.aC] 135)):=(zD _ _).alloc (zC _) _;have WO:=ht.trans (Turned.of_below mZ _ _);have HFC:=zA (L8 (num:=(j:Int)) (hr.keep (w':=(wq.alloc (.cells #[.int .i64 d.dC,.slice E1 m1' e1,.slice E2 ZY e2,.slice E3 m3' e3,.bool d.aC] 135))) (mZ.block _ hr.lt)) (bD.keep iJ (w':=(wq.alloc (.cells #[.int .i64 d.dC,.slice E1 m1' e1,.slice E2 ZY e2,.slice E3 m3' e3,.bool d.aC] 135))) fun k9 RX=>mZ.block k9 (by omega)) (by simp;omega) (by omega) (by omega) (WalkArith.wf_i64 (by omega)));have ZZ:=zA WO;clear hcell aW iJ hr ht WO mZ;go_wp2_with fail
     refine HFC.out.mono ?_;rintro e w6 ⟨rfl,Z0,Jv⟩;have HR6:=zA Z0;have Ls:=zA (ZZ.out.trans Jv);clear Z0 Jv;go_wp2_with fail
     go_roundw
     case rel=>exact⟨j+1,by omega,by go_num,by rw[HST.out];exact HR6.out,Ls.out⟩
     case measure=>simp[intOf];omega
    ·obtain rfl:j=n5:=(by omega);have HR5:=zA hr;have Ry:=zA ht;clear hr ht Eu;have e2:=ae (j:=2) (HE1.out wq Ry.out) rfl;go_wp2_with fail
     clear e2;have Xv:=qK (cs:=cs) j (by rw[R7.out];exact zC _);have hft:=lh dN cs j;go_loopw[44] (fun i wt=>∃l:Nat,l≤n6∧i=.int .i64 l∧iT wt (w.heap.size+2) (nX p gs k) (k7 cs j++oW ms l)∧Turned (w.heap.size+2) (w.heap.size+3) W1 wt) (fun i _=>n6-(intOf i).toNat)
     case atStart=>exact⟨0,zL _,rfl,by simpa[oW] using HR5.out,Ry.out⟩
     case round =>
      rename World=>wt
      obtain⟨l,hl,rfl,hr,ht⟩:=hrel;have Eu:=ht.size;by_cases hlt:l<n6
      ·obtain⟨hx,g,o,ws,rfl,hg,aW,hcell⟩:=(HS6.out wt (HK.out wt ht)).at_ hlt;have jh:=zG hx;have HST:=zA (uC jh);have Py:=wS (ms:=ms) l (by omega);have hms:=jQ (f:=dO) jh;have hmt:=lh dO ms (l+1);generalize ms[l]=d at *;have iJ:=aW;obtain⟨E1,m1',e1,rfl,-⟩:=iQ aW;have dK:=hcell 0 _ rfl;have eu:=hcell 1 _ rfl;simp only[show aX.size=2 from rfl,←zH,zI,zK] at dK eu;have mZ:yT wt (wt.alloc (.cells #[.int .i64 d.dm,.slice E1 m1' e1] 137)):=(zD _ _).alloc (zC _) _;have WO:=ht.trans (Turned.of_below mZ _ _);have HFM:=zA (Jh (num:=(l:Int)) (hr.keep (w':=(wt.alloc (.cells #[.int .i64 d.dm,.slice E1 m1' e1] 137))) (mZ.block _ hr.lt)) (aX.keep iJ (w':=(wt.alloc (.cells #[.int .i64 d.dm,.slice E1 m1' e1] 137))) fun k9 RX=>mZ.block k9 (by omega)) (by simp;omega) (by omega) (by rw[zZ];omega) (WalkArith.wf_i64 (by omega)));have ZZ:=zA WO;clear hcell aW iJ hr ht WO mZ;go_wp2_with fail
       refine HFM.out.mono ?_;rintro e w6 ⟨rfl,Z0,Jv⟩;have HR6:=zA Z0;have Ls:=zA (ZZ.out.trans Jv);clear Z0 Jv;go_wp2_with fail
       go_roundw
       case rel=>exact⟨l+1,by omega,by go_num,by rw[HST.out,←List.append_assoc];exact HR6.out,Ls.out⟩
       case measure=>simp[intOf];omega
      ·obtain rfl:l=n6:=(by omega);have HEV:=zA (QQ hr (by rw[←Ut.out];exact Ri.out) (by rw[←R7.out,←VV.out];exact HWF.out));have Ls:=zA ht;clear hr ht;go_wp2_with fail
       refine HEV.out.mono ?_;rintro e w7 ⟨rfl,MO⟩;have HB7:=zA (iC.out.trans ((Ls.out.below (B:=w.heap.size) (by omega) (by omega)).trans (MO.mono (by omega))));clear MO;go_wp2_with fail
       go_ret;exact⟨by rw[Ut.out,R7.out,VV.out];rfl,HB7.out⟩
end Go.Proofs.YtjcoapnggojpdaaGreatDoor
