/- Texts of the proof, laid compactly. -/
import Derived.Test.YtjcoapnggojpdaaGreatDoorRows
import Derived.LaidMore
import Derived.WalkSmall
import Derived.Stop.LaidErr
import Derived.Test.YtjcoapnggojpdaaGreatDoorGQueue
set_option maxHeartbeats 2000000
set_option maxRecDepth 100000
namespace Go.Proofs.YtjcoapnggojpdaaGreatDoor
open Go.RowKit
def opWords:List (List UInt8):=[[104,97,108,116],[115,101,116],[97,100,100],[115,117,98],[108,101,115,115],[106,117,109,112],[105,102],[115,101,110,100],[114,101,99,118],[99,108,111,115,101],[115,101,108,101,99,116],[108,111,99,107],[117,110,108,111,99,107],[115,112,97,119,110],[112,114,105,110,116]]
def Vu:List Int:=[0,2,3,3,3,1,2,2,3,1,1,1,1,2,1]
def Ew(z:Int):Int:=if 1≤z∧z≤15 then Vu.getD (z.toNat-1) 0 else -1
theorem FW{z:Int}(h:1≤z∧z≤15):z=1∨z=2∨z=3∨z=4∨z=5∨z=6∨z=7∨z=8∨z=9∨z=10∨z=11∨z=12∨z=13∨z=14∨z=15:=by omega
def FX{H:Type}(P:Program):Nat→TypeId→DataW H→Nat→Option Value
 |0,_,_,_=>none
 |m+1,t,d,i =>
  match P.underlying t,d with
  |some (.int _),.lit (.int k z)=>if i=0 then some (.int k z) else none
  |some .string,.lit (.string bs)=>if i=0 then some (.string ⟨bs.toArray⟩) else none
  |some .bool,.lit (.bool b)=>if i=0 then some (.bool b) else none
  |some (.struct fs),.agg ds=>(List.range fs.size).findSome? fun j =>
    match fs[j]?,ds[j]? with
    |some f,some d'=>if f.offset≤i∧i<f.offset+P.cellsOf f.type then FX P m f.type d' (i-f.offset) else none
    |_,_=>none
  |some (.array n e),.agg ds =>
    match ds[i / P.cellsOf e]? with
    |some d'=>if i / P.cellsOf e<n∧0<P.cellsOf e then FX P m e d' (i%P.cellsOf e) else none
    |none=>none
  |_,_=>none
theorem piece_at{cs:List Value}{o k i:Nat}{v:Value}(h:((cs.drop o).take k)[i]? =some v):cs[o+i]? =some v:=by
 rw[List.getElem?_take] at h;split at h
 ·rw[List.getElem?_drop] at h;exact h
 ·cases h
theorem uy{H:Type}{enc:TypeId × Value→H}{P:Program}{w:World}{base:Nat}{sp:Nat→Bool}{held:Bool} :
  ∀(m fuel:Nat) (t:TypeId) (cs:List Value) (d:DataW H) (p:List MemPlace) (i:Nat) (v:Value),
   FX P m t d i=some v→DataW.trod enc P w base sp held fuel t cs=some (d,p)→cs[i]? =some v
 |0,_,_,_,_,_,_,_,hc,_=>by simp[FX] at hc
 |m+1,fuel,t,cs,d,p,i,v,hc,h=>by
  unfold FX at hc;split at hc
  ·rename_i k0 k z hu
   obtain⟨n,rfl,hx,_⟩:=DataW.trod_int hu h;simp only[Prod.mk.injEq,DataW.lit.injEq,Lit.int.injEq] at hx;split at hc
   ·rename_i hi;subst hi;obtain⟨⟨rfl,rfl⟩,_⟩:=hx;simpa using hc
   ·cases hc
  ·rename_i bs hu
   obtain⟨s,rfl,hx,_⟩:=DataW.trod_string hu h;simp only[Prod.mk.injEq,DataW.lit.injEq,Lit.string.injEq] at hx;split at hc
   ·rename_i hi;subst hi;obtain⟨rfl,_⟩:=hx;simpa using hc
   ·cases hc
  ·rename_i b hu
   obtain⟨s,rfl,hx⟩:=DataW.trod_bool hu h;simp only[Prod.mk.injEq,DataW.lit.injEq,Lit.bool.injEq] at hx;split at hc
   ·rename_i hi;subst hi;obtain⟨rfl,_⟩:=hx;simpa using hc
   ·cases hc
  ·rename_i fs ds hu
   obtain⟨xs,n,rfl,hx,hl,hlen,hf⟩:=DataW.trod_struct hu h;simp only[Prod.mk.injEq,DataW.agg.injEq] at hx;obtain⟨j,hj,hc⟩:=List.exists_of_findSome?_eq_some hc;split at hc
   ·rename_i f d' hfj Xm
    split at hc
    ·rename_i hr
     have h1:=hf j f hfj;rw[hx.1,yM] at Xm;obtain⟨y,hy,rfl⟩:=Option.map_eq_some_iff.1 Xm;rw[hy] at h1;have h2:=uy m n f.type _ y.1 y.2 (i-f.offset) v hc h1;have h3:=piece_at h2;rwa [Nat.add_sub_cancel' hr.1] at h3
    ·cases hc
   ·cases hc
  ·rename_i n e ds hu
   obtain⟨xs,n',rfl,hx,hl,hlen,hf⟩:=DataW.trod_array hu h;simp only[Prod.mk.injEq,DataW.agg.injEq] at hx;split at hc
   ·rename_i d' Xm
    split at hc
    ·rename_i hr
     have h1:=hf (i / P.cellsOf e) hr.1;rw[hx.1,yM] at Xm;obtain⟨y,hy,rfl⟩:=Option.map_eq_some_iff.1 Xm;rw[hy] at h1;have h2:=uy m n' e _ y.1 y.2 (i%P.cellsOf e) v hc h1;have h3:=piece_at h2;rwa [Nat.div_add_mod'] at h3
    ·cases hc
   ·cases hc
  ·cases hc
def N6(W:World):Prop:=∀(i:Nat) (v:Value),FX (H:=Unit) Tryz.prog 4 353 Rows.laid_loop_example_g00679_impl_opRows i=some v→W.cell? ⟨1,i,none⟩=some v
theorem II{W:World}{rest:List (String × DataW Unit)}(h:laidMet Tryz.prog (("loop.example/g00679/impl.opRows",Rows.laid_loop_example_g00679_impl_opRows)::rest) W):N6 W:=by
 obtain⟨ps,⟨g',t',cs,fuel,p,q,nI,Kr,aaA,hd,_,_⟩,_⟩:=h;have hg:Tryz.prog.globalNamed "loop.example/g00679/impl.opRows" =some 1:=(by kernel_rfl);have hty:(Tryz.prog.globals[1]?).map (·.type)=some 353:=(by kernel_rfl);obtain rfl:=zW (hg.symm.trans nI);obtain rfl:=zW (hty.symm.trans Kr);intro i v hv;have h1:=uy 4 fuel _ _ _ _ i v hv hd;have h2:=World.var?_cell hg aaA i;rw[h2];simpa using h1
theorem N6.below{W W':World}{B:Nat}(h:N6 W)(hb:Below B W W')(hB:W.heap.size≤B):N6 W':=by
 intro i v hv;have hc:=h i v hv;rw[hb.cell (p:=⟨_,i,none⟩) (zV (World.block_lt_of_cell? W _ hc) hB)];exact hc
def K_:List (Int × Int × Int):=[(0,0,0),(1,2,0),(1,1,1),(1,1,1),(1,1,1),(3,0,0),(1,3,0),(4,1,0),(4,1,1),(4,0,0),(5,0,0),(6,0,0),(6,0,0),(7,1,0),(1,0,0)]
def qN(W:World):Prop:=∀k,k<15→W.cell? ⟨1,4*(k+1),none⟩=some (Tx (opWords.getD k [])) ∧
 W.cell? ⟨1,4*(k+1)+1,none⟩=some (.int .i64 (K_.getD k (0,0,0)).1) ∧
 W.cell? ⟨1,4*(k+1)+2,none⟩=some (.int .i64 (K_.getD k (0,0,0)).2.1) ∧
 W.cell? ⟨1,4*(k+1)+3,none⟩=some (.int .i64 (K_.getD k (0,0,0)).2.2)
theorem Ql{W:World}(h:N6 W):qN W:=by
 intro k hk;match k,hk with
 |0,_|1,_|2,_|3,_|4,_|5,_|6,_|7,_|8,_|9,_|10,_|11,_|12,_|13,_|14,_ =>
  exact⟨h _ _ (by kernel_rfl),h _ _ (by kernel_rfl),h _ _ (by kernel_rfl),h _ _ (by kernel_rfl)⟩
theorem ny{W W':World}(h:qN W)(hb:yT W W'):qN W':=by
 intro k hk;have hlt:1<W.heap.size:=World.block_lt_of_cell? W _ (h k hk).1;refine⟨?_,?_,?_,?_⟩
 ·rw[hb.cell (p:=⟨_,_,none⟩) hlt];exact (h k hk).1
 ·rw[hb.cell (p:=⟨_,_,none⟩) hlt];exact (h k hk).2.1
 ·rw[hb.cell (p:=⟨_,_,none⟩) hlt];exact (h k hk).2.2.1
 ·rw[hb.cell (p:=⟨_,_,none⟩) hlt];exact (h k hk).2.2.2
set_option linter.unusedSimpArgs false
set_option linter.unusedVariables false
def RJ(W:World):Prop:=∀(i:Nat) (v:Value),FX (H:=Unit) Tryz.prog 4 345 Rows.laid_loop_example_g00679_impl_itemRows i=some v→W.cell? ⟨0,i,none⟩=some v
theorem DZ{W:World}{rest:List (String × DataW Unit)}(h:laidMet Tryz.prog (("loop.example/g00679/impl.itemRows",Rows.laid_loop_example_g00679_impl_itemRows)::rest) W):RJ W:=by
 obtain⟨ps,⟨g',t',cs,fuel,p,q,nI,Kr,aaA,hd,_,_⟩,_⟩:=h;have hg:Tryz.prog.globalNamed "loop.example/g00679/impl.itemRows" =some 0:=(by kernel_rfl);have hty:(Tryz.prog.globals[0]?).map (·.type)=some 345:=(by kernel_rfl);obtain rfl:=zW (hg.symm.trans nI);obtain rfl:=zW (hty.symm.trans Kr);intro i v hv;have h1:=uy 4 fuel _ _ _ _ i v hv hd;have h2:=World.var?_cell hg aaA i;rw[h2];simpa using h1
def XI:List (List UInt8):=[[],[115,101,110,116],[103,111,116],[99,108,111,115,101,100],[112,105,99,107,101,100],[108,111,99,107,101,100],[117,110,108,111,99,107,101,100],[115,112,97,119,110,101,100],[112,114,105,110,116,101,100],[100,111,110,101],[100,101,97,100]]
def Qm:List Bool:=[false,true,true,true,true,true,true,true,false,false,false]
def aaB:List Int:=[0,0,0,0,-1,0,0,0,0,0,1]
def aaC:List Int:=[0,999,999,0,9223372036854775807,0,0,9223372036854775807,999,0,5]
def ni(W:World):Prop:=∀k,1≤k→k≤10→W.cell? ⟨0,k*4,none⟩=some (Tx (XI.getD k [])) ∧
 W.cell? ⟨0,k*4+1,none⟩=some (.bool (Qm.getD k false)) ∧
 W.cell? ⟨0,k*4+2,none⟩=some (.int .i64 (aaB.getD k 0)) ∧
 W.cell? ⟨0,k*4+3,none⟩=some (.int .i64 (aaC.getD k 0))
theorem La{W:World}(h:RJ W):ni W:=by
 intro k h1 hk;match k,h1,hk with
 |1,_,_|2,_,_|3,_,_|4,_,_|5,_,_|6,_,_|7,_,_|8,_,_|9,_,_|10,_,_ =>
  exact⟨h _ _ (by kernel_rfl),h _ _ (by kernel_rfl),h _ _ (by kernel_rfl),h _ _ (by kernel_rfl)⟩
theorem lT{W W':World}{B:Nat}(h:ni W)(hb:Below B W W')(hB:W.heap.size≤B):ni W':=by
 intro k h1 hk;have hlt:0<W.heap.size:=World.block_lt_of_cell? W _ (h k h1 hk).1;refine⟨?_,?_,?_,?_⟩
 ·rw[hb.cell (p:=⟨_,_,none⟩) (zV hlt hB)];exact (h k h1 hk).1
 ·rw[hb.cell (p:=⟨_,_,none⟩) (zV hlt hB)];exact (h k h1 hk).2.1
 ·rw[hb.cell (p:=⟨_,_,none⟩) (zV hlt hB)];exact (h k h1 hk).2.2.1
 ·rw[hb.cell (p:=⟨_,_,none⟩) (zV hlt hB)];exact (h k h1 hk).2.2.2
def mf(k v:Int)(ok:Bool):Bool :=
 if k=1∨k=8 then okV v else if k=2 then okV v&&(ok||decide (v=0)) else if k=4 then decide (-1≤v) else if k=7 then decide (0≤v) else if k=10 then decide (1≤v∧v≤5) else decide (v=0)
def dZ(x:iK):Bool:=decide (1≤x.d_∧x.d_≤10∧0≤x.iq) && !(decide (8≤x.d_∧x.iq≠0)) && !(x.lM&&decide (x.d_≠2))&&mf x.d_ x.bU x.lM
def rowB(k obj val:Int)(ok hb:Bool)(lo hi:Int):Bool :=
 !decide (obj<0) && !(decide (obj > 0) && !hb) && !decide (val<lo) && !decide (val > hi)&&(if k=2 then ok||decide (val=0) else !ok)
theorem aaD{k:Nat}{obj val:Int}{ok:Bool}(h1:1≤k)(h2:k≤10)(hv:(Lit.int .i64 val).wf=true):rowB k obj val ok (Qm.getD k false) (aaB.getD k 0) (aaC.getD k 0)=dZ ⟨k,obj,val,ok⟩:=by
 have hv2:val≤9223372036854775807:=by
  exact (bounds_i64 hv).2
 match k,h1,h2 with
 |1,_,_|2,_,_|3,_,_|4,_,_|5,_,_|6,_,_|7,_,_|8,_,_|9,_,_|10,_,_ =>
  cases ok <;> (rw[Bool.eq_iff_iff];simp[rowB,dZ,mf,okV,Qm,aaB,aaC];try omega)
theorem SY:Enters 268:=enters_of Tryz.func268 (by kernel_rfl) (by kernel_rfl)
theorem S3:Enters 269:=enters_of Tryz.func269 (by kernel_rfl) (by kernel_rfl)
theorem FH:Enters 51:=enters_of Tryz.func51 (by kernel_rfl) (by kernel_rfl)
theorem PW:Enters 307:=enters_of Tryz.func307 (by kernel_rfl) (by kernel_rfl)
theorem PX{f:Nat}(hf:Enters f){cap:Array Value}{p:di→Bool}{w:World}{hi n c:Nat}{A:Option Addr}{ds:List di}(h:a_ aN w hi A n ds)(cu:hi≤w.heap.size)(hn:n≤maxLen)
  (hp:∀W d,yT w W→Calls Tryz.prog f (#[.agg #[.int .i64 d.fG,.int .i64 d.bK,.int .i64 d.bU]]++cap) W fun e W'=>e=.returned (.bool (p d))∧yT W W') :
  Calls Tryz.prog 305 #[.slice A n c,.func (.func f) #[] cap] w fun e w'=>e=.returned (.int .i64 (ds.countP p:Int))∧yT w w':=by
 have HL:=zA h.1;unfold maxLen at hn;go_enter Tryz.func305,Tryz.ntmps305
 go_wp2_with fail
 go_loopw[5,10] (fun q i wr=>∃k:Nat,k≤n∧i=.int .i64 k∧q=.int .i64 ((ds.take k).countP p:Int)∧yT w wr) (fun _ i _=>n-(intOf i).toNat)
 case atStart=>exact⟨0,zL _,rfl,by simp,zD _ _⟩
 case round =>
  obtain⟨k,hk,rfl,rfl,hb⟩:=hrel;by_cases hlt:k<n
  ·obtain⟨hx,g,o,vs,rfl,hg,⟨rfl,hw⟩,hcell⟩:=(h.below hb cu).at_ hlt;have HD:=zA (zG hx);have HC:=zA (List.countP_le_length (p:=p) (l:=ds.take k));have HCn:(ds.take k).countP p≤k:=by have:=HC.out;rw[List.length_take] at this;omega
   have hz:=hb.size;have HP:=zA hp;generalize ds[k]=d at *;have HT:=zA (show (ds.take (k+1)).countP p=(ds.take k).countP p+if p d then 1 else 0 by rw[List.take_add_one,HD.out,List.countP_append];simp[List.countP_cons]);generalize (ds.take k).countP p=m at *;have dK:=hcell 0 _ rfl;have eu:=hcell 1 _ rfl;have ig:=hcell 2 _ rfl;simp only[show aN.size=3 from rfl,←zH,zI,zK] at dK eu ig;clear hcell hw hp h;have HB:=zA (hb.alloc (by omega) (.cells #[.int .i64 d.fG,.int .i64 d.bK,.int .i64 d.bU] 49));go_wp2_with fail
   rw[hf,Oper.upon_enter];refine (HP.out _ d HB.out).mono ?_;rintro e w1 ⟨rfl,hb1⟩;have iC:=zA (HB.out.trans (hb1.mono (by simp;omega)));clear hb1 dK eu ig;cases hq:p d
   ·rw[hq] at HT;go_wp2_with fail
    go_roundw
    case rel=>exact⟨k+1,by omega,by go_num,by rw[HT.out];simp,iC.out⟩
    case measure=>simp[intOf];omega
   ·rw[hq] at HT;go_wp2_with fail
    go_roundw
    case rel=>exact⟨k+1,by omega,by go_num,by rw[HT.out];simp,iC.out⟩
    case measure=>simp[intOf];omega
  ·go_wp2_with fail
   go_ret;obtain rfl:k=n:=(by omega);rw[zU (by rw[HL.out];exact zC _)];exact⟨rfl,hb⟩
theorem NI{f:Nat}(hf:Enters f){cap:Array Value}{p:di→Bool}{w:World}{hi n c:Nat}{A:Option Addr}{ds:List di}(h:a_ aN w hi A n ds)(cu:hi≤w.heap.size)(hn:n≤maxLen)
  (hp:∀W d,yT w W→Calls Tryz.prog f (#[.agg #[.int .i64 d.fG,.int .i64 d.bK,.int .i64 d.bU]]++cap) W fun e W'=>e=.returned (.bool (p d))∧yT W W') :
  Calls Tryz.prog 267 #[.slice A n c,.func (.func f) #[] cap] w fun e w'=>e=.returned (.bool (ds.all p))∧yT w w':=by
 have HC:=zA (PX (c:=c) hf h cu hn hp);have hl:=h.1;have hq:ds.all p=decide (ds.countP p=n):=by
  rw[←hl,Bool.eq_iff_iff,zY,decide_eq_true_eq,List.countP_eq_length]
 have HQ:=zA hq;generalize ds.countP p=m at *;clear hq h hl hp;go_enter Tryz.func267,Tryz.ntmps267
 go_wp2_with fail
 refine HC.out.mono ?_;rintro e w1 ⟨rfl,hb⟩;by_cases he:m=n
 ·subst he;go_wp2_with fail
  go_ret;exact⟨by rw[HQ.out];simp,hb⟩
 ·have he2:¬(m:Int)=(n:Int):=(by omega);go_wp2_with fail
  go_ret;exact⟨by rw[HQ.out];simp[he];try omega,hb⟩
theorem Zy(w W:World)(d:Int)(h:yT w W):Calls Tryz.prog 51 (#[.int .i64 d] ++ #[]) W fun e W'=>e=.returned (.bool (okV d))∧yT W W':=by
 rw[Array.append_empty];exact (FB d W).mono fun e W' h=>⟨h.1,by rw[←h.2];exact zD _ _⟩
theorem ahY(w W:World)(d:di)(h:yT w W):Calls Tryz.prog 268 (#[.agg #[.int .i64 d.fG,.int .i64 d.bK,.int .i64 d.bU]] ++ #[]) W fun e W'=>e=.returned (.bool (okW d))∧yT W W':=by
 rw[Array.append_empty];exact BX d W
theorem ahZ(w W:World)(d:di)(h:yT w W):Calls Tryz.prog 269 (#[.agg #[.int .i64 d.fG,.int .i64 d.bK,.int .i64 d.bU]] ++ #[]) W fun e W'=>e=.returned (.bool (okR d))∧yT W W':=by
 rw[Array.append_empty];exact FC d W
theorem FI{w:World}{hi:Nat}{x:gy}{vs:List Value}(h:bD.see w hi x vs)(cu:hi≤w.heap.size) :
  Calls Tryz.prog 199 #[.agg vs.toArray] w fun e w'=>e=.returned (.bool (uu x))∧yT w w':=by
 obtain⟨A1,n1,c1,A2,n2,c2,A3,n3,c3,rfl,hw0,⟨hc1,hm1,s1⟩,⟨hc2,jY,s2⟩,⟨hc3,Be,s3⟩⟩:=jF h;obtain⟨cap,buf,sends,recvs,cl⟩:=x;have l1:=s1.1;have l2:=s2.1;have l3:=s3.1;simp only at l1 l2 l3 s1 s2 s3 hw0;subst l1 l2 l3;show Calls Tryz.prog 199 #[.agg #[.int .i64 cap,.slice A1 buf.length c1,.slice A2 sends.length c2,.slice A3 recvs.length c3,.bool cl]] w fun e w'=>e=.returned (.bool (qI buf.length cap&&(!JA buf.length sends.length recvs.length cap cl&&(buf.all okV&&(sends.all okW&&recvs.all okR)))))∧yT w w'
 have HVN:=zA (fun W=>DW (A1:=A1) (A2:=A2) (A3:=A3) (n1:=buf.length) (c1:=c1) (n2:=sends.length) (c2:=c2) (n3:=recvs.length) (c3:=c3) (cap:=cap) (cl:=cl) W);have HB:=zA ((zD w.heap.size w).alloc (zC _) (.cells #[.int .i64 cap,.slice A1 buf.length c1,.slice A2 sends.length c2,.slice A3 recvs.length c3,.bool cl] 135));have HX:=zA (ak w #[.int .i64 cap,.slice A1 buf.length c1,.slice A2 sends.length c2,.slice A3 recvs.length c3,.bool cl] 135);have H1:=zA (fun (W:World) (hW:yT w W)=>NF (c:=c1) FH (s1.below hW cu) (hi:=hi) (by have:=hW.size;omega) (zJ hc1 hm1) (Zy W));have H2:=zA (fun (W:World) (hW:yT w W)=>NI (c:=c2) SY (s2.below hW cu) (hi:=hi) (by have:=hW.size;omega) (zJ hc2 jY) (ahY W));have H3:=zA (fun (W:World) (hW:yT w W)=>NI (c:=c3) S3 (s3.below hW cu) (hi:=hi) (by have:=hW.size;omega) (zJ hc3 Be) (ahZ W));clear s1 s2 s3 h hw0;generalize buf.all okV=b1 at *;generalize sends.all okW=b2 at *;generalize recvs.all okR=b3 at *;generalize JA buf.length sends.length recvs.length cap cl=vn at *;generalize buf.length=n1 at *;generalize sends.length=n2 at *;generalize recvs.length=n3 at *;by_cases h0:0≤cap
 ·by_cases h4:cap≤4
  ·by_cases h5:(n1:Int)≤cap
   ·have hr:qI n1 cap=true:=yE ⟨h0,h4,h5⟩;rw[hr,Bool.true_and];go_enter Tryz.func199,Tryz.ntmps199
    go_wp2_with fail
    refine (HVN.out _).mono ?_;rintro e w1 ⟨rfl,hb1⟩;have iC:=zA (HB.out.trans (hb1.mono (by simp)));have qE:=zA (af HX.out hb1 (by simp));have q1:=ae (j:=1) qE.out rfl;have q2:=ae (j:=2) qE.out rfl;have q3:=ae (j:=3) qE.out rfl;have z1:w.heap.size<w1.heap.size:=by have:=hb1.size;simp at this;omega
    clear hb1;cases vn
    ·go_wp2_with fail
     refine (H1.out _ iC.out).mono ?_;rintro e w2 ⟨rfl,hb2⟩;have lK:=zA (iC.out.trans (hb2.mono (by omega)));have Fh:=zA (af qE.out hb2 z1);have q2:=ae (j:=2) Fh.out rfl;have q3:=ae (j:=3) Fh.out rfl;have z2:w.heap.size<w2.heap.size:=by have:=hb2.size;omega
     clear hb2;cases b1
     ·go_wp2_with fail
      go_ret;exact⟨rfl,lK.out⟩
     ·go_wp2_with fail
      refine (H2.out _ lK.out).mono ?_;rintro e w3 ⟨rfl,hb3⟩;have xW:=zA (lK.out.trans (hb3.mono (by omega)));have O6:=zA (af Fh.out hb3 z2);have q3:=ae (j:=3) O6.out rfl;have z3:w.heap.size<w3.heap.size:=by have:=hb3.size;omega
      clear hb3;cases b2
      ·go_wp2_with fail
       go_ret;exact⟨rfl,xW.out⟩
      ·go_wp2_with fail
       refine (H3.out _ xW.out).mono ?_;rintro e w4 ⟨rfl,hb4⟩;have Zz:=zA (xW.out.trans (hb4.mono (by omega)));clear hb4;cases b3 <;>
       ·go_wp2_with fail
        go_ret;exact⟨rfl,Zz.out⟩
    ·go_wp2_with fail
     go_ret;exact⟨rfl,iC.out⟩
   ·have hr:qI n1 cap=false:=yD (fun h=>h5 h.2.2);rw[hr,zX];go_enter Tryz.func199,Tryz.ntmps199
    go_wp2_with fail
    go_ret;exact⟨rfl,HB.out⟩
  ·have hr:qI n1 cap=false:=yD (fun h=>h4 h.2.1);rw[hr,zX];go_enter Tryz.func199,Tryz.ntmps199
   go_wp2_with fail
   go_ret;exact⟨rfl,HB.out⟩
 ·have hr:qI n1 cap=false:=yD (fun h=>h0 h.1);rw[hr,zX];go_enter Tryz.func199,Tryz.ntmps199
  go_wp2_with fail
  go_ret;exact⟨rfl,HB.out⟩
end Go.Proofs.YtjcoapnggojpdaaGreatDoor
