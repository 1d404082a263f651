/- Texts of the proof, laid compactly. -/
import Derived.Test.YtjcoapnggojpdaaGreatDoorGQueue
import Derived.Maps.OwnOps
import Derived.Maps.Views
import Derived.WideKeyEntry
set_option maxHeartbeats 4000000
set_option maxRecDepth 100000
namespace Go.Proofs.YtjcoapnggojpdaaGreatDoor
set_option linter.unusedSimpArgs false
set_option linter.unusedVariables false
set_option maxRecDepth 100000
open Go.RowKit Go.MapKept Go.ChangeMaps
open Go.Maps (Keyed)
theorem Gs:Keyed Tryz.prog 3:=Go.Maps.int_keyed Tryz.underlying3
theorem Qy{a:Int}(ha:(Lit.int .i64 a).wf=true):keyOf Tryz.prog 3 (.int .i64 a)=some (.int .i64 a):=Go.Maps.keyOf_int_mk Tryz.underlying3 ha
theorem Ot(w:World):(zeroValue 3).run Tryz.prog w=.ok (.int .i64 0) w:=by kernel_rfl
theorem TF{c:Int}(h:0≤c)(h2:c≤4611686018427387904):(Lit.int .i64 c).wf=true:=WalkArith.wf_i64 (by omega)
def qU(w:World)(B:Nat)(met:List Int):Prop :=
 ∃D:DataW Unit,w.ownsMap Tryz.prog 3 (plainElem Tryz.prog 3) B met.length D∧Go.Maps.IsMap D ∧
  ∀a,(Lit.int .i64 a).wf=true→D.atKey (.int .i64 a) (.lit (.int .i64 0))=.lit (.int .i64 (met.count a:Nat))
theorem qU.keep{w w':World}{B:Nat}{met:List Int}(h:qU w B met)(hk:w'.heap[B]? =w.heap[B]?):qU w' B met:=by
 obtain⟨D,⟨es,clock,hb,F,hs,hD⟩,h2⟩:=h;exact⟨D,⟨es,clock,hk.trans hb,F,hs,hD⟩,h2⟩
theorem qU.made(w:World):qU (w.alloc (.map #[] 0)) w.heap.size [] :=
 ⟨.map [],World.ownsMap_made _ _ _ _,⟨[],rfl⟩,fun a _=>by simp[DataW.atKey]⟩
theorem qU.lt{w:World}{B:Nat}{met:List Int}(h:qU w B met):B<w.heap.size:=by
 obtain⟨D,h,_⟩:=h;exact h.lt
theorem qU.bump{w:World}{B:Nat}{met:List Int}{a:Int}(h:qU w B met)(ha:(Lit.int .i64 a).wf=true)(hl:met.length≤4294967296) :
  (Instr.lookup 347 (.map (some B)) (.int .i64 a) false).run Tryz.prog w=.ok (.int .i64 (met.count a:Nat)) w ∧
  ∃w',(Instr.mapUpdate 347 (.map (some B)) (.int .i64 a) (.int .i64 ((met.count a:Nat)+1))).run Tryz.prog w=.ok () w'∧qU w' B (met++[a])∧w.grownBy w' (some B) ∧
   (Instr.lookup 347 (.map (some B)) (.int .i64 a) false).run Tryz.prog w'=.ok (.int .i64 ((met.count a:Nat)+1)) w':=by
 obtain⟨D,hown,hD,hat⟩:=h;have hcm:=List.count_le_length (a:=a) (l:=met);obtain⟨c,hlk,hc,hwc⟩:=hown.lookup_int Gs Tryz.underlying347 Tryz.underlying3 (Ot _) (Qy ha);have hcc:c=(met.count a:Nat):=by
  have:=hat a ha;rw[hc] at this;injection this with this
  injection this
 subst hcc;have hw1:(Lit.int .i64 ((met.count a:Nat)+1:Int)).wf=true:=TF (by omega) (by omega);obtain⟨w',hup,hown',hg⟩:=hown.update Gs Tryz.underlying347 (by unfold maxLen;omega) (Qy ha) (plainElem_int Tryz.underlying3 hw1);obtain⟨c2,aaP,hc2,_⟩:=hown'.lookup_int Gs Tryz.underlying347 Tryz.underlying3 (Ot _) (Qy ha);rw[Go.Maps.atKey_put_same hD (by trivial)] at hc2;injection hc2 with hc2
 injection hc2 with _ hc2
 subst hc2;refine⟨hlk,w',hup,⟨_,by simpa using hown',hD.put _ _,fun x hx => ?_⟩,hg,aaP⟩;by_cases he:x=a
 ·subst he;rw[Go.Maps.atKey_put_same hD (by trivial)];simp[List.count_append]
 ·rw[Go.Maps.atKey_put_other (by simpa using he),hat x hx,List.count_append];simp[List.count_cons,Ne.symm he]
theorem VN{w:World}{B C:Nat}{met:List Int}{g:Int}(h:qU w B met)(hC:w.cell? ⟨C,0,none⟩=some (.map (some B)))(hne:C≠B)(hg:(Lit.int .i64 g).wf=true)(hl:met.length≤4294967296) :
  Calls Tryz.prog 306 (#[.int .i64 g] ++ #[.pointer (some ⟨C,0,none⟩)]) w fun e w'=>e=.returned (.bool (decide (0≤g) && !met.contains g))∧qU w' B (met++[g])∧Turned B (B+1) w w':=by
 obtain⟨Rk,w3,hup,Be,hg3,hl3⟩:=h.bump hg hl;have hB:=h.lt;have hcm:=List.count_le_length (a:=g) (l:=met);have hC3:w3.cell? ⟨C,0,none⟩=some (.map (some B)):=by
  rw[←hC];have hCl:C<w.heap.size:=by
   rcases Nat.lt_or_ge C w.heap.size with h1|h1
   ·exact h1
   ·simp[World.cell?,Array.getElem?_eq_none h1] at hC
  exact World.cell?_of_block (hg3.block _ hCl (by simp;omega))
 have VI:decide (0≤g)=true→((((met.count g:Nat):Int)+1)==1) = !met.contains g:=fun _=>by
  rw[Bool.eq_iff_iff];have h0:=List.count_eq_zero (a:=g) (l:=met);simp only[beq_iff_eq,Bool.not_eq_true',List.contains_eq_mem,decide_eq_false_iff_not,←h0];omega
 have HP:=zA (And.intro Be (show Turned B (B+1) w w3 from ⟨hg3.os,hg3.tape,hg3.output,hg3.size,fun i hi ho=>hg3.block i hi (by simp;omega)⟩));have HB:=zA VI;clear Be VI hg3 h;generalize met.count g=m at *;generalize met.contains g=b at *;have hwr:wrap64 ((m:Int)+1)=m+1:=(by unfold wrap64;omega);have hm0:m≤4294967296:=(by omega);by_cases h0:0≤g
 ·have HB':=zA (HB.out (by simpa using h0));go_enter Tryz.func306,Tryz.ntmps306
  go_wp2_with fail
  all_goals
   go_ret;exact⟨by rw[←HB'.out];simp[h0],HP.out⟩
 ·go_enter Tryz.func306,Tryz.ntmps306
  go_wp2_with fail
  all_goals
   go_ret;exact⟨by simp;intro h;omega,HP.out⟩
theorem Lp{w:World}{o:Int}(ho:(Lit.int .i64 o).wf=true) :
  Calls Tryz.prog 270 #[.int .i64 o] w fun e w'=>∃C,w.heap.size<C∧e=.returned (.func (.func 306) #[] #[.pointer (some ⟨C,0,none⟩)]) ∧
   qU w' w.heap.size [o]∧w'.cell? ⟨C,0,none⟩=some (.map (some w.heap.size))∧yT w w':=by
 obtain⟨_,w3,hup,Be,hg3,_⟩:=(qU.made w).bump ho (by simp);have hz:=hg3.size;simp at hz hup;have hmm := @run_makeMap Tryz.prog;have HM:=zA Be;have HG:=zA hg3;clear Be hg3;go_enter Tryz.func270,Tryz.ntmps270
 go_wp2_with fail
 go_ret;have hg:=HG.out;have hb1:yT w w3:=⟨hg.os.trans rfl,hg.tape.trans rfl,hg.output.trans rfl,by omega,fun k hk=>by
  rw[hg.block k (by simp;omega) (by simp;omega)];exact Below.heap_alloc w _ _ hk⟩
 refine⟨w3.heap.size,by omega,by simp,HM.out.keep (Below.heap_alloc w3 _ _ (by omega)),by simp,?_⟩;exact hb1.alloc (by omega) _
theorem Qz{f:Nat}(hf:Enters f){cap:Array Value}{p:Nat→Bool}{J:Nat→World→Prop}{w:World}{b0 n c:Nat}{A:Option Addr}{ds:List Int}(h:a_ Lay.int w b0 A n ds)(cu:b0≤w.heap.size)(hn:n≤maxLen)(h0:J 0 w)
  (hp:∀k W d,ds[k]? =some d→Below b0 w W→J k W→Calls Tryz.prog f (#[.int .i64 d]++cap) W fun e W'=>e=.returned (.bool (p k))∧J (k+1) W'∧Below b0 W W') :
  Calls Tryz.prog 258 #[.slice A n c,.func (.func f) #[] cap] w fun e w'=>e=.returned (.int .i64 ((List.range n).countP p:Int))∧Below b0 w w':=by
 have HL:=zA h.1;unfold maxLen at hn;have HP:=zA hp;have H0:=zA h0;clear hp h0;go_enter Tryz.func258,Tryz.ntmps258
 go_wp2_with fail
 go_loopw[5,10] (fun q i wr=>∃k:Nat,k≤n∧i=.int .i64 k∧q=.int .i64 ((List.range k).countP p:Int)∧Below b0 w wr∧RowKit.Hid (J k wr)) (fun _ i _=>n-(intOf i).toNat)
 case atStart=>exact⟨0,zL _,rfl,by simp,zD _ _,H0⟩
 case round =>
  obtain⟨k,hk,rfl,rfl,hb,HJ⟩:=hrel;by_cases hlt:k<n
  ·obtain⟨hx,g,o,vs,rfl,hg,⟨rfl,hw⟩,hcell⟩:=(h.below hb (zC _)).at_ hlt;have HD:=zA (zG hx);have HC:=zA (List.countP_le_length (p:=p) (l:=List.range k));have HCn:(List.range k).countP p≤k:=by have:=HC.out;rw[List.length_range] at this;omega
   have hz:=hb.size;generalize ds[k]=d at *;have HT:=zA (show (List.range (k+1)).countP p=(List.range k).countP p+if p k then 1 else 0 by rw[List.range_succ,List.countP_append];simp[List.countP_cons]);generalize (List.range k).countP p=m at *;have dK:=hcell 0 _ rfl;simp only[show Lay.int.size=1 from rfl,←zH,zI,zK] at dK;clear hcell hw h;have HB:=zA hb;go_wp2_with fail
   rw[hf,Oper.upon_enter];refine (HP.out k _ d HD.out HB.out HJ.out).mono ?_;rintro e w1 ⟨rfl,hj1,hb1⟩;have HJ1:=zA hj1;have iC:=zA (HB.out.trans hb1);clear hb1 dK hj1;rcases Bool.eq_false_or_eq_true (p k) with hq|hq
   ·rw[hq] at HT ⊢;go_wp2_with fail
    go_roundw
    case rel=>exact⟨k+1,by omega,by go_num,by rw[HT.out];simp,iC.out,HJ1⟩
    case measure=>simp[intOf];omega
   ·rw[hq] at HT ⊢;go_wp2_with fail
    go_roundw
    case rel=>exact⟨k+1,by omega,by go_num,by rw[HT.out];simp,iC.out,HJ1⟩
    case measure=>simp[intOf];omega
  ·go_wp2_with fail
   go_ret;obtain rfl:k=n:=(by omega);exact⟨rfl,hb⟩
theorem VO{f:Nat}(hf:Enters f){cap:Array Value}{p:Nat→Bool}{J:Nat→World→Prop}{w:World}{b0 n c:Nat}{A:Option Addr}{ds:List Int}(h:a_ Lay.int w b0 A n ds)(cu:b0≤w.heap.size)(hn:n≤maxLen)(h0:J 0 w)
  (hp:∀k W d,ds[k]? =some d→Below b0 w W→J k W→Calls Tryz.prog f (#[.int .i64 d]++cap) W fun e W'=>e=.returned (.bool (p k))∧J (k+1) W'∧Below b0 W W') :
  Calls Tryz.prog 178 #[.slice A n c,.func (.func f) #[] cap] w fun e w'=>e=.returned (.bool ((List.range n).all p))∧Below b0 w w':=by
 have HC:=zA (Qz (c:=c) hf h cu hn h0 hp);have hq:(List.range n).all p=decide ((List.range n).countP p=n):=by
  have h1:=List.countP_eq_length (p:=p) (l:=List.range n);rw[List.length_range] at h1;rw[Bool.eq_iff_iff,zY,decide_eq_true_eq,h1]
 have HQ:=zA hq;generalize (List.range n).countP p=m at *;clear hq h hp h0;go_enter Tryz.func178,Tryz.ntmps178
 go_wp2_with fail
 refine HC.out.mono ?_;rintro e w1 ⟨rfl,hb⟩;by_cases he:m=n
 ·subst he;go_wp2_with fail
  go_ret;exact⟨by rw[HQ.out];simp,hb⟩
 ·have he2:¬(m:Int)=(n:Int):=(by omega);go_wp2_with fail
  go_ret;exact⟨by rw[HQ.out];simp[he];try omega,hb⟩
open Go.RowKit
theorem Ou:Enters 306:=enters_of Tryz.func306 (by kernel_rfl) (by kernel_rfl)
theorem QA{w:World}{B C n c:Nat}{A:Option Addr}{o:Int}{ds:List Int}(h:a_ Lay.int w B A n ds)(hn:n≤1048576)(hm:qU w B [o])(hC:w.cell? ⟨C,0,none⟩=some (.map (some B)))(hne:C≠B) :
  Calls Tryz.prog 178 #[.slice A n c,.func (.func 306) #[] #[.pointer (some ⟨C,0,none⟩)]] w fun e w'=>e=.returned (.bool ((List.range n).all (rH o ds)))∧Below B w w':=by
 have hwf:∀x∈ds,(Lit.int .i64 x).wf=true:=fun x hx=>by
  obtain⟨i,hi⟩:=List.mem_iff_getElem?.1 hx;rcases h.2 with rfl|⟨g,o,_,_,f,hf⟩
  ·simp at hx
  ·exact (hf i x hi).1.2
 have hlen:=h.1;refine VO (J:=fun k W=>qU W B (o::ds.take k)∧W.cell? ⟨C,0,none⟩=some (.map (some B))) Ou h (Nat.le_of_lt hm.lt) (by unfold maxLen;omega) ⟨by simpa using hm,hC⟩ ?_;rintro k W d hd hb ⟨hJ,hJC⟩;have hk:=(zO.1 hd).1;refine (VN hJ hJC hne (hwf d (List.mem_of_getElem? hd)) (by simp;omega)).mono ?_;rintro e W' ⟨rfl,hm',ht⟩;refine⟨by rw[NG hd],⟨?_,?_⟩,ht.below (zC _) (Nat.le_of_lt hJ.lt)⟩
 ·rw[List.take_add_one,hd];simpa using hm'
 ·rw[←hJC];exact World.cell?_of_block (ht.block _ (lt_of_cell hJC) (by simp only;omega))
theorem D8{w:World}{hi:Nat}{x:eQ}{vs:List Value}(h:aX.see w hi x vs)(cu:hi≤w.heap.size)(hn:dO x≤1048576) :
  Calls Tryz.prog 200 #[.agg vs.toArray] w fun e w'=>e=.returned (.bool (Bg x))∧yT w w':=by
 obtain⟨A1,n1,c1,rfl,hw0,⟨hc1,hm1,s1⟩⟩:=iQ h;obtain⟨o,ds⟩:=x;have l1:=s1.1;simp only at l1 s1 hw0;subst l1;show Calls Tryz.prog 200 #[.agg #[.int .i64 o,.slice A1 ds.length c1]] w fun e w'=>e=.returned (.bool (ownB o ds.length&&(List.range ds.length).all (rH o ds)))∧yT w w'
 have hl:ds.length≤1048576:=hn;have HB:=zA ((zD w.heap.size w).alloc (zC _) (.cells #[.int .i64 o,.slice A1 ds.length c1] 137));have HX:=zA (ak w #[.int .i64 o,.slice A1 ds.length c1] 137);have HN:=zA (fun (W:World)=>Lp (w:=W) hw0);have HA:=zA (fun (W:World) (B C:Nat) (hW:yT w W) (hB:w.heap.size≤B) (hm:qU W B [o]) (hC:W.cell? ⟨C,0,none⟩=some (.map (some B))) (hne:C≠B)=>QA (c:=c1) ((s1.below hW cu).more (zJ cu hB)) hl hm hC hne);generalize (List.range ds.length).all (rH o ds)=b at *;generalize ds.length=n at *;clear s1 h hw0 hn;by_cases h1 : -1≤o
 ·by_cases h2:o = -1
  ·subst h2;rcases Nat.eq_zero_or_pos n with h3|h3
   ·subst h3;have hr:ownB (-1) 0=true:=yE ⟨by decide,fun _=>rfl⟩;rw[hr,Bool.true_and];go_enter Tryz.func200,Tryz.ntmps200
    go_wp2_with fail
    have HQ:=zA (fun (W:World) (hb:Below (w.alloc (.cells #[.int .i64 (-1),.slice A1 0 c1] 137)).drew.heap.size (w.alloc (.cells #[.int .i64 (-1),.slice A1 0 c1] 137)).drew W)=>show W.cell? ⟨w.heap.size,1,none⟩=some (.slice A1 0 c1) from ae (af HX.out ((gz (zD _ _) 1).trans hb) (by simp)) rfl);go_region_with (first
     |(go_at_call 270;refine (HN.out _).mono ?_;rintro e w2 ⟨C,hC1,rfl,jY,hC2,hb2⟩;have lK:Hid (yT w w2):=zA (HB.out.drew.trans (hb2.mono (by simp)));have q1:w2.cell? ⟨w.heap.size,1,none⟩=some (.slice A1 0 c1):=HQ.out _ hb2)
     |(go_at_call 178;refine (HA.out _ _ _ lK.out (by simp) jY hC2 (by omega)).mono ?_;rintro e w3 ⟨rfl,hb3⟩))
    all_goals
     go_wp2_with fail
     go_ret;exact⟨rfl,lK.out.trans (hb3.mono (by simp))⟩
   ·have hr:ownB (-1) n=false:=yD (fun h=>by have:=h.2 rfl;omega);rw[hr,zX];go_enter Tryz.func200,Tryz.ntmps200
    go_wp2_with fail
    go_ret;exact⟨rfl,HB.out⟩
  ·have hr:ownB o n=true:=yE ⟨h1,fun h=>absurd h h2⟩;rw[hr,Bool.true_and];go_enter Tryz.func200,Tryz.ntmps200
   go_wp2_with fail
   have HQ:=zA (fun (W:World) (hb:Below (w.alloc (.cells #[.int .i64 o,.slice A1 n c1] 137)).drew.heap.size (w.alloc (.cells #[.int .i64 o,.slice A1 n c1] 137)).drew W)=>show W.cell? ⟨w.heap.size,1,none⟩=some (.slice A1 n c1) from ae (af HX.out ((gz (zD _ _) 1).trans hb) (by simp)) rfl);go_region_with (first
    |(go_at_call 270;refine (HN.out _).mono ?_;rintro e w2 ⟨C,hC1,rfl,jY,hC2,hb2⟩;have lK:Hid (yT w w2):=zA (HB.out.drew.trans (hb2.mono (by simp)));have q1:w2.cell? ⟨w.heap.size,1,none⟩=some (.slice A1 n c1):=HQ.out _ hb2)
    |(go_at_call 178;refine (HA.out _ _ _ lK.out (by simp) jY hC2 (by omega)).mono ?_;rintro e w3 ⟨rfl,hb3⟩))
   all_goals
    go_wp2_with fail
    go_ret;exact⟨rfl,lK.out.trans (hb3.mono (by simp))⟩
 ·have hr:ownB o n=false:=yD (fun h=>h1 h.1);rw[hr,zX];go_enter Tryz.func200,Tryz.ntmps200
  go_wp2_with fail
  go_ret;exact⟨rfl,HB.out⟩
theorem a_.front{α:Type}{L:Lay α}{w:World}{hi n:Nat}{A:Option Addr}{xs:List α}(h:a_ L w hi A n xs){k:Nat}(hk:k≤n):a_ L w hi A k (xs.take k):=by
 obtain⟨h1,h2⟩:=h;refine⟨by rw[List.length_take];omega,?_⟩;rcases h2 with rfl|⟨g,o,e,hg,f,hf⟩
 ·exact .inl (by simp)
 ·refine .inr ⟨g,o,e,hg,f,fun i x hx=>hf i x ?_⟩;rw[List.getElem?_take] at hx;split at hx
  ·exact hx
  ·cases hx
theorem TG{P:Program}{t e:TypeId}{s:Nat}(ht:P.underlying t=some (.slice e))(hz:∀w,(Go.sizeOf e).run P w=.ok s w)(W:World)(g o n c k:Nat)(h2:k≤c) :
  (Instr.slice t (.slice (some ⟨g,o,none⟩) n c) none (some (.int .i64 k)) none).run P W=.ok (.slice (some ⟨g,o,none⟩) k c) W:=by
 have Kr:P.underlying t=some (.slice (P.elem t)):=(by simp[Program.elem,ht]);have he:P.elem t=e:=(by simp[Program.elem,ht]);rw[run_slice_h W t _ _ _ Kr .i64 _ (by omega) (by omega),he,hz];simp[Result.andThen,sliced,Addr.add]
theorem Ov{w:World}{hi n c:Nat}{A:Option Addr}{g:Int}{ds:List Int}(h:a_ Lay.int w hi A n ds)(hn:n≤maxLen) :
  Calls Tryz.prog 261 #[.slice A n c,.int .i64 g] w fun e w'=>e=.returned (.bool (ds.contains g))∧w'=w:=by
 have HL:=zA h.1;unfold maxLen at hn;obtain⟨v,hv⟩:∃v,v=ds.contains g:=⟨_,rfl⟩
 rw[←hv];have HV:=zA hv;clear hv;go_enter Tryz.func261,Tryz.ntmps261
 go_wp2_with fail
 go_loop[9] (fun i=>∃k:Nat,k≤n∧i=.int .i64 k∧(ds.take k).contains g=false) (fun i=>n-(intOf i).toNat)
 case atStart=>exact⟨0,zL _,rfl,by simp⟩
 case round =>
  obtain⟨k,hk,rfl,hall⟩:=hrel;by_cases hlt:k<n
  ·obtain⟨hx,b,o,vs,rfl,hg,⟨rfl,hw⟩,hcell⟩:=h.at_ hlt;have HD:=zA (zG hx);generalize ds[k]=d at *;have HA:=zA hall;have HT:=zA (show (ds.take (k+1)).contains g=((ds.take k).contains g||decide (g=d)) by rw[List.take_add_one,HD.out];simp);have dK:=hcell 0 _ rfl;simp only[show Lay.int.size=1 from rfl,←zH,zI,zK] at dK;clear hcell hw hall h;by_cases hq:d=g
   ·have HM:=zA (show v=true by rw[HV.out];simpa using hq ▸ List.mem_of_getElem? HD.out);clear HV;clear HD HT HA;subst hq;go_wp2_with fail
    go_ret;have:=HM.out;subst this;exact⟨by simp,rfl⟩
   ·go_wp2_with fail
    go_round
    case rel=>exact⟨k+1,by omega,by go_num,by rw[HT.out,HA.out];simp;exact fun h=>hq h.symm⟩
    case measure=>simp[intOf];omega
  ·have HA:=zA hall;clear hall;go_wp2_with fail
   go_ret;obtain rfl:k=n:=(by omega);have:=HA.out;rw[zU (by rw[HL.out];exact zC _)] at this;rw[←HV.out] at this;subst this;exact⟨by simp,rfl⟩
theorem D9{w:World}{hi:Nat}{x:eQ}{vs:List Value}(h:aX.see w hi x vs)(cu:hi≤w.heap.size) :
  Calls Tryz.prog 187 #[.agg vs.toArray] w fun e w'=>e=.returned (.bool (Bg x))∧yT w w':=by
 obtain⟨A1,n1,c1,rfl,hw0,⟨hc1,hm1,s1⟩⟩:=iQ h;obtain⟨o,ds⟩:=x;have l1:=s1.1;simp only at l1 s1 hw0;subst l1;show Calls Tryz.prog 187 #[.agg #[.int .i64 o,.slice A1 ds.length c1]] w fun e w'=>e=.returned (.bool (ownB o ds.length&&(List.range ds.length).all (rH o ds)))∧yT w w'
 have HB:=zA ((zD w.heap.size w).alloc (zC _) (.cells #[.int .i64 o,.slice A1 ds.length c1] 137));have HX:=zA (ak w #[.int .i64 o,.slice A1 ds.length c1] 137);have s1b:=s1.below HB.out cu;have HL:=zA (show ds.length=ds.length from rfl);generalize hN:ds.length=n at *;clear s1 h hw0;have NC:=zJ hc1 hm1;unfold maxLen at NC;obtain⟨r,XX⟩:∃r,r=(List.range n).all (rH o ds):=⟨_,rfl⟩
 rw[←XX];have HR:=zA XX;clear XX;by_cases h1 : -1≤o
 ·by_cases h2:o = -1∧0<n
  ·obtain⟨rfl,h3⟩:=h2;have hr:ownB (-1) n=false:=yD (fun h=>by have:=h.2 rfl;omega);rw[hr,zX];go_enter Tryz.func187,Tryz.ntmps187
   go_wp2_with fail
   go_ret;exact⟨rfl,HB.out⟩
  ·have hr:ownB o n=true:=yE ⟨h1,fun h=>by omega⟩;rw[hr,Bool.true_and];clear hr;have hor:¬o = -1∨(o = -1∧n=0):=(by omega);rcases hor with h3|⟨h3,h4⟩
   ·go_enter Tryz.func187,Tryz.ntmps187
    go_wp2_with fail
    go_loop[22] (fun i=>∃k:Nat,k≤n∧i=.int .i64 k∧(List.range k).all (rH o ds)=true) (fun i=>n-(intOf i).toNat)
    case atStart=>exact⟨0,zL _,rfl,by simp⟩
    case round =>
     obtain⟨k,hk,rfl,hall⟩:=hrel;by_cases hlt:k<n
     ·have sF:=s1b.front hk;obtain⟨hx,g,p,vs,rfl,hg,⟨rfl,hw⟩,hcell⟩:=s1b.at_ hlt;have HD:=zA (zG hx);generalize ds[k]=d at *;have HA:=zA hall;have HO:=zA (NG (o:=o) HD.out);have HT:=zA (show (List.range (k+1)).all (rH o ds)=((List.range k).all (rH o ds)&&rH o ds k) by rw[List.range_succ];simp);have HF:=zA (fun (hf:rH o ds k=false)=>show (List.range n).all (rH o ds)=false from List.all_eq_false.2 ⟨k,by simpa using hlt,by rw[hf];simp⟩);have dK:=hcell 0 _ rfl;simp only[show Lay.int.size=1 from rfl,←zH,zI,zK] at dK;have hcut:=fun W=>TG (P:=Tryz.prog) Tryz.underlying22 U9 W g p n c1 k (by omega)
      have HH:=zA (Ov (c:=c1) (g:=d) sF (by unfold maxLen;omega));clear hcell hw hall s1b sF;have p0:=ae (j:=0) HX.out rfl;have p1:=ae (j:=1) HX.out rfl;by_cases hd:0≤d
      ·by_cases hq:d=o
       ·have hf:r=false:=by rw[HR.out];exact HF.out (by rw[HO.out];simp[hq])
        subst hf;clear HD HT HA HF HO HH;subst hq;go_wp2_with fail
        go_ret;exact⟨by simp,HB.out⟩
       ·obtain⟨v,hv⟩:∃v,v=(ds.take k).contains d:=⟨_,rfl⟩
        rw[←hv] at HH;have HV:=zA hv;clear hv;have wM:=zA (show rH o ds k = !v by rw[HO.out,HV.out];simp[hd,hq]);clear HO HV HD;go_wp2_with fail
        refine HH.out.mono ?_;rintro e w3 ⟨rfl,rfl⟩;rcases Bool.eq_false_or_eq_true v with hb|hb
        ·have hf:r=false:=by rw[HR.out];exact HF.out (by rw[wM.out,hb];rfl)
         subst hf hb;go_wp2_with fail
         go_ret;exact⟨by simp,HB.out⟩
        ·have XT:=zA (show (List.range (k+1)).all (rH o ds)=true by rw[HT.out,HA.out,wM.out,hb];rfl);clear wM;subst hb;have hz:(d==o)=false:=by simpa using hq
         have hz2:¬d<0:=(by omega);go_wp2_with fail
         go_round
         case rel=>exact⟨k+1,by omega,by go_num,XT.out⟩
         case measure=>simp[intOf];omega
      ·have hf:r=false:=by rw[HR.out];exact HF.out (by rw[HO.out];simp[hd])
       subst hf;clear HD HT HA HF HO HH;go_wp2_with fail
       go_ret;exact⟨by simp,HB.out⟩
     ·obtain rfl:k=n:=(by omega);have hf:r=true:=by rw[HR.out];exact hall
      subst hf;clear hall;go_wp2_with fail
      go_ret;exact⟨by simp,HB.out⟩
   ·subst h3 h4;have hf:r=true:=by rw[HR.out];rfl
    subst hf;clear s1b HR HL;go_enter Tryz.func187,Tryz.ntmps187
    go_wp2_with fail
    go_loop[22] (fun i=>i=.int .i64 0) (fun i=>0)
    case atStart=>rfl
    case round =>
     subst hrel;go_wp2_with fail
     go_ret;exact⟨by simp,HB.out⟩
 ·have hr:ownB o n=false:=yD (fun h=>h1 h.1);rw[hr,zX];go_enter Tryz.func187,Tryz.ntmps187
  go_wp2_with fail
  go_ret;exact⟨rfl,HB.out⟩
end Go.Proofs.YtjcoapnggojpdaaGreatDoor
