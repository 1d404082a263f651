/- Texts of the proof, laid compactly. -/
import Derived.Deep.AppendLies
import Derived.Lib.SplitLaws
import Derived.Lib.ItoaMem
import Derived.Lib.ParseIntB
import Derived.Deep.Fields
import Derived.HandedShaped
import Derived.Test.YtjcoapnggojpdaaGreatDoorProg
import Derived.BigQuiet
import Derived.Deep.RegionWith
import Derived.Handy
set_option maxHeartbeats 1000000
set_option maxRecDepth 100000
namespace Go.Proofs.YtjcoapnggojpdaaGreatDoor
open Go.RowKit
abbrev yT(w W:World):Prop:=Below w.heap.size w W
abbrev yU(x:Int):Prop:=(Lit.int .i64 x).wf=true
theorem zA:type_of% @Lib.hid := @Lib.hid
theorem zC:type_of% @Nat.le_refl := @Nat.le_refl
theorem zD:type_of% @Below.refl := @Below.refl
theorem zF:type_of% @World.size_alloc := @World.size_alloc
theorem zG:type_of% @List.getElem?_eq_getElem := @List.getElem?_eq_getElem
theorem zH:type_of% @Nat.add_assoc := @Nat.add_assoc
theorem zI:type_of% @Nat.add_zero := @Nat.add_zero
theorem zJ:type_of% @Nat.le_trans := @Nat.le_trans
theorem zK:type_of% @Nat.mul_one := @Nat.mul_one
theorem zL:type_of% @Nat.zero_le := @Nat.zero_le
theorem zM:type_of% @World.size_setCell := @World.size_setCell
theorem zN:type_of% @Below.heap_setCell := @Below.heap_setCell
theorem zO:type_of% @List.getElem?_eq_some_iff := @List.getElem?_eq_some_iff
theorem zQ:type_of% @Below.trans := @Below.trans
theorem zS:type_of% @List.getElem_mem := @List.getElem_mem
theorem zT:type_of% @Bool.and_eq_true := @Bool.and_eq_true
theorem zU:type_of% @List.take_of_length_le := @List.take_of_length_le
theorem zV:type_of% @Nat.lt_of_lt_of_le := @Nat.lt_of_lt_of_le
theorem zW:type_of% @Option.some.inj := @Option.some.inj
theorem zX:type_of% @Bool.false_and := @Bool.false_and
theorem zY:type_of% @List.all_eq_true := @List.all_eq_true
theorem zZ:type_of% @List.length_append := @List.length_append
theorem yA:type_of% @Int.toNat_natCast := @Int.toNat_natCast
theorem yB:type_of% @List.length_cons := @List.length_cons
theorem yC:type_of% @List.length_nil := @List.length_nil
theorem yD:type_of% @decide_eq_false := @decide_eq_false
theorem yE:type_of% @decide_eq_true := @decide_eq_true
theorem yF:type_of% @if_neg := @if_neg
theorem yG:type_of% @if_pos := @if_pos
theorem yH:type_of% @Nat.zero_add := @Nat.zero_add
theorem yI:type_of% @Nat.lt_irrefl := @Nat.lt_irrefl
theorem yJ:type_of% @Nat.sub_self := @Nat.sub_self
theorem yK:type_of% @List.getElem_map := @List.getElem_map
theorem yL:type_of% @List.length_map := @List.length_map
theorem yM:type_of% @List.getElem?_map := @List.getElem?_map
theorem yN:type_of% @List.getElem?_append := @List.getElem?_append
theorem yO:type_of% @Int.eq_ofNat_of_zero_le := @Int.eq_ofNat_of_zero_le
theorem yP:type_of% @Array.size_push := @Array.size_push
theorem yQ:type_of% @List.map_cons := @List.map_cons
theorem yR:type_of% @List.map_nil := @List.map_nil
theorem yS:type_of% @List.map_toArray := @List.map_toArray
theorem add_plain(g o j:Nat):(⟨g,o,none⟩:Addr).add j=⟨g,o+j,none⟩:=by
 unfold Addr.add;split <;> simp_all
def Seen(w:World)(hi size:Nat)(A:Option Addr)(n:Nat)(xs:List Value):Prop :=
 xs.length=n*size∧(xs=[]∨∃g o,A=some ⟨g,o,none⟩∧g<hi∧∀j u,xs[j]? =some u→w.cell? ⟨g,o+j,none⟩=some u)
structure Turned (lo hi:Nat) (w w':World):Prop where
 os:w'.os=w.os
 tape:w'.tape=w.tape
 output:w'.output=w.output
 size:w.heap.size≤w'.heap.size
 block:∀k,k<w.heap.size→(k<lo∨hi≤k)→w'.heap[k]? =w.heap[k]?
def Own(w:World)(lo hi:Nat)(e:TypeId)(size:Nat)(A:Option Addr)(n c:Nat)(xs:List Value):Prop :=
 w.ownsRow lo e size (.slice A n c) n xs∧∀a,A=some a→a.block<hi
theorem gz{B:Nat}{a w:World}(h:Below B a w)(n:Nat):Below B a (w.drewN n):=⟨h.os,h.tape,h.output,h.size,h.block⟩
section
variable {w w' w'':World} {lo hi lo' hi' size n c:Nat} {e:TypeId} {A:Option Addr} {xs:List Value}
theorem Turned.refl(lo hi:Nat)(w:World):Turned lo hi w w:=⟨rfl,rfl,rfl,Nat.le_refl _,fun _ _ _=>rfl⟩
theorem Turned.trans(h:Turned lo hi w w')(k:Turned lo hi w' w''):Turned lo hi w w'' :=
 ⟨k.os.trans h.os,k.tape.trans h.tape,k.output.trans h.output,Nat.le_trans h.size k.size,fun i hi ho=>(k.block i (Nat.lt_of_lt_of_le hi h.size) ho).trans (h.block i hi ho)⟩
theorem Turned.of_below(h:yT w w')(lo hi:Nat):Turned lo hi w w':=⟨h.os,h.tape,h.output,h.size,fun k hk _=>h.block k hk⟩
theorem Turned.drew(h:Turned lo hi w w'):Turned lo hi w w'.drew:=⟨h.os,h.tape,h.output,h.size,h.block⟩
theorem Turned.setCell(h:Turned lo hi w w'){p:Addr}(h1:lo≤p.block)(h2:p.block<hi)(u:Value):Turned lo hi w (w'.setCell p u) :=
 ⟨h.os,h.tape,h.output,by simpa[World.setCell] using h.size,fun k hk ho=>(Below.heap_setCell w' p u k (by omega)).trans (h.block k hk ho)⟩
theorem Turned.below(h:Turned lo hi w w'){B:Nat}(hB:B≤lo)(hs:B≤w.heap.size):Below B w w':=⟨h.os,h.tape,h.output,h.size,fun k hk=>h.block k (by omega) (.inl (by omega))⟩
theorem Turned.wider(h:Turned lo hi w w')(h1:lo'≤lo)(h2:hi≤hi'):Turned lo' hi' w w':=⟨h.os,h.tape,h.output,h.size,fun k hk ho=>h.block k hk (by omega)⟩
theorem Seen.len(h:Seen w hi 1 A n xs):xs.length=n:=by simpa using h.1
theorem Seen.nil_:Seen w hi size A 0 []:=⟨by simp,.inl rfl⟩
theorem Seen.keep(h:Seen w hi size A n xs)(hk:∀k,k<hi→w'.heap[k]? =w.heap[k]?):Seen w' hi size A n xs :=
 ⟨h.1,h.2.imp id fun ⟨g,o,e,hg,hc⟩=>⟨g,o,e,hg,fun j u hu=>(World.cell?_of_block (w:=w) (w':=w') (a:=⟨g,o+j,none⟩) (hk g hg)).trans (hc j u hu)⟩⟩
theorem Seen.more(h:Seen w hi size A n xs)(hh:hi≤hi'):Seen w hi' size A n xs :=
 ⟨h.1,h.2.imp id fun ⟨g,o,e,hg,hc⟩=>⟨g,o,e,by omega,hc⟩⟩
theorem Seen.below(h:Seen w hi size A n xs){B:Nat}(hb:Below B w w')(hB:hi≤B):Seen w' hi size A n xs:=h.keep fun k hk=>hb.block k (by omega)
theorem Seen.turned(h:Seen w hi size A n xs){l r:Nat}(hb:Turned l r w w')(hB:hi≤l)(hs:hi≤w.heap.size):Seen w' hi size A n xs:=h.keep fun k hk=>hb.block k (by omega) (.inl (by omega))
theorem Seen.at_(h:Seen w hi size A n xs){j:Nat}(hj:j<n*size):∃g o u,A=some ⟨g,o,none⟩∧g<hi∧xs[j]? =some u∧w.cell? ⟨g,o+j,none⟩=some u:=by
 have hl:j<xs.length:=by have:=h.1;omega
 rcases h.2 with h0|⟨g,o,e,hg,hc⟩
 ·rw[h0] at hl;simp at hl
 ·exact⟨g,o,xs[j],e,hg,List.getElem?_eq_getElem hl,hc j _ (List.getElem?_eq_getElem hl)⟩
theorem Seen.news(h:Seen w hi size A n xs){ad:Addr}(hA:A=some ad):∀j u,xs[j]? =some u→w.cell? (ad.add j)=some u:=by
 intro j u hu;rcases h.2 with h0|⟨g,o,e,hg,hc⟩
 ·rw[h0] at hu;simp at hu
 ·rw[hA] at e;injection e with e;subst e;rw[add_plain];exact hc j u hu
theorem Own.len(h:Own w lo hi e 1 A n c xs):xs.length=n:=by simpa using h.1.1
theorem Own.lt(h:Own w lo hi e size A n c xs):∀a,A=some a→lo≤a.block∧a.block<hi∧a.block<w.heap.size:=by
 intro a ha;have:=h.1.lt a.block (by rw[ha];rfl);exact⟨this.1,h.2 a ha,this.2⟩
theorem Own.keep(h:Own w lo hi e size A n c xs)(hk:∀k,lo≤k→k<hi→k<w.heap.size→w'.heap[k]? =w.heap[k]?):Own w' lo hi e size A n c xs:=by
 refine⟨⟨h.1.1,?_⟩,h.2⟩;rcases h.1.2 with hn|⟨g,cap,cur,hv,hb,hg,rest⟩
 ·exact .inl hn
 ·refine .inr ⟨g,cap,cur,hv,hb,?_,rest⟩;injection hv with hA _ _
  have:=h.lt _ hA;rw[hk g this.1 this.2.1 this.2.2];exact hg
theorem Own.wider(h:Own w lo hi e size A n c xs)(h1:lo'≤lo)(h2:hi≤hi'):Own w lo' hi' e size A n c xs:=by
 refine⟨⟨h.1.1,?_⟩,fun a ha=>by have:=h.2 a ha;omega⟩;rcases h.1.2 with hn|⟨g,cap,cur,hv,hb,hg,rest⟩
 ·exact .inl hn
 ·exact .inr ⟨g,cap,cur,hv,by omega,hg,rest⟩
theorem Own.below(h:Own w lo hi e size A n c xs){B:Nat}(hb:Below B w w')(hB:hi≤B):Own w' lo hi e size A n c xs:=h.keep fun k _ hk _=>hb.block k (by omega)
theorem Own.turned(h:Own w lo hi e size A n c xs){l r:Nat}(hb:Turned l r w w')(hB:hi≤l∨r≤lo):Own w' lo hi e size A n c xs:=h.keep fun k h1 h2 h3=>hb.block k h3 (by omega)
theorem Own.seen(h:Own w lo hi e size A n c xs):Seen w hi size A n xs:=by
 refine⟨h.1.1,?_⟩;rcases h.1.2 with⟨_,hn⟩|⟨g,cap,cur,hv,hb,hg,hnc,hm,hs,ht⟩
 ·left;have:=h.1.1;rw[hn] at this;simpa using this
 ·injection hv with hA _ _
  refine .inr ⟨g,0,hA,(h.lt _ hA).2.1,fun j u hu => ?_⟩;have:=h.1.cells (g:=g) (by rw[hA];rfl) j u hu;rwa [add_plain] at this
theorem Own.PD{v:Value}(h:w.ownsRow lo e size v n xs)(hs:w.heap.size≤hi):∃A c,v=.slice A n c∧Own w lo hi e size A n c xs:=by
 rcases h.2 with⟨hv,hn⟩|⟨g,cap,cur,hv,rest⟩
 ·subst hn;exact⟨none,0,hv,by rw[←hv];exact h,fun a ha=>by cases ha⟩
 ·refine⟨_,cap,hv,by rw[←hv];exact h,fun a ha => ?_⟩;have:=h.lt a.block (by rw[hv,ha];rfl);omega
theorem Own.BP{g:Nat}(h:Own w lo hi e size (some ⟨g,0,none⟩) n c xs)(j:Nat)(u:Value) :
  Own (w.setCell ⟨g,j,none⟩ u) lo hi e size (some ⟨g,0,none⟩) n c (xs.set j u):=⟨(h.1.stored j u).1,h.2⟩
theorem Own.form(h:Own w lo hi e size A n c xs)(hn:0<n):∃g,A=some ⟨g,0,none⟩∧lo≤g∧g<hi∧g<w.heap.size:=by
 rcases h.1.2 with⟨_,h0⟩|⟨g,cap,cur,hv,rest⟩
 ·omega
 ·injection hv with hA _ _
  have:=h.lt _ hA;exact⟨g,hA,this.1,this.2.1,this.2.2⟩
theorem Own.cell{g:Nat}(h:Own w lo hi e size (some ⟨g,0,none⟩) n c xs){j:Nat}{u:Value}(hu:xs[j]? =some u):w.cell? ⟨g,j,none⟩=some u:=by
 have:=h.1.cells (g:=g) rfl j u hu;rwa [add_plain,Nat.zero_add] at this
theorem Own.free{g:Nat}(h:Own w lo hi e size (some ⟨g,0,none⟩) n c xs)(j:Nat):w.frozen? ⟨g,j,none⟩=false:=by
 rcases h.1.2 with⟨hv,_⟩|⟨g',cap,cur,hv,hb,hg,rest⟩
 ·cases hv
 ·injection hv with hA _ _
  injection hA with hA
  injection hA with hA _
  subst hA;simp[World.frozen?,hg]
theorem Own.made(w:World)(cur:Array Value)(n c:Nat)(hm:c≤maxLen)(hs:cur.size=c*size)(hn:n≤c) :
  Own (w.alloc (.cells cur e)) w.heap.size (w.heap.size+1) e size (some ⟨w.heap.size,0,none⟩) n c (cur.toList.take (n*size)):=by
 refine⟨⟨?_,.inr ⟨w.heap.size,c,cur,rfl,Nat.le_refl _,heap_alloc_new w _,hn,hm,hs,rfl⟩⟩,fun a ha=>by injection ha with ha;subst ha;simp⟩;rw[List.length_take,Array.length_toList,hs];have:n*size≤c*size:=Nat.mul_le_mul_right _ hn;omega
theorem Own.cap(h:Own w lo hi e size A n c xs):n≤c:=by
 rcases h.1.2 with⟨_,h0⟩|⟨g,cap,cur,hv,_,_,hnc,_⟩
 ·omega
 ·injection hv with _ _ hc
  omega
theorem Own.alloc(h:Own w lo hi e size A n c xs)(o:Obj):Own (w.alloc o) lo hi e size A n c xs:=h.keep fun _ _ _ hk=>Below.heap_alloc w o _ hk
theorem Own.drewN(h:Own w lo hi e size A n c xs)(m:Nat):Own (w.drewN m) lo hi e size A n c xs:=h
theorem Own.drew(h:Own w lo hi e size A n c xs):Own w.drew lo hi e size A n c xs:=h
theorem Own.nil_(w:World)(lo hi:Nat)(e:TypeId)(size:Nat):Own w lo hi e size none 0 0 []:=⟨World.ownsRow_nil w lo e size,fun a ha=>by cases ha⟩
theorem Seen.one(w:World)(x:Value)(t:TypeId):Seen (w.alloc (.cells #[x] t)) (w.heap.size+1) 1 (some ⟨w.heap.size,0,none⟩) 1 [x] :=
 ⟨rfl,.inr ⟨w.heap.size,0,rfl,by omega,fun j u hu=>by have:=cell_one_new w x t j u hu;rwa [add_plain] at this⟩⟩
end
section
variable {P:Program} {w:World}
theorem run_append_nothing(base:Nat)(t ty e:TypeId)(i:TypeInfo)(size:Nat)(ht:P.underlying t=some (.slice e))(hi:P.info? e=some i)
  (v:Value)(n:Nat)(xs:List Value)(hown:w.ownsRow base e size v n xs)(c:Nat):(Builtin.append_ #[t,t] ty #[v,.slice none 0 c]).run P w=.ok v w:=by
 rcases hown.2 with⟨rfl,rfl⟩|⟨g,cap,cur,rfl,_,_,hnc,_⟩
 ·simp[Builtin.append_,run_underlying ht,sizeOf,typeInfo,hi,Builtin.lenOf,Builtin.firstCells]
 ·simp[Builtin.append_,run_underlying ht,sizeOf,typeInfo,hi,Builtin.lenOf,Builtin.firstCells,hnc,storeCells]
theorem dB{ops:Array Oper}{rest:List Oper}{o:Oper}{a:Act}{Q:Exit→Act→World→Prop}(hgd:o.guard=none)(s x:Operand)(t:TypeId)
  (ho:o.op=.call {callee := .builtin .append,args := #[s,x],argTypes := #[t,t]})
  (base hi:Nat)(e:TypeId)(i:TypeInfo)(z:Value)(size bytes:Nat)(ht:P.underlying t=some (.slice e))(jJ:P.info? e=some i)(hz:i.zero=some z)
  (hsize:i.size=size)(hby:i.bytes=bytes)(hzs:z.cells.size=size)(hsz:0<size)
  (A:Option Addr)(n c:Nat)(xs:List Value)(hs:a.eval s=.slice A n c)(hown:Own w base hi e size A n c xs)
  (hi':Nat)(A2:Option Addr)(m c2:Nat)(news:List Value)(hx:a.eval x=.slice A2 m c2)(hr:Seen w hi' size A2 m news)(h1:∀u∈news,u.oneCell'=true)
  (h63:n+m≤maxLen)(hbytes:(n+m)*bytes≤140737488355328)(hbase:base≤w.heap.size)
  (h:∀A' c' w',Own w' base w'.heap.size e size A' (n+m) c' (xs++news)→Below base w w'→wpList P ops Q rest (a.put o.dst (.slice A' (n+m) c')) w'):wpList P ops Q (o::rest) a w:=by
 rcases A2 with _|ad
 ·have hnews:news=[]:=by
   rcases hr.2 with h0|⟨g,o,e,_⟩
   ·exact h0
   ·cases e
  have hm:m=0:=by
   have:=hr.1;rw[hnews] at this;exact (Nat.mul_eq_zero.1 this.symm).resolve_right (by omega)
  subst hnews hm;refine wpList_plain hgd fun K hK => ?_
  have hrun:=run_append_nothing (P:=P) base t o.type e i size ht jJ _ n xs hown.1 c2;unfold Oper.wp;simp only[execOp,ho,resolve,invoke,builtin,Sem.run_bind,Sem.run_pure,Result.andThen_ok,List.map_toArray,List.map_cons,List.map_nil,hs,hx,hrun];refine hK _ _ (h A c w ?_ (Below.refl _ _));obtain⟨A',c',hv,BH⟩:=Own.PD (hi:=w.heap.size) hown.1 (Nat.le_refl _);injection hv with e1 _ e3
  subst e1 e3;simpa using BH
 ·refine wpList_append_own_at (w:=w) hgd s x t ho base e i z size bytes ht jJ hz hsize hby hzs hsz _ n xs hs hown.1 ad m c2 news hx hr.1 (hr.news rfl) h1 h63 hbytes hbase ?_;intro v' w' h2 h3 _ _;obtain⟨A',c',hv,BH⟩:=Own.PD (hi:=w'.heap.size) h2 (Nat.le_refl _);subst hv;refine h A' c' w' BH ((Below.refl _ _).grown h3 hbase fun k hk => ?_);exact (hown.1.lt k hk).1
end
end Go.Proofs.YtjcoapnggojpdaaGreatDoor
namespace Go.Proofs.YtjcoapnggojpdaaGreatDoor
open Go.RowKit
abbrev Tx(l:List UInt8):Value := .string ⟨l.toArray⟩
end Go.Proofs.YtjcoapnggojpdaaGreatDoor
namespace Go.Proofs.YtjcoapnggojpdaaGreatDoor
open Go.RowKit Go.ChangeShapes Go.WideShapes Go.Deep
def jk(A:Option Addr):Option Nat:=A.map (·.block)
section
variable {w w':World} {lo hi lo' hi' size n c:Nat} {e:TypeId} {A:Option Addr} {xs:List Value}
theorem Own.Es(h:Own w lo hi e size A n c xs)(hk:∀g,jk A=some g→g<w.heap.size→w'.heap[g]? =w.heap[g]?):Own w' lo hi e size A n c xs:=by
 refine⟨⟨h.1.1,?_⟩,h.2⟩;rcases h.1.2 with hn|⟨g,cap,cur,hv,hb,hg,rest⟩
 ·exact .inl hn
 ·refine .inr ⟨g,cap,cur,hv,hb,?_,rest⟩;injection hv with hA _ _
  rw[hk g (by rw[hA];rfl) (h.lt _ hA).2.2];exact hg
theorem Own.blk(h:Own w lo hi e size A n c xs){g:Nat}(hg:jk A=some g):lo≤g∧g<hi∧g<w.heap.size:=by
 obtain⟨a,ha,rfl⟩:=Option.map_eq_some_iff.1 hg;exact h.lt a ha
theorem Own.uM(h:Own w lo hi e size A n c xs):c≤maxLen:=by
 rcases h.1.2 with⟨hv,_⟩|⟨g,cap,cur,hv,_,_,_,hm,_⟩
 ·injection hv with _ _ hc;omega
 ·injection hv with _ _ hc;omega
theorem Own.vX(h:Own w lo hi e size A n c xs)(hb:∀g,jk A=some g→lo'≤g∧g<hi'):Own w lo' hi' e size A n c xs:=by
 refine⟨⟨h.1.1,?_⟩,fun a ha=>(hb a.block (by rw[ha];rfl)).2⟩;rcases h.1.2 with hn|⟨g,cap,cur,hv,_,rest⟩
 ·exact .inl hn
 ·refine .inr ⟨g,cap,cur,hv,?_,rest⟩;injection hv with hA _ _
  exact (hb g (by rw[hA];rfl)).1
end
structure Lay (α:Type) where
 size:Nat
 see:World→Nat→α→List Value→Prop
 own:World→(Nat→Prop)→α→List Value→Prop
 len:∀{w hi x vs},see w hi x vs→vs.length=size
 keep:∀{w w' hi x vs},see w hi x vs→(∀k,k<hi→w'.heap[k]? =w.heap[k]?)→see w' hi x vs
 more:∀{w hi hi' x vs},see w hi x vs→hi≤hi'→see w hi' x vs
 seen:∀{w F x vs hi},own w F x vs→(∀g,F g→g<hi)→see w hi x vs
 stay:∀{w w' F x vs},own w F x vs→(∀g,F g→g<w.heap.size→w'.heap[g]? =w.heap[g]?)→w.heap.size≤w'.heap.size→own w' F x vs
 wide:∀{w F F' x vs},own w F x vs→(∀g,F g→F' g)→own w F' x vs
section
variable {α β γ:Type}
def Lay.flat(size:Nat)(cells:α→List Value)(wf:α→Prop)(hl:∀x,(cells x).length=size):Lay α where
 size:=size
 see _ _ x vs:=vs=cells x∧wf x
 own _ _ x vs:=vs=cells x∧wf x
 len h:=by rw[h.1,hl]
 keep h _:=h
 more h _:=h
 seen h _:=h
 stay h _ _:=h
 wide h _:=h
def a_(L:Lay α)(w:World)(hi:Nat)(A:Option Addr)(n:Nat)(xs:List α):Prop :=
 xs.length=n∧(xs=[]∨∃g o,A=some ⟨g,o,none⟩∧g<hi∧∃f:Nat→List Value,∀i x,xs[i]? =some x→L.see w hi x (f i)∧∀j u,(f i)[j]? =some u→w.cell? ⟨g,o+(i*L.size+j),none⟩=some u)
def aB(L:Lay α)(e:TypeId)(w:World)(F:Nat→Prop)(A:Option Addr)(n c:Nat)(xs:List α):Prop :=
 xs.length=n∧∃(vs:List Value) (G:Nat→Nat→Prop),Own w 0 w.heap.size e L.size A n c vs∧(∀g,jk A=some g→F g) ∧
  (∀i x,xs[i]? =some x→L.own w (G i) x ((vs.drop (i*L.size)).take L.size))∧(∀i g,i<n→G i g→F g) ∧
  (∀i g,i<n→G i g→jk A≠some g)∧∀i j g,i<j→j<n→G i g→¬G j g
variable {L:Lay α} {w w':World} {hi hi' n c:Nat} {A:Option Addr} {xs:List α} {e:TypeId} {F F':Nat→Prop}
theorem a_.keep(h:a_ L w hi A n xs)(hk:∀k,k<hi→w'.heap[k]? =w.heap[k]?):a_ L w' hi A n xs:=by
 refine⟨h.1,h.2.imp id fun ⟨g,o,e,hg,f,hf⟩=>⟨g,o,e,hg,f,fun i x hx=>⟨L.keep (hf i x hx).1 hk,fun j u hu => ?_⟩⟩⟩;exact (World.cell?_of_block (w:=w) (w':=w') (a:=⟨g,o+(i*L.size+j),none⟩) (hk g hg)).trans ((hf i x hx).2 j u hu)
theorem a_.more(h:a_ L w hi A n xs)(hh:hi≤hi'):a_ L w hi' A n xs :=
 ⟨h.1,h.2.imp id fun ⟨g,o,e,hg,f,hf⟩=>⟨g,o,e,by omega,f,fun i x hx=>⟨L.more (hf i x hx).1 hh,(hf i x hx).2⟩⟩⟩
theorem a_.below(h:a_ L w hi A n xs){B:Nat}(hb:Below B w w')(hB:hi≤B):a_ L w' hi A n xs:=h.keep fun k hk=>hb.block k (by omega)
theorem a_.nil_:a_ L w hi A 0 ([]:List α):=⟨rfl,.inl rfl⟩
theorem a_.at_(h:a_ L w hi A n xs){i:Nat}(hi':i<n):∃(hx:i<xs.length) (g o:Nat) (vs:List Value),A=some ⟨g,o,none⟩∧g<hi∧L.see w hi xs[i] vs∧∀j u,vs[j]? =some u→w.cell? ⟨g,o+(i*L.size+j),none⟩=some u:=by
 have hl:i<xs.length:=by rw[h.1];exact hi'
 refine⟨hl,?_⟩;rcases h.2 with h0|⟨g,o,e,hg,f,hf⟩
 ·rw[h0] at hl;simp at hl
 ·exact⟨g,o,f i,e,hg,hf i _ (List.getElem?_eq_getElem hl)⟩
theorem aB.seen(h:aB L e w F A n c xs)(hF:∀g,F g→g<hi):a_ L w hi A n xs:=by
 obtain⟨hl,vs,G,ho,hA,hel,hG,_,_⟩:=h;refine⟨hl,?_⟩;rcases ho.1.2 with⟨_,hn⟩|⟨g,cap,cur,hv,hb,hg,hnc,hm,hs,ht⟩
 ·left;exact List.length_eq_zero_iff.1 (hl.trans hn)
 ·injection hv with hA' _ _
  have hgF:=hA g (by rw[hA'];rfl);refine .inr ⟨g,0,hA',hF g hgF,fun i=>(vs.drop (i*L.size)).take L.size,fun i x hx => ?_⟩;have hin:i<n:=by rw[←hl];exact (List.getElem?_eq_some_iff.1 hx).1
  refine⟨L.seen (hel i x hx) fun g' nI=>hF g' (hG i g' hin nI),fun j u hu => ?_⟩;rw[List.getElem?_take] at hu;split at hu
  ·rw[List.getElem?_drop] at hu;have:=ho.1.cells (g:=g) (by rw[hA'];rfl) (i*L.size+j) u hu;rwa [add_plain] at this
  ·cases hu
theorem aB.stay(h:aB L e w F A n c xs)(hk:∀g,F g→g<w.heap.size→w'.heap[g]? =w.heap[g]?)(hz:w.heap.size≤w'.heap.size):aB L e w' F A n c xs:=by
 obtain⟨hl,vs,G,ho,hA,hel,hG,h1,h2⟩:=h;refine⟨hl,vs,G,?_,hA,fun i x hx=>L.stay (hel i x hx) (fun g hg=>hk g ?_) hz,hG,h1,h2⟩
 ·exact (ho.Es fun g hg hlt=>hk g (hA g hg) hlt).vX fun g hg=>⟨Nat.zero_le _,Nat.lt_of_lt_of_le (ho.blk hg).2.2 hz⟩
 ·exact hG i g (by rw[←hl];exact (List.getElem?_eq_some_iff.1 hx).1) hg
theorem aB.wide(h:aB L e w F A n c xs)(hF:∀g,F g→F' g):aB L e w F' A n c xs:=by
 obtain⟨hl,vs,G,ho,hA,hel,hG,h1,h2⟩:=h;exact⟨hl,vs,G,ho,fun g hg=>hF g (hA g hg),hel,fun i g hi hg=>hF g (hG i g hi hg),h1,h2⟩
def Lay.slice(L:Lay α)(e:TypeId):Lay (List α) where
 size:=1
 see w hi xs vs:=∃A n c,vs=[.slice A n c]∧n≤c∧c≤maxLen∧a_ L w hi A n xs
 own w F xs vs:=∃A n c,vs=[.slice A n c]∧aB L e w F A n c xs
 len h:=by obtain⟨A,n,c,rfl,_⟩:=h;rfl
 keep h hk:=by obtain⟨A,n,c,e,hc,hm,h⟩:=h;exact⟨A,n,c,e,hc,hm,h.keep hk⟩
 more h hh:=by obtain⟨A,n,c,e,hc,hm,h⟩:=h;exact⟨A,n,c,e,hc,hm,h.more hh⟩
 seen h hF:=by
  obtain⟨A,n,c,e,h⟩:=h;obtain⟨hl,vs,G,ho,r⟩:=h;exact⟨A,n,c,e,ho.cap,ho.uM,aB.seen ⟨hl,vs,G,ho,r⟩ hF⟩
 stay h hk hz:=by obtain⟨A,n,c,e,h⟩:=h;exact⟨A,n,c,e,h.stay hk hz⟩
 wide h hF:=by obtain⟨A,n,c,e,h⟩:=h;exact⟨A,n,c,e,h.wide hF⟩
def Lay.pair(L:Lay α)(M:Lay β):Lay (α × β) where
 size:=L.size+M.size
 see w hi x vs:=∃v1 v2,vs=v1++v2∧L.see w hi x.1 v1∧M.see w hi x.2 v2
 own w F x vs:=∃v1 v2 F1 F2,vs=v1++v2∧L.own w F1 x.1 v1∧M.own w F2 x.2 v2∧(∀g,F1 g→F g)∧(∀g,F2 g→F g)∧∀g,F1 g→¬F2 g
 len h:=by obtain⟨v1,v2,rfl,a,b⟩:=h;rw[List.length_append,L.len a,M.len b]
 keep h hk:=by obtain⟨v1,v2,e,a,b⟩:=h;exact⟨v1,v2,e,L.keep a hk,M.keep b hk⟩
 more h hh:=by obtain⟨v1,v2,e,a,b⟩:=h;exact⟨v1,v2,e,L.more a hh,M.more b hh⟩
 seen h hF:=by obtain⟨v1,v2,F1,F2,e,a,b,h1,h2,_⟩:=h;exact⟨v1,v2,e,L.seen a fun g hg=>hF g (h1 g hg),M.seen b fun g hg=>hF g (h2 g hg)⟩
 stay h hk hz:=by obtain⟨v1,v2,F1,F2,e,a,b,h1,h2,h3⟩:=h;exact⟨v1,v2,F1,F2,e,L.stay a (fun g hg=>hk g (h1 g hg)) hz,M.stay b (fun g hg=>hk g (h2 g hg)) hz,h1,h2,h3⟩
 wide h hF:=by obtain⟨v1,v2,F1,F2,e,a,b,h1,h2,h3⟩:=h;exact⟨v1,v2,F1,F2,e,a,b,fun g hg=>hF g (h1 g hg),fun g hg=>hF g (h2 g hg),h3⟩
def Lay.via(L:Lay α)(f:γ→α):Lay γ where
 size:=L.size
 see w hi x vs:=L.see w hi (f x) vs
 own w F x vs:=L.own w F (f x) vs
 len h:=L.len h
 keep h hk:=L.keep h hk
 more h hh:=L.more h hh
 seen h hF:=L.seen h hF
 stay h hk hz:=L.stay h hk hz
 wide h hF:=L.wide h hF
def lD(P:Program)(t:TypeId)(L:Lay α):Prop :=
 L.size=P.cellsOf t∧∀{H:Type} {enc:TypeId × Value→H} {w:World} {base:Nat} {spare:Nat→Bool} {held:Bool} {fuel:Nat} {cs:List Value} {x:DataW H × List MemPlace},
  DataW.trod enc P w base spare held fuel t cs=some x→∃a,L.see w w.heap.size a cs
theorem qG{P:Program}{t:TypeId}{L:Lay α}(f:γ→α)(hf:∀a,∃x,f x=a)(h:lD P t L):lD P t (L.via f) :=
 ⟨h.1,fun ht=>by obtain⟨a,ha⟩:=h.2 ht;obtain⟨x,rfl⟩:=hf a;exact⟨x,ha⟩⟩
theorem fZ{P:Program}{t:TypeId}{k:IntKind}(ht:P.underlying t=some (.int k))(hc:P.cellsOf t=1) :
  lD P t (Lay.flat 1 (fun z=>[.int k z]) (fun z=>(Lit.int k z).wf=true) (fun _=>rfl)) :=
 ⟨hc.symm,fun h=>by obtain⟨n,rfl,_,hw⟩:=DataW.trod_int ht h;exact⟨n,rfl,hw⟩⟩
theorem Bd{P:Program}{t:TypeId}(ht:P.underlying t=some .bool)(hc:P.cellsOf t=1) :
  lD P t (Lay.flat 1 (fun b=>[.bool b]) (fun _=>True) (fun _=>rfl)) :=
 ⟨hc.symm,fun h=>by obtain⟨n,rfl,_⟩:=DataW.trod_bool ht h;exact⟨n,rfl,trivial⟩⟩
theorem lY{P:Program}{t e e':TypeId}{L:Lay α}(ht:P.underlying t=some (.slice e))(hc:P.cellsOf t=1)(hs:0<L.size)(hL:lD P e L):lD P t (L.slice e'):=by
 refine⟨hc.symm,fun {H enc w base spare held fuel cs x} h => ?_⟩;rcases open_slice ht h with⟨rfl,_⟩|⟨a,len,cap,m,n,D,Pl,rfl,hb,hl,hm,hmm,_,hi⟩
 ·exact⟨[],none,0,0,rfl,Nat.le_refl _,Nat.zero_le _,a_.nil_⟩
 ·have hlm:len≤m:=by rw[hmm];split <;> omega
  have hel:∀i,i<len→∃(y:α) (cs':List Value),L.see w w.heap.size y cs'∧cs'.length=L.size∧∀j,j<L.size→w.cell? ((a.add (i*L.size)).add j)=cs'[j]? :=by
   intro i Jy;obtain⟨cs',hcs,zf⟩:=hi i (by omega);obtain⟨y,hy⟩:=hL.2 zf;obtain⟨_,hcl,hat⟩:=World.cells?_some hcs;rw[←hL.1] at hat hcl;exact⟨y,cs',hy,hcl,hat⟩
  by_cases h0:len=0
  ·subst h0;exact⟨[],some a,0,cap,rfl,hl,hm,a_.nil_⟩
  ·obtain⟨Y,C,hYC⟩:∃(Y:Nat→α) (C:Nat→List Value),∀i,i<len→L.see w w.heap.size (Y i) (C i)∧(C i).length=L.size∧∀j,j<L.size→w.cell? ((a.add (i*L.size)).add j)=(C i)[j]? :=
    ⟨fun i=>if h:i<len then (hel i h).choose else (hel 0 (by omega)).choose,fun i=>if h:i<len then (hel i h).choose_spec.choose else [],fun i hi=>by
     simp only[dif_pos hi];exact (hel i hi).choose_spec.choose_spec⟩
   refine⟨(List.range len).map Y,some a,len,cap,rfl,hl,hm,by simp,.inr ?_⟩;obtain⟨g,o,sp⟩:=a;obtain⟨_,hl0,h00⟩:=hYC 0 (by omega);have hc0:=h00 0 hs;rw[List.getElem?_eq_getElem (by omega)] at hc0;have hsp:sp=none:=by simpa[Addr.add] using World.cell?_spot hc0
   subst hsp;refine⟨g,o,rfl,?_,C,fun i x hx => ?_⟩
   ·have:=World.block_lt_of_cell? w _ hc0;simpa[add_plain] using this
   ·have Jy:i<len:=by
     have:=(List.getElem?_eq_some_iff.1 hx).1;simpa using this
    obtain rfl:Y i=x:=by simpa[Jy] using hx
    refine⟨(hYC i Jy).1,fun j u hu => ?_⟩;have hj:j<L.size:=by rw[←(hYC i Jy).2.1];exact (List.getElem?_eq_some_iff.1 hu).1
    have:=(hYC i Jy).2.2 j hj;rw[add_plain,add_plain,hu,Nat.add_assoc] at this;exact this
inductive Nj (P:Program):List Field→Nat→{α:Type}→Lay α→Prop
 |one {α:Type} {f:Field} {o:Nat} {L:Lay α}:f.offset=o→lD P f.type L→Nj P [f] o L
 |cons {α β:Type} {f:Field} {fs:List Field} {o:Nat} {L:Lay α} {M:Lay β}:f.offset=o→lD P f.type L→Nj P fs (o+L.size) M→Nj P (f::fs) o (L.pair M)
theorem SB{P:Program}{w:World}{cs:List Value}{H:Type}{enc:TypeId × Value→H}{base:Nat}{spare:Nat→Bool}{held:Bool}{n:Nat}{fs:List Field}{o:Nat}{α:Type}{L:Lay α}(h:Nj P fs o L)
  (hf:∀(j:Nat) (f:Field),fs[j]? =some f→∃y,DataW.trod enc P w base spare held n f.type ((cs.drop f.offset).take (P.cellsOf f.type))=some y):∃a,L.see w w.heap.size a ((cs.drop o).take L.size):=by
 induction h with
 |one ho hL =>
  obtain⟨y,hy⟩:=hf 0 _ rfl;rw[ho,←hL.1] at hy;exact hL.2 hy
 |cons ho hL hr ih =>
  rename_i L1 M1
  obtain⟨y,hy⟩:=hf 0 _ rfl;rw[ho,←hL.1] at hy;obtain⟨a,ha⟩:=hL.2 hy;obtain⟨b,hb⟩:=ih fun j f hj=>hf (j+1) f (by simpa using hj)
  refine⟨(a,b),_,_,?_,ha,hb⟩;show (cs.drop _).take (L1.size+M1.size)=_
  rw[List.take_add,List.drop_drop]
theorem jq{P:Program}{t:TypeId}{fs:Array Field}{L:Lay α}(ht:P.underlying t=some (.struct fs))(hc:P.cellsOf t=L.size)(h:Nj P fs.toList 0 L):lD P t L:=by
 refine⟨hc.symm,fun {H enc w base spare held fuel cs x} hx => ?_⟩;obtain⟨xs,n,rfl,_,hl,hlen,hf⟩:=DataW.trod_struct ht hx;obtain⟨a,ha⟩:=SB h (cs:=cs) (w:=w) (enc:=enc) (base:=base) (spare:=spare) (held:=held) (n:=n) fun j f hj=>by
  have h1:=hf j f (by simpa using hj);have Ii:j<xs.length:=by
   rw[hlen];have:=(List.getElem?_eq_some_iff.1 hj).1;simpa using this
  exact⟨_,h1.trans (List.getElem?_eq_getElem Ii)⟩
 refine⟨a,?_⟩;have hh:cs.length=L.size:=by rw[←hc];exact hl
 rwa [List.drop_zero,←hh,List.take_length] at ha
theorem lD.arg{P:Program}{t:TypeId}{L:Lay α}(h:lD P t L){H:Type}{enc:TypeId × Value→H}{w:World}{base:Nat}{spare:Nat→Bool}{held:Bool}{v:Value}{d:DataW H}{p:List MemPlace}
  (hv:DataW.Trod enc P w base spare held t v d p):∃a,L.see w w.heap.size a v.cells.toList:=by
 obtain⟨fuel,hf⟩:=hv;exact h.2 hf
def Lay.int:Lay Int:=Lay.flat 1 (fun z=>[.int .i64 z]) (fun z=>(Lit.int .i64 z).wf=true) (fun _=>rfl)
def Lay.bool:Lay Bool:=Lay.flat 1 (fun b=>[.bool b]) (fun _=>True) (fun _=>rfl)
theorem lD.to{P:Program}{t:TypeId}{L:Lay α}{M:Lay β}(h:lD P t L)(hs:M.size=L.size)(WY:∀(w:World) (hi:Nat) (a:α) (vs:List Value),L.see w hi a vs→∃b,M.see w hi b vs):lD P t M :=
 ⟨hs.trans h.1,fun ht=>by obtain⟨a,ha⟩:=h.2 ht;exact WY _ _ _ _ ha⟩
end
end Go.Proofs.YtjcoapnggojpdaaGreatDoor
namespace Go.Proofs.YtjcoapnggojpdaaGreatDoor
open Go.RowKit Go.ChangeShapes Go.WideShapes Go.Deep
def putCells(w:World)(g:Nat):Nat→List Value→World
 |_,[]=>w
 |o,v::vs=>putCells (w.setCell ⟨g,o,none⟩ v) g (o+1) vs
def setFrom(xs:List Value):Nat→List Value→List Value
 |_,[]=>xs
 |o,v::vs=>setFrom (xs.set o v) (o+1) vs
theorem uo(us:List Value):∀(xs:List Value) (o j:Nat),o+us.length≤xs.length→(setFrom xs o us)[j]? =if o≤j∧j<o+us.length then us[j-o]? else xs[j]? :=by
 induction us with
 |nil=>intro xs o j h;rw[if_neg (by simp only[List.length_nil];omega)];rfl
 |cons u us ih =>
  intro xs o j h;simp only[List.length_cons] at h;rw[setFrom,ih _ _ _ (by simp;omega)];by_cases h1:o+1≤j∧j<o+1+us.length
  ·rw[if_pos h1,if_pos (by simp only[List.length_cons];omega),show j-o=(j-(o+1))+1 by omega,List.getElem?_cons_succ]
  ·rw[if_neg h1];by_cases h2:j=o
   ·subst h2;rw[if_pos (by simp only[List.length_cons];omega),List.getElem?_set_self (by omega),Nat.sub_self,List.getElem?_cons_zero]
   ·rw[if_neg (by simp only[List.length_cons];omega),List.getElem?_set_ne (by omega)]
theorem jo(us:List Value):∀(w:World) (g o k:Nat),k≠g→(putCells w g o us).heap[k]? =w.heap[k]? :=by
 induction us with
 |nil=>intro w g o k h;rfl
 |cons u us ih=>intro w g o k h;rw[putCells,ih _ _ _ _ h];exact Below.heap_setCell w _ _ k h
theorem jP(us:List Value):∀(w:World) (g o:Nat),(putCells w g o us).heap.size=w.heap.size:=by
 induction us with
 |nil=>intro w g o;rfl
 |cons u us ih=>intro w g o;rw[putCells,ih];simp[World.setCell]
theorem r_{B:Nat}{w0:World}(us:List Value):∀(w:World) (g o:Nat),Below B w0 w→B≤g→Below B w0 (putCells w g o us):=by
 induction us with
 |nil=>intro w g o h _;exact h
 |cons u us ih=>intro w g o h hg;exact ih _ _ _ (h.setCell hg u) hg
section
variable {w w':World} {lo hi size n c g:Nat} {e:TypeId} {vs:List Value}
theorem Own.put(us:List Value):∀{w:World} {vs:List Value} (o:Nat),Own w lo hi e size (some ⟨g,0,none⟩) n c vs→Own (putCells w g o us) lo hi e size (some ⟨g,0,none⟩) n c (setFrom vs o us):=by
 induction us with
 |nil=>intro w vs o h;exact h
 |cons u us ih=>intro w vs o h;exact ih (o+1) (h.BP o u)
end
section
variable {α:Type} {L:Lay α} {e:TypeId} {w w':World} {lo n k z:Nat} {xs:List α}
def Part(L:Lay α)(e:TypeId)(w:World)(lo n:Nat)(xs:List α)(k z:Nat):Prop :=
 xs.length=n∧lo<z∧z≤w.heap.size∧∃(vs:List Value) (G:Nat→Nat→Prop),Own w lo (lo+1) e L.size (some ⟨lo,0,none⟩) n n vs ∧
  (∀i x,i<k→xs[i]? =some x→L.own w (G i) x ((vs.drop (i*L.size)).take L.size))∧(∀i g,i<k→G i g→lo<g∧g<z) ∧
  ∀i j g,i<j→j<k→G i g→¬G j g
theorem Part.start{vs:List Value}(hl:xs.length=n)(h:Own w lo (lo+1) e L.size (some ⟨lo,0,none⟩) n n vs)(hz:w.heap.size=lo+1):Part L e w lo n xs 0 w.heap.size :=
 ⟨hl,by omega,Nat.le_refl _,vs,fun _ _=>False,h,fun i x hi=>by omega,fun i g hi=>by omega,fun i j g _ hj=>by omega⟩
theorem Part.below(h:Part L e w lo n xs k z)(hb:yT w w'):Part L e w' lo n xs k z:=by
 obtain⟨hl,hlo,hz,vs,G,ho,hel,hG,hd⟩:=h;have hs:=hb.size;exact⟨hl,hlo,by omega,vs,G,ho.below hb (by omega),fun i x hi hx=>L.stay (hel i x hi hx) (fun g hg hlt=>hb.block g hlt) hs,hG,hd⟩
theorem Part.room(h:Part L e w lo n xs k z)(hk:k<n):∀j,j<L.size→(∃v,w.cell? ⟨lo,k*L.size+j,none⟩=some v)∧w.frozen? ⟨lo,k*L.size+j,none⟩=false:=by
 obtain⟨hl,hlo,hz,vs,G,ho,hel,hG,hd⟩:=h;intro j hj;have hlen:=ho.1.1;have:k*L.size+j<vs.length:=by
  rw[hlen];have:(k+1)*L.size≤n*L.size:=Nat.mul_le_mul_right _ hk;rw[Nat.add_mul,Nat.one_mul] at this;omega
 exact⟨⟨_,ho.cell (List.getElem?_eq_getElem this)⟩,ho.free _⟩
theorem Part.step(h:Part L e w lo n xs k z){x:α}(hx:xs[k]? =some x){F:Nat→Prop}{us:List Value}(zy:us.length=L.size)(BH:L.own w F x us)(hF:∀g,F g→z≤g∧g<w.heap.size) :
  Part L e (putCells w lo (k*L.size) us) lo n xs (k+1) w.heap.size:=by
 obtain⟨hl,hlo,hz,vs,G,ho,hel,hG,hd⟩:=h;have hk:k<n:=by rw[←hl];exact (List.getElem?_eq_some_iff.1 hx).1
 have hlen:=ho.1.1;have Rj:(k+1)*L.size≤n*L.size:=Nat.mul_le_mul_right _ hk;rw[Nat.add_mul,Nat.one_mul] at Rj;have hps:=jP us w lo (k*L.size);have hcut:∀i,i<n→((setFrom vs (k*L.size) us).drop (i*L.size)).take L.size=if i=k then us else (vs.drop (i*L.size)).take L.size:=by
  intro i hi;have u_:(i+1)*L.size≤n*L.size:=Nat.mul_le_mul_right _ hi;rw[Nat.add_mul,Nat.one_mul] at u_;apply List.ext_getElem?
  intro j;rw[List.getElem?_take];by_cases hj:j<L.size
  ·rw[if_pos hj,List.getElem?_drop,uo _ _ _ _ (by omega)];by_cases hik:i=k
   ·subst hik;rw[if_pos (by omega),if_pos rfl,show i*L.size+j-i*L.size=j by omega]
   ·rw[if_neg hik,List.getElem?_take,if_pos hj,List.getElem?_drop,if_neg];rintro ⟨a,b⟩;rcases Nat.lt_or_ge i k with h|h
    ·have:(i+1)*L.size≤k*L.size:=Nat.mul_le_mul_right _ h;rw[Nat.add_mul,Nat.one_mul] at this;omega
    ·have:(k+1)*L.size≤i*L.size:=Nat.mul_le_mul_right _ (by omega);rw[Nat.add_mul,Nat.one_mul] at this;omega
  ·rw[if_neg hj];split
   ·rw[List.getElem?_eq_none (by omega)]
   ·rw[List.getElem?_take,if_neg hj]
 have hst:∀{y:α} {E:Nat→Prop} {ys:List Value},L.own w E y ys→(∀g,E g→lo<g)→L.own (putCells w lo (k*L.size) us) E y ys:=fun hy hE =>
  L.stay hy (fun g hg _=>jo _ _ _ _ _ (by have:=hE g hg;omega)) (by omega)
 refine⟨hl,by omega,by omega,setFrom vs (k*L.size) us,fun i=>if i=k then F else G i,ho.put us _,?_,?_,?_⟩
 ·intro i y hi hy;rw[hcut i (by omega)];by_cases hik:i=k
  ·subst hik;obtain rfl:x=y:=Option.some.inj (hx.symm.trans hy);simp only[if_true];exact hst BH fun g hg=>by have:=hF g hg;omega
  ·simp only[if_neg hik];exact hst (hel i y (by omega) hy) fun g hg=>(hG i g (by omega) hg).1
 ·intro i g hi hg;by_cases hik:i=k
  ·simp only[if_pos hik] at hg;have:=hF g hg;omega
  ·simp only[if_neg hik] at hg;have:=hG i g (by omega) hg;omega
 ·intro i j g Uc hj hg nI;have hik:¬i=k:=(by omega);simp only[if_neg hik] at hg;by_cases hjk:j=k
  ·simp only[if_pos hjk] at nI;have:=hF g nI;have:=hG i g (by omega) hg;omega
  ·simp only[if_neg hjk] at nI;exact hd i j g Uc (by omega) hg nI
theorem Part.done(h:Part L e w lo n xs n z):aB L e w (fun g=>lo≤g∧g<w.heap.size) (some ⟨lo,0,none⟩) n n xs:=by
 obtain⟨hl,hlo,hz,vs,G,ho,hel,hG,hd⟩:=h;refine⟨hl,vs,G,ho.vX fun g hg=>⟨Nat.zero_le _,?_⟩,fun g hg => ?_,fun i x hx=>hel i x (by rw[←hl];exact (List.getElem?_eq_some_iff.1 hx).1) hx,fun i g hi hg => ?_,fun i g hi hg hh => ?_,fun i j g Uc hj=>hd i j g Uc hj⟩
 ·exact (ho.blk hg).2.2
 ·have:=ho.blk hg;exact⟨this.1,this.2.2⟩
 ·have:=hG i g hi hg;omega
 ·have:=hG i g hi hg;have:=ho.blk hh;omega
end
theorem jQ{α:Type}{f:α→Nat}{ds:List α}{i:Nat}{d:α}(h:ds[i]? =some d):((ds.take (i+1)).map f).sum=((ds.take i).map f).sum+f d:=by
 obtain⟨hi,e⟩:=List.getElem?_eq_some_iff.1 h;rw[List.take_succ_eq_append_getElem hi,e];simp
theorem lh{α:Type}(f:α→Nat)(ds:List α)(k:Nat):((ds.take k).map f).sum≤(ds.map f).sum:=by
 have:(ds.map f).sum=((ds.take k).map f).sum+((ds.drop k).map f).sum:=by rw[←List.sum_append,←List.map_append,List.take_append_drop]
 omega
theorem dI{α:Type}(f:α→Nat){ds:List α}{d:α}(h:d∈ds):f d≤(ds.map f).sum:=by
 induction ds with
 |nil=>cases h
 |cons e ds ih =>
  rw[List.map_cons,List.sum_cons];rcases List.mem_cons.1 h with h|h
  ·subst h;omega
  ·have:=ih h;omega
theorem bn{W w1:World}{B:Nat}(hb:Below B W w1):(∀b o,b<B→w1.cell? ⟨b,o,none⟩=W.cell? ⟨b,o,none⟩)∧(∀b o,b<B→w1.frozen? ⟨b,o,none⟩=W.frozen? ⟨b,o,none⟩) :=
 ⟨fun b o h=>hb.cell (p:=⟨b,o,none⟩) h,fun b o h=>hb.frozen (p:=⟨b,o,none⟩) h⟩
def nO(w:World)(l s:Nat)(e:Ending)(w':World):Prop :=
 yT w w'∧((s≤l∧e=.returned (.int .i64 ((l-s:Nat):Int)))∨(l<s∧e=.returned (.int .i64 (-1))))
def su{α:Type}(L:Lay α)(w:World)(x:α)(en:Ending)(w':World):Prop :=
 ∃vs,en=.returned (.agg vs.toArray)∧L.own w' (fun g=>w.heap.size≤g∧g<w'.heap.size) x vs∧yT w w'
def vw{α:Type}(L:Lay α)(e:TypeId)(w:World)(n:Nat)(xs:List α)(en:Ending)(w':World):Prop :=
 ∃A c,en=.returned (.slice A n c)∧aB L e w' (fun g=>w.heap.size≤g∧g<w'.heap.size) A n c xs∧yT w w'
def iP(w:World)(en:Ending)(w':World):Prop:=en=.returned (.bool true)∧yT w w'
theorem aB.turned{α:Type}{L:Lay α}{e:TypeId}{w w':World}{F:Nat→Prop}{A:Option Addr}{n c l r:Nat}{xs:List α}(h:aB L e w F A n c xs)(ht:Turned l r w w')(hF:∀g,F g→r≤g∨g<l):aB L e w' F A n c xs :=
 h.stay (fun g hg hlt=>ht.block g hlt (by have:=hF g hg;omega)) ht.size
end Go.Proofs.YtjcoapnggojpdaaGreatDoor
namespace Go.Proofs.YtjcoapnggojpdaaGreatDoor
open Go.RowKit
theorem kE{P:Program}{w:World}{ops:Array Oper}{rest:List Oper}{o:Oper}{a:Act}{Q:Exit→Act→World→Prop}(hgd:o.guard=none)(s x:Operand)(t:TypeId)
  (ho:o.op=.call {callee := .builtin .append,args := #[s,x],argTypes := #[t,t]})
  (base hi:Nat)(e:TypeId)(i:TypeInfo)(z:Value)(size bytes:Nat)(ht:P.underlying t=some (.slice e))(jJ:P.info? e=some i)(hz:i.zero=some z)
  (hsize:i.size=size)(hby:i.bytes=bytes)(hzs:z.cells.size=size)(hsz:0<size)
  (A:Option Addr)(n c:Nat)(xs:List Value)(hs:a.eval s=.slice A n c)(hown:Own w base hi e size A n c xs)
  (hi':Nat)(ad:Addr)(m c2:Nat)(news:List Value)(hx:a.eval x=.slice (some ad) m c2)(hr:Seen w hi' size (some ad) m news)(h1:∀u∈news,u.oneCell'=true)
  (h63:n+m≤maxLen)(hbytes:(n+m)*bytes≤140737488355328)(hbase:base≤w.heap.size)
  (h:∀A' c' w',Own w' base w'.heap.size e size A' (n+m) c' (xs++news)→Below base w w'→(∀k,k<w.heap.size→jk A≠some k→w'.heap[k]? =w.heap[k]?) →
   (jk A'=jk A∨jk A'=some w.heap.size)→wpList P ops Q rest (a.put o.dst (.slice A' (n+m) c')) w'):wpList P ops Q (o::rest) a w:=by
 refine wpList_append_own_at (w:=w) hgd s x t ho base e i z size bytes ht jJ hz hsize hby hzs hsz _ n xs hs hown.1 ad m c2 news hx hr.1 (hr.news rfl) h1 h63 hbytes hbase ?_;intro v' w' h2 h3 _ h5;obtain⟨A',c',hv,BH⟩:=Own.PD (hi:=w'.heap.size) h2 (Nat.le_refl _);subst hv;have e1:∀(X:Option Addr) (p q:Nat),(Value.slice X p q).ownBlock=jk X:=fun X p q=>by cases X <;> rfl
 rw[e1] at h3;rw[e1,e1] at h5;refine h A' c' w' BH ((Below.refl _ _).grown h3 hbase fun k hk => ?_) (fun k hk hne=>h3.block k hk (fun e=>hne e.symm)) h5;exact (hown.blk hk).1
end Go.Proofs.YtjcoapnggojpdaaGreatDoor
namespace Go.Proofs.YtjcoapnggojpdaaGreatDoor
set_option linter.unusedSimpArgs false
set_option linter.unusedVariables false
open Go.RowKit
theorem zg{α:Type}{cells:α→List Value}{size:Nat}(hl:∀x,(cells x).length=size):∀xs:List α,((xs.map cells).flatten).length=xs.length*size
 |[]=>by simp
 |x::xs=>by rw[List.map_cons,List.flatten_cons,List.length_append,hl,zg hl xs,List.length_cons,Nat.add_mul,Nat.one_mul,Nat.add_comm]
theorem BQ{α:Type}{cells:α→List Value}{size:Nat}(hl:∀x,(cells x).length=size):∀{xs:List α} {i:Nat} {x:α},xs[i]? =some x→(((xs.map cells).flatten).drop (i*size)).take size=cells x
 |[],_,_,h=>by simp at h
 |y::xs,0,x,h=>by
  simp at h;subst h;rw[Nat.zero_mul,List.drop_zero,List.map_cons,List.flatten_cons,List.take_append_of_le_length (by rw[hl];exact Nat.le_refl _),List.take_of_length_le (by rw[hl];exact Nat.le_refl _)]
 |y::xs,i+1,x,h=>by
  rw[List.map_cons,List.flatten_cons,show (i+1)*size=(cells y).length+i*size by rw[hl,Nat.add_mul,Nat.one_mul,Nat.add_comm],List.drop_append,List.drop_of_length_le (by omega),List.nil_append,Nat.add_sub_cancel_left];exact BQ hl (by simpa using h)
theorem EX{α:Type}(cells:α→List Value)(xs:List α)(x:α):((xs++[x]).map cells).flatten=(xs.map cells).flatten++cells x:=by simp
section
variable {α:Type} {w w':World} {lo hi n c:Nat} {e:TypeId} {A:Option Addr}
theorem kF{size:Nat}{cells:α→List Value}{wf:α→Prop}{hl:∀x,(cells x).length=size}{xs:List α}(h:Own w lo hi e size A n c ((xs.map cells).flatten))(hn:xs.length=n)(hw:∀x∈xs,wf x):aB (Lay.flat size cells wf hl) e w (fun g=>lo≤g∧g<hi) A n c xs:=by
 refine⟨hn,(xs.map cells).flatten,fun _ _=>False,h.vX fun g hg=>⟨Nat.zero_le _,(h.blk hg).2.2⟩,fun g hg=>⟨(h.blk hg).1,(h.blk hg).2.1⟩,fun i x hx => ?_,fun _ _ _ h=>h.elim,fun _ _ _ h=>h.elim,fun _ _ _ _ _ h=>h.elim⟩;exact⟨BQ hl hx,hw x (List.mem_of_getElem? hx)⟩
theorem Ae{size:Nat}{cells:α→List Value}{wf:α→Prop}{hl:∀x,(cells x).length=size}{xs:List α}{F:Nat→Prop}(h:aB (Lay.flat size cells wf hl) e w F A n c xs)(hF:∀g,F g→lo≤g∧g<hi):Own w lo hi e size A n c ((xs.map cells).flatten):=by
 obtain⟨hlx,vs,G,ho,hA,hel,_,_,_⟩:=h;have hv:vs=(xs.map cells).flatten:=by
  have hvl:=ho.1.1;have hvl:vs.length=n*size:=hvl;apply List.ext_getElem?
  intro j;rcases Nat.lt_or_ge j (n*size) with hj|hj
  ·have hs:0<size:=by
    rcases Nat.eq_zero_or_pos size with h0|h0
    ·rw[h0] at hj;omega
    ·exact h0
   have hq:j / size<n:=Nat.div_lt_of_lt_mul (by rw[Nat.mul_comm];exact hj);have hx:xs[j / size]? =some (xs[j / size]'(by omega)):=List.getElem?_eq_getElem _;have h1:=(hel _ _ hx).1;have h2:=BQ hl hx;have h3:((vs.drop (j / size*size)).take size)[j%size]? =(((xs.map cells).flatten.drop (j / size*size)).take size)[j%size]? :=by
    rw[h2];exact congrArg (fun l:List Value=>l[j%size]?) h1
   rw[List.getElem?_take,List.getElem?_take,if_pos (Nat.mod_lt _ hs),if_pos (Nat.mod_lt _ hs),List.getElem?_drop,List.getElem?_drop,show j / size*size+j%size=j by rw[Nat.mul_comm];exact Nat.div_add_mod j size] at h3;exact h3
  ·rw[List.getElem?_eq_none (by omega),List.getElem?_eq_none (by rw[zg hl];rw[hlx];omega)]
 rw[←hv];exact ho.vX fun g hg=>hF g (hA g hg)
end
end Go.Proofs.YtjcoapnggojpdaaGreatDoor
namespace Go.Proofs.YtjcoapnggojpdaaGreatDoor
open Go.RowKit Go.ChangeShapes Go.WideShapes Go.Deep
structure au (F:Nat→Prop) (w w':World):Prop where
 os:w'.os=w.os
 tape:w'.tape=w.tape
 output:w'.output=w.output
 size:w.heap.size≤w'.heap.size
 block:∀k,k<w.heap.size→¬F k→w'.heap[k]? =w.heap[k]?
section
variable {F G:Nat→Prop} {w w' w'':World}
theorem au.refl(F:Nat→Prop)(w:World):au F w w:=⟨rfl,rfl,rfl,Nat.le_refl _,fun _ _ _=>rfl⟩
theorem au.trans(h:au F w w')(k:au F w' w''):au F w w'' :=
 ⟨k.os.trans h.os,k.tape.trans h.tape,k.output.trans h.output,Nat.le_trans h.size k.size,fun i hi ho=>(k.block i (Nat.lt_of_lt_of_le hi h.size) ho).trans (h.block i hi ho)⟩
theorem au.wide(h:au F w w')(hF:∀g,F g→G g):au G w w':=⟨h.os,h.tape,h.output,h.size,fun k hk hn=>h.block k hk fun hf=>hn (hF k hf)⟩
theorem au.setCell(h:au F w w'){p:Addr}(hp:F p.block)(u:Value):au F w (w'.setCell p u) :=
 ⟨h.os,h.tape,h.output,by simpa[World.setCell] using h.size,fun k hk hn=>(Below.heap_setCell w' p u k (by rintro rfl;exact hn hp)).trans (h.block k hk hn)⟩
theorem au.of_below(h:yT w w')(F:Nat→Prop):au F w w':=⟨h.os,h.tape,h.output,h.size,fun k hk _=>h.block k hk⟩
theorem au.below(h:au F w w'){B:Nat}(hF:∀g,F g→B≤g)(hB:B≤w.heap.size):Below B w w':=⟨h.os,h.tape,h.output,h.size,fun k hk=>h.block k (by omega) fun hf=>by have:=hF k hf;omega⟩
theorem au.put(us:List Value):∀{w':World} (g o:Nat),au F w w'→F g→au F w (putCells w' g o us):=by
 induction us with
 |nil=>intro w' g o h _;exact h
 |cons u us ih=>intro w' g o h hg;exact ih g (o+1) (h.setCell (p:=⟨g,o,none⟩) hg u) hg
end
section
variable {α:Type} {L:Lay α} {e:TypeId} {F G:Nat→Prop} {w w':World} {A:Option Addr} {n c:Nat} {xs:List α}
theorem aB.jE(h:aB L e w F A n c xs)(ht:au G w w')(hF:∀g,F g→¬G g):aB L e w' F A n c xs :=
 h.stay (fun g hg hlt=>ht.block g hlt (hF g hg)) ht.size
theorem aB.cap(h:aB L e w F A n c xs):n≤c:=by obtain⟨_,_,_,ho,_⟩:=h;exact ho.cap
theorem Nk{vs us:List Value}{k n s:Nat}(hlen:vs.length=n*s)(zy:us.length=s)(hk:k<n){i:Nat}(hi:i<n) :
  ((setFrom vs (k*s) us).drop (i*s)).take s=if i=k then us else (vs.drop (i*s)).take s:=by
 have Rj:(k+1)*s≤n*s:=Nat.mul_le_mul_right _ hk;have u_:(i+1)*s≤n*s:=Nat.mul_le_mul_right _ hi;rw[Nat.add_mul,Nat.one_mul] at Rj u_;apply List.ext_getElem?
 intro j;rw[List.getElem?_take];by_cases hj:j<s
 ·rw[if_pos hj,List.getElem?_drop,uo _ _ _ _ (by omega)];by_cases hik:i=k
  ·subst hik;rw[if_pos (by omega),if_pos rfl,show i*s+j-i*s=j by omega]
  ·rw[if_neg hik,List.getElem?_take,if_pos hj,List.getElem?_drop,if_neg];rintro ⟨a,b⟩;rcases Nat.lt_or_ge i k with h|h
   ·have:(i+1)*s≤k*s:=Nat.mul_le_mul_right _ h;rw[Nat.add_mul,Nat.one_mul] at this;omega
   ·have:(k+1)*s≤i*s:=Nat.mul_le_mul_right _ (by omega);rw[Nat.add_mul,Nat.one_mul] at this;omega
 ·rw[if_neg hj];split
  ·rw[List.getElem?_eq_none (by omega)]
  ·rw[List.getElem?_take,if_neg hj]
theorem aB.focus(h:aB L e w F A n c xs){i:Nat}(hi:i<n):∃(hx:i<xs.length) (g:Nat) (G:Nat→Prop) (vs:List Value),A=some ⟨g,0,none⟩∧F g∧¬G g∧(∀b,G b→F b)∧g<w.heap.size ∧
  L.own w G xs[i] vs∧(∀j u,j<L.size→vs[j]? =some u→w.cell? ⟨g,i*L.size+j,none⟩=some u)∧(∀j,w.frozen? ⟨g,j,none⟩=false) ∧
  ∀(w':World) (x':α) (us:List Value),us.length=L.size→L.own w' G x' us→au (fun b=>G b∨b=g) w w'→w'.heap[g]? =(putCells w g (i*L.size) us).heap[g]? →aB L e w' F A n c (xs.set i x'):=by
 obtain⟨hl,vs,G,ho,hA,hel,hG,h1,h2⟩:=h;have hx:i<xs.length:=by rw[hl];exact hi
 obtain⟨g,rfl,_,_,AX⟩:=ho.form (by omega);refine⟨hx,g,G i,(vs.drop (i*L.size)).take L.size,rfl,hA g rfl,fun hg=>h1 i g hi hg rfl,fun b hb=>hG i b hi hb,AX,hel i _ (List.getElem?_eq_getElem hx),?_,fun j=>ho.free j,?_⟩
 ·intro j u hj hu;rw[List.getElem?_take,if_pos hj,List.getElem?_drop] at hu;exact ho.cell hu
 ·intro w' x' us zy how ht hrow;have hvl:=ho.1.1;refine⟨by rw[List.length_set,hl],setFrom vs (i*L.size) us,G,?_,hA,?_,hG,h1,h2⟩
  ·have hp:=ho.put us (i*L.size);refine (hp.Es (w':=w') fun b hb _ => ?_).vX fun b hb=>⟨Nat.zero_le _,?_⟩
   ·obtain rfl:g=b:=by simpa[jk] using hb
    exact hrow
   ·obtain rfl:g=b:=by simpa[jk] using hb
    exact Nat.lt_of_lt_of_le AX ht.size
  ·intro j y hy;have hjn:j<n:=by
    rw[←hl];have:=(List.getElem?_eq_some_iff.1 hy).1;rwa [List.length_set] at this
   rw[Nk hvl zy hi hjn];by_cases rF:j=i
   ·subst rF;rw[List.getElem?_set_self hx] at hy;obtain rfl:=Option.some.inj hy;rw[if_pos rfl];exact how
   ·rw[List.getElem?_set_ne (fun e=>rF e.symm)] at hy;rw[if_neg rF];refine L.stay (hel j y hy) (fun b hb hlt=>ht.block b hlt ?_) ht.size;rintro (hc|rfl)
    ·rcases Nat.lt_or_ge j i with h|h
     ·exact h2 j i b h hi hb hc
     ·exact h2 i j b (by omega) hjn hc hb
    ·exact h1 j b hjn hb rfl
end
theorem iE{z:Int}(h0:0≤z)(h1:z≤4294967296):(Lit.int .i64 z).wf=true:=by
 simp[Lit.wf,IntKind.min,IntKind.max,IntKind.signed,IntKind.bits];omega
end Go.Proofs.YtjcoapnggojpdaaGreatDoor
namespace Go.Proofs.YtjcoapnggojpdaaGreatDoor
set_option linter.unusedSimpArgs false
set_option linter.unusedVariables false
open Go.RowKit Go.ChangeShapes Go.WideShapes Go.Deep
def cutAt(vs:List Value)(i s:Nat):List Value:=(vs.drop (i*s)).take s
theorem EY{vs:List Value}{i s o:Nat}{u:Value}(ho:o<s):cutAt (vs.set (i*s+o) u) i s=(cutAt vs i s).set o u:=by
 unfold cutAt;apply List.ext_getElem?
 intro j;simp only[List.getElem?_take,List.getElem?_drop,List.getElem?_set,List.length_take,List.length_drop];by_cases hj:j<s
 ·by_cases hjo:o=j
  ·subst hjo;simp only[hj,if_true];by_cases h:i*s+o<vs.length
   ·simp[h,show o<min s (vs.length-i*s) by omega]
   ·simp[h,show ¬o<min s (vs.length-i*s) by omega]
  ·simp[hj,hjo,show ¬i*s+o=i*s+j by omega]
 ·simp[hj,show ¬o=j by omega]
theorem DU{vs:List Value}{i j s o:Nat}{u:Value}(ho:o<s)(hne:j≠i):cutAt (vs.set (i*s+o) u) j s=cutAt vs j s:=by
 unfold cutAt;apply List.ext_getElem?
 intro k;simp only[List.getElem?_take,List.getElem?_drop,List.getElem?_set];by_cases hk:k<s
 ·have:¬i*s+o=j*s+k:=by
   intro h;rcases Nat.lt_or_ge j i with hlt|hge
   ·have:(j+1)*s≤i*s:=Nat.mul_le_mul_right _ hlt;rw[Nat.add_mul,Nat.one_mul] at this;omega
   ·have:(i+1)*s≤j*s:=Nat.mul_le_mul_right _ (by omega);rw[Nat.add_mul,Nat.one_mul] at this;omega
  simp[hk,this]
 ·simp[hk]
section
variable {α:Type} {L:Lay α} {e:TypeId} {w w':World} {F Gi H:Nat→Prop} {A:Option Addr} {n c i g:Nat} {xs:List α} {us:List Value}
structure eF (L:Lay α) (e:TypeId) (w:World) (F:Nat→Prop) (n c:Nat) (xs:List α) (i g:Nat) (Gi:Nat→Prop) (us:List Value):Prop where
 len:xs.length=n
 lt:i<n
 here:F g
 Io:∀b,Gi b→F b
 not:¬Gi g
 rest:∃(vs:List Value) (G:Nat→Nat→Prop),Own w 0 w.heap.size e L.size (some ⟨g,0,none⟩) n c vs∧cutAt vs i L.size=us∧G i=Gi ∧
  (∀j x,j≠i→xs[j]? =some x→L.own w (G j) x (cutAt vs j L.size))∧(∀j b,j<n→G j b→F b)∧(∀j b,j<n→G j b→b≠g)∧∀j k b,j<k→k<n→G j b→¬G k b
theorem aB.open_(h:aB L e w F A n c xs)(hi:i<n):∃(hx:i<xs.length) (g:Nat) (Gi:Nat→Prop) (us:List Value),A=some ⟨g,0,none⟩∧g<w.heap.size∧eF L e w F n c xs i g Gi us∧L.own w Gi xs[i] us:=by
 obtain⟨hl,vs,G,ho,hA,hel,hG,h1,h2⟩:=h;have hx:i<xs.length:=by rw[hl];exact hi
 obtain⟨g,rfl,_,_,AX⟩:=ho.form (by omega);exact⟨hx,g,G i,_,rfl,AX,⟨hl,hi,hA g rfl,fun b hb=>hG i b hi hb,fun hg=>h1 i g hi hg rfl,vs,G,ho,rfl,rfl,fun j x _ hj=>hel j x hj,hG,fun j b hj hb e1=>h1 j b hj hb (by rw[e1];rfl),h2⟩,
  hel i _ (List.getElem?_eq_getElem hx)⟩
theorem eF.cell(h:eF L e w F n c xs i g Gi us){j:Nat}{u:Value}(hu:us[j]? =some u)(hj:j<L.size):w.cell? ⟨g,i*L.size+j,none⟩=some u:=by
 obtain⟨vs,G,ho,hc,_⟩:=h.rest;refine ho.cell (j:=i*L.size+j) ?_;rw[←hc] at hu;unfold cutAt at hu;rw[List.getElem?_take,if_pos hj,List.getElem?_drop] at hu;exact hu
theorem eF.free(h:eF L e w F n c xs i g Gi us)(j:Nat):w.frozen? ⟨g,j,none⟩=false:=by
 obtain⟨vs,G,ho,_⟩:=h.rest;exact ho.free j
theorem eF.gl(h:eF L e w F n c xs i g Gi us):g<w.heap.size:=by
 obtain⟨vs,G,ho,_⟩:=h.rest;exact (ho.lt _ rfl).2.2
theorem eF.BP(h:eF L e w F n c xs i g Gi us){o:Nat}(ho:o<L.size)(u:Value):eF L e (w.setCell ⟨g,i*L.size+o,none⟩ u) F n c xs i g Gi (us.set o u):=by
 obtain⟨vs,G,hown,hc,hG,hel,hF,h1,h2⟩:=h.rest;refine⟨h.len,h.lt,h.here,h.Io,h.not,vs.set (i*L.size+o) u,G,?_,?_,hG,?_,hF,h1,h2⟩
 ·have:=hown.BP (i*L.size+o) u;simpa[World.setCell] using this
 ·rw[EY ho,hc]
 ·intro j x hj hx;rw[DU ho hj];have hjn:j<n:=by rw[←h.len];exact (List.getElem?_eq_some_iff.1 hx).1
  refine L.stay (hel j x hj hx) (fun b hb hlt => ?_) (by simp[World.setCell]);exact Below.heap_setCell w _ u b (fun e1=>h1 j b hjn hb e1)
theorem eF.turned(h:eF L e w F n c xs i g Gi us)(ht:au H w w')(hH:∀b,H b→Gi b):eF L e w' F n c xs i g Gi us:=by
 obtain⟨vs,G,hown,hc,hG,hel,hF,h1,h2⟩:=h.rest;subst hG;have hg:=h.gl;refine⟨h.len,h.lt,h.here,h.Io,h.not,vs,G,?_,hc,rfl,?_,hF,h1,h2⟩
 ·refine (hown.Es (w':=w') fun b hb hlt=>ht.block b hlt fun hb2 => ?_).vX fun b hb=>⟨Nat.zero_le _,?_⟩
  ·obtain rfl:g=b:=by simpa[jk] using hb
   exact h.not (hH _ hb2)
  ·obtain rfl:g=b:=by simpa[jk] using hb
   exact Nat.lt_of_lt_of_le hg ht.size
 ·intro j x hj hx;have hjn:j<n:=by rw[←h.len];exact (List.getElem?_eq_some_iff.1 hx).1
  refine L.stay (hel j x hj hx) (fun b hb hlt=>ht.block b hlt fun hb2 => ?_) ht.size;rcases Nat.lt_or_ge j i with h3|h3
  ·exact h2 j i b h3 h.lt hb (hH _ hb2)
  ·exact h2 i j b (by omega) hjn (hH _ hb2) hb
theorem eF.drew(h:eF L e w F n c xs i g Gi us):eF L e w.drew F n c xs i g Gi us:=by
 obtain⟨vs,G,hown,hc,hG,hel,hF,h1,h2⟩:=h.rest;exact⟨h.len,h.lt,h.here,h.Io,h.not,vs,G,hown,hc,hG,fun j x hj hx=>L.stay (hel j x hj hx) (fun _ _ _=>rfl) (Nat.le_refl _),hF,h1,h2⟩
theorem eF.shut(h:eF L e w F n c xs i g Gi us){x':α}(hx:L.own w Gi x' us):aB L e w F (some ⟨g,0,none⟩) n c (xs.set i x'):=by
 obtain⟨vs,G,hown,hc,hG,hel,hF,h1,h2⟩:=h.rest;refine⟨by rw[List.length_set,h.len],vs,G,hown,fun b hb => ?_,fun j y hy => ?_,hF,fun j b hj hb e1 => ?_,h2⟩
 ·obtain rfl:g=b:=by simpa[jk] using hb
  exact h.here
 ·by_cases rF:j=i
  ·subst rF;rw[List.getElem?_set_self (by rw[h.len];exact h.lt)] at hy;obtain rfl:=Option.some.inj hy;show L.own w (G j) x' (cutAt vs j L.size)
   rw[hG,hc];exact hx
  ·rw[List.getElem?_set_ne (fun e1=>rF e1.symm)] at hy;exact hel j y rF hy
 ·obtain rfl:g=b:=by simpa[jk] using e1
  exact h1 j g hj hb rfl
theorem aB.setCell{β:Type}{M:Lay β}{e':TypeId}{F':Nat→Prop}{A':Option Addr}{n' c':Nat}{ys:List β}(h:aB M e' w F' A' n' c' ys){o:Nat}(hg:¬F' g)(u:Value):aB M e' (w.setCell ⟨g,o,none⟩ u) F' A' n' c' ys :=
 h.stay (fun b hb _=>Below.heap_setCell w _ u b (fun e1=>hg (by subst e1;exact hb))) (by simp[World.setCell])
end
theorem jr{α:Type}{f:α→Int}(hf:∀x,0≤f x):∀l:List α,0≤(l.map f).sum
 |[]=>by simp
 |x::l=>by
  have h1:=hf x;have h2:=jr hf l;simp only[List.map_cons,List.sum_cons];omega
theorem qg{α:Type}(f:α→Int){l:List α}{j:Nat}{x:α}(hx:l[j]? =some x):((l.take (j+1)).map f).sum=((l.take j).map f).sum+f x:=by
 rw[List.take_add_one,hx];simp
theorem qQ{α:Type}{f:α→Int}(hf:∀x,0≤f x){l:List α}{j:Nat}{x:α}(hx:l[j]? =some x):((l.take j).map f).sum+f x≤(l.map f).sum:=by
 have h1:=qg f hx;have h2:(l.map f).sum=((l.take (j+1)).map f).sum+((l.drop (j+1)).map f).sum:=by
  rw[←List.sum_append,←List.map_append,List.take_append_drop]
 have h3:=jr hf (l.drop (j+1));omega
end Go.Proofs.YtjcoapnggojpdaaGreatDoor
namespace Go.Proofs.YtjcoapnggojpdaaGreatDoor
open Go.RowKit
theorem ae{w:World}{g j:Nat}{cur:Array Value}{t:TypeId}{v:Value}(h:w.heap[g]? =some (.cells cur t (0,0)))(hj:cur[j]? =some v):w.cell? ⟨g,j,none⟩=some v:=by simp[World.cell?,h,hj]
theorem ah{w:World}{g:Nat}{cur:Array Value}{t:TypeId}(h:w.heap[g]? =some (.cells cur t (0,0)))(j:Nat):w.frozen? ⟨g,j,none⟩=false:=by simp[World.frozen?,h]
theorem az{w:World}{g j:Nat}{cur:Array Value}{u:Value}{t:TypeId}(h:w.heap[g]? =some (.cells cur t (0,0))):(w.setCell ⟨g,j,none⟩ u).heap[g]? =some (.cells (cur.setIfInBounds j u) t (0,0)):=by
 have hlt:=lt_of_block h;have h':w.heap[g]=.cells cur t (0,0):=by simpa[Array.getElem?_eq_getElem hlt] using h
 show (w.heap.modify g _)[g]? =_
 rw[Array.getElem?_eq_getElem (by simpa using hlt),Array.getElem_modify_self,h'];rfl
theorem ak(w:World)(cur:Array Value)(t:TypeId):(w.alloc (.cells cur t)).heap[w.heap.size]? =some (.cells cur t (0,0)):=by
 show (w.heap.push _)[w.heap.size]? =_
 rw[Array.getElem?_push_size]
theorem af{w w':World}{B g:Nat}{x:Obj}(h:w.heap[g]? =some x)(hb:Below B w w')(hB:g<B):w'.heap[g]? =some x:=by rw[hb.block g hB];exact h
theorem aj{B:Nat}{w w':World}{p:Addr}(h:Below B w w')(hp:B≤p.block)(u:Value):Below B w (w'.setCell p u) :=
 ⟨h.os,h.tape,h.output,by simpa[World.setCell] using h.size,fun k hk=>(Below.heap_setCell w' _ u k (fun e=>by subst e;omega)).trans (h.block k hk)⟩
theorem lt_of_cell{w:World}{g j:Nat}{v:Value}(h:w.cell? ⟨g,j,none⟩=some v):g<w.heap.size:=by
 refine Nat.lt_of_not_le fun hn => ?_
 have:w.heap[g]? =none:=Array.getElem?_eq_none hn;simp[World.cell?,this] at h
section
variable {w w':World} {g j g1 j1 g2 j2:Nat} {v v1 v2:Value}
theorem cell_kept(hb:yT w w')(h:w.cell? ⟨g,j,none⟩=some v):w'.cell? ⟨g,j,none⟩=some v:=by
 have hk:=hb.block g (lt_of_cell h);simpa[World.cell?,hk] using h
end
end Go.Proofs.YtjcoapnggojpdaaGreatDoor
namespace Go.Proofs.YtjcoapnggojpdaaGreatDoor
open Go
variable {H:Type} {enc:TypeId × Value→H}
end Go.Proofs.YtjcoapnggojpdaaGreatDoor
namespace Go.Proofs.YtjcoapnggojpdaaGreatDoor
set_option linter.unusedSimpArgs false
set_option linter.unusedVariables false
open Go.RowKit
section
variable {α β:Type} {L:Lay α} {w w':World} {hi n c:Nat} {A:Option Addr} {xs:List α} {e:TypeId} {F F' G:Nat→Prop}
def dD(L:Lay α)(e:TypeId)(w:World)(F:Nat→Prop)(A:Option Addr)(n c:Nat)(xs:List α):Prop :=
 xs.length=n∧n≤c∧c≤maxLen∧(n=0∨∃g k pre,A=some ⟨g,k*L.size,none⟩∧pre.length=k∧aB L e w F (some ⟨g,0,none⟩) (k+n) (k+c) (pre++xs))
theorem aB.uM(h:aB L e w F A n c xs):c≤maxLen:=by obtain⟨_,_,_,ho,_⟩:=h;exact ho.uM
theorem aB.form(h:aB L e w F A n c xs)(hn:0<n):∃g,A=some ⟨g,0,none⟩∧g<w.heap.size:=by
 obtain⟨_,_,_,ho,_⟩:=h;obtain⟨g,hg,_,_,h2⟩:=ho.form hn;exact⟨g,hg,h2⟩
theorem dD.of(h:aB L e w F A n c xs):dD L e w F A n c xs:=by
 refine⟨h.1,h.cap,h.uM,?_⟩;by_cases hn:n=0
 ·exact .inl hn
 ·obtain⟨g,rfl,_⟩:=h.form (by omega);exact .inr ⟨g,0,[],by simp,rfl,by simpa using h⟩
theorem dD.seen(h:dD L e w F A n c xs)(hF:∀g,F g→g<hi):a_ L w hi A n xs:=by
 obtain⟨hl,_,_,h0|⟨g,k,pre,rfl,hk,ho⟩⟩:=h
 ·subst h0;exact⟨hl,.inl (List.length_eq_zero_iff.1 hl)⟩
 ·obtain⟨hlen,h0|⟨g',o,hA,hg,f,hf⟩⟩:=ho.seen hF
  ·refine⟨hl,.inl ?_⟩;simp at h0;exact h0.2
  ·injection hA with hA
   injection hA with h1 h2
   subst h1 h2;refine⟨hl,.inr ⟨g,k*L.size,rfl,hg,fun i=>f (k+i),fun i x hx => ?_⟩⟩;have hx':(pre++xs)[k+i]? =some x:=by rw[List.getElem?_append_right (by omega),hk,Nat.add_sub_cancel_left];exact hx
   refine⟨(hf _ _ hx').1,fun j u hu => ?_⟩;have:=(hf _ _ hx').2 j u hu;rw[Nat.add_mul,Nat.add_assoc,Nat.zero_add] at this;exact this
theorem dD.stay(h:dD L e w F A n c xs)(hk:∀g,F g→g<w.heap.size→w'.heap[g]? =w.heap[g]?)(hz:w.heap.size≤w'.heap.size):dD L e w' F A n c xs :=
 ⟨h.1,h.2.1,h.2.2.1,h.2.2.2.imp id fun ⟨g,k,pre,h1,h2,h3⟩=>⟨g,k,pre,h1,h2,h3.stay hk hz⟩⟩
theorem dD.wide(h:dD L e w F A n c xs)(hF:∀g,F g→F' g):dD L e w F' A n c xs :=
 ⟨h.1,h.2.1,h.2.2.1,h.2.2.2.imp id fun ⟨g,k,pre,h1,h2,h3⟩=>⟨g,k,pre,h1,h2,h3.wide hF⟩⟩
theorem dD.cap(h:dD L e w F A n c xs):n≤c:=h.2.1
theorem dD.turned{l r:Nat}(h:dD L e w F A n c xs)(ht:Turned l r w w')(hF:∀g,F g→r≤g∨g<l):dD L e w' F A n c xs :=
 h.stay (fun g hg hlt=>ht.block g hlt (by have:=hF g hg;omega)) ht.size
theorem dD.jE(h:dD L e w F A n c xs)(ht:au G w w')(hF:∀g,F g→¬G g):dD L e w' F A n c xs :=
 h.stay (fun g hg hlt=>ht.block g hlt (hF g hg)) ht.size
theorem dD.setCell(h:dD L e w F A n c xs){g o:Nat}(hg:¬F g)(u:Value):dD L e (w.setCell ⟨g,o,none⟩ u) F A n c xs :=
 ⟨h.1,h.2.1,h.2.2.1,h.2.2.2.imp id fun ⟨g1,k,pre,h1,h2,h3⟩=>⟨g1,k,pre,h1,h2,h3.setCell hg u⟩⟩
theorem dD.focus(h:dD L e w F A n c xs){i:Nat}(hi:i<n):∃(hx:i<xs.length) (g o:Nat) (G:Nat→Prop) (vs:List Value),A=some ⟨g,o,none⟩∧F g∧¬G g∧(∀b,G b→F b)∧g<w.heap.size ∧
  L.own w G xs[i] vs∧(∀j u,j<L.size→vs[j]? =some u→w.cell? ⟨g,o+(i*L.size+j),none⟩=some u)∧(∀j,w.frozen? ⟨g,j,none⟩=false) ∧
  ∀(w':World) (x':α) (us:List Value),us.length=L.size→L.own w' G x' us→au (fun b=>G b∨b=g) w w'→w'.heap[g]? =(putCells w g (o+i*L.size) us).heap[g]? →dD L e w' F A n c (xs.set i x'):=by
 obtain⟨hl,hc,hm,h0|⟨g,k,pre,rfl,hk,ho⟩⟩:=h
 ·omega
 ·have hx:i<xs.length:=by rw[hl];exact hi
  obtain⟨hx2,g',G,vs,hA,hFg,MP,ve,AX,hown,hcell,hfr,hput⟩:=ho.focus (i:=k+i) (by omega);injection hA with hA
  injection hA with h1 _
  subst h1;have he:(pre++xs)[k+i]=xs[i]:=by
   rw[List.getElem_append_right (by omega)];simp[hk]
  rw[he] at hown;refine⟨hx,g,k*L.size,G,vs,rfl,hFg,MP,ve,AX,hown,fun j u hj hu => ?_,hfr,fun w' x' us zy how ht hrow => ?_⟩
  ·have:=hcell j u hj hu;rw[Nat.add_mul,Nat.add_assoc] at this;exact this
  ·have h9:=hput w' x' us zy how ht (by rw[Nat.add_mul];exact hrow);refine⟨by rw[List.length_set,hl],hc,hm,.inr ⟨g,k,pre,rfl,hk,?_⟩⟩;rw[List.set_append_right _ _ (by omega),hk,Nat.add_sub_cancel_left] at h9;exact h9
theorem dD.rest{x:α}{A':Option Addr}(h:dD L e w F A (n+1) c (x::xs))(hA:n≠0→A'=A.map (·.add L.size)):dD L e w F A' n (c-1) xs:=by
 obtain⟨hl,hc,hm,h0|⟨g,k,pre,rfl,hk,ho⟩⟩:=h
 ·omega
 ·simp at hl;refine⟨hl,by omega,by omega,?_⟩;by_cases hn:n=0
  ·exact .inl hn
  ·refine .inr ⟨g,k+1,pre++[x],?_,by simp[hk],?_⟩
   ·rw[hA hn];simp[add_plain,Nat.add_mul]
   ·have e1:k+1+n=k+(n+1):=(by omega);have e2:k+1+(c-1)=k+c:=(by omega);rw[e1,e2,List.append_assoc];exact ho
def Lay.tail(L:Lay α)(e:TypeId):Lay (List α) where
 size:=1
 see w hi xs vs:=∃A n c,vs=[.slice A n c]∧n≤c∧c≤maxLen∧a_ L w hi A n xs
 own w F xs vs:=∃A n c,vs=[.slice A n c]∧dD L e w F A n c xs
 len h:=by obtain⟨A,n,c,rfl,_⟩:=h;rfl
 keep h hk:=by obtain⟨A,n,c,e,hc,hm,h⟩:=h;exact⟨A,n,c,e,hc,hm,h.keep hk⟩
 more h hh:=by obtain⟨A,n,c,e,hc,hm,h⟩:=h;exact⟨A,n,c,e,hc,hm,h.more hh⟩
 seen h hF:=by
  obtain⟨A,n,c,e,h⟩:=h;exact⟨A,n,c,e,h.2.1,h.2.2.1,h.seen hF⟩
 stay h hk hz:=by obtain⟨A,n,c,e,h⟩:=h;exact⟨A,n,c,e,h.stay hk hz⟩
 wide h hF:=by obtain⟨A,n,c,e,h⟩:=h;exact⟨A,n,c,e,h.wide hF⟩
theorem qH{P:Program}{t e e':TypeId}(ht:P.underlying t=some (.slice e))(hc:P.cellsOf t=1)(hs:0<L.size)(hL:lD P e L):lD P t (L.tail e'):=lY (e':=e') ht hc hs hL
end
end Go.Proofs.YtjcoapnggojpdaaGreatDoor
namespace Go.Proofs.YtjcoapnggojpdaaGreatDoor
open Go.RowKit
abbrev B(b:UInt8):Value := .int .u8 (b.toNat:Int)
end Go.Proofs.YtjcoapnggojpdaaGreatDoor
namespace Go.Proofs.YtjcoapnggojpdaaGreatDoor
open Go.RowKit
end Go.Proofs.YtjcoapnggojpdaaGreatDoor
namespace Go.Proofs.YtjcoapnggojpdaaGreatDoor
open Go.RowKit
end Go.Proofs.YtjcoapnggojpdaaGreatDoor
namespace Go.Proofs.YtjcoapnggojpdaaGreatDoor
open Go.RowKit
section
variable {P:Program} {t e:TypeId} (ht:P.underlying t=some (.slice e)) (hz:∀w,(Go.sizeOf e).run P w=.ok 1 w) (W:World) (A:Option Addr) (n c:Nat)
include ht hz
end
end Go.Proofs.YtjcoapnggojpdaaGreatDoor
namespace Go.Proofs.YtjcoapnggojpdaaGreatDoor
open Go
section
variable {P:Program} {md:Region.Mode} {ops:Array Oper} {Q:Exit→Act→World→Prop}
def PE(md:Region.Mode)(ops:Array Oper)(j:Nat):Array Bool→List (Nat × Nat)→Bool
 |_,[]=>true
 |listed,(i,d)::is=>(match ops[i]?,ops[j]? with|some o,some oj=>o.guard==some (j,true)&&(o.dst==some d&&(match oj.dst with|some dj=>d != dj|none=>true))|_,_=>false) &&
   (Region.free md ops listed i&&((Region.ready md ops listed).contains i&&PE md ops j (listed.setIfInBounds i true) is))
def UR:Array Bool→List (Nat × Nat)→Array Bool
 |listed,[]=>listed
 |listed,(i,_)::is=>UR (listed.setIfInBounds i true) is
def UT:Act→List (Nat × Nat)→Act
 |a,[]=>a
 |a,(_,d)::is=>UT (a.put (some d) undef) is
theorem Nl{j d:Nat}{a:Act}{oj:Oper}(hj:ops[j]? =some oj)(hd:(match oj.dst with|some dj=>d != dj|none=>true)=true):yielded ops (a.put (some d) undef).tmps j=yielded ops a.tmps j:=by
 unfold yielded;rw[hj];cases Xm:oj.dst with
 |none=>simp[Xm]
 |some dj =>
  rw[Xm] at hd;have hne:d≠dj:=by simpa using hd
  simp[Xm,Act.put,Array.getElem?_setIfInBounds_ne hne]
theorem Dc{j:Nat}(hs:Region.noSelect ops=true)(hQ:∀(d:Nat) (v:Value) c a w,Q (.panic c) (a.put (some d) v) w→Q (.panic c) a w):∀(is:List (Nat × Nat)) {fuel:Nat} {listed:Array Bool} {a:Act} {w:World},
  PE md ops j listed is=true→yielded ops a.tmps j=some false→wpAny P md ops Q fuel (UR listed is) (UT a is) w→wpAny P md ops Q (fuel+is.length) listed a w
 |[],_,_,_,_,_,_,h=>h
 |(i,d)::is,fuel,listed,a,w,hb,hy,h=>by
  unfold PE at hb;simp only[Bool.and_eq_true] at hb;obtain⟨h1,h2,h3,h4⟩:=hb;cases ho:ops[i]? with
  |none=>rw[ho] at h1;simp at h1
  |some o =>
   cases hj:ops[j]? with
   |none=>rw[ho,hj] at h1;simp at h1
   |some oj =>
    rw[ho,hj] at h1;simp only[Bool.and_eq_true,beq_iff_eq] at h1;obtain⟨hg,ET,hd⟩:=h1;have hw:Region.wanted o (yielded ops a.tmps)=false:=by
     unfold Region.wanted;rw[hg];simp[hy]
    have ahA:=Dc hs hQ is h4 (by rw[Nl hj hd,hy]) h;have ht:=wpAny_take (i:=i) (oi:=o) (v:=undef) ho hs h2 h3 (fun c a w=>by rw[ET];exact hQ d undef c a w) (Or.inr ⟨hw,rfl⟩) (by rw[ET];exact ahA);exact ht
end
end Go.Proofs.YtjcoapnggojpdaaGreatDoor
namespace Go.Proofs.YtjcoapnggojpdaaGreatDoor
set_option linter.unusedSimpArgs false
set_option linter.unusedVariables false
open Go.RowKit
theorem aB.grow{α:Type}{L:Lay α}{e:TypeId}{w:World}{F:Nat→Prop}{A:Option Addr}{n c:Nat}{xs:List α}(h:aB L e w F A n c xs)(Wp:∀g,F g→g<w.heap.size) :
  ∃vs,Own w 0 w.heap.size e L.size A n c vs∧(∀g,jk A=some g→F g) ∧
   ∀(E:Nat→Prop) (x:α) (us:List Value) (w':World) (A':Option Addr) (c':Nat),L.own w E x us→us.length=L.size→(∀g,E g→¬F g∧g<w.heap.size)→Own w' 0 w'.heap.size e L.size A' (n+1) c' (vs++us) →
    (∀k,k<w.heap.size→jk A≠some k→w'.heap[k]? =w.heap[k]?)→(jk A'=jk A∨jk A'=some w.heap.size)→w.heap.size≤w'.heap.size→aB L e w' (fun g=>F g∨E g∨jk A'=some g) A' (n+1) c' (xs++[x]):=by
 obtain⟨hl,vs,G,ho,hA,hel,hG,h1,h2⟩:=h;refine⟨vs,ho,hA,fun E x us w' A' c' hx zy hE how hk hA' hz => ?_⟩;have hvl:=ho.1.1;have hnA:∀g,E g→jk A≠some g:=fun g hg hh=>(hE g hg).1 (hA g hh)
 refine⟨by simp[hl],vs++us,fun i=>if i=n then E else G i,how,fun g hg => ?_,fun i y hy => ?_,fun i g hi hg => ?_,fun i g hi hg hh => ?_,fun i j g Uc hj hg nI => ?_⟩
 ·exact .inr (.inr hg)
 ·by_cases hin:i=n
  ·subst hin;simp only[if_true];rw[List.getElem?_append_right (by omega),hl,Nat.sub_self] at hy;simp only[List.getElem?_cons_zero,Option.some.injEq] at hy;subst hy;rw[List.drop_append,List.drop_of_length_le (by omega),List.nil_append,hvl,Nat.sub_self,List.drop_zero,List.take_of_length_le (by omega)];exact L.stay hx (fun g hg _=>hk g (hE g hg).2 (hnA g hg)) hz
  ·simp only[if_neg hin];have Sz:i<n:=by
    have:=(List.getElem?_eq_some_iff.1 hy).1;simp[hl] at this;omega
   rw[List.getElem?_append_left (by omega)] at hy;have hle:(i+1)*L.size≤n*L.size:=Nat.mul_le_mul_right _ Sz;rw[Nat.add_mul,Nat.one_mul] at hle;rw[List.drop_append,show i*L.size-vs.length=0 by omega,List.drop_zero,List.take_append_of_le_length (by rw[List.length_drop];omega)];exact L.stay (hel i y hy) (fun g hg hlt=>hk g hlt (h1 i g Sz hg)) hz
 ·by_cases hin:i=n
  ·simp only[if_pos hin] at hg;exact .inr (.inl hg)
  ·simp only[if_neg hin] at hg;exact .inl (hG i g (by omega) hg)
 ·by_cases hin:i=n
  ·simp only[if_pos hin] at hg;rcases hA' with h'|h'
   ·rw[h'] at hh;exact hnA g hg hh
   ·rw[h'] at hh;injection hh with hh;have:=(hE g hg).2;omega
  ·simp only[if_neg hin] at hg;rcases hA' with h'|h'
   ·rw[h'] at hh;exact h1 i g (by omega) hg hh
   ·rw[h'] at hh;injection hh with hh;have:=Wp g (hG i g (by omega) hg);omega
 ·have hin:¬i=n:=(by omega);simp only[if_neg hin] at hg;by_cases hjn:j=n
  ·simp only[if_pos hjn] at nI;exact (hE g nI).1 (hG i g (by omega) hg)
  ·simp only[if_neg hjn] at nI;exact h2 i j g Uc (by omega) hg nI
theorem eF.UU{α:Type}{L:Lay α}{e:TypeId}{w:World}{F Gi qP:Nat→Prop}{n c i g:Nat}{xs:List α}{us:List Value}(h:eF L e w F n c xs i g Gi us){x':α}(hx:L.own w qP x' us)(hG':∀b,qP b→Gi b∨¬F b) :
  aB L e w (fun b=>F b∨qP b) (some ⟨g,0,none⟩) n c (xs.set i x'):=by
 obtain⟨vs,G,hown,hc,hG,hel,hF,h1,h2⟩:=h.rest;subst hG;refine⟨by rw[List.length_set,h.len],vs,fun j=>if j=i then qP else G j,hown,fun b hb => ?_,fun j y hy => ?_,fun j b hj hb => ?_,fun j b hj hb e1 => ?_,fun j k b hjk hk hb hb' => ?_⟩
 ·obtain rfl:g=b:=by simpa[jk] using hb
  exact .inl h.here
 ·by_cases rF:j=i
  ·subst rF;rw[List.getElem?_set_self (by rw[h.len];exact h.lt)] at hy;obtain rfl:=Option.some.inj hy;simp only[if_true];show L.own w qP x' (cutAt vs j L.size)
   rw[hc];exact hx
  ·rw[List.getElem?_set_ne (fun e1=>rF e1.symm)] at hy;simp only[if_neg rF];exact hel j y rF hy
 ·by_cases rF:j=i
  ·simp only[if_pos rF] at hb;exact .inr hb
  ·simp only[if_neg rF] at hb;exact .inl (hF j b hj hb)
 ·obtain rfl:g=b:=by simpa[jk] using e1
  by_cases rF:j=i
  ·simp only[if_pos rF] at hb;rcases hG' g hb with h3|h3
   ·exact h.not h3
   ·exact h3 h.here
  ·simp only[if_neg rF] at hb;exact h1 j g hj hb rfl
 ·by_cases rF:j=i
  ·simp only[if_pos rF] at hb;have rE:¬k=i:=(by omega);simp only[if_neg rE] at hb';rcases hG' b hb with h3|h3
   ·exact h2 j k b hjk hk (by rw[rF];exact h3) hb'
   ·exact h3 (hF k b hk hb')
  ·simp only[if_neg rF] at hb;by_cases rE:k=i
   ·simp only[if_pos rE] at hb';rcases hG' b hb' with h3|h3
    ·exact h2 j k b hjk hk hb (by rw[rE];exact h3)
    ·exact h3 (hF j b (by omega) hb)
   ·simp only[if_neg rE] at hb';exact h2 j k b hjk hk hb hb'
end Go.Proofs.YtjcoapnggojpdaaGreatDoor
namespace Go.Proofs.YtjcoapnggojpdaaGreatDoor
open Go.RowKit
theorem UW:(Tryz.prog.info? 3).map (fun i=>(i.zero,i.size,i.bytes))=some (some (.int .i64 0),1,8):=by kernel_rfl
theorem vY{w:World}{A:Option Addr}{n c l:Nat}(hl:l≤1048576)(hn:n≤maxLen) :
  Calls Tryz.prog 32 #[.slice A n c,.int .i64 (l:Int)] w (nO w l n):=by
 unfold maxLen at hn;by_cases h:n≤l
 ·have hs:Hid ((l:Int)-(n:Int)=((l-n:Nat):Int)):=Lib.hid (by omega);go_enter Tryz.func32,Tryz.ntmps32
  go_wp2
  go_ret;exact⟨Below.refl _ _,.inl ⟨h,by rw[hs.out];rfl⟩⟩
 ·have h':l<n:=(by omega);go_enter Tryz.func32,Tryz.ntmps32
  go_wp2
  go_ret;exact⟨Below.refl _ _,.inr ⟨h',rfl⟩⟩
theorem uq{A A':Option Addr}{n c c' hi hi':Nat}{xs:List Int}{w:World}(h:a_ Lay.int w hi A n xs)(h':a_ Lay.int w hi' A' n xs)(hn:n≤1048580) :
  Calls Tryz.prog 58 #[.slice A n c,.slice A' n c'] w (iP w):=by
 go_enter Tryz.func58,Tryz.ntmps58
 go_wp2
 go_loopw[5] (fun i wr=>∃k m:Nat,k≤n∧i=.int .i64 k∧wr=w.drewN m) (fun i _=>n-(intOf i).toNat)
 case atStart=>exact⟨0,0,Nat.zero_le _,rfl,rfl⟩
 case round =>
  obtain⟨k,m,hk,rfl,rfl⟩:=hrel;by_cases hlt:k<n
  ·obtain⟨hx,g,o,vs,rfl,hg,⟨rfl,hw⟩,hc⟩:=h.at_ hlt;obtain⟨hx',g',o',vs',rfl,nI,⟨rfl,hw'⟩,hc'⟩:=h'.at_ hlt;have c0:=hc 0 _ rfl;have UX:=hc' 0 _ rfl;simp only[Lay.int,Lay.flat,Nat.mul_one,Nat.add_zero] at c0 UX;clear hc hc';generalize xs[k]=x at *;clear hw hw';go_wp2
   go_quiet (fail)
   go_wp2
   go_roundw
   case rel=>exact⟨k+1,_,by omega,by go_num,rfl⟩
   case measure=>simp[intOf];omega
  ·go_wp2
   go_ret;exact⟨rfl,gz (Below.refl _ _) _⟩
theorem vZ{w:World}{A:Option Addr}{n c hi:Nat}{xs:List Int}(h:a_ Lay.int w hi A n xs)(cu:hi≤w.heap.size)(hn:n≤1048576) :
  Calls Tryz.prog 44 #[.slice A n c] w (vw Lay.int 3 w n xs):=by
 obtain⟨i0,jJ,hz0,hz1,hz2⟩:=info_parts UW;have hmk:=fun W:World=>run_make (P:=Tryz.prog) W 22 3 i0 _ Tryz.underlying22 jJ hz0 .i64 .i64 n n (by omega) (by omega) (by rw[hz2];omega) (by omega)
 simp only[hz1,Int.toNat_natCast,Nat.mul_one] at hmk;have HL:=Lib.hid h.1;clear jJ hz0 hz1 hz2;go_enter Tryz.func44,Tryz.ntmps44
 go_wp2
 clear hmk;go_loopw[4] (fun i wr=>∃k:Nat,k≤n∧i=.int .i64 k∧Part Lay.int 3 wr w.heap.size n xs k wr.heap.size∧yT w wr) (fun i _=>n-(intOf i).toNat)
 case atStart =>
  refine⟨0,Nat.zero_le _,rfl,?_,(Below.refl _ _).alloc (Nat.le_refl _) _⟩;have hm:=Own.made (size:=1) (e:=3) w (madeCells #[.int .i64 0] n) n n (by simp only[maxLen];omega) (by simp[size_madeCells]) (Nat.le_refl _);exact Part.start HL.out hm (by simp)
 case round =>
  obtain⟨k,hk,rfl,hpart,hb⟩:=hrel;have z:=hb.size;by_cases hlt:k<n
  ·obtain⟨hx,g,o,vs,rfl,hg,⟨rfl,hw⟩,hcell⟩:=(h.below hb cu).at_ hlt;have hc:=hcell 0 _ rfl;have jh:=Lib.hid (List.getElem?_eq_getElem hx);obtain⟨⟨v,hold⟩,hfz⟩:=hpart.room hlt 0 (by decide);have xM:=hpart.step jh.out (us:=[.int .i64 xs[k]]) rfl ⟨rfl,hw⟩ (F:=fun _=>False) (fun g hg=>hg.elim);simp only[Lay.int,Lay.flat,Nat.mul_one,Nat.add_zero] at hold hfz hc;clear hcell hpart;generalize xs[k]=x at *;clear hw;go_wp2
   go_roundw
   case rel=>exact⟨k+1,by omega,by go_num,by simpa[putCells,Lay.int,Lay.flat] using xM,hb.setCell (by simp) _⟩
   case measure=>simp[intOf];omega
  ·go_wp2_with fail
   go_ret;obtain rfl:k=n:=(by omega);exact⟨_,_,rfl,hpart.done,hb⟩
end Go.Proofs.YtjcoapnggojpdaaGreatDoor
