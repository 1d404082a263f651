/- Texts of the proof, laid compactly. -/
import Derived.Test.YtjcoapnggojpdaaGreatDoorGDEng
namespace Go.Proofs.YtjcoapnggojpdaaGreatDoor
set_option linter.unusedSimpArgs false
set_option linter.unusedVariables false
open Go.RowKit
section
variable {α:Type} {L:Lay α} {e:TypeId} {w w':World} {F Gi H:Nat→Prop} {A:Option Addr} {n c i g:Nat} {xs:List α} {us:List Value}
theorem eF.keep(h:eF L e w F n c xs i g Gi us)(hk:∀b,F b→b<w.heap.size→w'.heap[b]? =w.heap[b]?)(hz:w.heap.size≤w'.heap.size):eF L e w' F n c xs i g Gi us:=by
 obtain⟨vs,G,hown,hc,hG,hel,hF,h1,h2⟩:=h.rest;have hg:=h.gl;refine⟨h.len,h.lt,h.here,h.Io,h.not,vs,G,?_,hc,hG,?_,hF,h1,h2⟩
 ·refine (hown.Es (w':=w') fun b hb hlt => ?_).vX fun b hb=>⟨zL _,?_⟩
  ·obtain rfl:g=b:=by simpa[jk] using hb
   exact hk g h.here hlt
  ·obtain rfl:g=b:=by simpa[jk] using hb
   exact zV hg hz
 ·intro j x hj hx;have hjn:j<n:=by rw[←h.len];exact (zO.1 hx).1
  exact L.stay (hel j x hj hx) (fun b hb hlt=>hk b (hF j b hjn hb) hlt) hz
theorem eF.puts:∀(vs:List Value) (w:World) (o:Nat) (us:List Value),eF L e w F n c xs i g Gi us→o+vs.length≤L.size→eF L e (putCells w g (i*L.size+o) vs) F n c xs i g Gi (setFrom us o vs)
 |[],w,o,us,h,_=>h
 |v::vs,w,o,us,h,ho=>by
  simp only[yB] at ho;exact eF.puts vs _ (o+1) _ (h.BP (by omega) v) (by omega)
theorem Np{us vs:List Value}(h:vs.length=us.length):setFrom us 0 vs=vs:=by
 apply List.ext_getElem?
 intro j;rw[uo vs us 0 j (by omega)];by_cases hj:j<vs.length
 ·rw[yG (by omega),Nat.sub_zero]
 ·rw[yF (by omega),List.getElem?_eq_none (by omega),List.getElem?_eq_none (by omega)]
structure ahC (L:Lay α) (e:TypeId) (w:World) (F:Nat→Prop) (A:Option Addr) (n c:Nat) (xs:List α) (i g:Nat) (Gi:Nat→Prop) (us:List Value):Prop where
 here:F g∧g<w.heap.size∧¬Gi g
 Io:∀b,Gi b→F b∧b≠g
 len:us.length=L.size
 cell:∀j u,us[j]? =some u→w.cell? ⟨g,i*L.size+j,none⟩=some u
 free:∀j,w.frozen? ⟨g,j,none⟩=false
 put:∀(w':World) (x':α) (H8:List Value) (qP:Nat→Prop),H8.length=L.size→(∀b,F b→b<w.heap.size→w'.heap[b]? =w.heap[b]?)→w.heap.size≤w'.heap.size→L.own w' qP x' H8→(∀b,qP b→b<w'.heap.size∧(Gi b∨w.heap.size≤b)) →
  aB L e (putCells w' g (i*L.size) H8) (fun b=>F b∨qP b) A n c (xs.set i x')
 BP:∀(w':World) (x':α) (o:Nat) (u:Value),o<L.size→(∀b,F b→b<w.heap.size→w'.heap[b]? =w.heap[b]?)→w.heap.size≤w'.heap.size→L.own w' Gi x' (us.set o u) →
  aB L e (w'.setCell ⟨g,i*L.size+o,none⟩ u) F A n c (xs.set i x')
theorem aB.acZ(h:aB L e w F A n c xs)(hF:∀b,F b→b<w.heap.size)(hi:i<n):∃(hx:i<xs.length) (g:Nat) (Gi:Nat→Prop) (us:List Value),A=some ⟨g,0,none⟩∧L.own w Gi xs[i] us∧ahC L e w F A n c xs i g Gi us:=by
 obtain⟨hx,g,Gi,us,hA,hg,ho,hel⟩:=h.open_ hi;have Ud:=L.len (L.seen (hi:=w.heap.size) hel fun b hb=>hF b (ho.Io b hb));refine⟨hx,g,Gi,us,hA,hel,⟨ho.here,hg,ho.not⟩,fun b hb=>⟨ho.Io b hb,fun e1=>ho.not (e1 ▸ hb)⟩,Ud,fun j u hu=>ho.cell hu (by rw[←Ud];exact (zO.1 hu).1),ho.free,?_,?_⟩
 ·intro w' x' H8 qP hl hk hz how hG;have h1:=(ho.keep hk hz).puts H8 w' 0 us (by omega);rw[Np (by omega),zI] at h1;rw[hA];refine h1.UU (x':=x') (L.stay how (fun b hb _=>jo H8 w' g _ b ?_) (by rw[jP];exact zC _)) fun b hb => ?_
  ·rintro rfl;rcases (hG b hb).2 with h2|h2
   ·exact ho.not h2
   ·omega
  ·rcases (hG b hb).2 with h2|h2
   ·exact .inl h2
   ·exact .inr fun h3=>by have:=hF b h3;omega
 ·intro w' x' o u ho2 hk hz how;rw[hA];refine ((ho.keep hk hz).BP ho2 u).shut (L.stay how (fun b hb _=>zN w' _ u b ?_) (by simp[World.setCell]));rintro rfl;exact ho.not hb
end
theorem unC{w:World}{F:Nat→Prop}{x:gy}{vs:List Value}(h:bD.own w F x vs):∃(A1:Option Addr) (n1 c1:Nat) (F1:Nat→Prop) (A2:Option Addr) (n2 c2:Nat) (F2:Nat→Prop) (A3:Option Addr) (n3 c3:Nat) (F3:Nat→Prop),vs=[.int .i64 x.dC,.slice A1 n1 c1,.slice A2 n2 c2,.slice A3 n3 c3,.bool x.aC]∧(Lit.int .i64 x.dC).wf=true∧(dD Lay.int 3 w F1 A1 n1 c1 x.k6∧∀g,F1 g→F g)∧(dD aN 49 w F2 A2 n2 c2 x.dh∧∀g,F2 g→F g)∧(dD aN 49 w F3 A3 n3 c3 x.dG∧∀g,F3 g→F g)∧(∀g,F1 g→¬F2 g)∧(∀g,F1 g→¬F3 g)∧(∀g,F2 g→¬F3 g):=by
 obtain⟨_,_,F0,R1,rfl,s0,⟨_,_,F1,R2,rfl,s1,⟨_,_,F2,R3,rfl,s2,⟨_,_,F3,R4,rfl,s3,s4,k3,r3,d3⟩,k2,r2,d2⟩,k1,r1,d1⟩,k0,r0,d0⟩:=h;obtain⟨rfl,h0⟩:=s0;obtain⟨A1,n1,c1,rfl,h1⟩:=s1;obtain⟨A2,n2,c2,rfl,h2⟩:=s2;obtain⟨A3,n3,c3,rfl,h3⟩:=s3;obtain⟨rfl,h4⟩:=s4;exact⟨A1,n1,c1,F1,A2,n2,c2,F2,A3,n3,c3,F3,rfl,h0,⟨h1,(fun g h=>r0 g (k1 g h))⟩,⟨h2,(fun g h=>r0 g (r1 g (k2 g h)))⟩,⟨h3,(fun g h=>r0 g (r1 g (r2 g (k3 g h))))⟩,(fun g hi hj=>d1 g hi ((fun g h=>k2 g h) g hj)),(fun g hi hj=>d1 g hi ((fun g h=>r2 g (k3 g h)) g hj)),(fun g hi hj=>d2 g hi ((fun g h=>k3 g h) g hj))⟩
theorem unG{w:World}{F:Nat→Prop}{x:bY}{vs:List Value}(h:aI.own w F x vs):∃(A2:Option Addr) (n2 c2:Nat) (F2:Nat→Prop) (A4:Option Addr) (n4 c4:Nat) (F4:Nat→Prop),vs=[.int .i64 x.ax,.int .i64 x.dE,.slice A2 n2 c2,.int .i64 x.ai,.slice A4 n4 c4]∧(Lit.int .i64 x.ax).wf=true∧(Lit.int .i64 x.dE).wf=true∧(dD Lay.int 3 w F2 A2 n2 c2 x.gJ∧∀g,F2 g→F g)∧(Lit.int .i64 x.ai).wf=true∧(dD cZ 171 w F4 A4 n4 c4 x.jv∧∀g,F4 g→F g)∧(∀g,F2 g→¬F4 g):=by
 obtain⟨_,_,F0,R1,rfl,s0,⟨_,_,F1,R2,rfl,s1,⟨_,_,F2,R3,rfl,s2,⟨_,_,F3,R4,rfl,s3,s4,k3,r3,d3⟩,k2,r2,d2⟩,k1,r1,d1⟩,k0,r0,d0⟩:=h;obtain⟨rfl,h0⟩:=s0;obtain⟨rfl,h1⟩:=s1;obtain⟨A2,n2,c2,rfl,h2⟩:=s2;obtain⟨rfl,h3⟩:=s3;obtain⟨A4,n4,c4,rfl,h4⟩:=s4;exact⟨A2,n2,c2,F2,A4,n4,c4,R4,rfl,h0,h1,⟨h2,(fun g h=>r0 g (r1 g (k2 g h)))⟩,h3,⟨h4,(fun g h=>r0 g (r1 g (r2 g (r3 g h))))⟩,(fun g hi hj=>d2 g hi ((fun g h=>r3 g h) g hj))⟩
def iM(F:Nat→Prop)(x:dY)(w:World)(A0:Option Addr)(n0 c0:Nat)(A1:Option Addr)(n1 c1:Nat)(A2:Option Addr)(n2 c2:Nat):Prop :=
 ∃F0 F1 F2:Nat→Prop,aB aI 69 w F0 A0 n0 c0 x.bJ∧aB bD 135 w F1 A1 n1 c1 x.aA∧aB aX 137 w F2 A2 n2 c2 x.ay ∧
  (∀b,F0 b∨F1 b∨F2 b→F b∧b<w.heap.size)∧(∀b,F0 b→¬F1 b)∧(∀b,F0 b→¬F2 b)∧∀b,F1 b→¬F2 b
section
variable {F F':Nat→Prop} {x:dY} {w w':World} {A0 A1 A2:Option Addr} {n0 c0 n1 c1 n2 c2:Nat}
theorem iM.own(h:iM F x w A0 n0 c0 A1 n1 c1 A2 n2 c2):bZ.own w (fun b=>F b∧b<w.heap.size) x [.slice A0 n0 c0,.slice A1 n1 c1,.slice A2 n2 c2]:=by
 obtain⟨F0,F1,F2,o0,o1,o2,hF,d1,d2,d3⟩:=h;exact Kt o0 o1 o2 (fun b hb=>hF b (.inl hb)) (fun b hb=>hF b (.inr (.inl hb))) (fun b hb=>hF b (.inr (.inr hb))) d1 d2 d3
theorem iM.see(h:iM F x w A0 n0 c0 A1 n1 c1 A2 n2 c2):bZ.see w w.heap.size x [.slice A0 n0 c0,.slice A1 n1 c1,.slice A2 n2 c2]:=bZ.seen h.own fun b hb=>hb.2
theorem iM.lens(h:iM F x w A0 n0 c0 A1 n1 c1 A2 n2 c2):x.bJ.length=n0∧x.aA.length=n1∧x.ay.length=n2:=by
 obtain⟨F0,F1,F2,o0,o1,o2,_⟩:=h;exact⟨o0.1,o1.1,o2.1⟩
theorem iM.wide(h:iM F x w A0 n0 c0 A1 n1 c1 A2 n2 c2)(hF:∀b,F b→b<w.heap.size→F' b):iM F' x w A0 n0 c0 A1 n1 c1 A2 n2 c2:=by
 obtain⟨F0,F1,F2,o0,o1,o2,hf,d⟩:=h;exact⟨F0,F1,F2,o0,o1,o2,fun b hb=>⟨hF b (hf b hb).1 (hf b hb).2,(hf b hb).2⟩,d⟩
theorem iM.stay(h:iM F x w A0 n0 c0 A1 n1 c1 A2 n2 c2)(hk:∀b,F b→b<w.heap.size→w'.heap[b]? =w.heap[b]?)(hz:w.heap.size≤w'.heap.size):iM F x w' A0 n0 c0 A1 n1 c1 A2 n2 c2:=by
 obtain⟨F0,F1,F2,o0,o1,o2,hf,d⟩:=h;exact⟨F0,F1,F2,o0.stay (fun b hb hlt=>hk b (hf b (.inl hb)).1 hlt) hz,o1.stay (fun b hb hlt=>hk b (hf b (.inr (.inl hb))).1 hlt) hz,o2.stay (fun b hb hlt=>hk b (hf b (.inr (.inr hb))).1 hlt) hz,fun b hb=>⟨(hf b hb).1,zV (hf b hb).2 hz⟩,d⟩
theorem iM.Eo{k:Nat}(h:iM F x w A0 n0 c0 A1 n1 c1 A2 n2 c2)(hk:k<n0):∃(hx:k<x.bJ.length) (g:Nat) (Gi:Nat→Prop) (us:List Value),A0=some ⟨g,0,none⟩∧F g∧g<w.heap.size∧¬Gi g∧aI.own w Gi x.bJ[k] us∧(∀b,Gi b→F b∧b<w.heap.size)∧us.length=5 ∧
  (∀j u,us[j]? =some u→w.cell? ⟨g,k*5+j,none⟩=some u)∧(∀j,w.frozen? ⟨g,j,none⟩=false) ∧
  (∀(w':World) (x':bY) (H8:List Value) (qP:Nat→Prop),H8.length=5→(∀b,F b→b<w.heap.size→w'.heap[b]? =w.heap[b]?)→w.heap.size≤w'.heap.size→aI.own w' qP x' H8→(∀b,qP b→b<w'.heap.size∧(Gi b∨w.heap.size≤b)) →
   iM (fun b=>F b∨qP b) {x with bJ:=x.bJ.set k x'} (putCells w' g (k*5) H8) A0 n0 c0 A1 n1 c1 A2 n2 c2) ∧
  (∀(w':World) (x':bY) (o:Nat) (u:Value),o<5→(∀b,F b→b<w.heap.size→w'.heap[b]? =w.heap[b]?)→w.heap.size≤w'.heap.size→aI.own w' Gi x' (us.set o u)→iM F {x with bJ:=x.bJ.set k x'} (w'.setCell ⟨g,k*5+o,none⟩ u) A0 n0 c0 A1 n1 c1 A2 n2 c2):=by
 obtain⟨F0,F1,F2,o0,o1,o2,hf,d1,d2,d3⟩:=h;obtain⟨hx,g,Gi,us,hA,hel,E⟩:=o0.acZ (fun b hb=>(hf b (.inl hb)).2) hk;refine⟨hx,g,Gi,us,hA,(hf g (.inl E.here.1)).1,E.here.2.1,E.here.2.2,hel,fun b hb=>hf b (.inl (E.Io b hb).1),E.len,E.cell,E.free,?_,?_⟩
 ·intro w' x' H8 qP hl UZ hz how hG;refine⟨fun b=>F0 b∨qP b,F1,F2,E.put w' x' H8 qP hl (fun b hb hlt=>UZ b (hf b (.inl hb)).1 hlt) hz how hG,
   o1.stay (fun b hb hlt=>(jo H8 w' g _ b (fun e1=>d1 g E.here.1 (e1 ▸ hb))).trans (UZ b (hf b (.inr (.inl hb))).1 hlt)) (by rw[jP];exact hz),
   o2.stay (fun b hb hlt=>(jo H8 w' g _ b (fun e1=>d2 g E.here.1 (e1 ▸ hb))).trans (UZ b (hf b (.inr (.inr hb))).1 hlt)) (by rw[jP];exact hz),fun b hb => ?_,fun b hb hh => ?_,fun b hb hh => ?_,d3⟩
  ·rw[jP];rcases hb with (hb|hb)|hb|hb
   ·have:=hf b (.inl hb);exact⟨.inl this.1,by omega⟩
   ·exact⟨.inr hb,(hG b hb).1⟩
   ·have:=hf b (.inr (.inl hb));exact⟨.inl this.1,by omega⟩
   ·have:=hf b (.inr (.inr hb));exact⟨.inl this.1,by omega⟩
  ·rcases hb with hb|hb
   ·exact d1 b hb hh
   ·rcases (hG b hb).2 with h3|h3
    ·exact d1 b (E.Io b h3).1 hh
    ·have:=hf b (.inr (.inl hh));omega
  ·rcases hb with hb|hb
   ·exact d2 b hb hh
   ·rcases (hG b hb).2 with h3|h3
    ·exact d2 b (E.Io b h3).1 hh
    ·have:=hf b (.inr (.inr hh));omega
 ·intro w' x' o u ho UZ hz how;refine⟨F0,F1,F2,E.BP w' x' o u ho (fun b hb hlt=>UZ b (hf b (.inl hb)).1 hlt) hz how,
   o1.stay (fun b hb hlt=>(zN w' ⟨g,k*5+o,none⟩ u b (fun (e1:b=g)=>d1 g E.here.1 (e1 ▸ hb))).trans (UZ b (hf b (.inr (.inl hb))).1 hlt)) (by simpa[World.setCell] using hz),
   o2.stay (fun b hb hlt=>(zN w' ⟨g,k*5+o,none⟩ u b (fun (e1:b=g)=>d2 g E.here.1 (e1 ▸ hb))).trans (UZ b (hf b (.inr (.inr hb))).1 hlt)) (by simpa[World.setCell] using hz),fun b hb => ?_,d1,d2,d3⟩
  have:=hf b hb;exact⟨this.1,by simp[World.setCell];omega⟩
theorem iM.chan{k:Nat}(h:iM F x w A0 n0 c0 A1 n1 c1 A2 n2 c2)(hk:k<n1):∃(hx:k<x.aA.length) (g:Nat) (Gi:Nat→Prop) (us:List Value),A1=some ⟨g,0,none⟩∧F g∧g<w.heap.size∧¬Gi g∧bD.own w Gi x.aA[k] us∧(∀b,Gi b→F b∧b<w.heap.size)∧us.length=5 ∧
  (∀j u,us[j]? =some u→w.cell? ⟨g,k*5+j,none⟩=some u)∧(∀j,w.frozen? ⟨g,j,none⟩=false) ∧
  (∀(w':World) (x':gy) (H8:List Value) (qP:Nat→Prop),H8.length=5→(∀b,F b→b<w.heap.size→w'.heap[b]? =w.heap[b]?)→w.heap.size≤w'.heap.size→bD.own w' qP x' H8→(∀b,qP b→b<w'.heap.size∧(Gi b∨w.heap.size≤b)) →
   iM (fun b=>F b∨qP b) {x with aA:=x.aA.set k x'} (putCells w' g (k*5) H8) A0 n0 c0 A1 n1 c1 A2 n2 c2):=by
 obtain⟨F0,F1,F2,o0,o1,o2,hf,d1,d2,d3⟩:=h;obtain⟨hx,g,Gi,us,hA,hel,E⟩:=o1.acZ (fun b hb=>(hf b (.inr (.inl hb))).2) hk;refine⟨hx,g,Gi,us,hA,(hf g (.inr (.inl E.here.1))).1,E.here.2.1,E.here.2.2,hel,fun b hb=>hf b (.inr (.inl (E.Io b hb).1)),E.len,E.cell,E.free,?_⟩;intro w' x' H8 qP hl UZ hz how hG;refine⟨F0,fun b=>F1 b∨qP b,F2,
  o0.stay (fun b hb hlt=>(jo H8 w' g _ b (fun e1=>d1 b hb (e1 ▸ E.here.1))).trans (UZ b (hf b (.inl hb)).1 hlt)) (by rw[jP];exact hz),
  E.put w' x' H8 qP hl (fun b hb hlt=>UZ b (hf b (.inr (.inl hb))).1 hlt) hz how hG,
  o2.stay (fun b hb hlt=>(jo H8 w' g _ b (fun e1=>d3 g E.here.1 (e1 ▸ hb))).trans (UZ b (hf b (.inr (.inr hb))).1 hlt)) (by rw[jP];exact hz),fun b hb => ?_,fun b hb hh => ?_,d2,fun b hb hh => ?_⟩
 ·rw[jP];rcases hb with hb|(hb|hb)|hb
  ·have:=hf b (.inl hb);exact⟨.inl this.1,by omega⟩
  ·have:=hf b (.inr (.inl hb));exact⟨.inl this.1,by omega⟩
  ·exact⟨.inr hb,(hG b hb).1⟩
  ·have:=hf b (.inr (.inr hb));exact⟨.inl this.1,by omega⟩
 ·rcases hh with hh|hh
  ·exact d1 b hb hh
  ·rcases (hG b hh).2 with h3|h3
   ·exact d1 b hb (E.Io b h3).1
   ·have:=hf b (.inl hb);omega
 ·rcases hb with hb|hb
  ·exact d3 b hb hh
  ·rcases (hG b hb).2 with h3|h3
   ·exact d3 b (E.Io b h3).1 hh
   ·have:=hf b (.inr (.inr hh));omega
end
theorem iM.Zw{F:Nat→Prop}{x:dY}{w:World}{A0 A1 A2:Option Addr}{n0 c0 n1 c1 n2 c2 k:Nat}(h:iM F x w A0 n0 c0 A1 n1 c1 A2 n2 c2)(hk:k<n1) :
  ∃(hx:k<x.aA.length) (g:Nat) (Gi:Nat→Prop) (E1:Option Addr) (k1 e1:Nat) (E2:Option Addr) (k2 e2:Nat) (E3:Option Addr) (k3 e3:Nat),A1=some ⟨g,0,none⟩∧F g∧g<w.heap.size∧¬Gi g ∧
  bD.own w Gi x.aA[k] [.int .i64 (x.aA[k]).dC,.slice E1 k1 e1,.slice E2 k2 e2,.slice E3 k3 e3,.bool (x.aA[k]).aC]∧(∀b,Gi b→F b∧b<w.heap.size) ∧
  (w.cell? ⟨g,k*5,none⟩=some (.int .i64 (x.aA[k]).dC)∧w.cell? ⟨g,k*5+1,none⟩=some (.slice E1 k1 e1)∧w.cell? ⟨g,k*5+2,none⟩=some (.slice E2 k2 e2)∧w.cell? ⟨g,k*5+3,none⟩=some (.slice E3 k3 e3)∧w.cell? ⟨g,k*5+4,none⟩=some (.bool (x.aA[k]).aC))∧(∀j,w.frozen? ⟨g,j,none⟩=false) ∧
  (∀(w':World) (x':gy) (u0 u1 u2 u3 u4:Value) (qP:Nat→Prop),(∀b,F b→b<w.heap.size→w'.heap[b]? =w.heap[b]?)→w.heap.size≤w'.heap.size→bD.own w' qP x' [u0,u1,u2,u3,u4]→(∀b,qP b→b<w'.heap.size∧(Gi b∨w.heap.size≤b)) →
   iM (fun b=>F b∨qP b) {x with aA:=x.aA.set k x'} (((((w'.setCell ⟨g,k*5,none⟩ u0).setCell ⟨g,k*5+1,none⟩ u1).setCell ⟨g,k*5+2,none⟩ u2).setCell ⟨g,k*5+3,none⟩ u3).setCell ⟨g,k*5+4,none⟩ u4) A0 n0 c0 A1 n1 c1 A2 n2 c2):=by
 obtain⟨hx,g,Gi,us,hA,hFg,BG,MP,hel,ve,Ud,hcell,hfree,hput⟩:=h.chan hk;obtain⟨E1,k1,e1,F1,E2,k2,e2,F2,E3,k3,e3,F3,rfl,-⟩:=unC hel;exact⟨hx,g,Gi,E1,k1,e1,E2,k2,e2,E3,k3,e3,hA,hFg,BG,MP,hel,ve,⟨hcell 0 _ rfl,hcell 1 _ rfl,hcell 2 _ rfl,hcell 3 _ rfl,hcell 4 _ rfl⟩,hfree,fun w' x' u0 u1 u2 u3 u4 qP h1 h2 h3 h4=>hput w' x' [u0,u1,u2,u3,u4] qP rfl h1 h2 h3 h4⟩
theorem iM.acU{F:Nat→Prop}{x:dY}{w:World}{A0 A1 A2:Option Addr}{n0 c0 n1 c1 n2 c2 k:Nat}(h:iM F x w A0 n0 c0 A1 n1 c1 A2 n2 c2)(hk:k<n0) :
  ∃(hx:k<x.bJ.length) (g:Nat) (Gi:Nat→Prop) (E2:Option Addr) (k2 e2:Nat) (E4:Option Addr) (k4 e4:Nat),A0=some ⟨g,0,none⟩∧F g∧g<w.heap.size∧¬Gi g ∧
  aI.own w Gi x.bJ[k] [.int .i64 (x.bJ[k]).ax,.int .i64 (x.bJ[k]).dE,.slice E2 k2 e2,.int .i64 (x.bJ[k]).ai,.slice E4 k4 e4]∧(∀b,Gi b→F b∧b<w.heap.size) ∧
  (w.cell? ⟨g,k*5,none⟩=some (.int .i64 (x.bJ[k]).ax)∧w.cell? ⟨g,k*5+1,none⟩=some (.int .i64 (x.bJ[k]).dE)∧w.cell? ⟨g,k*5+2,none⟩=some (.slice E2 k2 e2)∧w.cell? ⟨g,k*5+3,none⟩=some (.int .i64 (x.bJ[k]).ai)∧w.cell? ⟨g,k*5+4,none⟩=some (.slice E4 k4 e4))∧(∀j,w.frozen? ⟨g,j,none⟩=false) ∧
  (∀(w':World) (x':bY) (u0 u1 u2 u3 u4:Value) (qP:Nat→Prop),(∀b,F b→b<w.heap.size→w'.heap[b]? =w.heap[b]?)→w.heap.size≤w'.heap.size→aI.own w' qP x' [u0,u1,u2,u3,u4]→(∀b,qP b→b<w'.heap.size∧(Gi b∨w.heap.size≤b)) →
   iM (fun b=>F b∨qP b) {x with bJ:=x.bJ.set k x'} (((((w'.setCell ⟨g,k*5,none⟩ u0).setCell ⟨g,k*5+1,none⟩ u1).setCell ⟨g,k*5+2,none⟩ u2).setCell ⟨g,k*5+3,none⟩ u3).setCell ⟨g,k*5+4,none⟩ u4) A0 n0 c0 A1 n1 c1 A2 n2 c2) ∧
  (∀(w':World) (v:Int),(∀b,F b→b<w.heap.size→w'.heap[b]? =w.heap[b]?)→w.heap.size≤w'.heap.size→(Lit.int .i64 v).wf=true→iM F {x with bJ:=x.bJ.set k {x.bJ[k] with dE:=v}} (w'.setCell ⟨g,k*5+1,none⟩ (.int .i64 v)) A0 n0 c0 A1 n1 c1 A2 n2 c2) ∧
  (∀(w':World) (v:Int),(∀b,F b→b<w.heap.size→w'.heap[b]? =w.heap[b]?)→w.heap.size≤w'.heap.size→(Lit.int .i64 v).wf=true→iM F {x with bJ:=x.bJ.set k {x.bJ[k] with ai:=v}} (w'.setCell ⟨g,k*5+3,none⟩ (.int .i64 v)) A0 n0 c0 A1 n1 c1 A2 n2 c2):=by
 obtain⟨hx,g,Gi,us,hA,hFg,BG,MP,hel,ve,Ud,hcell,hfree,hput,ac0⟩:=h.Eo hk;obtain⟨E2,k2,e2,F2,E4,k4,e4,F4,rfl,q0,q1,⟨q2,q2F⟩,q3,⟨q4,q4F⟩,qd⟩:=unG hel;refine⟨hx,g,Gi,E2,k2,e2,E4,k4,e4,hA,hFg,BG,MP,hel,ve,⟨hcell 0 _ rfl,hcell 1 _ rfl,hcell 2 _ rfl,hcell 3 _ rfl,hcell 4 _ rfl⟩,hfree,fun w' x' u0 u1 u2 u3 u4 qP h1 h2 h3 h4=>hput w' x' [u0,u1,u2,u3,u4] qP rfl h1 h2 h3 h4,fun w' v h1 h2 hv => ?_,fun w' v h1 h2 hv => ?_⟩
 ·refine ac0 w' _ 1 _ (by decide) h1 h2 (E7 (x:={x.bJ[k] with dE:=v}) q0 hv (q2.stay (fun b hb hlt=>h1 b (ve b (q2F b hb)).1 hlt) h2) q3 (q4.stay (fun b hb hlt=>h1 b (ve b (q4F b hb)).1 hlt) h2) q2F q4F qd)
 ·refine ac0 w' _ 3 _ (by decide) h1 h2 (E7 (x:={x.bJ[k] with ai:=v}) q0 q1 (q2.stay (fun b hb hlt=>h1 b (ve b (q2F b hb)).1 hlt) h2) hv (q4.stay (fun b hb hlt=>h1 b (ve b (q4F b hb)).1 hlt) h2) q2F q4F qd)
end Go.Proofs.YtjcoapnggojpdaaGreatDoor
