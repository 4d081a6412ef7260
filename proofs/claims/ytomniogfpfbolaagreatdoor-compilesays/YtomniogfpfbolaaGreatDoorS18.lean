import Derived.Test.YtomniogfpfbolaaGreatDoorS14
import Derived.Test.YtomniogfpfbolaaGreatDoorS05
import Derived.Test.YtomniogfpfbolaaGreatDoorS09
namespace Go.Proofs.YtomniogfpfbolaaGreatDoor.V.C
open Go.RowKit Go
set_option maxRecDepth 100000
set_option maxHeartbeats 8000000
set_option linter.all false
variable {i T s cap j r r' k ko kc:Nat} {c:Array Value} {t:TypeId} {z:Nat×Nat} {v a b d e:Value} {o:Obj} {xs:List Value} {x:Int}
theorem q7z{W:World}{B:Nat}(v:Value)(h:W.heap[B]?=some (.cells c t z)):(W.setCell (Ad B i) v).heap[B]?=some (.cells (c.setIfInBounds i v) t z):=by
 obtain⟨y,x⟩:=Array.getElem?_eq_some_iff.1 h
 show(W.heap.modify B _)[B]?=_
 rw[Array.getElem?_eq_getElem (by rw[Array.size_modify];exact y),Array.getElem_modify_self,x]
 rfl
theorem q2z{W:World}{B:Nat}(h:W.heap[B]?=some (.cells c t z))(hv:c[i]?=some v):W.cell? (Ad B i)=some v:=by
 simp[World.cell?,h,hv]
theorem q6z{W:World}{B:Nat}(h:W.heap[B]?=some (.cells c t)):W.frozen? (Ad B i)=false:=by
 simp[World.frozen?,h]
theorem q4z{W:World}{B:Nat}(o':Obj)(h:W.heap[B]?=some o):(W.alloc o').heap[B]?=some o:=(Below.heap_alloc _ _ _ (Array.getElem?_eq_some_iff.1 h).1).trans h
theorem q0z{W W':World}{B:Nat}(hb:Bw W W')(h:W.heap[B]?=some o):W'.heap[B]?=some o:=(hb.block B (Array.getElem?_eq_some_iff.1 h).1).trans h
theorem q8z(W:World){B C:Nat}(v:Value)(h:C≠B):(W.setCell (Ad B i) v).heap[C]?=W.heap[C]?:=Below.heap_setCell _ (Ad B i) _ C h
theorem q5z{W:World}{B:Nat}(h:W.heap[B]?=some o):B<W.heap.size:=(Array.getElem?_eq_some_iff.1 h).1
theorem new1(W:World)(o:Obj):(W.alloc o).heap[W.heap.size]?=some o:=World.alloc_heap_new W o
theorem new2(W:World)(a b:Obj):((W.alloc a).alloc b).heap[W.heap.size+1]?=some b:=by
 have:=new1 (W.alloc a) b
 simpa using this
theorem new3(W:World)(a b c:Obj):(((W.alloc a).alloc b).alloc c).heap[W.heap.size+1+1]?=some c:=by
 have:=new1 ((W.alloc a).alloc b) c
 simpa using this
structure CK (D:Nat->Prop) (W:World) (D':Nat->Prop) (W':World):Prop where
 k:a0b D W W'
 o:∀k,D' k->D k\/W.heap.size<=k
section
variable {D D1 D2:Nat->Prop} {W W1 W2:World}
theorem CK.trans(h:CK D W D1 W1)(k:CK D1 W1 D2 W2):CK D W D2 W2:=by
 refine⟨h.k.then k.k (fun j z h1=>?_),fun j z=>?_⟩
 ·rcases h.o j h1 with h2|h2
  ·exact h2
  ·omega
 ·rcases k.o j z with h2|h2
  ·exact h.o j h2
  ·exact .inr (Nat.le_trans h.k.size h2)
theorem CK.below(hb:Bw W W1):CK D W D W1:=⟨a0b.of_below hb,fun _ h=>.inl h⟩
theorem CK.refl:CK D W D W:=⟨a0b.refl _ _,fun _ h=>.inl h⟩
theorem CK.box(h:CK D W D1 W1){t:Nat}(g:W.heap[t]?=some o)(hn:¬D t):W1.heap[t]?=some o/\¬D1 t:=by
 refine⟨(h.k.block t (q5z g) hn).trans g,fun h1=>?_⟩
 rcases h.o t h1 with h2|h2
 ·exact hn h2
 ·have:=q5z g
  omega
end
theorem a2b{W W':World}{base:Nat}{n:Nat}(h:W.ownsRow base T s v n xs)(hw:∀b,v.ownBlock=some b->W'.heap[b]?=W.heap[b]?):W'.ownsRow base T s v n xs:=by
 obtain⟨h1,h2⟩:=h
 refine⟨h1,?_⟩
 rcases h2 with h2|⟨g,cap',y,e,z,x,h3⟩
 ·exact .inl h2
 ·exact .inr ⟨g,cap',y,e,z,(hw g (by rw[e];rfl)).trans x,h3⟩
theorem a1u(W:World)(B i:Nat)(v:Value):a0b (fun q=>q=B) W (W.setCell (Ad B i) v):=(a0b.refl _ _).set B i v (fun _=>rfl)
theorem a0b.toBelow{S:Nat->Prop}{w1 W W':World}(hb:Bw w1 W)(hk:a0b S W W')(hS:∀k,S k->w1.heap.size<=k):Bw w1 W' :=
 ⟨hk.os.trans hb.os,hk.tape.trans hb.tape,hk.output.trans hb.output,Nat.le_trans hb.size hk.size,fun k z=>(hk.block k (Nat.lt_of_lt_of_le z hb.size) (fun e=>by have:=hS k e;omega)).trans (hb.block k z)⟩
abbrev tt:Nat->Prop:=fun _=>True
abbrev pbx (x:Pt) (b:Option Addr) (cap:Nat):Obj:=.cells #[vi x.k,.string x.t,vi x.n,vi x.sl,.slice b x.kids.length cap] 47
abbrev zpx:Obj:=.cells #[vi 0,.string ⟨#[]⟩,vi 0,vi 0,.slice none 0 0] 47
structure In5 (W:World) (B:Nat) (a b c d e:Value):Prop where
 c0:W.cell? (Ad B 0)=some a
 c1:W.cell? (Ad B 1)=some b
 c2:W.cell? (Ad B 2)=some c
 c3:W.cell? (Ad B 3)=some d
 c4:W.cell? (Ad B 4)=some e
 f0:W.frozen? (Ad B 0)=false
 f1:W.frozen? (Ad B 1)=false
 f2:W.frozen? (Ad B 2)=false
 f3:W.frozen? (Ad B 3)=false
 f4:W.frozen? (Ad B 4)=false
theorem in5{W:World}{B:Nat}{c:Value}(h:W.heap[B]?=some (.cells #[a,b,c,d,e] 47)):In5 W B a b c d e:=⟨q2z h rfl,q2z h rfl,q2z h rfl,q2z h rfl,q2z h rfl,q6z h,q6z h,q6z h,q6z h,q6z h⟩
abbrev put5 (W:World) (B:Nat) (a b c d e:Value):World:=((((W.setCell (Ad B 0) a).setCell (Ad B 1) b).setCell (Ad B 2) c).setCell (Ad B 3) d).setCell (Ad B 4) e
theorem put5_same{W:World}{B:Nat}{c:Value}(a' b' c' d' e':Value)(h:W.heap[B]?=some (.cells #[a,b,c,d,e] 47)):(put5 W B a' b' c' d' e').heap[B]?=some (.cells #[a',b',c',d',e'] 47):=q7z _ (q7z _ (q7z _ (q7z _ (q7z _ h))))
theorem put5_self(W:World)(B:Nat)(a b c d e:Value):a0b (fun k=>k=B) W (put5 W B a b c d e) :=
 (((((a0b.refl (fun k=>k=B) W).set B 0 a (fun _=>rfl)).set B 1 b (fun _=>rfl)).set B 2 c (fun _=>rfl)).set B 3 d (fun _=>rfl)).set B 4 e (fun _=>rfl)
structure KC (W:World) (y:Pt) (g o:Nat) (b:Option Addr) (cap:Nat):Prop where
 c0:W.cell? (Ad g o)=some (vi y.k)
 c1:W.cell? (Ad g (o+1))=some (.string y.t)
 c2:W.cell? (Ad g (o+2))=some (vi y.n)
 c3:W.cell? (Ad g (o+3))=some (vi y.sl)
 c4:W.cell? (Ad g (o+4))=some (.slice b y.kids.length cap)
theorem PK.kid{w1:World}{ks:List Pt}{b:Option Addr}{y:Pt}(h:PK tt w1 ks b cap)(hy:ks[j]?=some y):∃g x b' cap',b=some (Ad g x)/\g<w1.heap.size/\PK tt w1 y.kids b' cap'/\∀W,Bw w1 W->KC W y g (x+j*5) b' cap':=by
 obtain⟨h1,h2⟩:=h
 rcases h2 with rfl|⟨g,x,rfl,_,h2⟩
 ·simp at hy
 ·obtain⟨c0,c1,c2,c3,b',cap',c4,v⟩:=(h2 j y hy).kids
  have z:=World.block_lt_of_cell? _ _ c0
  simp only at z
  exact⟨g,x,b',cap',rfl,z,v,fun W w=>⟨(w.cell (p:=(Ad g _)) z).trans c0,(w.cell (p:=(Ad g _)) z).trans c1,(w.cell (p:=(Ad g _)) z).trans c2,(w.cell (p:=(Ad g _)) z).trans c3,(w.cell (p:=(Ad g _)) z).trans c4⟩⟩
structure Q4 where
 op:Int
 a:Int
 b:Int
 c:Int
abbrev quad (q:Q4):List Value:=[vi q.op,vi q.a,vi q.b,vi q.c]
def a3p (l:List Q4):List Value:=l.flatMap quad
abbrev trio (x:Vl):List Value:=[vi x.k,vi x.n,.string x.s]
def flat (xs:List Vl):List Value:=xs.flatMap trio
structure Ma where
 pa:Int
 rg:Nat
 us:Nat
 pl:List Int
 cs:List Vl
 co:List Q4
abbrev mkL (m:Ma) (cv iv:Value):List Value:=vi m.pa::vi m.rg::cv::iv::vi m.us::m.pl.map (Value.int .i64)
structure Mq (w1:World) (B:Nat) (D:Nat->Prop) (m:Ma) (W:World):Prop where
 mem:∃ca cc ia ic,W.heap[B]?=some (.cells (mkL m (.slice ca m.cs.length cc) (.slice ia m.co.length ic)).toArray 67) /\
  W.ownsRow w1.heap.size 75 3 (.slice ca m.cs.length cc) m.cs.length (flat m.cs)/\W.ownsRow w1.heap.size 93 4 (.slice ia m.co.length ic) m.co.length (a3p m.co) /\
  (∀b,Value.ownBlock (.slice ca m.cs.length cc)=some b->D b/\b≠B)/\(∀b,Value.ownBlock (.slice ia m.co.length ic)=some b->D b/\b≠B/\Value.ownBlock (.slice ca m.cs.length cc)≠some b)
 dr:D B
 lo:∀k,D k->w1.heap.size<=k/\k<W.heap.size
 bl:Bw w1 W
section
variable {w1:World} {B:Nat} {D D':Nat->Prop} {m:Ma} {W W':World}
theorem Mq.lt(h:Mq w1 B D m W):B<W.heap.size:=(h.lo _ h.dr).2
theorem Mq.on(h:Mq w1 B D m W)(hW:∀k,D k->W'.heap[k]?=W.heap[k]?)(hs:W.heap.size<=W'.heap.size)(z:Bw w1 W'):Mq w1 B D m W':=by
 obtain⟨ca,cc,ia,ic,h1,h2,h3,h4,h5⟩:=h.mem
 exact⟨⟨ca,cc,ia,ic,(hW _ h.dr).trans h1,a2b h2 fun b z=>hW b (h4 b z).1,a2b h3 fun b z=>hW b (h5 b z).1,h4,h5⟩,h.dr,fun k y=>⟨(h.lo k y).1,Nat.lt_of_lt_of_le (h.lo k y).2 hs⟩,z⟩
theorem Mq.below(h:Mq w1 B D m W)(hb:Bw W W'):Mq w1 B D m W':=h.on (fun k z=>hb.block k (h.lo k z).2) hb.size (q3z h.bl hb)
theorem Mq.wrote(h:Mq w1 B D m W){t:Nat}(hk:a0b (fun q=>q=t) W W')(hn:¬D t)(ht:w1.heap.size<=t):Mq w1 B D m W' :=
 h.on (fun k z=>hk.block k (h.lo k z).2 (fun e=>hn (e▸z))) hk.size (a0b.toBelow h.bl hk fun k e=>e▸ht)
theorem Mq.new(h:Mq w1 B D m W){t:Nat}(ht:W.heap.size<=t):¬D t:=fun hd=>by have:=(h.lo t hd).2;omega
structure Mc (W:World) (B:Nat) (m:Ma) (ca:Option Addr) (cc:Nat) (ia:Option Addr) (ic:Nat):Prop where
 pa:W.cell? (Ad B 0)=some (vi m.pa)
 rg:W.cell? (Ad B 1)=some (vi (m.rg:Nat))
 cs:W.cell? (Ad B 2)=some (.slice ca m.cs.length cc)
 co:W.cell? (Ad B 3)=some (.slice ia m.co.length ic)
 us:W.cell? (Ad B 4)=some (vi (m.us:Nat))
 pl:∀i x,m.pl[i]?=some x->W.cell? (Ad B (5+i))=some (vi x)
 fz:∀i,W.frozen? (Ad B i)=false
theorem d4t{ca:Option Addr}{cc:Nat}{ia:Option Addr}{ic:Nat}(h:W.heap[B]?=some (.cells (mkL m (.slice ca m.cs.length cc) (.slice ia m.co.length ic)).toArray 67)):Mc W B m ca cc ia ic :=
 ⟨q2z h rfl,q2z h rfl,q2z h rfl,q2z h rfl,q2z h rfl,fun i x z=>q2z h (by
  rw[List.getElem?_toArray,show 5+i=i+1+1+1+1+1 by omega]
  simp only[List.getElem?_cons_succ,List.getElem?_map,z]
  rfl),fun i=>q6z h⟩
theorem Mq.mc(h:Mq w1 B D m W):∃ca cc ia ic,Mc W B m ca cc ia ic:=by
 obtain⟨ca,cc,ia,ic,h1,_⟩:=h.mem
 exact⟨ca,cc,ia,ic,d4t h1⟩
theorem Mq.num(h:Mq w1 B D m W){m':Ma}(e1:m'.cs=m.cs)(e2:m'.co=m.co)(he:∀u iv,(mkL m u iv).set i v=mkL m' u iv):Mq w1 B D m' (W.setCell (Ad B i) v)/\CK D W D (W.setCell (Ad B i) v):=by
 obtain⟨ca,cc,ia,ic,h1,h2,h3,h4,h5⟩:=h.mem
 have z:∀k,D k->k≠B->(W.setCell (Ad B i) v).heap[k]?=W.heap[k]?:=fun k t hn=>q8z _ _ hn
 have w:=a1u W B i v
 refine⟨⟨⟨ca,cc,ia,ic,?_,?_,?_,?_,?_⟩,h.dr,fun k y=>⟨(h.lo k y).1,Nat.lt_of_lt_of_le (h.lo k y).2 w.size⟩,a0b.toBelow h.bl w fun k e=>e▸(h.lo _ h.dr).1⟩,w.mono fun k _ e=>e▸h.dr,fun _ h=>.inl h⟩
 ·rw[q7z v h1,List.setIfInBounds_toArray,he,e1,e2]
 ·rw[e1];exact a2b h2 fun b x=>z b (h4 b x).1 (h4 b x).2
 ·rw[e2];exact a2b h3 fun b x=>z b (h5 b x).1 (h5 b x).2.1
 ·rw[e1];exact h4
 ·rw[e1,e2];exact h5
theorem Mq.setUs(h:Mq w1 B D m W)(u:Nat):Mq w1 B D { m with us:=u } (W.setCell (Ad B 4) (vi (u:Nat)))/\CK D W D (W.setCell (Ad B 4) (vi (u:Nat))):=h.num (m':={ m with us:=u }) rfl rfl fun z iv=>rfl
theorem Mq.setRg(h:Mq w1 B D m W)(u:Nat):Mq w1 B D { m with rg:=u } (W.setCell (Ad B 1) (vi (u:Nat)))/\CK D W D (W.setCell (Ad B 1) (vi (u:Nat))):=h.num (m':={ m with rg:=u }) rfl rfl fun z iv=>rfl
theorem Mq.setPa(h:Mq w1 B D m W)(u:Int):Mq w1 B D { m with pa:=u } (W.setCell (Ad B 0) (vi u))/\CK D W D (W.setCell (Ad B 0) (vi u)):=h.num (m':={ m with pa:=u }) rfl rfl fun z iv=>rfl
theorem Mq.setPl(h:Mq w1 B D m W)(i:Nat)(u:Int):Mq w1 B D { m with pl:=m.pl.set i u } (W.setCell (Ad B (5+i)) (vi u))/\CK D W D (W.setCell (Ad B (5+i)) (vi u)):=h.num (m':={ m with pl:=m.pl.set i u }) rfl rfl fun z iv=>by
 rw[show 5+i=i+1+1+1+1+1 by omega]
 simp only[mkL,List.set_cons_succ,List.map_set]
theorem b3o(l r:List Q4):a3p (l++r)=a3p l++a3p r:=by simp[a3p]
theorem b5w(l r:List Vl):flat (l++r)=flat l++flat r:=by simp[flat]
structure d7o (w1:World) (B:Nat) (D:Nat->Prop) (m:Ma) (W:World) (ia:Option Addr) (ic:Nat):Prop where
 own:W.ownsRow w1.heap.size 93 4 (.slice ia m.co.length ic) m.co.length (a3p m.co)
 ld:W.cell? (Ad B 3)=some (.slice ia m.co.length ic)
 rt:∀(w3:World) (q:Q4) (g cap:Nat),w3.ownsRow w1.heap.size 93 4 (.slice (some (Ad g 0)) (m.co.length+1) cap) (m.co.length+1) (a3p m.co++quad q)->W.grownBy w3 (Value.ownBlock (.slice ia m.co.length ic))->(Value.ownBlock (.slice ia m.co.length ic)=some g\/g=W.heap.size) ->
  w3.cell? (Ad B 3)=some (.slice ia m.co.length ic)/\w3.frozen? (Ad B 3)=false/\∃D',Mq w1 B D' { m with co:=m.co++[q] } (w3.setCell (Ad B 3) (.slice (some (Ad g 0)) (m.co.length+1) cap))/\CK D W D' (w3.setCell (Ad B 3) (.slice (some (Ad g 0)) (m.co.length+1) cap))
structure d4u (w1:World) (B:Nat) (D:Nat->Prop) (m:Ma) (W:World) (ca:Option Addr) (cc:Nat):Prop where
 own:W.ownsRow w1.heap.size 75 3 (.slice ca m.cs.length cc) m.cs.length (flat m.cs)
 ld:W.cell? (Ad B 2)=some (.slice ca m.cs.length cc)
 rt:∀(w3:World) (q:Vl) (g cap:Nat),w3.ownsRow w1.heap.size 75 3 (.slice (some (Ad g 0)) (m.cs.length+1) cap) (m.cs.length+1) (flat m.cs++trio q)->W.grownBy w3 (Value.ownBlock (.slice ca m.cs.length cc))->(Value.ownBlock (.slice ca m.cs.length cc)=some g\/g=W.heap.size) ->
  w3.cell? (Ad B 2)=some (.slice ca m.cs.length cc)/\w3.frozen? (Ad B 2)=false/\∃D',Mq w1 B D' { m with cs:=m.cs++[q] } (w3.setCell (Ad B 2) (.slice (some (Ad g 0)) (m.cs.length+1) cap))/\CK D W D' (w3.setCell (Ad B 2) (.slice (some (Ad g 0)) (m.cs.length+1) cap))
theorem b7l(h:Mq w1 B D m W){n g:Nat}{sv:Value}{w3:World}(hv:∀b,v.ownBlock=some b->D b/\b≠B)(hown:w3.ownsRow w1.heap.size T s (.slice (some (Ad g 0)) n cap) n xs)(hg:W.grownBy w3 v.ownBlock)(hat:v.ownBlock=some g\/g=W.heap.size) :
  w3.heap[B]?=W.heap[B]?/\g≠B/\(∀k,D k->¬v.ownBlock=some k->k≠B->(w3.setCell (Ad B i) sv).heap[k]?=W.heap[k]?/\k≠g)/\(w3.setCell (Ad B i) sv).heap[g]?=w3.heap[g]?/\(∀k,(D k\/k=g)->w1.heap.size<=k/\k<(w3.setCell (Ad B i) sv).heap.size)/\Bw w1 (w3.setCell (Ad B i) sv)/\CK D W (fun k=>D k\/k=g) (w3.setCell (Ad B i) sv):=by
 have c:∀k,D k->¬v.ownBlock=some k->w3.heap[k]?=W.heap[k]?:=fun k x hn=>hg.block k (h.lo k x).2 (fun e=>hn e.symm)
 have o:¬v.ownBlock=some B:=fun z=>(hv _ z).2 rfl
 have q:g≠B:=fun z=>by
  rcases hat with w|w
  ·exact(hv g w).2 z
  ·have:=h.lt;omega
 have p:∀k,D k->¬v.ownBlock=some k->k≠g:=fun k x hn z=>by
  rcases hat with w|w
  ·exact hn (z▸w)
  ·have:=(h.lo k x).2;omega
 have t:g<w3.heap.size:=by
  rcases hown.2 with⟨z,_⟩|⟨g',cap',l,z,d,f,_⟩
  ·cases z
  ·cases z;exact q5z f
 have r:w1.heap.size<=g:=by
  rcases hown.2 with⟨z,_⟩|⟨g',cap',l,z,d,f,_⟩
  ·cases z
  ·cases z;exact d
 have u:(w3.setCell (Ad B i) sv).heap.size=w3.heap.size:=by simp
 have y:a0b D W (w3.setCell (Ad B i) sv):=((a0b.grown hg).mono (S':=D) (fun k _ z=>(hv k z.symm).1)).set B i _ (fun _=>h.dr)
 refine⟨c _ h.dr o,q,fun k x h1 h2=>⟨(q8z _ _ h2).trans (c k x h1),p k x h1⟩,q8z _ _ q,?_,a0b.toBelow h.bl y fun k z=>(h.lo k z).1,y,?_⟩
 ·rintro k (x|rfl)
  ·exact⟨(h.lo k x).1,by rw[u];exact Nat.lt_of_lt_of_le (h.lo k x).2 hg.size⟩
  ·exact⟨r,by rw[u];exact t⟩
 ·rintro k (x|rfl)
  ·exact .inl x
  ·rcases hat with w|w
   ·exact .inl (hv k w).1
   ·exact .inr (by omega)
theorem Mq.cos(h:Mq w1 B D m W):∃ia ic,d7o w1 B D m W ia ic:=by
 obtain⟨ca,cc,ia,ic,h1,h2,h3,h4,h5⟩:=h.mem
 refine⟨ia,ic,h3,q2z h1 rfl,fun o q g cap y l u=>?_⟩
 obtain⟨a,p,r,c,d,e,f⟩:=b7l (i:=3) (sv:=.slice (some (Ad g 0)) (m.co.length+1) cap) h (fun b z=>⟨(h5 b z).1,(h5 b z).2.1⟩) y l u
 have x:=a.trans h1
 have w:∀b,Value.ownBlock (.slice ca m.cs.length cc)=some b->¬Value.ownBlock (.slice ia m.co.length ic)=some b:=fun b z n=>(h5 b n).2.2 z
 refine⟨q2z x rfl,q6z x,fun k=>D k\/k=g,⟨⟨ca,cc,some (Ad g 0),cap,?_,?_,?_,?_,?_⟩,.inl h.dr,d,e⟩,f⟩
 ·rw[q7z _ x,List.setIfInBounds_toArray]
  simp[mkL]
 ·exact a2b h2 fun b z=>(r b (h4 b z).1 (w b z) (h4 b z).2).1
 ·show World.ownsRow _ _ _ _ (.slice _ (m.co++[q]).length _) (m.co++[q]).length (a3p (m.co++[q]))
  rw[b3o,List.length_append]
  refine a2b (W:=o) (v:=.slice (some (Ad g 0)) (m.co.length+1) cap) (by simpa[a3p]using y) (fun b z=>?_)
  have t:g=b:=by simpa[Value.ownBlock]using z
  subst t
  exact c
 ·intro b z
  exact⟨.inl (h4 b z).1,(h4 b z).2⟩
 ·intro b z
  have t:g=b:=by simpa[Value.ownBlock]using z
  subst t
  exact⟨.inr rfl,p,fun s=>(r g (h4 g s).1 (w g s) p).2 rfl⟩
theorem Mq.css(h:Mq w1 B D m W):∃ca cc,d4u w1 B D m W ca cc:=by
 obtain⟨ca,cc,ia,ic,h1,h2,h3,h4,h5⟩:=h.mem
 refine⟨ca,cc,h2,q2z h1 rfl,fun r q g cap y p u=>?_⟩
 obtain⟨c,d,s,e,f,l,n⟩:=b7l (i:=2) (sv:=.slice (some (Ad g 0)) (m.cs.length+1) cap) h h4 y p u
 have x:=c.trans h1
 refine⟨q2z x rfl,q6z x,fun k=>D k\/k=g,⟨⟨some (Ad g 0),cap,ia,ic,?_,?_,?_,?_,?_⟩,.inl h.dr,f,l⟩,n⟩
 ·rw[q7z _ x,List.setIfInBounds_toArray]
  simp[mkL]
 ·show World.ownsRow _ _ _ _ (.slice _ (m.cs++[q]).length _) (m.cs++[q]).length (flat (m.cs++[q]))
  rw[b5w,List.length_append]
  refine a2b (W:=r) (v:=.slice (some (Ad g 0)) (m.cs.length+1) cap) (by simpa[flat]using y) (fun b z=>?_)
  have w:g=b:=by simpa[Value.ownBlock]using z
  subst w
  exact e
 ·exact a2b h3 fun b z=>(s b (h5 b z).1 (fun t=>(h5 b z).2.2 t) (h5 b z).2.1).1
 ·intro b z
  have w:g=b:=by simpa[Value.ownBlock]using z
  subst w
  exact⟨.inr rfl,d⟩
 ·intro b z
  refine⟨.inl (h5 b z).1,(h5 b z).2.1,fun t=>?_⟩
  have w:g=b:=by simpa[Value.ownBlock]using t
  exact(s b (h5 b z).1 (fun o=>(h5 b z).2.2 o) (h5 b z).2.1).2 w.symm
theorem a4k(x:Q4)(l:List Q4):a3p (x::l)=vi x.op::vi x.a::vi x.b::vi x.c::a3p l:=rfl
theorem c2i(l:List Q4):(a3p l).length=l.length*4:=by
 induction l with
 | nil=>rfl
 | cons x l ih=>simp only[a4k,List.length_cons,ih];omega
theorem b0a{q:Q4} : ∀(l:List Q4) (i:Nat),l[i]?=some q->(a3p l)[i*4]?=some (vi q.op)/\(a3p l)[i*4+1]?=some (vi q.a)/\(a3p l)[i*4+2]?=some (vi q.b)/\(a3p l)[i*4+3]?=some (vi q.c)
 | [],i,h=>by simp at h
 | x::l,0,h=>by simp at h;subst h;exact⟨rfl,rfl,rfl,rfl⟩
 | x::l,i+1,h=>by
  have:=b0a l i (by simpa using h)
  rw[a4k,show(i+1)*4=i*4+1+1+1+1 by omega]
  exact this
theorem b1e{q:Q4}(b:Int):∀(l:List Q4) (i:Nat),l[i]?=some q->a3p (l.set i { q with b:=b })=(a3p l).set (i*4+2) (vi b)
 | [],i,h=>by simp at h
 | x::l,0,h=>by simp at h;subst h;rfl
 | x::l,i+1,h=>by
  have:=b1e b l i (by simpa using h)
  rw[a4k,List.set_cons_succ,a4k,this,show(i+1)*4+2=i*4+2+1+1+1+1 by omega]
  rfl
theorem b1f{q:Q4}(a:Int):∀(l:List Q4) (i:Nat),l[i]?=some q->a3p (l.set i { q with a:=a })=(a3p l).set (i*4+1) (vi a)
 | [],i,h=>by simp at h
 | x::l,0,h=>by simp at h;subst h;rfl
 | x::l,i+1,h=>by
  have:=b1f a l i (by simpa using h)
  rw[a4k,List.set_cons_succ,a4k,this,show(i+1)*4+1=i*4+1+1+1+1+1 by omega]
  rfl
structure CoAt (w1:World) (B:Nat) (D:Nat->Prop) (m:Ma) (W:World) (i:Nat) (q:Q4) (T ic:Nat):Prop where
 ld:W.cell? (Ad B 3)=some (.slice (some (Ad T 0)) m.co.length ic)
 op:W.cell? (Ad T (i*4))=some (vi q.op)
 ca:W.cell? (Ad T (i*4+1))=some (vi q.a)
 cb:W.cell? (Ad T (i*4+2))=some (vi q.b)
 fz:∀j,W.frozen? (Ad T j)=false
 le:m.co.length<=ic/\ic<=maxLen
 sa:∀(V:World) (x:Int),Bw W V->Mq w1 B D { m with co:=m.co.set i { q with a:=x } } (V.setCell (Ad T (i*4+1)) (vi x))/\CK D W D (V.setCell (Ad T (i*4+1)) (vi x))
 sb:∀(V:World) (x:Int),Bw W V->Mq w1 B D { m with co:=m.co.set i { q with b:=x } } (V.setCell (Ad T (i*4+2)) (vi x))/\CK D W D (V.setCell (Ad T (i*4+2)) (vi x))
theorem Mq.coAt(h:Mq w1 B D m W){q:Q4}(hq:m.co[i]?=some q):∃T ic,CoAt w1 B D m W i q T ic:=by
 obtain⟨ca,cc,ia,ic,h1,h2,h3,h4,h5⟩:=h.mem
 have z5:i<m.co.length:=(List.getElem?_eq_some_iff.1 hq).1
 obtain⟨T,cap,y,ev,p,l,r,s,a,o⟩:∃T cap y,(Value.slice ia m.co.length ic)=.slice (some (Ad T 0)) m.co.length cap/\w1.heap.size<=T/\W.heap[T]?=some (.cells y 93 (0,0))/\m.co.length<=cap/\cap<=maxLen/\y.size=cap*4/\y.toList.take (m.co.length*4)=a3p m.co:=by
  rcases h3.2 with⟨_,h0⟩|⟨g,cap,y,e1,e2,e3,e4,e5,e6,e7⟩
  ·omega
  ·exact⟨g,cap,y,e1,e2,e3,e4,e5,e6,e7⟩
 cases ev
 obtain⟨k0,k1,k2,k3⟩:=b0a _ _ hq
 have t:∀j v,(a3p m.co)[j]?=some v->W.cell? (Ad T j)=some v:=fun j v d=>by
  have hj:j<m.co.length*4:=by
   have:=(List.getElem?_eq_some_iff.1 d).1
   rw[c2i]at this
   exact this
  rw[<- o,List.getElem?_take_of_lt hj]at d
  exact q2z l (by simpa using d)
 obtain⟨dT,z6,z7⟩:=h5 T rfl
 have key:∀(V:World) (j:Nat) (f:Q4) (x:Value),Bw W V->a3p (m.co.set i f)=(a3p m.co).set j x->Mq w1 B D { m with co:=m.co.set i f } (V.setCell (Ad T j) x)/\CK D W D (V.setCell (Ad T j) x):=fun V j f x u hf=>by
  have hV:=h.below u
  have z9:=a1u V T j x
  have w:∀c,D c->c≠T->(V.setCell (Ad T j) x).heap[c]?=W.heap[c]?:=fun c hc hn=>(q8z _ _ hn).trans (u.block c (h.lo c hc).2)
  have z8:=(u.block T (q5z l)).trans l
  have z:a0b D W (V.setCell (Ad T j) x):=(a0b.of_below u).then z9 (fun j _ ee=>ee▸dT)
  refine⟨⟨⟨ca,cc,some (Ad T 0),ic,?_,?_,?_,?_,?_⟩,h.dr,fun k n=>⟨(h.lo k n).1,Nat.lt_of_lt_of_le (h.lo k n).2 z.size⟩,a0b.toBelow h.bl z fun k e=>(h.lo k e).1⟩,z,fun k n=>.inl n⟩
  ·simp only[List.length_set]
   exact(w _ h.dr z6.symm).trans h1
  ·exact a2b h2 fun b u=>w b (h4 b u).1 (fun ee=>z7 (ee▸u))
  ·simp only[List.length_set]
   refine⟨?_,.inr ⟨T,ic,_,rfl,p,q7z _ z8,r,s,by simpa using a,?_⟩⟩
   ·rw[hf,List.length_set];exact h3.1
   ·rw[hf,Array.toList_setIfInBounds,List.take_set,o]
  ·exact h4
  ·simp only[List.length_set]
   exact h5
 exact⟨T,ic,q2z h1 rfl,t _ _ k0,t _ _ k1,t _ _ k2,fun j=>q6z l,⟨r,s⟩,fun V x u=>key V _ _ _ u (b1f x _ _ hq),fun V x u=>key V _ _ _ u (b1e x _ _ hq)⟩
end
def rgO (r:Nat) (x:Int):Prop:=0<=x/\(x<r\/x=0)
theorem rgO.mono(h:rgO r x)(hr:r<=r'):rgO r' x:=⟨h.1,by have:=h.2;omega⟩
def okQ (r nc nl i:Nat) (q:Q4):Prop :=
 (q.op=8/\0<=q.a/\q.a<=nl/\q.b=0/\q.c=0)\/(q.op=9/\rgO r q.a/\0<=q.b/\q.b<=nl/\q.c=0)\/(q.op=10/\0<=q.a/\q.a<=i/\q.b=0/\q.c=0) \/
 (q.op=2/\rgO r q.a/\0<=q.b/\q.b<nc/\q.c=0)\/(q.op=11/\rgO r q.a/\rgO r q.b/\0<=q.c/\q.c<=5/\q.b+q.c<r) \/
 ((q.op=1\/q.op=6\/q.op=30\/q.op=31)/\rgO r q.a/\rgO r q.b/\q.c=0)\/((q.op=3\/q.op=12\/q.op=13)/\rgO r q.a/\q.b=0/\q.c=0) \/
 ((q.op=4\/q.op=5\/q.op=7\/(21<=q.op/\q.op<=29))/\rgO r q.a/\rgO r q.b/\rgO r q.c)
theorem okQ.mono{nc nl nc' nl':Nat}{q:Q4}(h:okQ r nc nl i q)(h1:r<=r')(h2:nc<=nc')(h3:nl<=nl'):okQ r' nc' nl' i q:=by
 rcases h with⟨a,b,c,d⟩|⟨a,b,c,d,e⟩|h|⟨a,b,c,d,e⟩|⟨a,b,c,d,e,f⟩|⟨a,b,c,d⟩|⟨a,b,c⟩|⟨a,b,c,d⟩
 ·exact .inl ⟨a,b,by omega,d⟩
 ·exact .inr (.inl ⟨a,b.mono h1,c,by omega,e⟩)
 ·exact .inr (.inr (.inl h))
 ·exact .inr (.inr (.inr (.inl ⟨a,b.mono h1,c,by omega,e⟩)))
 ·exact .inr (.inr (.inr (.inr (.inl ⟨a,b.mono h1,c.mono h1,d,e,by omega⟩))))
 ·exact .inr (.inr (.inr (.inr (.inr (.inl ⟨a,b.mono h1,c.mono h1,d⟩)))))
 ·exact .inr (.inr (.inr (.inr (.inr (.inr (.inl ⟨a,b.mono h1,c⟩))))))
 ·exact .inr (.inr (.inr (.inr (.inr (.inr (.inr ⟨a,b.mono h1,c.mono h1,d.mono h1⟩))))))
def okV (nf:Nat) (v:Vl):Prop:=mayB v.k v.n v.s=true/\v.k≠4/\(v.k=5->v.n<nf)
structure Inv (nf:Nat) (m:Ma):Prop where
 us:m.us<=m.rg
 rg:m.rg<=250
 p30:m.pl.length=30
 pl:∀x∈m.pl,rgO m.rg x
 cs:∀v∈m.cs,okV nf v
 co:∀i q,m.co[i]?=some q->okQ m.rg m.cs.length m.co.length i q
structure Ex (m m':Ma) (ko kc:Nat):Prop where
 pa:m'.pa=m.pa
 rg:m.rg<=m'.rg
 co:∃l,m'.co=m.co++l/\l.length<=ko
 cs:∃l,m'.cs=m.cs++l/\l.length<=kc
theorem Ex.refl(m:Ma):Ex m m 0 0:=⟨rfl,Nat.le_refl _,⟨[],by simp,Nat.le_refl _⟩,⟨[],by simp,Nat.le_refl _⟩⟩
theorem Ex.trans{a b c:Ma}{k1 k2 j1 j2:Nat}(h:Ex a b k1 j1)(g:Ex b c k2 j2)(hk:k1+k2<=k)(hj:j1+j2<=j):Ex a c k j:=by
 obtain⟨l1,w,s⟩:=h.co
 obtain⟨l2,x,t⟩:=g.co
 obtain⟨l3,y,u⟩:=h.cs
 obtain⟨l4,z,v⟩:=g.cs
 exact⟨g.pa.trans h.pa,Nat.le_trans h.rg g.rg,⟨l1++l2,by rw[x,w,List.append_assoc],by simp;omega⟩,⟨l3++l4,by rw[z,y,List.append_assoc],by simp;omega⟩⟩
theorem Ex.lco{m m':Ma}(h:Ex m m' k j):m.co.length<=m'.co.length/\m'.co.length<=m.co.length+k:=by
 obtain⟨l,e,n⟩:=h.co
 rw[e,List.length_append]
 omega
theorem Ex.lcs{m m':Ma}(h:Ex m m' k j):m.cs.length<=m'.cs.length/\m'.cs.length<=m.cs.length+j:=by
 obtain⟨l,e,n⟩:=h.cs
 rw[e,List.length_append]
 omega
theorem Ex.get{m m':Ma}{q:Q4}(h:Ex m m' k j)(hq:m.co[i]?=some q):m'.co[i]?=some q:=by
 obtain⟨l,e,n⟩:=h.co
 have:=(List.getElem?_eq_some_iff.1 hq).1
 rw[e,List.getElem?_append_left this]
 exact hq
theorem Ex.set{m m':Ma}{q:Q4}(h:Ex m m' k j)(hi:m.co.length<=i):Ex m { m' with co:=m'.co.set i q } k j:=by
 obtain⟨l,e,n⟩:=h.co
 refine⟨h.pa,h.rg,⟨l.set (i-m.co.length) q,?_,by simpa using n⟩,h.cs⟩
 show m'.co.set i q=_
 rw[e,List.set_append_right _ _ hi]
theorem Inv.take{nf:Nat}{m:Ma}(h:Inv nf m)(hu:m.us<250):Inv nf { m with us:=m.us+1,rg:=max m.rg (m.us+1) }:=by
 have h1:=h.us
 have h2:=h.rg
 refine⟨Nat.le_max_right _ _,by show max _ _<=250;omega,h.p30,fun x z=>(h.pl x z).mono (Nat.le_max_left _ _),h.cs,fun i q hq=>(h.co i q hq).mono (Nat.le_max_left _ _) (Nat.le_refl _) (Nat.le_refl _)⟩
theorem Inv.back{nf:Nat}{m:Ma}(h:Inv nf m){u:Nat}(hu:u<=m.rg):Inv nf { m with us:=u }:=⟨hu,h.rg,h.p30,h.pl,h.cs,h.co⟩
theorem Inv.order{nf:Nat}{m:Ma}(h:Inv nf m){q:Q4}(hq:okQ m.rg m.cs.length (m.co.length+1) m.co.length q):Inv nf { m with co:=m.co++[q] }:=by
 refine⟨h.us,h.rg,h.p30,h.pl,h.cs,fun i x z=>?_⟩
 simp only[List.length_append,List.length_cons,List.length_nil]at z⊢
 by_cases hi:i<m.co.length
 ·rw[List.getElem?_append_left hi]at z
  exact(h.co i x z).mono (Nat.le_refl _) (Nat.le_refl _) (by omega)
 ·rw[List.getElem?_append_right (by omega)]at z
  have y:i-m.co.length=0:=by
   have:=(List.getElem?_eq_some_iff.1 z).1
   simp at this
   omega
  rw[y]at z
  simp at z
  subst z
  rw[show i=m.co.length by omega]
  exact hq
theorem Inv.const{nf:Nat}{m:Ma}(h:Inv nf m){v:Vl}(hv:okV nf v):Inv nf { m with cs:=m.cs++[v] }:=by
 refine⟨h.us,h.rg,h.p30,h.pl,fun x z=>?_,fun i x z=>?_⟩
 ·rcases List.mem_append.1 z with z|z
  ·exact h.cs x z
  ·simp at z;subst z;exact hv
 ·exact(h.co i x z).mono (Nat.le_refl _) (by simp) (Nat.le_refl _)
theorem Inv.place{nf:Nat}{m:Ma}(h:Inv nf m){i:Nat}(hx:rgO m.rg x):Inv nf { m with pl:=m.pl.set i x }:=by
 refine⟨h.us,h.rg,by simpa using h.p30,fun y z=>?_,h.cs,h.co⟩
 rcases List.mem_or_eq_of_mem_set z with z|rfl
 ·exact h.pl y z
 ·exact hx
theorem Inv.change{nf:Nat}{m:Ma}(h:Inv nf m){q:Q4}(hq:okQ m.rg m.cs.length m.co.length i q):Inv nf { m with co:=m.co.set i q }:=by
 refine⟨h.us,h.rg,h.p30,h.pl,h.cs,fun j x z=>?_⟩
 simp only[List.length_set]
 by_cases e:i=j
 ·subst e
  have y:=(List.getElem?_eq_some_iff.1 z).1
  simp only[List.length_set]at y
  rw[List.getElem?_set_self y]at z
  cases z
  exact hq
 ·rw[List.getElem?_set_ne e]at z
  exact h.co j x z
def MZ (w1:World) (B nf:Nat) (D:Nat->Prop) (m:Ma) (W:World) (ko kc:Nat) (P:Ma->Value->Prop) (e:Ending) (W':World):Prop :=
 ∃v m' D',e=.returned v/\Mq w1 B D' m' W'/\Inv nf m'/\Ex m m' ko kc/\CK D W D' W'/\P m' v
theorem MZ.below{w1:World}{B nf:Nat}{D:Nat->Prop}{m:Ma}{W:World}{P:Ma->Value->Prop}{e:Ending}{W' W2:World}(h:MZ w1 B nf D m W ko kc P e W')(hb:Bw W' W2):MZ w1 B nf D m W ko kc P e W2:=by
 obtain⟨v,m',D',h1,h2,h3,h4,h5,z⟩:=h
 exact⟨v,m',D',h1,h2.below hb,h3,h4,h5.trans (CK.below hb),z⟩
theorem MZ.drew{w1:World}{B nf:Nat}{D:Nat->Prop}{m:Ma}{W:World}{P:Ma->Value->Prop}{e:Ending}{W':World}(h:MZ w1 B nf D m W ko kc P e W'):MZ w1 B nf D m W ko kc P e W'.drew:=h.below bz0.drew
abbrev pM (B:Nat):Value:=Po B 0
end Go.Proofs.YtomniogfpfbolaaGreatDoor.V.C
