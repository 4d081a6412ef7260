/- Nodes in memory: how a node's cells stand for it, and that they stand as long as its blocks are left alone; rows of nodes that are put together. -/
import Derived.Test.YtfbpdbndejefdaaGreatDoorS12
import Derived.Deep.AppendLies
import Derived.Lib.BufferWrite
namespace Go.Proofs.YtfbpdbndejefdaaGreatDoor
open Go Go.RowKit
set_option maxRecDepth 100000
set_option maxHeartbeats 8000000
set_option linter.all false
variable {S S' T:Nat->Prop} {a b W W':World} {c v d:Value} {g cap:Nat} {x y:Nd} {ks:List Nd}
structure a0b (S:Nat->Prop) (W W':World):Prop where
 os:W'.os=W.os
 tape:W'.tape=W.tape
 output:W'.output=W.output
 size:W.heap.size<=W'.heap.size
 block:∀k,k<W.heap.size->¬S k->W'.heap[k]?=W.heap[k]?
theorem a0b.refl(S:Nat->Prop)(W:World):a0b S W W:=⟨rfl,rfl,rfl,Nat.le_refl _,fun _ _ _=>rfl⟩
theorem a0b.trans{c:World}(h:a0b S a b)(k:a0b S b c):a0b S a c :=
 ⟨k.os.trans h.os,k.tape.trans h.tape,k.output.trans h.output,Nat.le_trans h.size k.size,fun i y z=>(k.block i (Nat.lt_of_lt_of_le y h.size) z).trans (h.block i y z)⟩
theorem a0b.mono(h:a0b S a b)(hs:∀k,k<a.heap.size->S k->S' k):a0b S' a b:=⟨h.os,h.tape,h.output,h.size,fun k hk hn=>h.block k hk fun c=>hn (hs k hk c)⟩
theorem a0b.then{c:World}(h:a0b S a b)(k:a0b S' b c)(hs:∀j,j<a.heap.size->S' j->S j):a0b S a c :=
 ⟨k.os.trans h.os,k.tape.trans h.tape,k.output.trans h.output,Nat.le_trans h.size k.size,fun i z hn=>(k.block i (Nat.lt_of_lt_of_le z h.size) fun q=>hn (hs i z q)).trans (h.block i z hn)⟩
theorem a0b.of_below(h:Bw a b):a0b S a b:=⟨h.os,h.tape,h.output,h.size,fun k hk _=>h.block k hk⟩
theorem a0b.grown{row:Option Nat}(h:a.grownBy b row):a0b (fun k=>some k=row) a b:=⟨h.os,h.tape,h.output,h.size,fun k hk hn=>h.block k hk hn⟩
theorem a0b.alloc(h:a0b S a b)(o:Obj):a0b S a (b.alloc o):=h.trans (a0b.of_below ((Below.refl _ _).alloc (Nat.le_refl _) _))
theorem a0b.drew(h:a0b S a b):a0b S a b.drew:=h.trans (a0b.of_below ((Below.refl _ _).drew))
theorem a0b.set(h:a0b S a b)(B i:Nat)(v:Value)(hB:B<a.heap.size->S B):a0b S a (b.setCell (Ad B i) v) :=
 h.then (a0b.grown (Lib.grownBy_setCell b B i v)) (fun j z e=>by cases e;exact hB z)
theorem a0b.below{m:Nat}(h:a0b S a b)(hm:m<=a.heap.size)(hs:∀k,k<m->¬S k):Below m a b:=⟨h.os,h.tape,h.output,h.size,fun k hk=>h.block k (by omega) (hs k hk)⟩
theorem a0b.cell(h:a0b S a b){o:Nat}(hc:a.cell? (Ad g o)=some v)(hs:¬S g):b.cell? (Ad g o)=some v :=
 (World.cell?_of_block (a:=(Ad g o)) (h.block g (World.block_lt_of_cell? _ _ hc) hs)).trans hc
def NdAt (S:Nat->Prop) (W:World):Nd->(Nat->Option Value)->Prop
 | ⟨k,t,n,kids⟩,c=>c 0=some (vi k)/\c 1=some (.string ⟨t.toArray⟩)/\c 2=some (vi n) /\
   ∃b cap,c 3=some (.slice b kids.length cap)/\kids.length<=cap/\(kids=[]\/∃g off,b=some (Ad g off)/\S g/\go g off kids)
where go (g:Nat):Nat->List Nd->Prop
 | _,[]=>True
 | off,x::l=>NdAt S W x (fun i=>W.cell? (Ad g (off+i)))/\go g (off+4) l
theorem a9s(S:Nat->Prop)(W:World)(g:Nat):∀(l:List Nd) (z:Nat),NdAt.go S W g z l↔∀j x,l[j]?=some x->NdAt S W x (fun i=>W.cell? (Ad g (z+j*4+i)))
 | [],z=>by simp[NdAt.go]
 | x::l,z=>by
  rw[NdAt.go,a9s S W g l (z+4)]
  constructor
  ·rintro⟨h1,h2⟩ j y v
   cases j with
   | zero =>
    simp at v
    subst v
    simpa using h1
   | succ j =>
    have:=h2 j y (by simpa using v)
    have e:z+(j+1)*4=z+4+j*4:=by omega
    rw[e]
    exact this
  ·intro h
   refine⟨?_,fun j y v=>?_⟩
   ·have:=h 0 x (by simp)
    simpa using this
   ·have:=h (j+1) y (by simpa using v)
    have e:z+(j+1)*4=z+4+j*4:=by omega
    rw[e]at this
    exact this
theorem NdAt.first{c:Nat->Option Value}(h:NdAt S W x c):c 0=some (vi x.k):=by
 obtain⟨k,t,n,kids⟩:=x
 rw[NdAt]at h
 exact h.1
theorem NdAt.on(hW:∀g,S g->g<W.heap.size->S' g/\W'.heap[g]?=W.heap[g]?)(x:Nd):∀(c z:Nat->Option Value),(∀i v,c i=some v->z i=some v)->NdAt S W x c->NdAt S' W' x z:=by
 refine a6j (m:=fun x=>∀(c z:Nat->Option Value),(∀i v,c i=some v->z i=some v)->NdAt S W x c->NdAt S' W' x z) (fun k t n kids f c z u h=>?_) x
 rw[NdAt]at h⊢
 obtain⟨h0,h1,h2,b,cap,h3,h4,h5⟩:=h
 refine⟨u _ _ h0,u _ _ h1,u _ _ h2,b,cap,u _ _ h3,h4,?_⟩
 rcases h5 with h5|⟨g,s,e,d,h5⟩
 ·exact .inl h5
 ·by_cases hk:kids=[]
  ·exact .inl hk
  ·rw[a9s]at h5
   have p:g<W.heap.size:=by
    cases kids with
    | nil=>exact absurd rfl hk
    | cons y l =>
     have:=(h5 0 y (by simp)).first
     exact World.block_lt_of_cell? _ _ this
   obtain⟨q,hg⟩:=hW g d p
   refine .inr ⟨g,s,e,q,?_⟩
   rw[a9s]
   intro j y o
   exact f y (List.mem_of_getElem? o) _ _ (fun i v hv=>(World.cell?_of_block (a:=(Ad g _)) hg).trans hv) (h5 j y o)
def NdV (S:Nat->Prop) (W:World) (x:Nd) (v:Value):Prop:=∃a b c d,v=.agg #[a,b,c,d]/\NdAt S W x (fun i=>#[a,b,c,d][i]?)
theorem NdV.on(h:NdV S W x v)(hW:∀g,S g->g<W.heap.size->S' g/\W'.heap[g]?=W.heap[g]?):NdV S' W' x v:=by
 obtain⟨a,b,c,d,e,h⟩:=h
 exact⟨a,b,c,d,e,NdAt.on hW x _ _ (fun _ _ h=>h) h⟩
theorem NdV.keep(h:NdV S W x v)(hk:a0b T W W')(hs:∀g,S g->g<W.heap.size->¬T g):NdV S W' x v :=
 h.on fun g y z=>⟨y,hk.block g z (hs g y z)⟩
theorem NdV.below(h:NdV S W x v)(hk:Bw W W'):NdV S W' x v:=h.on fun g y z=>⟨y,hk.block g z⟩
theorem NdV.weak(h:NdV S W x v)(hs:∀g,S g->g<W.heap.size->S' g):NdV S' W x v:=h.on fun g y z=>⟨hs g y z,rfl⟩
theorem NdV.form(h:NdV S W x v):∃b cap,v=.agg #[vi x.k,.string ⟨x.t.toArray⟩,vi x.n,.slice b x.kids.length cap]/\x.kids.length<=cap/\(x.kids=[]\/∃g z,b=some (Ad g z)/\S g/\∀j y,x.kids[j]?=some y->NdAt S W y (fun i=>W.cell? (Ad g (z+j*4+i)))):=by
 obtain⟨a,b,c,d,rfl,h⟩:=h
 obtain⟨k,t,n,kids⟩:=x
 rw[NdAt]at h
 obtain⟨h0,h1,h2,b',cap,h3,h4,h5⟩:=h
 simp at h0 h1 h2 h3
 subst h0 h1 h2 h3
 refine⟨b',cap,rfl,h4,?_⟩
 rcases h5 with h5|⟨g,z,e,u,h5⟩
 ·exact .inl h5
 ·exact .inr ⟨g,z,e,u,(a9s S W g kids z).1 h5⟩
theorem c1i{k:Int}{t:List UInt8}{n:Int}{kids:List Nd}{b:Option Addr}(h4:kids.length<=cap)(h5:kids=[]\/∃g z,b=some (Ad g z)/\S g/\∀j y,kids[j]?=some y->NdAt S W y (fun i=>W.cell? (Ad g (z+j*4+i)))) :
  NdV S W ⟨k,t,n,kids⟩ (.agg #[vi k,.string ⟨t.toArray⟩,vi n,.slice b kids.length cap]):=by
 refine⟨_,_,_,_,rfl,?_⟩
 rw[NdAt]
 refine⟨rfl,rfl,rfl,b,cap,rfl,h4,?_⟩
 rcases h5 with h5|⟨g,z,e,v,h5⟩
 ·exact .inl h5
 ·exact .inr ⟨g,z,e,v,(a9s S W g kids z).2 h5⟩
theorem a5u(S:Nat->Prop)(W:World)(k:Int)(t:List UInt8)(n:Int):NdV S W ⟨k,t,n,[]⟩ (.agg #[vi k,.string ⟨t.toArray⟩,vi n,.slice none 0 0]):=c1i (kids:=[]) (Nat.le_refl _) (.inl rfl)
structure Row (S:Nat->Prop) (W:World) (v:Value) (ks:List Nd):Prop where
 own:∃xs:List Value,W.ownsRow 0 43 4 v ks.length xs/\(∀b,v.ownBlock=some b->S b)/\∀j y,ks[j]?=some y->NdAt (fun g=>S g/\some g≠v.ownBlock) W y (fun i=>if i<4 then xs[j*4+i]? else none)
theorem Row.nil(S:Nat->Prop)(W:World):Row S W (.slice none 0 0) []:=⟨[],World.ownsRow_nil _ _ _ _,fun b h=>by simp[Value.ownBlock]at h,fun j y h=>by simp at h⟩
theorem Row.form(h:Row S W v ks):∃b cap,v=.slice b ks.length cap/\∀g,v.ownBlock=some g->S g/\g<W.heap.size:=by
 obtain⟨p,u,y,_⟩:=h.own
 rcases u.2 with⟨rfl,hn⟩|⟨g,cap,q,rfl,o,s,_⟩
 ·exact⟨none,0,by rw[hn],fun g e=>by simp[Value.ownBlock]at e⟩
 ·exact⟨_,cap,rfl,fun z e=>⟨y z e,by
   have:g=z:=by simpa[Value.ownBlock]using e
   subst this
   exact(Array.getElem?_eq_some_iff.1 s).1⟩⟩
theorem Row.on(h:Row S W v ks)(hW:∀g,S g->g<W.heap.size->S' g/\W'.heap[g]?=W.heap[g]?):Row S' W' v ks:=by
 obtain⟨o,q,i,hn⟩:=h.own
 rcases q.2 with⟨rfl,h0⟩|⟨g,cap,p,rfl,u,n,hr⟩
 ·exact⟨o,⟨q.1,.inl ⟨rfl,h0⟩⟩,fun b e=>by simp[Value.ownBlock]at e,fun j y s=>NdAt.on (fun g u z=>⟨⟨(hW g u.1 z).1,u.2⟩,(hW g u.1 z).2⟩) y _ _ (fun _ _ h=>h) (hn j y s)⟩
 ·have z:=(Array.getElem?_eq_some_iff.1 n).1
  have m:=hW g (i g rfl) z
  exact⟨o,⟨q.1,.inr ⟨g,cap,p,rfl,u,m.2.trans n,hr⟩⟩,fun b e=>by
   have:g=b:=by simpa[Value.ownBlock]using e
   subst this;exact m.1,fun j y s=>NdAt.on (fun g u z=>⟨⟨(hW g u.1 z).1,u.2⟩,(hW g u.1 z).2⟩) y _ _ (fun _ _ h=>h) (hn j y s)⟩
theorem Row.keep(h:Row S W v ks)(hk:a0b T W W')(hs:∀g,S g->g<W.heap.size->¬T g):Row S W' v ks:=h.on fun g y z=>⟨y,hk.block g z (hs g y z)⟩
theorem Row.below(h:Row S W v ks)(hb:Bw W W'):Row S W' v ks:=h.on fun g y z=>⟨y,hb.block g z⟩
theorem Row.weak(h:Row S W v ks)(hs:∀g,S g->g<W.heap.size->S' g):Row S' W v ks:=h.on fun g y z=>⟨hs g y z,rfl⟩
theorem Row.node(h:Row S W v ks)(k:Int)(t:List UInt8)(n:Int):NdV S W ⟨k,t,n,ks⟩ (.agg #[vi k,.string ⟨t.toArray⟩,vi n,v]):=by
 obtain⟨xs,f,m,hn⟩:=h.own
 rcases f.2 with⟨rfl,h0⟩|⟨g,cap,s,rfl,p,d,h1,h2,h3,h4⟩
 ·obtain rfl:=List.length_eq_zero_iff.1 h0
  exact a5u _ _ _ _ _
 ·refine c1i h1 (.inr ⟨g,0,rfl,m g rfl,fun j y o=>?_⟩)
  refine NdAt.on (fun g p _=>⟨p.1,rfl⟩) y _ _ (fun i u z=>?_) (hn j y o)
  split at z
  ·rename_i hi
   have a:s.toList[j*4+i]?=some u:=by
    rw[<- h4]at z
    rw[List.getElem?_take]at z
    split at z
    ·exact z
    ·cases z
   have q:s[j*4+i]?=some u:=by simpa using a
   simp[World.cell?,d,q]
  ·cases z
theorem Row.snoc{a b:Value}{xs:List Value}(ho:W.ownsRow 0 43 4 v ks.length xs)(hs:∀b,v.ownBlock=some b->S b)(hn:∀j y,ks[j]?=some y->NdAt (fun g=>S g/\some g≠v.ownBlock) W y (fun i=>if i<4 then xs[j*4+i]? else none))(n:NdV (fun g=>S g/\some g≠v.ownBlock) W y (.agg #[a,b,c,d]))(ho':W'.ownsRow 0 43 4 (.slice (some (Ad g 0)) (ks.length+1) cap) (ks.length+1) (xs++[a,b,c,d]))(hg:W.grownBy W' v.ownBlock)(hat:v.ownBlock=some g\/g=W.heap.size)(hS:∀g,W.heap.size<=g->S g) :
  Row S W' (.slice (some (Ad g 0)) (ks.length+1) cap) (ks++[y]):=by
 have hl:xs.length=ks.length*4:=ho.1
 have s:∀q,(S q/\some q≠v.ownBlock)->q<W.heap.size->(S q/\some q≠Value.ownBlock (.slice (some (Ad g 0)) (ks.length+1) cap))/\W'.heap[q]?=W.heap[q]?:=fun q hq m=>by
  refine⟨⟨hq.1,?_⟩,hg.block q m hq.2⟩
  rcases hat with e|e
  ·rw[e]at hq;exact hq.2
  ·intro e2
   have e3:q=g:=by simpa[Value.ownBlock]using e2
   omega
 refine⟨xs++[a,b,c,d],by rw[List.length_append];exact ho',fun q e=>?_,fun j z p=>?_⟩
 ·have e3:g=q:=by simpa[Value.ownBlock]using e
  subst e3
  rcases hat with e|e
  ·exact hs g e
  ·exact hS g (by omega)
 rcases Nat.lt_or_ge j ks.length with hj|hj
 ·rw[List.getElem?_append_left hj]at p
  refine NdAt.on s z _ _ (fun i u o=>?_) (hn j z p)
  split at o
  ·rename_i f
   rw[if_pos f,List.getElem?_append_left (by omega)]
   exact o
  ·cases o
 ·have h:j=ks.length:=by
   have:=(List.getElem?_eq_some_iff.1 p).1
   simp at this
   omega
  subst h
  rw[List.getElem?_append_right (Nat.le_refl _)]at p
  simp at p
  subst p
  obtain⟨a',b',c',d',e,n⟩:=n
  simp only[Value.agg.injEq,Array.mk.injEq,List.cons.injEq,and_true]at e
  obtain⟨rfl,rfl,rfl,rfl⟩:=e
  refine NdAt.on s y _ _ (fun i u o=>?_) n
  have f:i<4:=by
   have:=(Array.getElem?_eq_some_iff.1 o).1
   simpa using this
  rw[if_pos f,List.getElem?_append_right (by omega)]
  have:ks.length*4+i-xs.length=i:=by omega
  rw[this]
  simpa using o
theorem Row.two{a b a' b' c' d':Value}(hm:S g)(o:NdV (fun q=>S q/\q≠g) W x (.agg #[a,b,c,d]))(p:NdV (fun q=>S q/\q≠g) W y (.agg #[a',b',c',d']))(hg:W.heap[g]?=some (.cells #[a,b,c,d,a',b',c',d'] 43)) :
  Row S W (.slice (some (Ad g 0)) 2 2) [x,y]:=by
 refine⟨[a,b,c,d,a',b',c',d'],⟨rfl,.inr ⟨g,2,_,rfl,Nat.zero_le _,hg,Nat.le_refl _,by unfold maxLen;omega,rfl,rfl⟩⟩,fun q e=>by
  have h:g=q:=by simpa[Value.ownBlock]using e
  subst h;exact hm,fun j z s=>?_⟩
 have m:∀q,(S q/\q≠g)->q<W.heap.size->(S q/\some q≠Value.ownBlock (.slice (some (Ad g 0)) 2 2))/\W.heap[q]?=W.heap[q]?:=fun q hq _=>⟨⟨hq.1,fun e=>hq.2 (by simpa[Value.ownBlock]using e)⟩,rfl⟩
 match j,s with
 | 0,s =>
  simp at s;subst s
  obtain⟨_,_,_,_,e,o⟩:=o
  simp only[Value.agg.injEq,Array.mk.injEq,List.cons.injEq,and_true]at e
  obtain⟨rfl,rfl,rfl,rfl⟩:=e
  refine NdAt.on m _ _ _ (fun i u v=>?_) o
  match i,v with
  | 0,v|1,v|2,v|3,v=>simpa using v
  | n+4,v=>simp at v
 | 1,s =>
  simp at s;subst s
  obtain⟨_,_,_,_,e,p⟩:=p
  simp only[Value.agg.injEq,Array.mk.injEq,List.cons.injEq,and_true]at e
  obtain⟨rfl,rfl,rfl,rfl⟩:=e
  refine NdAt.on m _ _ _ (fun i u v=>?_) p
  match i,v with
  | 0,v|1,v|2,v|3,v=>simpa using v
  | n+4,v=>simp at v
 | n+2,s=>simp at s
theorem Row.one{a b:Value}(hm:S g)(s:NdV (fun q=>S q/\q≠g) W x (.agg #[a,b,c,d]))(hg:W.heap[g]?=some (.cells #[a,b,c,d] 43)) :
  Row S W (.slice (some (Ad g 0)) 1 1) [x]:=by
 refine⟨[a,b,c,d],⟨rfl,.inr ⟨g,1,_,rfl,Nat.zero_le _,hg,Nat.le_refl _,by unfold maxLen;omega,rfl,rfl⟩⟩,fun q e=>by
  have o:g=q:=by simpa[Value.ownBlock]using e
  subst o;exact hm,fun j z v=>?_⟩
 have p:∀q,(S q/\q≠g)->q<W.heap.size->(S q/\some q≠Value.ownBlock (.slice (some (Ad g 0)) 1 1))/\W.heap[q]?=W.heap[q]?:=fun q hq _=>⟨⟨hq.1,fun e=>hq.2 (by simpa[Value.ownBlock]using e)⟩,rfl⟩
 match j,v with
 | 0,v =>
  simp at v;subst v
  obtain⟨_,_,_,_,e,s⟩:=s
  simp only[Value.agg.injEq,Array.mk.injEq,List.cons.injEq,and_true]at e
  obtain⟨rfl,rfl,rfl,rfl⟩:=e
  refine NdAt.on p _ _ _ (fun i u y=>?_) s
  match i,y with
  | 0,y|1,y|2,y|3,y=>simpa using y
  | n+4,y=>simp at y
 | n+1,v=>simp at v
def a4o:Nd->Nat
 | ⟨_,_,_,kids⟩=>go kids+1
where go:List Nd->Nat
 | []=>0
 | x::l=>max (a4o x) (go l)
def manyN:Nd->Nat
 | ⟨_,_,_,kids⟩=>go kids+1
where go:List Nd->Nat
 | []=>0
 | x::l=>manyN x+go l
end Go.Proofs.YtfbpdbndejefdaaGreatDoor
