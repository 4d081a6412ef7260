import Derived.Test.YtomniogfpfbolaaGreatDoorS10
import Derived.Deep.AppendLies
import Derived.Lib.BufferWrite
namespace Go.Proofs.YtomniogfpfbolaaGreatDoor
open Go Go.RowKit
set_option maxRecDepth 100000
set_option maxHeartbeats 8000000
set_option linter.all false
variable {S S' T:Nat->Prop} {a b W W':World} {c v d:Value} {g cap:Nat} {x y:Nd} {k:Int} {t:List UInt8} {ks:List Nd} {fs:List (List UInt8)}
structure a0b (S:Nat->Prop) (W W':World):Prop where
 os:W'.os=W.os
 tape:W'.tape=W.tape
 output:W'.output=W.output
 size:W.heap.size<=W'.heap.size
 block:∀k,k<W.heap.size->¬S k->W'.heap[k]?=W.heap[k]?
theorem a0b.refl(S:Nat->Prop)(W:World):a0b S W W:=⟨rfl,rfl,rfl,Nat.le_refl _,fun _ _ _=>rfl⟩
theorem a0b.trans{c:World}(h:a0b S a b)(k:a0b S b c):a0b S a c :=
 ⟨k.os.trans h.os,k.tape.trans h.tape,k.output.trans h.output,Nat.le_trans h.size k.size,fun i y z=>(k.block i (Nat.lt_of_lt_of_le y h.size) z).trans (h.block i y z)⟩
theorem a0b.mono(h:a0b S a b)(hs:∀k,k<a.heap.size->S k->S' k):a0b S' a b:=⟨h.os,h.tape,h.output,h.size,fun k z hn=>h.block k z fun c=>hn (hs k z c)⟩
theorem a0b.then{c:World}(h:a0b S a b)(k:a0b S' b c)(hs:∀j,j<a.heap.size->S' j->S j):a0b S a c :=
 ⟨k.os.trans h.os,k.tape.trans h.tape,k.output.trans h.output,Nat.le_trans h.size k.size,fun i z hn=>(k.block i (Nat.lt_of_lt_of_le z h.size) fun q=>hn (hs i z q)).trans (h.block i z hn)⟩
theorem a0b.of_below(h:Bw a b):a0b S a b:=⟨h.os,h.tape,h.output,h.size,fun k z _=>h.block k z⟩
theorem a0b.grown{row:Option Nat}(h:a.grownBy b row):a0b (fun k=>some k=row) a b:=⟨h.os,h.tape,h.output,h.size,fun k z hn=>h.block k z hn⟩
theorem a0b.alloc(h:a0b S a b)(o:Obj):a0b S a (b.alloc o):=h.trans (a0b.of_below (bz0.alloc (Nat.le_refl _) _))
theorem a0b.drew(h:a0b S a b):a0b S a b.drew:=h.trans (a0b.of_below (bz0.drew))
theorem a0b.set(h:a0b S a b)(B i:Nat)(v:Value)(hB:B<a.heap.size->S B):a0b S a (b.setCell (Ad B i) v) :=
 h.then (a0b.grown (Lib.grownBy_setCell b B i v)) (fun j z e=>by cases e;exact hB z)
theorem a0b.below{m:Nat}(h:a0b S a b)(hm:m<=a.heap.size)(hs:∀k,k<m->¬S k):Below m a b:=⟨h.os,h.tape,h.output,h.size,fun k z=>h.block k (by omega) (hs k z)⟩
theorem a0b.cell(h:a0b S a b){o:Nat}(hc:a.cell? (Ad g o)=some v)(hs:¬S g):b.cell? (Ad g o)=some v :=
 (World.cell?_of_block (a:=(Ad g o)) (h.block g (World.block_lt_of_cell? _ _ hc) hs)).trans hc
def NdAt (S:Nat->Prop) (W:World):Nd->(Nat->Option Value)->Prop
 | ⟨k,t,n,kids⟩,c=>c 0=some (vi k)/\c 1=some (.string ⟨t.toArray⟩)/\c 2=some (vi n) /\
   ∃b cap,c 3=some (.slice b kids.length cap)/\kids.length<=cap/\(kids=[]\/∃g off,b=some (Ad g off)/\S g/\go g off kids)
where go (g:Nat):Nat->List Nd->Prop
 | _,[]=>True
 | off,x::l=>NdAt S W x (fun i=>W.cell? (Ad g (off+i)))/\go g (off+4) l
theorem a9u(S:Nat->Prop)(W:World)(g:Nat):∀(l:List Nd) (z:Nat),NdAt.go S W g z l↔∀j x,l[j]?=some x->NdAt S W x (fun i=>W.cell? (Ad g (z+j*4+i)))
 | [],z=>by simp[NdAt.go]
 | x::l,z=>by
  rw[NdAt.go,a9u S W g l (z+4)]
  constructor
  ·rintro⟨h1,h2⟩ j y w
   cases j with
   | zero =>
    simp at w
    subst w
    simpa using h1
   | succ j =>
    have:=h2 j y (by simpa using w)
    have e:z+(j+1)*4=z+4+j*4:=by omega
    rw[e]
    exact this
  ·intro h
   refine⟨?_,fun j y w=>?_⟩
   ·have:=h 0 x (by simp)
    simpa using this
   ·have:=h (j+1) y (by simpa using w)
    have e:z+(j+1)*4=z+4+j*4:=by omega
    rw[e]at this
    exact this
theorem NdAt.first{c:Nat->Option Value}(h:NdAt S W x c):c 0=some (vi x.k):=by
 obtain⟨k,t,n,kids⟩:=x
 rw[NdAt]at h
 exact h.1
theorem NdAt.on(hW:∀g,S g->g<W.heap.size->S' g/\W'.heap[g]?=W.heap[g]?)(x:Nd):∀(c z:Nat->Option Value),(∀i v,c i=some v->z i=some v)->NdAt S W x c->NdAt S' W' x z:=by
 refine a3x (m:=fun x=>∀(c z:Nat->Option Value),(∀i v,c i=some v->z i=some v)->NdAt S W x c->NdAt S' W' x z) (fun k t n kids p c z w h=>?_) x
 rw[NdAt]at h⊢
 obtain⟨h0,h1,h2,b,cap,h3,h4,h5⟩:=h
 refine⟨w _ _ h0,w _ _ h1,w _ _ h2,b,cap,w _ _ h3,h4,?_⟩
 rcases h5 with h5|⟨g,u,e,f,h5⟩
 ·exact .inl h5
 ·by_cases hk:kids=[]
  ·exact .inl hk
  ·rw[a9u]at h5
   have r:g<W.heap.size:=by
    cases kids with
    | nil=>exact absurd rfl hk
    | cons y l =>
     have:=(h5 0 y (by simp)).first
     exact World.block_lt_of_cell? _ _ this
   obtain⟨s,d⟩:=hW g f r
   refine .inr ⟨g,u,e,s,?_⟩
   rw[a9u]
   intro j y q
   exact p y (List.mem_of_getElem? q) _ _ (fun i v o=>(World.cell?_of_block (a:=(Ad g _)) d).trans o) (h5 j y q)
def NdV (S:Nat->Prop) (W:World) (x:Nd) (v:Value):Prop:=∃a b c d,v=.agg #[a,b,c,d]/\NdAt S W x (fun i=>#[a,b,c,d][i]?)
theorem NdV.on(h:NdV S W x v)(hW:∀g,S g->g<W.heap.size->S' g/\W'.heap[g]?=W.heap[g]?):NdV S' W' x v:=by
 obtain⟨a,b,c,d,e,h⟩:=h
 exact⟨a,b,c,d,e,NdAt.on hW x _ _ (fun _ _ h=>h) h⟩
theorem NdV.keep(h:NdV S W x v)(hk:a0b T W W')(hs:∀g,S g->g<W.heap.size->¬T g):NdV S W' x v :=
 h.on fun g y z=>⟨y,hk.block g z (hs g y z)⟩
theorem NdV.below(h:NdV S W x v)(hk:Bw W W'):NdV S W' x v:=h.on fun g y z=>⟨y,hk.block g z⟩
theorem NdV.weak(h:NdV S W x v)(hs:∀g,S g->g<W.heap.size->S' g):NdV S' W x v:=h.on fun g y z=>⟨hs g y z,rfl⟩
theorem NdV.form(h:NdV S W x v):∃b cap,v=.agg #[vi x.k,.string ⟨x.t.toArray⟩,vi x.n,.slice b x.kids.length cap]/\x.kids.length<=cap/\(x.kids=[]\/∃g z,b=some (Ad g z)/\S g/\∀j y,x.kids[j]?=some y->NdAt S W y (fun i=>W.cell? (Ad g (z+j*4+i)))):=by
 obtain⟨a,b,c,d,rfl,h⟩:=h
 obtain⟨k,t,n,kids⟩:=x
 rw[NdAt]at h
 obtain⟨w,h1,h2,b',cap,h3,h4,h5⟩:=h
 simp at w h1 h2 h3
 subst w h1 h2 h3
 refine⟨b',cap,rfl,h4,?_⟩
 rcases h5 with h5|⟨g,z,e,u,h5⟩
 ·exact .inl h5
 ·exact .inr ⟨g,z,e,u,(a9u S W g kids z).1 h5⟩
theorem c1v{n:Int}{kids:List Nd}{b:Option Addr}(h4:kids.length<=cap)(h5:kids=[]\/∃g z,b=some (Ad g z)/\S g/\∀j y,kids[j]?=some y->NdAt S W y (fun i=>W.cell? (Ad g (z+j*4+i)))) :
  NdV S W ⟨k,t,n,kids⟩ (.agg #[vi k,.string ⟨t.toArray⟩,vi n,.slice b kids.length cap]):=by
 refine⟨_,_,_,_,rfl,?_⟩
 rw[NdAt]
 refine⟨rfl,rfl,rfl,b,cap,rfl,h4,?_⟩
 rcases h5 with h5|⟨g,z,e,x,h5⟩
 ·exact .inl h5
 ·exact .inr ⟨g,z,e,x,(a9u S W g kids z).2 h5⟩
theorem a2a(S:Nat->Prop)(W:World)(k:Int)(t:List UInt8)(n:Int):NdV S W ⟨k,t,n,[]⟩ (.agg #[vi k,.string ⟨t.toArray⟩,vi n,.slice none 0 0]):=c1v (kids:=[]) (Nat.le_refl _) (.inl rfl)
structure Row (S:Nat->Prop) (W:World) (v:Value) (ks:List Nd):Prop where
 own:∃xs:List Value,W.ownsRow 0 34 4 v ks.length xs/\(∀b,v.ownBlock=some b->S b)/\∀j y,ks[j]?=some y->NdAt (fun g=>S g/\some g≠v.ownBlock) W y (fun i=>if i<4 then xs[j*4+i]? else none)
theorem Row.nil(S:Nat->Prop)(W:World):Row S W (.slice none 0 0) []:=⟨[],World.ownsRow_nil _ _ _ _,fun b h=>by simp[Value.ownBlock]at h,fun j y h=>by simp at h⟩
theorem Row.form(h:Row S W v ks):∃b cap,v=.slice b ks.length cap/\∀g,v.ownBlock=some g->S g/\g<W.heap.size:=by
 obtain⟨t,x,y,_⟩:=h.own
 rcases x.2 with⟨rfl,hn⟩|⟨g,cap,u,rfl,s,w,_⟩
 ·exact⟨none,0,by rw[hn],fun g e=>by simp[Value.ownBlock]at e⟩
 ·exact⟨_,cap,rfl,fun z e=>⟨y z e,by
   have:g=z:=by simpa[Value.ownBlock]using e
   subst this
   exact(Array.getElem?_eq_some_iff.1 w).1⟩⟩
theorem Row.on(h:Row S W v ks)(hW:∀g,S g->g<W.heap.size->S' g/\W'.heap[g]?=W.heap[g]?):Row S' W' v ks:=by
 obtain⟨s,u,p,hn⟩:=h.own
 rcases u.2 with⟨rfl,n⟩|⟨g,cap,t,rfl,x,r,o⟩
 ·exact⟨s,⟨u.1,.inl ⟨rfl,n⟩⟩,fun b e=>by simp[Value.ownBlock]at e,fun j y w=>NdAt.on (fun g x z=>⟨⟨(hW g x.1 z).1,x.2⟩,(hW g x.1 z).2⟩) y _ _ (fun _ _ h=>h) (hn j y w)⟩
 ·have z:=(Array.getElem?_eq_some_iff.1 r).1
  have q:=hW g (p g rfl) z
  exact⟨s,⟨u.1,.inr ⟨g,cap,t,rfl,x,q.2.trans r,o⟩⟩,fun b e=>by
   have:g=b:=by simpa[Value.ownBlock]using e
   subst this;exact q.1,fun j y w=>NdAt.on (fun g x z=>⟨⟨(hW g x.1 z).1,x.2⟩,(hW g x.1 z).2⟩) y _ _ (fun _ _ h=>h) (hn j y w)⟩
theorem Row.keep(h:Row S W v ks)(hk:a0b T W W')(hs:∀g,S g->g<W.heap.size->¬T g):Row S W' v ks:=h.on fun g y z=>⟨y,hk.block g z (hs g y z)⟩
theorem Row.below(h:Row S W v ks)(hb:Bw W W'):Row S W' v ks:=h.on fun g y z=>⟨y,hb.block g z⟩
theorem Row.weak(h:Row S W v ks)(hs:∀g,S g->g<W.heap.size->S' g):Row S' W v ks:=h.on fun g y z=>⟨hs g y z,rfl⟩
theorem Row.node(h:Row S W v ks)(k:Int)(t:List UInt8)(n:Int):NdV S W ⟨k,t,n,ks⟩ (.agg #[vi k,.string ⟨t.toArray⟩,vi n,v]):=by
 obtain⟨e,p,q,hn⟩:=h.own
 rcases p.2 with⟨rfl,f⟩|⟨g,cap,x,rfl,s,o,h1,h2,h3,h4⟩
 ·obtain rfl:=List.length_eq_zero_iff.1 f
  exact a2a _ _ _ _ _
 ·refine c1v h1 (.inr ⟨g,0,rfl,q g rfl,fun j y r=>?_⟩)
  refine NdAt.on (fun g s _=>⟨s.1,rfl⟩) y _ _ (fun i u z=>?_) (hn j y r)
  split at z
  ·rename_i hi
   have l:x.toList[j*4+i]?=some u:=by
    rw[<- h4]at z
    rw[List.getElem?_take]at z
    split at z
    ·exact z
    ·cases z
   have w:x[j*4+i]?=some u:=by simpa using l
   simp[World.cell?,o,w]
  ·cases z
theorem Row.snoc{a b:Value}{xs:List Value}(ho:W.ownsRow 0 34 4 v ks.length xs)(hs:∀b,v.ownBlock=some b->S b)(hn:∀j y,ks[j]?=some y->NdAt (fun g=>S g/\some g≠v.ownBlock) W y (fun i=>if i<4 then xs[j*4+i]? else none))(s:NdV (fun g=>S g/\some g≠v.ownBlock) W y (.agg #[a,b,c,d]))(ho':W'.ownsRow 0 34 4 (.slice (some (Ad g 0)) (ks.length+1) cap) (ks.length+1) (xs++[a,b,c,d]))(hg:W.grownBy W' v.ownBlock)(hat:v.ownBlock=some g\/g=W.heap.size)(hS:∀g,W.heap.size<=g->S g) :
  Row S W' (.slice (some (Ad g 0)) (ks.length+1) cap) (ks++[y]):=by
 have f:xs.length=ks.length*4:=ho.1
 have x:∀q,(S q/\some q≠v.ownBlock)->q<W.heap.size->(S q/\some q≠Value.ownBlock (.slice (some (Ad g 0)) (ks.length+1) cap))/\W'.heap[q]?=W.heap[q]?:=fun q hq r=>by
  refine⟨⟨hq.1,?_⟩,hg.block q r hq.2⟩
  rcases hat with e|e
  ·rw[e]at hq;exact hq.2
  ·intro h
   have l:q=g:=by simpa[Value.ownBlock]using h
   omega
 refine⟨xs++[a,b,c,d],by rw[List.length_append];exact ho',fun q e=>?_,fun j z w=>?_⟩
 ·have l:g=q:=by simpa[Value.ownBlock]using e
  subst l
  rcases hat with e|e
  ·exact hs g e
  ·exact hS g (by omega)
 rcases Nat.lt_or_ge j ks.length with n|n
 ·rw[List.getElem?_append_left n]at w
  refine NdAt.on x z _ _ (fun i u t=>?_) (hn j z w)
  split at t
  ·rename_i o
   rw[if_pos o,List.getElem?_append_left (by omega)]
   exact t
  ·cases t
 ·have p:j=ks.length:=by
   have:=(List.getElem?_eq_some_iff.1 w).1
   simp at this
   omega
  subst p
  rw[List.getElem?_append_right (Nat.le_refl _)]at w
  simp at w
  subst w
  obtain⟨a',b',c',d',e,s⟩:=s
  simp only[Value.agg.injEq,Array.mk.injEq,List.cons.injEq,and_true]at e
  obtain⟨rfl,rfl,rfl,rfl⟩:=e
  refine NdAt.on x y _ _ (fun i u t=>?_) s
  have o:i<4:=by
   have:=(Array.getElem?_eq_some_iff.1 t).1
   simpa using this
  rw[if_pos o,List.getElem?_append_right (by omega)]
  have:ks.length*4+i-xs.length=i:=by omega
  rw[this]
  simpa using t
theorem Row.two{a b a' b' c' d':Value}(hm:S g)(s:NdV (fun q=>S q/\q≠g) W x (.agg #[a,b,c,d]))(t:NdV (fun q=>S q/\q≠g) W y (.agg #[a',b',c',d']))(hg:W.heap[g]?=some (.cells #[a,b,c,d,a',b',c',d'] 34)) :
  Row S W (.slice (some (Ad g 0)) 2 2) [x,y]:=by
 refine⟨[a,b,c,d,a',b',c',d'],⟨rfl,.inr ⟨g,2,_,rfl,Nat.zero_le _,hg,Nat.le_refl _,by unfold maxLen;omega,rfl,rfl⟩⟩,fun q e=>by
  have p:g=q:=by simpa[Value.ownBlock]using e
  subst p;exact hm,fun j z v=>?_⟩
 have r:∀q,(S q/\q≠g)->q<W.heap.size->(S q/\some q≠Value.ownBlock (.slice (some (Ad g 0)) 2 2))/\W.heap[q]?=W.heap[q]?:=fun q hq _=>⟨⟨hq.1,fun e=>hq.2 (by simpa[Value.ownBlock]using e)⟩,rfl⟩
 match j,v with
 | 0,v =>
  simp at v;subst v
  obtain⟨_,_,_,_,e,s⟩:=s
  simp only[Value.agg.injEq,Array.mk.injEq,List.cons.injEq,and_true]at e
  obtain⟨rfl,rfl,rfl,rfl⟩:=e
  refine NdAt.on r _ _ _ (fun i u w=>?_) s
  match i,w with
  | 0,w|1,w|2,w|3,w=>simpa using w
  | n+4,w=>simp at w
 | 1,v =>
  simp at v;subst v
  obtain⟨_,_,_,_,e,t⟩:=t
  simp only[Value.agg.injEq,Array.mk.injEq,List.cons.injEq,and_true]at e
  obtain⟨rfl,rfl,rfl,rfl⟩:=e
  refine NdAt.on r _ _ _ (fun i u w=>?_) t
  match i,w with
  | 0,w|1,w|2,w|3,w=>simpa using w
  | n+4,w=>simp at w
 | n+2,v=>simp at v
theorem Row.one{a b:Value}(hm:S g)(v:NdV (fun q=>S q/\q≠g) W x (.agg #[a,b,c,d]))(hg:W.heap[g]?=some (.cells #[a,b,c,d] 34)) :
  Row S W (.slice (some (Ad g 0)) 1 1) [x]:=by
 refine⟨[a,b,c,d],⟨rfl,.inr ⟨g,1,_,rfl,Nat.zero_le _,hg,Nat.le_refl _,by unfold maxLen;omega,rfl,rfl⟩⟩,fun q e=>by
  have s:g=q:=by simpa[Value.ownBlock]using e
  subst s;exact hm,fun j z w=>?_⟩
 have t:∀q,(S q/\q≠g)->q<W.heap.size->(S q/\some q≠Value.ownBlock (.slice (some (Ad g 0)) 1 1))/\W.heap[q]?=W.heap[q]?:=fun q hq _=>⟨⟨hq.1,fun e=>hq.2 (by simpa[Value.ownBlock]using e)⟩,rfl⟩
 match j,w with
 | 0,w =>
  simp at w;subst w
  obtain⟨_,_,_,_,e,v⟩:=v
  simp only[Value.agg.injEq,Array.mk.injEq,List.cons.injEq,and_true]at e
  obtain⟨rfl,rfl,rfl,rfl⟩:=e
  refine NdAt.on t _ _ _ (fun i u y=>?_) v
  match i,y with
  | 0,y|1,y|2,y|3,y=>simpa using y
  | n+4,y=>simp at y
 | n+1,w=>simp at w
def a1l:Nd->Nat
 | ⟨_,_,_,kids⟩=>go kids+1
where go:List Nd->Nat
 | []=>0
 | x::l=>max (a1l x) (go l)
def manyN:Nd->Nat
 | ⟨_,_,_,kids⟩=>go kids+1
where go:List Nd->Nat
 | []=>0
 | x::l=>manyN x+go l
theorem c1w(bl:List (List Lc)):sumL bl.tail<=sumL bl:=by
 cases bl with
 | nil=>exact Nat.le_refl _
 | cons b r=>rw[a0l];simp
theorem Lv.act{a:Nat}{c c':Cs}(h:actC fs k t ks a c=.ok c')(hc:Lv c):Lv c':=by
 unfold actC at h
 split at h
 ·exact Lv.declare h hc
 split at h
 ·have:=(a6o h).2
  unfold Lv Cs.live at *
  rw[this]
  exact hc
 split at h
 ·split at h
  ·cases h;exact hc
  ·cases h
 split at h
 ·split at h
  ·cases h
  ·cases h;exact hc
 ·cases h;exact hc
theorem a8w(fs:List (List UInt8))(n:Nd):∀(f:Bool) (c z:Cs),visC fs f n c=.ok z->Lv c->Lv z:=by
 refine a3x (m:=fun n=>∀(f:Bool) (c z:Cs),visC fs f n c=.ok z->Lv c->Lv z) (fun k t o ks p f c z h w=>?_) n
 have s:∀c:Cs,Lv c->Lv c.begin:=fun c h=>by unfold Lv Cs.live Cs.begin at *;simpa[a0l]using h
 have u:∀c:Cs,Lv c->Lv c.close:=fun c h=>by unfold Lv Cs.live Cs.close at *;exact Nat.le_trans (c1w _) h
 have v:∀(k:Int) (t:List UInt8) (a:Nat) (l:List Nd),(∀y∈l,y∈ks)->∀(i:Nat) (c z:Cs),visC.go fs k t a i l c=.ok z->Lv c->Lv z:=by
  intro k t a l
  induction l with
  | nil=>intro _ i c z h w;rw[visC.go]at h;cases h;exact w
  | cons x l ihl =>
   intro q i c z h w
   rw[visC.go]at h
   obtain⟨d,h1,h2⟩:=a0y h
   have r:=p x (q x (by simp))
   have h3:=ihl (fun y b=>q y (by simp[b])) _ d z h2
   split at h1
   ·obtain⟨e,h4,h5⟩:=a0y h1
    obtain⟨g,h6,rfl⟩:=a4e h5
    exact h3 (u _ (r _ _ _ h6 (Lv.declare h4 (s _ w))))
   ·exact h3 (r _ _ _ h1 w)
 rw[visC]at h
 split at h
 ·split at h
  ·exact v _ _ _ ks (fun _ h=>h) _ _ _ h w
  ·obtain⟨d,h1,rfl⟩:=a4e h
   exact u _ (v _ _ _ ks (fun _ h=>h) _ _ _ h1 (s c w))
 ·obtain⟨d,h1,h2⟩:=a0y h
  have h3:=v _ _ _ ks (fun _ h=>h) _ _ _ h1 w
  split at h2
  ·cases h2;exact h3
  ·exact Lv.act h2 h3
def allC (fs:List (List UInt8)):List Nd->Cs->CR
 | [],c=>.ok c
 | x::l,c=>(visC fs false x c).bind (allC fs l)
theorem c1x(fs:List (List UInt8))(k:Int)(t:List UInt8)(a:Nat)(hk:k≠10):∀(l:List Nd) (i:Nat) (c:Cs),visC.go fs k t a i l c=allC fs l c
 | [],i,c=>by rw[visC.go,allC]
 | x::l,i,c=>by
  rw[visC.go,allC,if_neg (fun h=>hk h.1)]
  congr 1
  funext d
  exact c1x fs k t a hk l (i+1) d
theorem a3u(fs:List (List UInt8))(k:Int)(t:List UInt8)(o:Int)(ks:List Nd)(c:Cs)(h4:k≠4)(h10:k≠10):visC fs false ⟨k,t,o,ks⟩ c=(allC fs ks c.enter).bind (actC fs k t ks c.sl.length):=by
 rw[visC,if_neg h4,c1x fs k t _ h10]
 congr 1
 funext d
 rw[if_neg h10]
theorem c6s(x:CR):x.bind (fun c=>.ok c)=x:=by cases x <;> rfl
theorem b5t(fs:List (List UInt8))(t:List UInt8)(o:Int)(x y z:Nd)(c:Cs):visC fs false ⟨10,t,o,[x,y,z]⟩ c=(allC fs [x,y] c.enter).bind fun d=>(declareC t true c.sl.length d.begin).bind fun e=>(visC fs true z e).map Cs.close:=by
 rw[visC,if_neg (by omega)]
 simp only[if_true]
 rw[c6s,visC.go,if_neg (by omega)]
 rw[allC]
 cases visC fs false x c.enter with
 | error e=>rfl
 | ok d =>
  simp only[Except.bind]
  rw[visC.go,if_neg (by omega),allC]
  cases visC fs false y d with
  | error e=>rfl
  | ok d =>
   simp only[Except.bind]
   rw[visC.go,if_pos (by omega),allC]
   simp only
   cases declareC t true c.sl.length d.begin with
   | error e=>rfl
   | ok d =>
    show((visC fs true z d).map Cs.close).bind _=(visC fs true z d).map Cs.close
    cases visC fs true z d with
    | error e=>rfl
    | ok d =>
     show visC.go fs 10 t c.sl.length (0+1+1+1) [] d.close=.ok d.close
     rw[visC.go]
theorem c1y(fs:List (List UInt8))(t:List UInt8)(o:Int)(ks:List Nd)(c:Cs):visC fs true ⟨4,t,o,ks⟩ c=allC fs ks c.enter:=by
 rw[visC,if_pos rfl]
 simp only[if_true]
 exact c1x fs 4 t 0 (by omega) ks 0 _
theorem a7v(fs:List (List UInt8))(z:Nd):∀(w:List Nd) (c:Cs),a4t fs (w++[z]) c=(allC fs w c).bind (visC fs true z)
 | [],c=>by rw[allC];rfl
 | [x],c=>by
  show a4t fs (x::z::[]) c=_
  rw[a4t,allC]
  cases visC fs false x c with
  | error e=>rfl
  | ok d=>simp only[Except.bind];rw[a4t,allC]
 | x::y::l,c=>by
  show a4t fs (x::y::(l++[z])) c=_
  rw[a4t,allC]
  cases visC fs false x c with
  | error e=>rfl
  | ok d=>simp only[Except.bind];exact a7v fs z (y::l) d
theorem d0v{a:Nat}{c c':Cs}(h:actC fs k t ks a c=.ok c'):c'.sl.length=c.sl.length:=(d0n h).1
theorem b5u(fs:List (List UInt8))(n:Nd):∀(f:Bool) (c z:Cs),visC fs f n c=.ok z->c.sl.length<z.sl.length/\z.sl.length<=c.sl.length+manyN n:=by
 refine a3x (m:=fun n=>∀(f:Bool) (c z:Cs),visC fs f n c=.ok z->c.sl.length<z.sl.length/\z.sl.length<=c.sl.length+manyN n) (fun k t o ks p f c z h=>?_) n
 have w:∀(k:Int) (t:List UInt8) (a:Nat) (l:List Nd),(∀y∈l,y∈ks)->∀(i:Nat) (c z:Cs),visC.go fs k t a i l c=.ok z->c.sl.length<=z.sl.length/\z.sl.length<=c.sl.length+manyN.go l:=by
  intro k t a l
  induction l with
  | nil=>intro _ i c z h;rw[visC.go]at h;cases h;exact⟨Nat.le_refl _,Nat.le_add_right _ _⟩
  | cons x l ihl =>
   intro q i c z h
   rw[visC.go]at h
   obtain⟨d,h1,h2⟩:=a0y h
   have r:=p x (q x (by simp))
   have h3:=ihl (fun y b=>q y (by simp[b])) _ d z h2
   simp only[manyN.go]
   split at h1
   ·obtain⟨e,h4,h5⟩:=a0y h1
    obtain⟨g,h6,rfl⟩:=a4e h5
    have h7:=(a5n h4).1
    have h8:=r _ _ _ h6
    simp only[Cs.begin,Cs.close]at *
    omega
   ·have h8:=r _ _ _ h1
    omega
 have u:manyN ⟨k,t,o,ks⟩=manyN.go ks+1:=rfl
 rw[u]
 have v:∀c:Cs,c.enter.sl.length=c.sl.length+1:=fun c=>by simp[Cs.enter]
 have s:∀c:Cs,c.begin.sl.length=c.sl.length:=fun c=>rfl
 rw[visC]at h
 split at h
 ·split at h
  ·have:=w _ _ _ ks (fun _ h=>h) _ _ _ h
   rw[v]at this
   omega
  ·obtain⟨d,h1,rfl⟩:=a4e h
   have:=w _ _ _ ks (fun _ h=>h) _ _ _ h1
   rw[v,s]at this
   simp only[Cs.close]
   omega
 ·obtain⟨d,h1,h2⟩:=a0y h
  have:=w _ _ _ ks (fun _ h=>h) _ _ _ h1
  rw[v]at this
  split at h2
  ·cases h2;omega
  ·have:=d0v h2
   omega
theorem a4z(fs:List (List UInt8)):∀(l:List Nd) (c z:Cs),allC fs l c=.ok z->c.sl.length<=z.sl.length/\z.sl.length<=c.sl.length+manyN.go l
 | [],c,z,h=>by rw[allC]at h;cases h;exact⟨Nat.le_refl _,Nat.le_add_right _ _⟩
 | x::l,c,z,h=>by
  rw[allC]at h
  obtain⟨d,h1,h2⟩:=a0y h
  have h3:=b5u fs x _ _ _ h1
  have h4:=a4z fs l _ _ h2
  simp only[manyN.go]
  omega
theorem a2h(fs:List (List UInt8)):∀(l:List Nd) (c z:Cs),allC fs l c=.ok z->Kp c z
 | [],c,z,h=>by rw[allC]at h;cases h;exact Kp.refl _
 | x::l,c,z,h=>by
  rw[allC]at h
  obtain⟨d,h1,h2⟩:=a0y h
  exact(a2g fs x _ _ _ h1).trans (a2h fs l _ _ h2)
theorem a4q(fs:List (List UInt8)):∀(l:List Nd) (c z:Cs),allC fs l c=.ok z->Lv c->Lv z
 | [],c,z,h,hc=>by rw[allC]at h;cases h;exact hc
 | x::l,c,z,h,hc=>by
  rw[allC]at h
  obtain⟨d,h1,h2⟩:=a0y h
  exact a4q fs l _ _ h2 (a8w fs x _ _ _ h1 hc)
end Go.Proofs.YtomniogfpfbolaaGreatDoor
