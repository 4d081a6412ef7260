/- Parts in memory: how a part's cells stand for it, and that they stand as long as its blocks are left alone; rows of parts that are put together. -/
import Derived.Test.YtfbpdbndejefdaaGreatDoorS02
import Derived.Test.YtfbpdbndejefdaaGreatDoorS14
namespace Go.Proofs.YtfbpdbndejefdaaGreatDoor.V
open Go Go.RowKit
set_option maxRecDepth 100000
set_option maxHeartbeats 8000000
set_option linter.all false
variable {S S' T:Nat->Prop} {W W':World} {x:Pt} {c:Nat->Option Value} {b:Option Addr} {cap:Nat} {ks:List Pt} {v:Value}
theorem d5u{m:Pt->Prop}(h:∀k t n sl kids,(∀x∈kids,m x)->m ⟨k,t,n,sl,kids⟩)(x:Pt):m x:=by
 exact Pt.rec (motive_1:=m) (motive_2:=fun l=>∀x∈l,m x) (fun k t n sl kids y=>h k t n sl kids y) (fun x z=>by simp at z) (fun a l u v x z=>by
  simp at z
  rcases z with rfl|z
  ·exact u
  ·exact v x z) x
def PtAt (S:Nat->Prop) (W:World):Pt->(Nat->Option Value)->Prop
 | ⟨k,t,n,sl,kids⟩,c=>c 0=some (vi k)/\c 1=some (.string t)/\c 2=some (vi n)/\c 3=some (vi sl) /\
   ∃b cap,c 4=some (.slice b kids.length cap)/\(kids.length<=cap/\cap<=maxLen)/\(kids=[]\/∃g off,b=some (Ad g off)/\S g/\go g off kids)
where go (g:Nat):Nat->List Pt->Prop
 | _,[]=>True
 | off,x::l=>PtAt S W x (fun i=>W.cell? (Ad g (off+i)))/\go g (off+5) l
theorem a9v(S:Nat->Prop)(W:World)(g:Nat):∀(l:List Pt) (z:Nat),PtAt.go S W g z l↔∀j x,l[j]?=some x->PtAt S W x (fun i=>W.cell? (Ad g (z+j*5+i)))
 | [],z=>by simp[PtAt.go]
 | x::l,z=>by
  rw[PtAt.go,a9v S W g l (z+5)]
  constructor
  ·rintro⟨h1,h2⟩ j y v
   cases j with
   | zero =>
    simp at v
    subst v
    simpa using h1
   | succ j =>
    have:=h2 j y (by simpa using v)
    have e:z+(j+1)*5=z+5+j*5:=by omega
    rw[e]
    exact this
  ·intro h
   refine⟨?_,fun j y v=>?_⟩
   ·have:=h 0 x (by simp)
    simpa using this
   ·have:=h (j+1) y (by simpa using v)
    have e:z+(j+1)*5=z+5+j*5:=by omega
    rw[e]at this
    exact this
theorem PtAt.first(h:PtAt S W x c):c 0=some (vi x.k):=by
 obtain⟨k,t,n,sl,kids⟩:=x
 rw[PtAt]at h
 exact h.1
theorem PtAt.on(hW:∀g,S g->g<W.heap.size->S' g/\W'.heap[g]?=W.heap[g]?)(x:Pt):∀(c u:Nat->Option Value),(∀i v,c i=some v->u i=some v)->PtAt S W x c->PtAt S' W' x u:=by
 refine d5u (m:=fun x=>∀(c u:Nat->Option Value),(∀i v,c i=some v->u i=some v)->PtAt S W x c->PtAt S' W' x u) (fun k t n sl kids d c u s h=>?_) x
 rw[PtAt]at h⊢
 obtain⟨h0,h1,h2,h3,b,cap,h4,h5,z⟩:=h
 refine⟨s _ _ h0,s _ _ h1,s _ _ h2,s _ _ h3,b,cap,s _ _ h4,h5,?_⟩
 rcases z with z|⟨g,q,e,hs,z⟩
 ·exact .inl z
 ·by_cases hk:kids=[]
  ·exact .inl hk
  ·rw[a9v]at z
   have o:g<W.heap.size:=by
    cases kids with
    | nil=>exact absurd rfl hk
    | cons y l =>
     have:=(z 0 y (by simp)).first
     exact World.block_lt_of_cell? _ _ this
   obtain⟨p,hg⟩:=hW g hs o
   refine .inr ⟨g,q,e,p,?_⟩
   rw[a9v]
   intro j y f
   exact d y (List.mem_of_getElem? f) _ _ (fun i v hv=>(World.cell?_of_block (a:=(Ad g _)) hg).trans hv) (z j y f)
abbrev ptv (x:Pt) (b:Option Addr) (cap:Nat):Value:=.agg #[vi x.k,.string x.t,vi x.n,vi x.sl,.slice b x.kids.length cap]
def PK (S:Nat->Prop) (W:World) (ks:List Pt) (b:Option Addr) (cap:Nat):Prop:=(ks.length<=cap/\cap<=maxLen)/\(ks=[]\/∃g off,b=some (Ad g off)/\S g/\∀j y,ks[j]?=some y->PtAt S W y (fun i=>W.cell? (Ad g (off+j*5+i))))
theorem PtAt.kids(h:PtAt S W x c):c 0=some (vi x.k)/\c 1=some (.string x.t)/\c 2=some (vi x.n)/\c 3=some (vi x.sl)/\∃b cap,c 4=some (.slice b x.kids.length cap)/\PK S W x.kids b cap:=by
 obtain⟨k,t,n,sl,kids⟩:=x
 rw[PtAt]at h
 obtain⟨h0,h1,h2,h3,b,cap,h4,h5,y⟩:=h
 refine⟨h0,h1,h2,h3,b,cap,h4,h5,?_⟩
 rcases y with y|⟨g,z,e,v,y⟩
 ·exact .inl y
 ·exact .inr ⟨g,z,e,v,(a9v S W g kids z).1 y⟩
theorem PK.at(h:PK S W x.kids b cap)(h0:c 0=some (vi x.k))(h1:c 1=some (.string x.t))(h2:c 2=some (vi x.n))(h3:c 3=some (vi x.sl))(h4:c 4=some (.slice b x.kids.length cap)):PtAt S W x c:=by
 obtain⟨k,t,n,sl,kids⟩:=x
 obtain⟨h5,y⟩:=h
 rw[PtAt]
 refine⟨h0,h1,h2,h3,b,cap,h4,h5,?_⟩
 rcases y with y|⟨g,z,e,v,y⟩
 ·exact .inl y
 ·exact .inr ⟨g,z,e,v,(a9v S W g _ z).2 y⟩
theorem PK.on(h:PK S W ks b cap)(hW:∀g,S g->g<W.heap.size->S' g/\W'.heap[g]?=W.heap[g]?):PK S' W' ks b cap:=by
 have e:=PtAt.on hW ⟨0,⟨#[]⟩,0,0,ks⟩ (fun i=>#[vi 0,.string ⟨#[]⟩,vi 0,vi 0,.slice b ks.length cap][i]?) _ (fun _ _ h=>h) (PK.at (x:=⟨0,⟨#[]⟩,0,0,ks⟩) h rfl rfl rfl rfl rfl)
 obtain⟨_,_,_,_,b',cap',h4,h5⟩:=e.kids
 simp at h4
 obtain⟨rfl,rfl⟩:=h4
 exact h5
theorem PK.below(h:PK S W ks b cap)(hb:Bw W W'):PK S W' ks b cap:=h.on fun g y z=>⟨y,hb.block g z⟩
theorem PK.keep(h:PK S W ks b cap)(hk:a0b T W W')(hs:∀g,S g->g<W.heap.size->¬T g):PK S W' ks b cap:=h.on fun g y z=>⟨y,hk.block g z (hs g y z)⟩
theorem PK.weak(h:PK S W ks b cap)(hs:∀g,S g->g<W.heap.size->S' g):PK S' W ks b cap:=h.on fun g y z=>⟨hs g y z,rfl⟩
structure PRow (S:Nat->Prop) (W:World) (v:Value) (ks:List Pt):Prop where
 own:∃xs:List Value,W.ownsRow 0 34 5 v ks.length xs/\(∀b,v.ownBlock=some b->S b)/\∀j y,ks[j]?=some y->PtAt (fun g=>S g/\some g≠v.ownBlock) W y (fun i=>if i<5 then xs[j*5+i]? else none)
theorem PRow.nil(S:Nat->Prop)(W:World):PRow S W (.slice none 0 0) []:=⟨[],World.ownsRow_nil _ _ _ _,fun b h=>by simp[Value.ownBlock]at h,fun j y h=>by simp at h⟩
theorem PRow.form(h:PRow S W v ks):∃b cap,v=.slice b ks.length cap/\∀g,v.ownBlock=some g->S g/\g<W.heap.size:=by
 obtain⟨p,u,y,_⟩:=h.own
 rcases u.2 with⟨rfl,hn⟩|⟨g,cap,q,rfl,o,s,_⟩
 ·exact⟨none,0,by rw[hn],fun g e=>by simp[Value.ownBlock]at e⟩
 ·exact⟨_,cap,rfl,fun z e=>⟨y z e,by
   have:g=z:=by simpa[Value.ownBlock]using e
   subst this
   exact(Array.getElem?_eq_some_iff.1 s).1⟩⟩
theorem PRow.on(h:PRow S W v ks)(hW:∀g,S g->g<W.heap.size->S' g/\W'.heap[g]?=W.heap[g]?):PRow S' W' v ks:=by
 obtain⟨o,q,i,hn⟩:=h.own
 rcases q.2 with⟨rfl,h0⟩|⟨g,cap,p,rfl,u,n,hr⟩
 ·exact⟨o,⟨q.1,.inl ⟨rfl,h0⟩⟩,fun b e=>by simp[Value.ownBlock]at e,fun j y s=>PtAt.on (fun g u z=>⟨⟨(hW g u.1 z).1,u.2⟩,(hW g u.1 z).2⟩) y _ _ (fun _ _ h=>h) (hn j y s)⟩
 ·have z:=(Array.getElem?_eq_some_iff.1 n).1
  have m:=hW g (i g rfl) z
  exact⟨o,⟨q.1,.inr ⟨g,cap,p,rfl,u,m.2.trans n,hr⟩⟩,fun b e=>by
   have:g=b:=by simpa[Value.ownBlock]using e
   subst this;exact m.1,fun j y s=>PtAt.on (fun g u z=>⟨⟨(hW g u.1 z).1,u.2⟩,(hW g u.1 z).2⟩) y _ _ (fun _ _ h=>h) (hn j y s)⟩
theorem PRow.below(h:PRow S W v ks)(hb:Bw W W'):PRow S W' v ks:=h.on fun g y z=>⟨y,hb.block g z⟩
theorem PRow.keep(h:PRow S W v ks)(hk:a0b T W W')(hs:∀g,S g->g<W.heap.size->¬T g):PRow S W' v ks:=h.on fun g y z=>⟨y,hk.block g z (hs g y z)⟩
theorem PRow.weak(h:PRow S W v ks)(hs:∀g,S g->g<W.heap.size->S' g):PRow S' W v ks:=h.on fun g y z=>⟨hs g y z,rfl⟩
theorem PRow.pk(h:PRow S W v ks):∃b cap,v=.slice b ks.length cap/\PK S W ks b cap:=by
 obtain⟨a,m,n,hn⟩:=h.own
 rcases m.2 with⟨rfl,h0⟩|⟨g,cap,s,rfl,p,f,h1,h2,h3,h4⟩
 ·obtain rfl:=List.length_eq_zero_iff.1 h0
  exact⟨none,0,rfl,⟨Nat.le_refl _,by unfold maxLen;omega⟩,.inl rfl⟩
 ·refine⟨_,cap,rfl,⟨h1,h2⟩,.inr ⟨g,0,rfl,n g rfl,fun j y o=>?_⟩⟩
  refine PtAt.on (fun g p _=>⟨p.1,rfl⟩) y _ _ (fun i u z=>?_) (hn j y o)
  split at z
  ·rename_i hi
   have d:s.toList[j*5+i]?=some u:=by
    rw[<- h4]at z
    rw[List.getElem?_take]at z
    split at z
    ·exact z
    ·cases z
   have q:s[j*5+i]?=some u:=by simpa using d
   simp[World.cell?,f,q]
  ·cases z
theorem PRow.snoc{y:Pt}{bk:Option Addr}{ck:Nat}{xs:List Value}(ho:W.ownsRow 0 34 5 v ks.length xs)(hs:∀b,v.ownBlock=some b->S b)(hn:∀j y,ks[j]?=some y->PtAt (fun g=>S g/\some g≠v.ownBlock) W y (fun i=>if i<5 then xs[j*5+i]? else none))(hy:PK (fun g=>S g/\some g≠v.ownBlock) W y.kids bk ck){g:Nat}(ho':W'.ownsRow 0 34 5 (.slice (some (Ad g 0)) (ks.length+1) cap) (ks.length+1) (xs++[vi y.k,.string y.t,vi y.n,vi y.sl,.slice bk y.kids.length ck]))(hg:W.grownBy W' v.ownBlock)(hat:v.ownBlock=some g\/g=W.heap.size)(hS:∀g,W.heap.size<=g->S g) :
  PRow S W' (.slice (some (Ad g 0)) (ks.length+1) cap) (ks++[y]):=by
 have hl:xs.length=ks.length*5:=ho.1
 have s:∀q,(S q/\some q≠v.ownBlock)->q<W.heap.size->(S q/\some q≠Value.ownBlock (.slice (some (Ad g 0)) (ks.length+1) cap))/\W'.heap[q]?=W.heap[q]?:=fun q hq m=>by
  refine⟨⟨hq.1,?_⟩,hg.block q m hq.2⟩
  rcases hat with e|e
  ·rw[e]at hq;exact hq.2
  ·intro e2
   have a:q=g:=by simpa[Value.ownBlock]using e2
   omega
 refine⟨xs++[vi y.k,.string y.t,vi y.n,vi y.sl,.slice bk y.kids.length ck],by rw[List.length_append];exact ho',fun q e=>?_,fun j z p=>?_⟩
 ·have a:g=q:=by simpa[Value.ownBlock]using e
  subst a
  rcases hat with e|e
  ·exact hs g e
  ·exact hS g (by omega)
 rcases Nat.lt_or_ge j ks.length with d|d
 ·rw[List.getElem?_append_left d]at p
  refine PtAt.on s z _ _ (fun i u o=>?_) (hn j z p)
  split at o
  ·rename_i f
   rw[if_pos f,List.getElem?_append_left (by omega)]
   exact o
  ·cases o
 ·have h:j=ks.length:=by
   have:=(List.getElem?_eq_some_iff.1 p).1
   simp at this
   omega
  subst h
  rw[List.getElem?_append_right (Nat.le_refl _)]at p
  simp at p
  subst p
  have key:∀i u,(#[vi y.k,.string y.t,vi y.n,vi y.sl,.slice bk y.kids.length ck]:Array Value)[i]?=some u->(if i<5 then (xs++[vi y.k,.string y.t,vi y.n,vi y.sl,.slice bk y.kids.length ck])[ks.length*5+i]? else none)=some u:=fun i u o=>by
   have f:i<5:=by
    have:=(Array.getElem?_eq_some_iff.1 o).1
    simpa using this
   rw[if_pos f,List.getElem?_append_right (by omega)]
   have:ks.length*5+i-xs.length=i:=by omega
   rw[this]
   simpa using o
  exact PtAt.on s y _ _ key (PK.at (c:=fun i=>(#[vi y.k,.string y.t,vi y.n,vi y.sl,.slice bk y.kids.length ck]:Array Value)[i]?) hy rfl rfl rfl rfl rfl)
end Go.Proofs.YtfbpdbndejefdaaGreatDoor.V
