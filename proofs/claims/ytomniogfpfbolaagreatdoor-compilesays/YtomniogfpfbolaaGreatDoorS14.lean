import Derived.Test.YtomniogfpfbolaaGreatDoorS03
import Derived.Test.YtomniogfpfbolaaGreatDoorS12
namespace Go.Proofs.YtomniogfpfbolaaGreatDoor.V
open Go Go.RowKit
set_option maxRecDepth 100000
set_option maxHeartbeats 8000000
set_option linter.all false
variable {S S' T:Nat->Prop} {x:Pt} {W':World} {b:Option Addr} {cap j a i:Nat} {ks ps:List Pt} {v:Value} {k o:Int} {t s:List UInt8} {l:List Nd} {fs:List (List UInt8)} {fx:Bool} {sl:List Int}
theorem d4o{m:Pt->Prop}(h:∀k t n sl kids,(∀x∈kids,m x)->m ⟨k,t,n,sl,kids⟩)(x:Pt):m x:=by
 exact Pt.rec (motive_1:=m) (motive_2:=fun l=>∀x∈l,m x) (fun k t n sl kids y=>h k t n sl kids y) (fun x z=>by simp at z) (fun a l v w x z=>by
  simp at z
  rcases z with rfl|z
  ·exact v
  ·exact w x z) x
def PtAt (S:Nat->Prop) (W:World):Pt->(Nat->Option Value)->Prop
 | ⟨k,t,n,sl,kids⟩,c=>c 0=some (vi k)/\c 1=some (.string t)/\c 2=some (vi n)/\c 3=some (vi sl) /\
   ∃b cap,c 4=some (.slice b kids.length cap)/\(kids.length<=cap/\cap<=maxLen)/\(kids=[]\/∃g off,b=some (Ad g off)/\S g/\go g off kids)
where go (g:Nat):Nat->List Pt->Prop
 | _,[]=>True
 | off,x::l=>PtAt S W x (fun i=>W.cell? (Ad g (off+i)))/\go g (off+5) l
theorem a9v(S:Nat->Prop)(W:World)(g:Nat):∀(l:List Pt) (z:Nat),PtAt.go S W g z l↔∀j x,l[j]?=some x->PtAt S W x (fun i=>W.cell? (Ad g (z+j*5+i)))
 | [],z=>by simp[PtAt.go]
 | x::l,z=>by
  rw[PtAt.go,a9v S W g l (z+5)]
  constructor
  ·rintro⟨h1,h2⟩ j y w
   cases j with
   | zero =>
    simp at w
    subst w
    simpa using h1
   | succ j =>
    have:=h2 j y (by simpa using w)
    have e:z+(j+1)*5=z+5+j*5:=by omega
    rw[e]
    exact this
  ·intro h
   refine⟨?_,fun j y w=>?_⟩
   ·have:=h 0 x (by simp)
    simpa using this
   ·have:=h (j+1) y (by simpa using w)
    have e:z+(j+1)*5=z+5+j*5:=by omega
    rw[e]at this
    exact this
theorem PtAt.first{W:World}{c:Nat->Option Value}(h:PtAt S W x c):c 0=some (vi x.k):=by
 obtain⟨k,t,n,sl,kids⟩:=x
 rw[PtAt]at h
 exact h.1
theorem PtAt.on{W:World}(hW:∀g,S g->g<W.heap.size->S' g/\W'.heap[g]?=W.heap[g]?)(x:Pt):∀(c w:Nat->Option Value),(∀i v,c i=some v->w i=some v)->PtAt S W x c->PtAt S' W' x w:=by
 refine d4o (m:=fun x=>∀(c w:Nat->Option Value),(∀i v,c i=some v->w i=some v)->PtAt S W x c->PtAt S' W' x w) (fun k t n sl kids o c w u h=>?_) x
 rw[PtAt]at h⊢
 obtain⟨h0,h1,h2,h3,b,cap,h4,h5,z⟩:=h
 refine⟨u _ _ h0,u _ _ h1,u _ _ h2,u _ _ h3,b,cap,u _ _ h4,h5,?_⟩
 rcases z with z|⟨g,s,e,d,z⟩
 ·exact .inl z
 ·by_cases hk:kids=[]
  ·exact .inl hk
  ·rw[a9v]at z
   have q:g<W.heap.size:=by
    cases kids with
    | nil=>exact absurd rfl hk
    | cons y l =>
     have:=(z 0 y (by simp)).first
     exact World.block_lt_of_cell? _ _ this
   obtain⟨r,hg⟩:=hW g d q
   refine .inr ⟨g,s,e,r,?_⟩
   rw[a9v]
   intro j y p
   exact o y (List.mem_of_getElem? p) _ _ (fun i v f=>(World.cell?_of_block (a:=(Ad g _)) hg).trans f) (z j y p)
abbrev ptv (x:Pt) (b:Option Addr) (cap:Nat):Value:=.agg #[vi x.k,.string x.t,vi x.n,vi x.sl,.slice b x.kids.length cap]
def PK (S:Nat->Prop) (W:World) (ks:List Pt) (b:Option Addr) (cap:Nat):Prop:=(ks.length<=cap/\cap<=maxLen)/\(ks=[]\/∃g off,b=some (Ad g off)/\S g/\∀j y,ks[j]?=some y->PtAt S W y (fun i=>W.cell? (Ad g (off+j*5+i))))
theorem PtAt.kids{W:World}{c:Nat->Option Value}(h:PtAt S W x c):c 0=some (vi x.k)/\c 1=some (.string x.t)/\c 2=some (vi x.n)/\c 3=some (vi x.sl)/\∃b cap,c 4=some (.slice b x.kids.length cap)/\PK S W x.kids b cap:=by
 obtain⟨k,t,n,sl,kids⟩:=x
 rw[PtAt]at h
 obtain⟨v,h1,h2,h3,b,cap,h4,h5,y⟩:=h
 refine⟨v,h1,h2,h3,b,cap,h4,h5,?_⟩
 rcases y with y|⟨g,z,e,w,y⟩
 ·exact .inl y
 ·exact .inr ⟨g,z,e,w,(a9v S W g kids z).1 y⟩
theorem PK.at{W:World}{c:Nat->Option Value}(h:PK S W x.kids b cap)(h0:c 0=some (vi x.k))(h1:c 1=some (.string x.t))(h2:c 2=some (vi x.n))(h3:c 3=some (vi x.sl))(h4:c 4=some (.slice b x.kids.length cap)):PtAt S W x c:=by
 obtain⟨k,t,n,sl,kids⟩:=x
 obtain⟨h5,y⟩:=h
 rw[PtAt]
 refine⟨h0,h1,h2,h3,b,cap,h4,h5,?_⟩
 rcases y with y|⟨g,z,e,w,y⟩
 ·exact .inl y
 ·exact .inr ⟨g,z,e,w,(a9v S W g _ z).2 y⟩
theorem PK.on{W:World}(h:PK S W ks b cap)(hW:∀g,S g->g<W.heap.size->S' g/\W'.heap[g]?=W.heap[g]?):PK S' W' ks b cap:=by
 have e:=PtAt.on hW ⟨0,⟨#[]⟩,0,0,ks⟩ (fun i=>#[vi 0,.string ⟨#[]⟩,vi 0,vi 0,.slice b ks.length cap][i]?) _ (fun _ _ h=>h) (PK.at (x:=⟨0,⟨#[]⟩,0,0,ks⟩) h rfl rfl rfl rfl rfl)
 obtain⟨_,_,_,_,b',cap',h4,h5⟩:=e.kids
 simp at h4
 obtain⟨rfl,rfl⟩:=h4
 exact h5
theorem PK.below{W:World}(h:PK S W ks b cap)(hb:Bw W W'):PK S W' ks b cap:=h.on fun g y z=>⟨y,hb.block g z⟩
theorem PK.keep{W:World}(h:PK S W ks b cap)(hk:a0b T W W')(hs:∀g,S g->g<W.heap.size->¬T g):PK S W' ks b cap:=h.on fun g y z=>⟨y,hk.block g z (hs g y z)⟩
theorem PK.weak{W:World}(h:PK S W ks b cap)(hs:∀g,S g->g<W.heap.size->S' g):PK S' W ks b cap:=h.on fun g y z=>⟨hs g y z,rfl⟩
structure PRow (S:Nat->Prop) (W:World) (v:Value) (ks:List Pt):Prop where
 own:∃xs:List Value,W.ownsRow 0 47 5 v ks.length xs/\(∀b,v.ownBlock=some b->S b)/\∀j y,ks[j]?=some y->PtAt (fun g=>S g/\some g≠v.ownBlock) W y (fun i=>if i<5 then xs[j*5+i]? else none)
theorem PRow.nil(S:Nat->Prop)(W:World):PRow S W (.slice none 0 0) []:=⟨[],World.ownsRow_nil _ _ _ _,fun b h=>by simp[Value.ownBlock]at h,fun j y h=>by simp at h⟩
theorem PRow.form{W:World}(h:PRow S W v ks):∃b cap,v=.slice b ks.length cap/\∀g,v.ownBlock=some g->S g/\g<W.heap.size:=by
 obtain⟨t,x,y,_⟩:=h.own
 rcases x.2 with⟨rfl,hn⟩|⟨g,cap,u,rfl,s,w,_⟩
 ·exact⟨none,0,by rw[hn],fun g e=>by simp[Value.ownBlock]at e⟩
 ·exact⟨_,cap,rfl,fun z e=>⟨y z e,by
   have:g=z:=by simpa[Value.ownBlock]using e
   subst this
   exact(Array.getElem?_eq_some_iff.1 w).1⟩⟩
theorem PRow.on{W:World}(h:PRow S W v ks)(hW:∀g,S g->g<W.heap.size->S' g/\W'.heap[g]?=W.heap[g]?):PRow S' W' v ks:=by
 obtain⟨s,u,p,hn⟩:=h.own
 rcases u.2 with⟨rfl,n⟩|⟨g,cap,t,rfl,x,r,o⟩
 ·exact⟨s,⟨u.1,.inl ⟨rfl,n⟩⟩,fun b e=>by simp[Value.ownBlock]at e,fun j y w=>PtAt.on (fun g x z=>⟨⟨(hW g x.1 z).1,x.2⟩,(hW g x.1 z).2⟩) y _ _ (fun _ _ h=>h) (hn j y w)⟩
 ·have z:=(Array.getElem?_eq_some_iff.1 r).1
  have q:=hW g (p g rfl) z
  exact⟨s,⟨u.1,.inr ⟨g,cap,t,rfl,x,q.2.trans r,o⟩⟩,fun b e=>by
   have:g=b:=by simpa[Value.ownBlock]using e
   subst this;exact q.1,fun j y w=>PtAt.on (fun g x z=>⟨⟨(hW g x.1 z).1,x.2⟩,(hW g x.1 z).2⟩) y _ _ (fun _ _ h=>h) (hn j y w)⟩
theorem PRow.below{W:World}(h:PRow S W v ks)(hb:Bw W W'):PRow S W' v ks:=h.on fun g y z=>⟨y,hb.block g z⟩
theorem PRow.keep{W:World}(h:PRow S W v ks)(hk:a0b T W W')(hs:∀g,S g->g<W.heap.size->¬T g):PRow S W' v ks:=h.on fun g y z=>⟨y,hk.block g z (hs g y z)⟩
theorem PRow.weak{W:World}(h:PRow S W v ks)(hs:∀g,S g->g<W.heap.size->S' g):PRow S' W v ks:=h.on fun g y z=>⟨hs g y z,rfl⟩
theorem PRow.pk{W:World}(h:PRow S W v ks):∃b cap,v=.slice b ks.length cap/\PK S W ks b cap:=by
 obtain⟨l,q,r,hn⟩:=h.own
 rcases q.2 with⟨rfl,n⟩|⟨g,cap,x,rfl,t,p,h1,h2,h3,h4⟩
 ·obtain rfl:=List.length_eq_zero_iff.1 n
  exact⟨none,0,rfl,⟨Nat.le_refl _,by unfold maxLen;omega⟩,.inl rfl⟩
 ·refine⟨_,cap,rfl,⟨h1,h2⟩,.inr ⟨g,0,rfl,r g rfl,fun j y s=>?_⟩⟩
  refine PtAt.on (fun g t _=>⟨t.1,rfl⟩) y _ _ (fun i u z=>?_) (hn j y s)
  split at z
  ·rename_i hi
   have o:x.toList[j*5+i]?=some u:=by
    rw[<- h4]at z
    rw[List.getElem?_take]at z
    split at z
    ·exact z
    ·cases z
   have w:x[j*5+i]?=some u:=by simpa using o
   simp[World.cell?,p,w]
  ·cases z
theorem PRow.snoc{W:World}{y:Pt}{bk:Option Addr}{ck:Nat}{xs:List Value}(ho:W.ownsRow 0 47 5 v ks.length xs)(hs:∀b,v.ownBlock=some b->S b)(hn:∀j y,ks[j]?=some y->PtAt (fun g=>S g/\some g≠v.ownBlock) W y (fun i=>if i<5 then xs[j*5+i]? else none))(hy:PK (fun g=>S g/\some g≠v.ownBlock) W y.kids bk ck){g:Nat}(ho':W'.ownsRow 0 47 5 (.slice (some (Ad g 0)) (ks.length+1) cap) (ks.length+1) (xs++[vi y.k,.string y.t,vi y.n,vi y.sl,.slice bk y.kids.length ck]))(hg:W.grownBy W' v.ownBlock)(hat:v.ownBlock=some g\/g=W.heap.size)(hS:∀g,W.heap.size<=g->S g) :
  PRow S W' (.slice (some (Ad g 0)) (ks.length+1) cap) (ks++[y]):=by
 have d:xs.length=ks.length*5:=ho.1
 have x:∀q,(S q/\some q≠v.ownBlock)->q<W.heap.size->(S q/\some q≠Value.ownBlock (.slice (some (Ad g 0)) (ks.length+1) cap))/\W'.heap[q]?=W.heap[q]?:=fun q hq r=>by
  refine⟨⟨hq.1,?_⟩,hg.block q r hq.2⟩
  rcases hat with e|e
  ·rw[e]at hq;exact hq.2
  ·intro f
   have h:q=g:=by simpa[Value.ownBlock]using f
   omega
 refine⟨xs++[vi y.k,.string y.t,vi y.n,vi y.sl,.slice bk y.kids.length ck],by rw[List.length_append];exact ho',fun q e=>?_,fun j z w=>?_⟩
 ·have h:g=q:=by simpa[Value.ownBlock]using e
  subst h
  rcases hat with e|e
  ·exact hs g e
  ·exact hS g (by omega)
 rcases Nat.lt_or_ge j ks.length with l|l
 ·rw[List.getElem?_append_left l]at w
  refine PtAt.on x z _ _ (fun i u s=>?_) (hn j z w)
  split at s
  ·rename_i o
   rw[if_pos o,List.getElem?_append_left (by omega)]
   exact s
  ·cases s
 ·have p:j=ks.length:=by
   have:=(List.getElem?_eq_some_iff.1 w).1
   simp at this
   omega
  subst p
  rw[List.getElem?_append_right (Nat.le_refl _)]at w
  simp at w
  subst w
  have key:∀i u,(#[vi y.k,.string y.t,vi y.n,vi y.sl,.slice bk y.kids.length ck]:Array Value)[i]?=some u->(if i<5 then (xs++[vi y.k,.string y.t,vi y.n,vi y.sl,.slice bk y.kids.length ck])[ks.length*5+i]? else none)=some u:=fun i u s=>by
   have o:i<5:=by
    have:=(Array.getElem?_eq_some_iff.1 s).1
    simpa using this
   rw[if_pos o,List.getElem?_append_right (by omega)]
   have:ks.length*5+i-xs.length=i:=by omega
   rw[this]
   simpa using s
  exact PtAt.on x y _ _ key (PK.at (c:=fun i=>(#[vi y.k,.string y.t,vi y.n,vi y.sl,.slice bk y.kids.length ck]:Array Value)[i]?) hy rfl rfl rfl rfl rfl)
def layN:Nd->List Int->Pt×List Int
 | ⟨k,t,n,kids⟩,sl=>(⟨k,⟨t.toArray⟩,n,sl.headD 0,(go kids sl.tail).1⟩,(go kids sl.tail).2)
where go:List Nd->List Int->List Pt×List Int
 | [],sl=>([],sl)
 | x::l,sl=>((layN x sl).1::(go l (layN x sl).2).1,(go l (layN x sl).2).2)
def Wf (nf:Nat):Pt->Prop
 | ⟨k,t,n,sl,kids⟩=>a0r k kids.length/\(k=14->t.size<=300)/\(k=13->0<=n/\n<=9223372036854775807)/\(k=18->0<=sl/\sl<30+nf)/\(k=3\/k=5\/k=10->0<=sl/\sl<30)/\(k=6->∃x,kids[0]?=some x/\(x.k=20\/(x.k=18/\x.sl<30)))/\(k=21->kids.length<=6)/\(k=22->1<=n/\n<=21)/\go k kids.length 0 kids
where go (k:Int) (len:Nat):Nat->List Pt->Prop
 | _,[]=>True
 | i,x::l=>a0w k len i x.k/\Wf nf x/\go k len (i+1) l
theorem d0w(nf:Nat)(k:Int)(len:Nat):∀(l:List Pt) (i:Nat),Wf.go nf k len i l↔∀j x,l[j]?=some x->a0w k len (i+j) x.k/\Wf nf x
 | [],i=>by simp[Wf.go]
 | x::l,i=>by
  rw[Wf.go,d0w nf k len l (i+1)]
  constructor
  ·rintro⟨h1,h2,h3⟩ j y z
   cases j with
   | zero=>simp at z;subst z;exact⟨h1,h2⟩
   | succ j=>have:=h3 j y (by simpa using z);rw[show i+(j+1)=i+1+j by omega];exact this
  ·intro h
   refine⟨?_,?_,fun j y z=>?_⟩
   ·have:=(h 0 x (by simp)).1;simpa using this
   ·exact(h 0 x (by simp)).2
   ·have:=h (j+1) y (by simpa using z)
    rw[show i+(j+1)=i+1+j by omega]at this
    exact this
theorem a3b{n:Int}{ks:List Nd}(h:isN ⟨k,t,n,ks⟩){x:Nd}(hx:ks[j]?=some x):a0w k ks.length j x.k/\isN x:=by
 rw[isN]at h
 obtain⟨_,_,_,_,_,_,_,_,h⟩:=h
 have:=(a5f _ _ _ _).1 h j x hx
 simpa using this
theorem a7h{n:Int}{ks:List Nd}(h:isN ⟨k,t,n,ks⟩){x:Nd}(hx:x∈ks):isN x:=by
 obtain⟨j,z⟩:=List.getElem?_of_mem hx
 exact(a3b h z).2
theorem c9t(fs:List (List UInt8))(n:Nd):∀c z,isN n->a1i n.k->visC fs false n c=.ok z->z.bl=c.bl:=by
 refine a3x (m:=fun n=>∀c z,isN n->a1i n.k->visC fs false n c=.ok z->z.bl=c.bl) (fun k t o ks r c z e i h=>?_) n
 have p:13<=k:=i.1
 rw[a3u _ _ _ _ _ _ (by omega) (by omega)]at h
 obtain⟨d,h1,h2⟩:=a0y h
 have key:∀(l:List Nd) (c d:Cs),(∀x∈l,x∈ks)->allC fs l c=.ok d->d.bl=c.bl:=by
  intro l
  induction l with
  | nil=>intro c d _ h;cases h;rfl
  | cons x l ih2 =>
   intro c d v h
   rw[allC]at h
   obtain⟨c1,h1,h2⟩:=a0y h
   rw[ih2 c1 d (fun y q=>v y (List.mem_cons_of_mem _ q)) h2]
   have w:=v x (by simp)
   obtain⟨j,g⟩:=List.getElem?_of_mem w
   obtain⟨q1,s⟩:=a3b e g
   have u:a1i x.k:=by
    unfold a0w at q1
    rw[if_neg (by omega),if_neg (by omega),if_neg (by omega),if_neg (by omega),if_neg (by omega)]at q1
    exact q1
   exact r x w c c1 s u h1
 have hd:=key ks c.enter d (fun _ h=>h) h1
 have f:d.bl=c.bl:=hd
 rw[<- f]
 unfold actC at h2
 rw[if_neg (by omega)]at h2
 split at h2
 ·exact(a6o h2).2
 ·rw[if_neg (by omega)]at h2
  split at h2
  ·split at h2
   ·cases h2
   ·cases h2;rfl
  ·cases h2;rfl
structure LQ (fs:List (List UInt8)) (n:Nd) (c c':Cs) (ext:List Int) (p:Pt):Prop where
 sl:c'.sl=c.sl++ext
 la:∀rest,layN n (ext++rest)=(p,rest)
 wf:Wf fs.length p
 k:p.k=n.k
 nm:n.k=18->∀q,findL n.t c.bl=some q->p.sl<30
structure AQ (fs:List (List UInt8)) (l:List Nd) (c c':Cs) (ext:List Int) (ps:List Pt):Prop where
 sl:c'.sl=c.sl++ext
 la:∀rest,layN.go l (ext++rest)=(ps,rest)
 wf:∀q∈ps,Wf fs.length q
 k:ps.map Pt.k=l.map Nd.k
 hd:∀x l',l=x::l'->x.k=18->∀q,findL x.t c.bl=some q->∃p ps',ps=p::ps'/\p.sl<30
def LP (fs:List (List UInt8)) (n:Nd):Prop:=∀c c',isN n->Lv c->c.bl≠[]->(visC fs false n c=.ok c'\/(n.k=4/\visC fs true n c=.ok c'))->∃ext p,LQ fs n c c' ext p
theorem a6d{c c':Cs}(h:Kp c c')(hc:c.bl≠[]):c'.bl≠[]:=fun e=>hc (List.length_eq_zero_iff.1 (by rw[<- h.len,e];rfl))
theorem a9w(fs:List (List UInt8)):∀(l:List Nd) (c z:Cs),(∀x∈l,LP fs x)->(∀x∈l,isN x)->Lv c->c.bl≠[]->allC fs l c=.ok z->∃t v,AQ fs l c z t v
 | [],c,z,_,_,_,_,h=>by
  cases h
  exact⟨[],[],by simp,fun rest=>rfl,by simp,rfl,fun x s e=>by cases e⟩
 | x::l,c,z,hP,hN,hl,hb,h=>by
  rw[allC]at h
  obtain⟨d,h1,h2⟩:=a0y h
  obtain⟨i,p,q1⟩:=hP x (by simp) c d (hN x (by simp)) hl hb (.inl h1)
  have k1:=a2g fs x false c d h1
  obtain⟨n,v,w⟩:=a9w fs l d z (fun y u=>hP y (List.mem_cons_of_mem _ u)) (fun y u=>hN y (List.mem_cons_of_mem _ u)) (a8w fs x false c d h1 hl) (a6d k1 hb) h2
  refine⟨i++n,p::v,by rw[w.sl,q1.sl,List.append_assoc],fun rest=>?_,fun q hq=>?_,?_,fun y s o r q hq=>?_⟩
  ·rw[layN.go,List.append_assoc,q1.la,w.la]
  ·rcases List.mem_cons.1 hq with rfl|hq
   ·exact q1.wf
   ·exact w.wf q hq
  ·simp[q1.k,w.k]
  ·cases o
   exact⟨p,v,rfl,q1.nm r q hq⟩
theorem c1z(a:List Int)(x v:Int)(e:List Int):(a++x::e).set a.length v=a++v::e:=by
 induction a with
 | nil=>rfl
 | cons y a ih=>simp[ih]
theorem c2a(h:ps.map Pt.k=l.map Nd.k):ps.length=l.length:=by
 have:=congrArg List.length h
 simpa using this
theorem d0x(h:ps.map Pt.k=l.map Nd.k){q:Pt}(hq:ps[j]?=some q):∃x,l[j]?=some x/\x.k=q.k:=by
 have h1:(ps.map Pt.k)[j]?=some q.k:=by rw[List.getElem?_map,hq];rfl
 rw[h,List.getElem?_map]at h1
 obtain⟨x,h2,h3⟩:=Option.map_eq_some_iff.1 h1
 exact⟨x,h2,h3⟩
theorem b3j{ks:List Nd}{z:List Pt}{v:Int}(hN:isN ⟨k,t,o,ks⟩)(hk:z.map Pt.k=ks.map Nd.k)(hw:∀q∈z,Wf fs.length q)(h18:k=18->0<=v/\v<30+fs.length)(h5:k=3\/k=5\/k=10->0<=v/\v<30)(h6:k=6->∃x,z[0]?=some x/\(x.k=20\/(x.k=18/\x.sl<30)))(h21:k=21->ks.length<=6):Wf fs.length ⟨k,⟨t.toArray⟩,o,v,z⟩:=by
 have u:=c2a hk
 have s:=hN
 rw[isN]at hN
 obtain⟨l,c,d,⟨n,r⟩,p,f,g,h,i⟩:=hN
 rw[Wf]
 refine⟨by rw[u];exact l,fun e=>?_,p,h18,h5,h6,fun e=>by rw[u];exact h21 e,fun e=>?_,?_⟩
 ·have:=r e
  simp[c1e]at this
  simpa[ByteArray.size]using this.2
 ·have:=n e
  unfold opOf at this
  simp only[Option.isSome_map]at this
  rw[List.find?_isSome]at this
  obtain⟨x,y,w⟩:=this
  simp[opsL]at y
  simp at w
  rcases y with rfl|rfl|rfl|rfl|rfl|rfl|rfl|rfl|rfl|rfl|rfl <;> simp at w <;> omega
 ·rw[d0w]
  intro j q hq
  obtain⟨x,y,w⟩:=d0x hk hq
  have:=a3b s y
  rw[u,Nat.zero_add,<- w]
  exact⟨this.1,hw q (List.mem_of_getElem? hq)⟩
theorem b1d{c c':Cs}(h:declareC s fx a c=.ok c')(hb:c.bl≠[]):c'.sl=c.sl.set a c.live/\c.live<30:=by
 unfold declareC at h
 split at h
 ·rename_i e;exact absurd e hb
 ·split at h
  ·cases h
  ·split at h
   ·cases h
   ·rename_i hl
    cases h
    exact⟨rfl,by omega⟩
theorem c2b{s:List UInt8} : ∀{bl:List (List Lc)} {q:Nat×Bool},findL s bl=some q->q.1<sumL bl
 | [],q,h=>by simp[findL]at h
 | b::r,q,h=>by
  rw[findL]at h
  split at h
  ·rename_i i hi
   cases h
   rw[List.findIdx?_eq_some_iff_getElem]at hi
   have:=hi.1
   rw[a0l]
   show sumL r+i<_
   omega
  ·have:=c2b h
   rw[a0l]
   omega
theorem d0y{c c':Cs}(h:a4a fs s a c=.ok c')(hl:Lv c):∃v:Int,c'.sl=c.sl.set a v/\0<=v/\v<30+fs.length/\∀q,findL s c.bl=some q->v<30:=by
 unfold a4a at h
 have z:sumL c.bl<=30:=hl
 split at h
 ·rename_i p hp
  cases h
  have:=c2b hp
  exact⟨p.1,rfl,by omega,by omega,fun q hq=>by omega⟩
 ·rename_i hn
  split at h
  ·rename_i j hj
   cases h
   have y:j<fs.length:=by
    unfold funI at hj
    rw[List.findIdx?_eq_some_iff_getElem]at hj
    exact hj.1
   exact⟨30+j,rfl,by omega,by omega,fun q hq=>by rw[hn]at hq;cases hq⟩
  ·cases h
theorem c2c(fs:List (List UInt8))(n:Nd):LP fs n:=by
 refine a3x (m:=LP fs) (fun k t o ks ih c c' s hl hb h=>?_) n
 have i:Lv c.enter:=hl
 have hP:∀x∈ks,LP fs x:=ih
 have f:∀x∈ks,isN x:=fun x hx=>a7h s hx
 -- a block
 have blk:∀c c',k=4->Lv c->c.bl≠[]->visC fs true ⟨k,t,o,ks⟩ c=.ok c'->∃u p,LQ fs ⟨k,t,o,ks⟩ c c' u p:=fun c c' e hl hb h=>by
  subst e
  rw[c1y]at h
  obtain⟨u,ps,q⟩:=a9w fs ks c.enter c' hP f hl hb h
  refine⟨-1::u,⟨4,⟨t.toArray⟩,o,-1,ps⟩,?_,fun rest=>?_,b3j s q.k q.wf (fun e=>by omega) (fun e=>by omega) (fun e=>by omega) (fun e=>by omega),rfl,fun e=>by simp at e⟩
  ·rw[q.sl];simp[Cs.enter]
  ·rw[layN]
   simp only[List.cons_append,List.headD_cons,List.tail_cons]
   rw[q.la]
 by_cases e4:k=4
 ·rcases h with h|⟨_,h⟩
  ·subst e4
   rw[a7p]at h
   obtain⟨d,h1,h2⟩:=a4e h
   subst h2
   obtain⟨u,p,q⟩:=blk c.begin d rfl (by unfold Lv Cs.live Cs.begin at *;simpa[a0l]using hl) (by simp[Cs.begin]) h1
   exact⟨u,p,q.sl,q.la,q.wf,q.k,fun e=>by simp at e⟩
  ·exact blk c c' e4 hl hb h
 have h:visC fs false ⟨k,t,o,ks⟩ c=.ok c':=by
  rcases h with h|⟨e,_⟩
  ·exact h
  ·exact absurd e e4
 by_cases e10:k=10
 ·subst e10
  have h3:ks.length=3:=by
   rw[isN]at s
   obtain⟨a1,_⟩:=s
   unfold a0r at a1
   omega
  match ks,h3 with
  | [x,y,z],_ =>
   rw[b5t]at h
   obtain⟨d,h1,h2⟩:=a0y h
   obtain⟨e,h3,h4⟩:=a0y h2
   obtain⟨g,h5,h6⟩:=a4e h4
   subst h6
   obtain⟨u,ps,q⟩:=a9w fs [x,y] c.enter d (fun w hw=>hP w (by simp at hw⊢;rcases hw with rfl|rfl <;> simp)) (fun w hw=>f w (by simp at hw⊢;rcases hw with rfl|rfl <;> simp)) i hb h1
   have kd:=a2h fs _ _ _ h1
   have ld:=a4q fs _ _ _ h1 i
   obtain⟨s1,s2⟩:=b1d h3 (by simp[Cs.begin])
   have hz:z.k=4:=by
    have:=(a3b s (j:=2) (x:=z) rfl).1
    simpa[a0w]using this
   have lb:Lv d.begin:=by unfold Lv Cs.live Cs.begin at *;simpa[a0l]using ld
   obtain⟨ez,pz,qz⟩:=hP z (by simp) e g (f z (by simp)) (Lv.declare h3 lb) (a6d (Kp.declare h3) (by simp[Cs.begin])) (.inr ⟨hz,h5⟩)
   have z8:e.sl=c.sl++(d.begin.live:Int)::u:=by
    rw[s1]
    show d.sl.set _ _=_
    rw[q.sl]
    show(c.sl++[-1]++u).set _ _=_
    rw[List.append_assoc]
    exact c1z c.sl _ _ _
   refine⟨(d.begin.live:Int)::u++ez,⟨10,⟨t.toArray⟩,o,d.begin.live,ps++[pz]⟩,?_,fun rest=>?_,b3j s ?_ ?_ (fun e=>by omega) (fun _=>by omega) (fun e=>by omega) (fun e=>by omega),rfl,fun e=>by simp at e⟩
   ·show g.sl=_
    rw[qz.sl,z8];simp
   ·rw[layN]
    simp only[List.cons_append,List.headD_cons,List.tail_cons]
    have h2:=q.la (ez++rest)
    have h3:=qz.la rest
    simp only[layN.go]at h2⊢
    rw[List.append_assoc]
    simp only[Prod.mk.injEq]at h2
    obtain⟨u1,u2⟩:=h2
    rw[u2,h3,<- u1]
    simp
   ·have:=q.k
    have h4:=qz.k
    simp at this⊢
    rw[this]
    simp[h4]
   ·intro q' z7
    rcases List.mem_append.1 z7 with h|h
    ·exact q.wf _ h
    ·simp at h;subst h;exact qz.wf
 rw[a3u _ _ _ _ _ _ e4 e10]at h
 obtain⟨d,h1,h2⟩:=a0y h
 obtain⟨u,ps,q⟩:=a9w fs ks c.enter d hP f i hb h1
 have ld:=a4q fs _ _ _ h1 i
 have kd:=a2h fs _ _ _ h1
 have l:d.sl=c.sl ++ -1::u:=by rw[q.sl];simp[Cs.enter]
 have r:∀v rest,layN ⟨k,t,o,ks⟩ (v::u++rest)=(⟨k,⟨t.toArray⟩,o,v,ps⟩,rest):=fun v rest=>by
  rw[layN]
  simp only[List.cons_append,List.headD_cons,List.tail_cons]
  rw[q.la]
 unfold actC at h2
 split at h2
 ·rename_i e35
  obtain⟨s1,s2⟩:=b1d h2 (a6d kd hb)
  exact⟨(d.live:Int)::u,_,by rw[s1,l];exact c1z _ _ _ _,r _,b3j s q.k q.wf (fun e=>by omega) (fun _=>by omega) (fun e=>by omega) (fun e=>by omega),rfl,fun(e:k=18)=>by omega⟩
 split at h2
 ·rename_i e18
  obtain⟨v,s1,s2,s3,s4⟩:=d0y h2 ld
  have z5:ks=[]:=by
   rw[isN]at s
   obtain⟨a1,_⟩:=s
   unfold a0r at a1
   exact List.length_eq_zero_iff.1 (by omega)
  have z9:d.bl=c.bl:=by
   subst z5
   cases h1
   rfl
  exact⟨v::u,_,by rw[s1,l];exact c1z _ _ _ _,r _,b3j s q.k q.wf (fun _=>⟨s2,s3⟩) (fun e=>by omega) (fun e=>by omega) (fun e=>by omega),rfl,fun _ z hz=>s4 z (by rw[z9];exact hz)⟩
 split at h2
 ·rename_i e6
  split at h2
  ·rename_i hsb
   have e2:d=c':=by injection h2
   subst e2
   refine⟨-1::u,_,l,r _,b3j s q.k q.wf (fun e=>by omega) (fun e=>by omega) (fun _=>?_) (fun e=>by omega),rfl,fun(e:k=18)=>by omega⟩
   subst e6
   have b:=s
   rw[isN]at s
   obtain⟨a1,_,_,_,_,_,a7,_,_⟩:=s
   have h2:ks.length=2:=by unfold a0r at a1;omega
   match ks,h2 with
   | [x,y],_ =>
    have hc:=a7 rfl
    simp at hc
    have z6:=c2a q.k
    match ps,z6 with
    | [p,p'],_ =>
     have z3:p.k=x.k:=by have:=q.k;simp at this;exact this.1
     refine⟨p,rfl,?_⟩
     have hx:x.k=18\/x.k=20:=by
      obtain⟨xk,xt,xo,xs⟩:=x
      rw[a3q]at hc
      split at hc
      ·rename_i e;exact .inl e
      ·split at hc
       ·rename_i e;exact .inr e
       ·split at hc
        ·simp at hc
        ·cases hc
     rcases hx with hx|hx
     ·refine .inr ⟨by omega,?_⟩
      simp only[List.head?_cons,setB]at hsb
      rw[if_pos hx]at hsb
      have z9:d.bl=c.bl:=by
       rw[allC]at h1
       obtain⟨c1,g1,g2⟩:=a0y h1
       rw[allC]at g2
       obtain⟨c2,g3,g4⟩:=a0y g2
       cases g4
       have b1:=c9t fs x _ _ (a3b b (j:=0) (x:=x) rfl).2 (by have:=(a3b b (j:=0) (x:=x) rfl).1;simpa[a0w]using this) g1
       have b2:=c9t fs y _ _ (a3b b (j:=1) (x:=y) rfl).2 (by have:=(a3b b (j:=1) (x:=y) rfl).1;simpa[a0w]using this) g3
       rw[b2,b1];rfl
      cases hf:findL x.t d.bl with
      | none=>rw[hf]at hsb;simp at hsb
      | some z =>
       obtain⟨p0,z4,e0,h0⟩:=q.hd x [y] rfl hx z (by show findL x.t c.bl=_;rw[<- z9];exact hf)
       cases e0
       exact h0
     ·exact .inl (by omega)
  ·cases h2
 split at h2
 ·rename_i e21
  split at h2
  ·cases h2
  ·cases h2
   exact⟨-1::u,_,l,r _,b3j s q.k q.wf (fun e=>by omega) (fun e=>by omega) (fun e=>by omega) (fun _=>by omega),rfl,fun(e:k=18)=>by omega⟩
 ·cases h2
  exact⟨-1::u,_,l,r _,b3j s q.k q.wf (fun e=>by omega) (fun e=>by omega) (fun e=>by omega) (fun e=>by omega),rfl,fun(e:k=18)=>by omega⟩
structure WFn (nf:Nat) (p:Pt):Prop where
 k:p.k=2
 wf:Wf nf p
 l1:1<=p.kids.length
 l6:p.kids.length<=6
structure FQ (fs:List (List UInt8)) (n:Nd) (c c':Cs) (ext:List Int) (p:Pt):Prop where
 sl:c'.sl=c.sl++ext
 la:∀rest,layN n (ext++rest)=(p,rest)
 wf:WFn fs.length p
 t:p.t=⟨n.t.toArray⟩
theorem b9b(l m:List Nd)(sl:List Int):layN.go (l++m) sl=((layN.go l sl).1++(layN.go m (layN.go l sl).2).1,(layN.go m (layN.go l sl).2).2):=by
 induction l generalizing sl with
 | nil=>simp[layN.go]
 | cons x l ih=>simp[layN.go,ih]
theorem d0z(fs:List (List UInt8))(i:Nat)(n:Nd)(c c':Cs)(hN:isN n)(hk:n.k=2)(hc:c.bl=[])(h:funC fs i n c=.ok c'):∃r p,FQ fs n c c' r p:=by
 unfold funC at h
 split at h
 ·cases h
 split at h
 ·cases h
 rename_i h6
 obtain⟨d,h1,h2⟩:=a4e h
 subst h2
 obtain⟨k,t,o,ks⟩:=n
 simp only at hk h6 h1
 subst hk
 have l:1<=ks.length:=by
  have:=hN
  rw[isN]at this
  obtain⟨a1,_⟩:=this
  unfold a0r at a1
  omega
 have y:ks≠[]:=fun e=>by rw[e]at l;simp at l
 obtain⟨v,z,hz⟩:∃v z,ks=v++[z]:=⟨ks.dropLast,ks.getLast y,(List.dropLast_concat_getLast y).symm⟩
 subst hz
 rw[a7v]at h1
 obtain⟨e,h3,h4⟩:=a0y h1
 have lb:Lv c.enter.begin:=by unfold Lv Cs.live Cs.begin Cs.enter;simp[hc,sumL]
 have nb:c.enter.begin.bl≠[]:=by simp[Cs.begin]
 obtain⟨f,b,q⟩:=a9w fs v c.enter.begin e (fun x _=>c2c fs x) (fun x s=>a7h hN (by simp[s])) lb nb h3
 have u:z.k=4:=by
  have:=(a3b hN (j:=v.length) (x:=z) (by simp)).1
  unfold a0w at this
  simpa using this
 obtain⟨g,a,w⟩:=c2c fs z e d (a7h hN (by simp)) (a4q fs _ _ _ h3 lb) (a6d (a2h fs _ _ _ h3) nb) (.inr ⟨u,h4⟩)
 refine⟨-1::(f++g),⟨2,⟨t.toArray⟩,o,-1,b++[a]⟩,?_,fun rest=>?_,⟨rfl,b3j hN ?_ ?_ (fun e=>by omega) (fun e=>by omega) (fun e=>by omega) (fun e=>by omega),by simp,?_⟩,rfl⟩
 ·show d.sl=_
  rw[w.sl,q.sl]
  show c.sl++[-1]++f++g=_
  simp
 ·rw[layN]
  simp only[List.cons_append,List.headD_cons,List.tail_cons]
  rw[b9b,List.append_assoc,q.la]
  simp only[layN.go]
  rw[w.la]
 ·rw[List.map_append,List.map_append,q.k]
  simp[w.k]
 ·intro x s
  rcases List.mem_append.1 s with h|h
  ·exact q.wf _ h
  ·simp at h;subst h;exact w.wf
 ·have:=c2a q.k
  simp at h6⊢
  omega
structure UQ (fs:List (List UInt8)) (l:List Nd) (c c':Cs) (ext:List Int) (ps:List Pt):Prop where
 sl:c'.sl=c.sl++ext
 la:∀rest,layN.go l (ext++rest)=(ps,rest)
 wf:∀q∈ps,WFn fs.length q
 t:ps.map Pt.t=l.map fun n=>(⟨n.t.toArray⟩:ByteArray)
theorem c9u{n:Nd}{c c':Cs}(hc:c.bl=[])(h:funC fs i n c=.ok c'):c'.bl=[]:=by
 have:=(b7e fs i n c c' h).len
 rw[hc]at this
 exact List.length_eq_zero_iff.1 this
theorem b7i(fs:List (List UInt8)):∀(l:List Nd) (i:Nat) (c z:Cs),(∀x∈l,isN x/\x.k=2)->c.bl=[]->a4p fs i l c=.ok z->∃u v,UQ fs l c z u v
 | [],i,c,z,_,_,h=>by
  rw[a4p]at h
  cases h
  exact⟨[],[],by simp,fun rest=>rfl,by simp,rfl⟩
 | x::l,i,c,z,hN,hc,h=>by
  rw[a4p]at h
  obtain⟨d,h1,h2⟩:=a0y h
  obtain⟨o,p,q1⟩:=d0z fs i x c d (hN x (by simp)).1 (hN x (by simp)).2 hc h1
  obtain⟨r,v,w⟩:=b7i fs l (i+1) d z (fun y s=>hN y (List.mem_cons_of_mem _ s)) (c9u hc h1) h2
  refine⟨o++r,p::v,by rw[w.sl,q1.sl,List.append_assoc],fun rest=>?_,fun q hq=>?_,by simp[q1.t,w.t]⟩
  ·rw[layN.go,List.append_assoc,q1.la,w.la]
  ·rcases List.mem_cons.1 hq with rfl|hq
   ·exact q1.wf
   ·exact w.wf q hq
theorem b7j(fs:List (List UInt8)):∀(l:List Nd) (i:Nat) (c z:Cs),a4p fs i l c=.ok z->i<=12->i+l.length<=12
 | [],i,_,_,_,hi=>by simpa using hi
 | x::l,i,c,z,h,hi=>by
  rw[a4p]at h
  obtain⟨d,h1,h2⟩:=a0y h
  have:i<12:=by
   unfold funC at h1
   split at h1
   ·cases h1
   split at h1
   ·cases h1
   omega
  have:=b7j fs l (i+1) d z h2 (by omega)
  simp
  omega
structure WU (u:Pt):Prop where
 wf:∀q∈u.kids,WFn u.kids.length q
 l:u.kids.length<=12
 main:∃j,j<u.kids.length/\(∃q,u.kids[j]?=some q/\q.t=⟨#[109,97,105,110]⟩/\q.kids.length=1)/\∀i q,i<j->u.kids[i]?=some q->q.t≠⟨#[109,97,105,110]⟩
theorem c6t{n:Nd}(hN:isN n)(hk:n.k=1)(h:a5y n=.ok sl):∃u,(∀rest,layN n (sl++rest)=(u,rest))/\WU u:=by
 obtain⟨k,t,o,ks⟩:=n
 simp only at hk
 subst hk
 unfold a5y at h
 simp only at h
 split at h
 ·cases h
 rename_i c hc
 split at h
 ·cases h
 rename_i j hj
 split at h
 ·cases h
 rename_i hpb
 cases h
 have z4:∀x∈ks,isN x/\x.k=2:=fun x s=>by
  obtain⟨i,hi⟩:=List.getElem?_of_mem s
  obtain⟨a,b⟩:=a3b hN hi
  exact⟨b,by simpa[a0w]using a⟩
 obtain⟨z9,w,q⟩:=b7i _ ks 0 _ c z4 rfl hc
 have f:w.length=ks.length:=by have:=congrArg List.length q.t;simpa using this
 have y8:=b7j _ ks 0 _ c hc (by omega)
 have z6:c.sl=-1::z9:=q.sl
 refine⟨⟨1,⟨t.toArray⟩,o,-1,w⟩,fun rest=>?_,?_,by show w.length<=12;omega,?_⟩
 ·rw[z6,layN]
  simp only[List.cons_append,List.headD_cons,List.tail_cons]
  rw[q.la]
 ·intro x s
  have:=q.wf x s
  rw[List.length_map]at this
  show WFn w.length x
  rw[f]
  exact this
 ·unfold funI at hj
  rw[List.findIdx?_eq_some_iff_getElem]at hj
  obtain⟨z1,d,z2⟩:=hj
  rw[List.length_map]at z1
  have v:∀(i:Nat) (x:Pt),w[i]?=some x->∃y,ks[i]?=some y/\x.t=(⟨y.t.toArray⟩:ByteArray):=fun i x s=>by
   have h1:(w.map Pt.t)[i]?=some x.t:=by rw[List.getElem?_map,s];rfl
   rw[q.t,List.getElem?_map]at h1
   obtain⟨y,h2,h3⟩:=Option.map_eq_some_iff.1 h1
   exact⟨y,h2,h3.symm⟩
  have r:w[j]?=some w[j]:=List.getElem?_eq_getElem (by omega)
  obtain⟨y,hy,z7⟩:=v j _ r
  have z3:y=ks[j]:=by rw[List.getElem?_eq_getElem (by omega)]at hy;exact(Option.some.inj hy).symm
  have g:y.t=W.main_:=by
   simp at d
   rw[z3];exact d
  refine⟨j,by show j<w.length;omega,⟨w[j],r,by rw[z7,g],?_⟩,fun i x hi s e=>?_⟩
  ·-- no parameters
   have h1:=q.wf w[j] (List.getElem_mem _)
   have h2:w[j].kids.length=ks[j].kids.length:=by
    have z5:=q.la []
    have key:∀(l:List Nd) (sl:List Int) (i:Nat) (x:Nd) (p:Pt),l[i]?=some x->(layN.go l sl).1[i]?=some p->p.kids.length=x.kids.length:=by
     have y9:∀(l:List Nd) (sl:List Int),(layN.go l sl).1.length=l.length:=by
      intro l
      induction l with
      | nil=>intro sl;rfl
      | cons a l ih=>intro sl;simp[layN.go,ih]
     intro l
     induction l with
     | nil=>intro sl i x p h;simp at h
     | cons a l ih =>
      intro sl i x p h1 h2
      cases i with
      | zero =>
       simp[layN.go]at h1 h2
       subst h1
       subst h2
       obtain⟨ak,y7,ao,y6⟩:=a
       simp[layN,y9]
      | succ i =>
       simp only[layN.go,List.getElem?_cons_succ]at h1 h2
       exact ih _ i x p h1 h2
    have:=key ks (z9++[]) j ks[j] w[j] (List.getElem?_eq_getElem (by omega)) (by rw[z5];exact r)
    exact this
   have h3:ks[j]?=some ks[j]:=List.getElem?_eq_getElem (by omega)
   rw[h3]at hpb
   simp[a8u]at hpb
   have:=h1.l1
   omega
  ·obtain⟨z,hz,z8⟩:=v i x s
   have h3:=z2 i hi
   have z0:z=ks[i]'(by omega):=by rw[List.getElem?_eq_getElem (by omega)]at hz;exact(Option.some.inj hz).symm
   rw[z8]at e
   simp at h3 e
   apply h3
   rw[<- z0]
   exact e
def era:Pt->Nd
 | ⟨k,t,n,_,kids⟩=>⟨k,t.data.toList,n,go kids⟩
where go:List Pt->List Nd
 | []=>[]
 | x::l=>era x::go l
theorem c2d(l:List Pt):era.go l=l.map era:=by
 induction l with
 | nil=>rfl
 | cons x l ih=>simp[era.go,ih]
theorem d1a(n:Nd):∀sl,era (layN n sl).1=n:=by
 refine a3x (m:=fun n=>∀sl,era (layN n sl).1=n) (fun k t o ks w sl=>?_) n
 have key:∀(l:List Nd) (sl:List Int),(∀x∈l,x∈ks)->era.go (layN.go l sl).1=l:=by
  intro l
  induction l with
  | nil=>intro sl _;rfl
  | cons x l ih2 =>
   intro sl z
   rw[layN.go]
   simp only[era.go]
   rw[w x (z x (by simp)),ih2 _ (fun y v=>z y (List.mem_cons_of_mem _ v))]
 rw[layN]
 simp only[era]
 rw[key ks _ (fun _ h=>h)]
abbrev hgt (p:Pt):Nat:=a1l (era p)
abbrev cnt (p:Pt):Nat:=manyN (era p)
def dlK (k:Int):Nat:=if k=3\/k=5 then 1 else 0
def mxN:Nd->Nat
 | ⟨k,_,_,ks⟩=>if k=10 then go3 ks else max (dlK k) (go ks)
where
 go:List Nd->Nat
  | []=>0
  | x::l=>max (mxN x) (dlK x.k+go l)
 go3:List Nd->Nat
  | _::_::z::_=>1+mxN z
  | _=>0
abbrev mxp (p:Pt):Nat:=mxN (era p)
theorem a8x{c c':Cs}(h:declareC s fx a c=.ok c')(hb:c.bl≠[]):c'.live=c.live+1/\c.live<30:=by
 unfold declareC at h
 split at h
 ·rename_i e;exact absurd e hb
 ·rename_i b r e
  split at h
  ·cases h
  ·split at h
   ·cases h
   ·cases h
    refine⟨?_,by omega⟩
    simp only[Cs.live,e,a0l,List.length_append,List.length_cons,List.length_nil]
    omega
def MXP (fs:List (List UInt8)) (n:Nd):Prop:=∀(f:Bool) (c c':Cs),isN n->visC fs f n c=.ok c'->(f=true->n.k=4)->Lv c->c.bl≠[]->c.live+mxN n<=30/\c.live+dlK n.k<=c'.live
theorem b3k(fs:List (List UInt8)):∀(l:List Nd) (c z:Cs),(∀x∈l,MXP fs x)->(∀x∈l,isN x)->allC fs l c=.ok z->Lv c->c.bl≠[]->c.live+mxN.go l<=30/\c.live+(l.map fun x=>dlK x.k).sum<=z.live
 | [],c,z,_,_,h,hl,_=>by
  cases h
  exact⟨hl,Nat.le_refl _⟩
 | x::l,c,z,hP,hN,h,hl,hb=>by
  rw[allC]at h
  obtain⟨d,h1,h2⟩:=a0y h
  have q1:=hP x (by simp) false c d (hN x (by simp)) h1 (fun e=>by cases e) hl hb
  have v:=b3k fs l d z (fun y w=>hP y (List.mem_cons_of_mem _ w)) (fun y w=>hN y (List.mem_cons_of_mem _ w)) h2 (a8w fs x false c d h1 hl) (a6d (a2g fs x false c d h1) hb)
  simp only[mxN.go,List.map_cons,List.sum_cons]
  omega
theorem c9v(fs:List (List UInt8))(n:Nd):MXP fs n:=by
 refine a3x (m:=MXP fs) (fun k t o ks b f c s a h hf l r=>?_) n
 have u:∀x∈ks,isN x:=fun x hx=>a7h a hx
 have v:Lv c.enter:=l
 by_cases e4:k=4
 ·subst e4
  have blk:∀c s,Lv c->c.bl≠[]->visC fs true ⟨4,t,o,ks⟩ c=.ok s->c.live+mxN ⟨4,t,o,ks⟩<=30/\c.live<=s.live:=fun c s l r h=>by
   rw[c1y]at h
   have:=b3k fs ks c.enter s b u h l r
   rw[mxN,if_neg (by decide)]
   have e:dlK 4=0:=by decide
   rw[e,Nat.zero_max]
   exact⟨this.1,Nat.le_trans (Nat.le_add_right _ _) this.2⟩
  cases f with
  | true =>
   have:=blk c s l r h
   exact⟨this.1,by
            show c.live+dlK 4<=_;have e:dlK 4=0:=by decide
            omega⟩
  | false =>
   have h0:=h
   rw[a7p]at h
   obtain⟨d,h1,h2⟩:=a4e h
   subst h2
   have i:c.begin.live=c.live:=by simp[Cs.live,Cs.begin,a0l]
   have:=blk c.begin d (by unfold Lv;rw[i];exact l) (by simp[Cs.begin]) h1
   rw[i]at this
   have hk:=(Kp.block (a2g fs _ _ _ _ h1)).2
   refine⟨this.1,?_⟩
   have e:dlK 4=0:=by decide
   show c.live+dlK 4<=sumL d.close.bl
   rw[hk,e]
   exact Nat.le_refl _
 have z7:f=false:=by
  cases f with
  | false=>rfl
  | true=>exact absurd (hf rfl) e4
 subst z7
 by_cases e10:k=10
 ·subst e10
  have h3:ks.length=3:=by
   rw[isN]at a
   obtain⟨a1,_⟩:=a
   unfold a0r at a1
   omega
  match ks,h3 with
  | [x,y,z],_ =>
   rw[b5t]at h
   obtain⟨d,h1,h2⟩:=a0y h
   obtain⟨e,h3,h4⟩:=a0y h2
   obtain⟨g,h5,h6⟩:=a4e h4
   subst h6
   have a1:=b3k fs [x,y] c.enter d (fun w p=>b w (by simp at p⊢;rcases p with rfl|rfl <;> simp)) (fun w p=>u w (by simp at p⊢;rcases p with rfl|rfl <;> simp)) h1 v r
   have kd:=a2h fs _ _ _ h1
   have ld:=a4q fs _ _ _ h1 v
   have lb:d.begin.live=d.live:=by simp[Cs.live,Cs.begin,a0l]
   obtain⟨s1,s2⟩:=a8x h3 (by simp[Cs.begin])
   have hz:z.k=4:=by
    have:=(a3b a (j:=2) (x:=z) rfl).1
    simpa[a0w]using this
   have z9:Lv d.begin:=by unfold Lv;rw[lb];exact ld
   have q:=b z (by simp) true e g (u z (by simp)) h5 (fun _=>hz) (Lv.declare h3 z9) (a6d (Kp.declare h3) (by simp[Cs.begin]))
   have z6:c.enter.live=c.live:=rfl
   have hk:=(Kp.block ((Kp.declare h3).trans (a2g fs _ _ _ _ h5))).2
   have z8:g.close.live=d.live:=by show sumL _=_;rw[hk];rfl
   rw[mxN,if_pos rfl]
   simp only[mxN.go3]
   have e0:dlK 10=0:=by decide
   refine⟨by omega,?_⟩
   show c.live+dlK 10<=_
   rw[z8,e0]
   omega
 rw[a3u _ _ _ _ _ _ e4 e10]at h
 obtain⟨d,h1,h2⟩:=a0y h
 have a1:=b3k fs ks c.enter d b u h1 v r
 have ld:=a4q fs _ _ _ h1 v
 have z5:=a6d (a2h fs _ _ _ h1) r
 have z6:c.enter.live=c.live:=rfl
 rw[mxN,if_neg e10]
 show c.live+max (dlK k) _<=30/\c.live+dlK k<=_
 unfold actC at h2
 split at h2
 ·rename_i e35
  obtain⟨s1,s2⟩:=a8x h2 z5
  have:dlK k=1:=if_pos e35
  omega
 rename_i e35
 have e0:dlK k=0:=if_neg e35
 have hd:d.bl=s.bl->c.live+max (dlK k) (mxN.go ks)<=30/\c.live+dlK k<=s.live:=fun e=>by
  have:s.live=d.live:=by show sumL _=sumL _;rw[e]
  omega
 split at h2
 ·exact hd (a6o h2).2.symm
 split at h2
 ·split at h2
  ·cases h2;exact hd rfl
  ·cases h2
 split at h2
 ·split at h2
  ·cases h2
  ·cases h2;exact hd rfl
 ·cases h2;exact hd rfl
theorem d4p{ps:List Nd}{z:Nd}{c c':Cs}(hN:isN ⟨k,t,o,ps++[z]⟩)(hk:k=2)(hc:c.bl=[])(h:funC fs i ⟨k,t,o,ps++[z]⟩ c=.ok c'):ps.length+mxN z<=30:=by
 subst hk
 unfold funC at h
 split at h
 ·cases h
 split at h
 ·cases h
 obtain⟨d,h1,h2⟩:=a4e h
 subst h2
 simp only at h1
 rw[a7v]at h1
 obtain⟨e,h3,h4⟩:=a0y h1
 have lb:Lv c.enter.begin:=by unfold Lv Cs.live Cs.begin Cs.enter;simp[hc,sumL]
 have nb:c.enter.begin.bl≠[]:=by simp[Cs.begin]
 have f:=b3k fs ps c.enter.begin e (fun x _=>c9v fs x) (fun x v=>a7h hN (by simp[v])) h3 lb nb
 have w:z.k=4:=by
  have:=(a3b hN (j:=ps.length) (x:=z) (by simp)).1
  unfold a0w at this
  simpa using this
 have g:=c9v fs z true e d (a7h hN (by simp)) h4 (fun _=>w) (a4q fs _ _ _ h3 lb) (a6d (a2h fs _ _ _ h3) nb)
 have n:(ps.map fun x=>dlK x.k).sum=ps.length:=by
  have key:∀l:List Nd,(∀x∈l,x.k=3)->(l.map fun x=>dlK x.k).sum=l.length:=by
   intro l
   induction l with
   | nil=>intro _;rfl
   | cons x l ih =>
    intro s
    have p:dlK 3=1:=by decide
    simp only[List.map_cons,List.sum_cons,List.length_cons,ih (fun y q=>s y (List.mem_cons_of_mem _ q)),s x (by simp),p]
    omega
  refine key ps fun x v=>?_
  obtain⟨j,r⟩:=List.getElem?_of_mem v
  have u:=(List.getElem?_eq_some_iff.1 r).1
  have:=(a3b hN (j:=j) (x:=x) (by rw[List.getElem?_append_left u];exact r)).1
  unfold a0w at this
  simp at this
  rw[if_neg (by omega)]at this
  exact this
 omega
structure FnC (p:Pt):Prop where
 h:hgt p<=13
 m:∀ps z,p.kids=ps++[z]->ps.length+mxp z<=30
theorem a5p(p:Pt):(era p).kids=p.kids.map era:=by
 obtain⟨k,t,n,sl,kids⟩:=p
 exact c2d kids
theorem c2e(fs:List (List UInt8)):∀(l:List Nd) (i:Nat) (c u:Cs),(∀x∈l,isN x/\x.k=2)->c.bl=[]->a4p fs i l c=.ok u->∀x∈l,∀w z,x.kids=w++[z]->w.length+mxN z<=30
 | [],i,c,u,_,_,h=>by simp
 | x::l,i,c,u,hN,hc,h=>by
  rw[a4p]at h
  obtain⟨d,h1,h2⟩:=a0y h
  intro y v w z s
  rcases List.mem_cons.1 v with rfl|v
  ·obtain⟨k,t,o,ks⟩:=y
   obtain⟨q,r⟩:=hN ⟨k,t,o,ks⟩ (by simp)
   change ks=w++[z]at s
   change k=2 at r
   subst s
   exact d4p q r hc h1
  ·exact c2e fs l (i+1) d u (fun y v=>hN y (List.mem_cons_of_mem _ v)) (c9u hc h1) h2 y v w z s
theorem d1b{n:Nd}{u:Pt}(hN:isN n)(hk:n.k=1)(hd:a1l n<=14)(h:a5y n=.ok sl)(hu:∀rest,layN n (sl++rest)=(u,rest)):era u=n/\∀q∈u.kids,FnC q:=by
 have r:era u=n:=by
  have:=d1a n (sl++[])
  rw[hu]at this
  exact this
 refine⟨r,fun q hq=>?_⟩
 have y:era q∈n.kids:=by
  rw[<- r,a5p]
  exact List.mem_map_of_mem hq
 obtain⟨k,t,o,ks⟩:=n
 simp only at hk y
 subst hk
 have v:∀x∈ks,isN x/\x.k=2:=fun x w=>by
  obtain⟨i,e⟩:=List.getElem?_of_mem w
  obtain⟨a,b⟩:=a3b hN e
  exact⟨b,by simpa[a0w]using a⟩
 unfold a5y at h
 simp only at h
 split at h
 ·cases h
 rename_i c hc
 have f:=c2e _ ks 0 _ c v rfl hc _ y
 refine⟨?_,fun p z g=>?_⟩
 ·have s:∀(l:List Nd) (x:Nd),x∈l->a1l x<=a1l.go l:=by
   intro l
   induction l with
   | nil=>intro x w;simp at w
   | cons a l ih =>
    intro x w
    simp only[a1l.go]
    rcases List.mem_cons.1 w with rfl|w
    ·omega
    ·have:=ih x w;omega
  have h1:=s ks _ y
  have h2:a1l ⟨1,t,o,ks⟩=a1l.go ks+1:=rfl
  show a1l (era q)<=13
  omega
 ·have:=f (p.map era) (era z) (by rw[a5p,g];simp)
  simpa using this
end Go.Proofs.YtomniogfpfbolaaGreatDoor.V
