/- Programs with their slots, in plain words: what is known of them. -/
import Derived.Test.YtfbpdbndejefdaaGreatDoorS16
import Derived.Test.YtfbpdbndejefdaaGreatDoorS20
namespace Go.Proofs.YtfbpdbndejefdaaGreatDoor.V
open Go
set_option maxRecDepth 100000
set_option maxHeartbeats 8000000
set_option linter.all false
variable {k n:Int} {t s:List UInt8} {ks l:List Nd} {j a:Nat} {x:Nd} {ps:List Pt} {fs:List (List UInt8)}
def layN:Nd->List Int->Pt×List Int
 | ⟨k,t,n,kids⟩,sl=>(⟨k,⟨t.toArray⟩,n,sl.headD 0,(go kids sl.tail).1⟩,(go kids sl.tail).2)
where go:List Nd->List Int->List Pt×List Int
 | [],sl=>([],sl)
 | x::l,sl=>((layN x sl).1::(go l (layN x sl).2).1,(go l (layN x sl).2).2)
def Wf (nf:Nat):Pt->Prop
 | ⟨k,t,n,sl,kids⟩=>a0w k kids.length/\(k=14->t.size<=300)/\(k=13->0<=n/\n<=9223372036854775807)/\(k=18->0<=sl/\sl<30+nf)/\(k=5\/k=10->0<=sl/\sl<30)/\(k=6->∃x,kids[0]?=some x/\(x.k=20\/(x.k=18/\x.sl<30)))/\(k=21->kids.length<=6)/\(k=22->1<=n/\n<=21)/\go k kids.length 0 kids
where go (k:Int) (len:Nat):Nat->List Pt->Prop
 | _,[]=>True
 | i,x::l=>a0z k len i x.k/\Wf nf x/\go k len (i+1) l
theorem d2n(nf:Nat)(k:Int)(len:Nat):∀(l:List Pt) (i:Nat),Wf.go nf k len i l↔∀j x,l[j]?=some x->a0z k len (i+j) x.k/\Wf nf x
 | [],i=>by simp[Wf.go]
 | x::l,i=>by
  rw[Wf.go,d2n nf k len l (i+1)]
  constructor
  ·rintro⟨h1,h2,h3⟩ j y z
   cases j with
   | zero=>simp at z;subst z;exact⟨h1,h2⟩
   | succ j=>have:=h3 j y (by simpa using z);rw[show i+(j+1)=i+1+j by omega];exact this
  ·intro h
   refine⟨?_,?_,fun j y z=>?_⟩
   ·have:=(h 0 x (by simp)).1;simpa using this
   ·exact(h 0 x (by simp)).2
   ·have:=h (j+1) y (by simpa using z)
    rw[show i+(j+1)=i+1+j by omega]at this
    exact this
theorem a4j(h:isN ⟨k,t,n,ks⟩)(hx:ks[j]?=some x):a0z k ks.length j x.k/\isN x:=by
 rw[isN]at h
 obtain⟨_,_,_,_,_,_,_,_,h⟩:=h
 have:=(a7h _ _ _ _).1 h j x hx
 simpa using this
theorem b5q(h:isN ⟨k,t,n,ks⟩)(hx:x∈ks):isN x:=by
 obtain⟨j,z⟩:=List.getElem?_of_mem hx
 exact(a4j h z).2
theorem c9t(fs:List (List UInt8))(n:Nd):∀c z,isN n->a2s n.k->visC fs false n c=.ok z->z.bl=c.bl:=by
 refine a6j (m:=fun n=>∀c z,isN n->a2s n.k->visC fs false n c=.ok z->z.bl=c.bl) (fun k t o ks i c z hN hk h=>?_) n
 have f:13<=k:=hk.1
 rw[a4e _ _ _ _ _ _ (by omega) (by omega)]at h
 obtain⟨d,h1,h2⟩:=a1h h
 have key:∀(l:List Nd) (c d:Cs),(∀x∈l,x∈ks)->allC fs l c=.ok d->d.bl=c.bl:=by
  intro l
  induction l with
  | nil=>intro c d _ h;cases h;rfl
  | cons x l ih2 =>
   intro c d s h
   rw[allC]at h
   obtain⟨c1,h1,h2⟩:=a1h h
   rw[ih2 c1 d (fun y g=>s y (List.mem_cons_of_mem _ g)) h2]
   have u:=s x (by simp)
   obtain⟨j,a⟩:=List.getElem?_of_mem u
   obtain⟨v,p⟩:=a4j hN a
   have q:a2s x.k:=by
    unfold a0z at v
    rw[if_neg (by omega),if_neg (by omega),if_neg (by omega),if_neg (by omega),if_neg (by omega)]at v
    exact v
   exact i x u c c1 p q h1
 have hd:=key ks c.enter d (fun _ h=>h) h1
 have he:d.bl=c.bl:=hd
 rw[<- he]
 unfold actC at h2
 rw[if_neg (by omega)]at h2
 split at h2
 ·exact(a9a h2).2
 ·rw[if_neg (by omega)]at h2
  split at h2
  ·split at h2
   ·cases h2
   ·cases h2;rfl
  ·cases h2;rfl
structure LQ (fs:List (List UInt8)) (n:Nd) (c c':Cs) (ext:List Int) (p:Pt):Prop where
 sl:c'.sl=c.sl++ext
 la:∀rest,layN n (ext++rest)=(p,rest)
 wf:Wf fs.length p
 k:p.k=n.k
 nm:n.k=18->∀q,findL n.t c.bl=some q->p.sl<30
structure AQ (fs:List (List UInt8)) (l:List Nd) (c c':Cs) (ext:List Int) (ps:List Pt):Prop where
 sl:c'.sl=c.sl++ext
 la:∀rest,layN.go l (ext++rest)=(ps,rest)
 wf:∀q∈ps,Wf fs.length q
 k:ps.map Pt.k=l.map Nd.k
 hd:∀x l',l=x::l'->x.k=18->∀q,findL x.t c.bl=some q->∃p ps',ps=p::ps'/\p.sl<30
def LP (fs:List (List UInt8)) (n:Nd):Prop:=∀c c',isN n->Lv c->c.bl≠[]->(visC fs false n c=.ok c'\/(n.k=4/\visC fs true n c=.ok c'))->∃ext p,LQ fs n c c' ext p
theorem b2h{c c':Cs}(h:Kp c c')(hc:c.bl≠[]):c'.bl≠[]:=fun e=>hc (List.length_eq_zero_iff.1 (by rw[<- h.len,e];rfl))
theorem a9y(fs:List (List UInt8)):∀(l:List Nd) (c v:Cs),(∀x∈l,LP fs x)->(∀x∈l,isN x)->Lv c->c.bl≠[]->allC fs l c=.ok v->∃n s,AQ fs l c v n s
 | [],c,v,_,_,_,_,h=>by
  cases h
  exact⟨[],[],by simp,fun rest=>rfl,by simp,rfl,fun x m e=>by cases e⟩
 | x::l,c,v,hP,hN,hl,hb,h=>by
  rw[allC]at h
  obtain⟨d,h1,h2⟩:=a1h h
  obtain⟨g,p,z⟩:=hP x (by simp) c d (hN x (by simp)) hl hb (.inl h1)
  have k1:=a4d fs x false c d h1
  obtain⟨i,s,u⟩:=a9y fs l d v (fun y o=>hP y (List.mem_cons_of_mem _ o)) (fun y o=>hN y (List.mem_cons_of_mem _ o)) (b1h fs x false c d h1 hl) (b2h k1 hb) h2
  refine⟨g++i,p::s,by rw[u.sl,z.sl,List.append_assoc],fun rest=>?_,fun q hq=>?_,?_,fun y m j hk q hq=>?_⟩
  ·rw[layN.go,List.append_assoc,z.la,u.la]
  ·rcases List.mem_cons.1 hq with rfl|hq
   ·exact z.wf
   ·exact u.wf q hq
  ·simp[z.k,u.k]
  ·cases j
   exact⟨p,s,rfl,z.nm hk q hq⟩
theorem c2x(a:List Int)(x v:Int)(e:List Int):(a++x::e).set a.length v=a++v::e:=by
 induction a with
 | nil=>rfl
 | cons y a ih=>simp[ih]
theorem c2y(h:ps.map Pt.k=l.map Nd.k):ps.length=l.length:=by
 have:=congrArg List.length h
 simpa using this
theorem d2o(h:ps.map Pt.k=l.map Nd.k){q:Pt}(hq:ps[j]?=some q):∃x,l[j]?=some x/\x.k=q.k:=by
 have h1:(ps.map Pt.k)[j]?=some q.k:=by rw[List.getElem?_map,hq];rfl
 rw[h,List.getElem?_map]at h1
 obtain⟨x,h2,h3⟩:=Option.map_eq_some_iff.1 h1
 exact⟨x,h2,h3⟩
theorem b3z{o:Int}{z:List Pt}{v:Int}(hN:isN ⟨k,t,o,ks⟩)(hk:z.map Pt.k=ks.map Nd.k)(hw:∀q∈z,Wf fs.length q)(h18:k=18->0<=v/\v<30+fs.length)(h5:k=5\/k=10->0<=v/\v<30)(h6:k=6->∃x,z[0]?=some x/\(x.k=20\/(x.k=18/\x.sl<30)))(h21:k=21->ks.length<=6):Wf fs.length ⟨k,⟨t.toArray⟩,o,v,z⟩:=by
 have s:=c2y hk
 have p:=hN
 rw[isN]at hN
 obtain⟨a1,a2,a,⟨i,n⟩,m,d,f,g,h⟩:=hN
 rw[Wf]
 refine⟨by rw[s];exact a1,fun e=>?_,m,h18,h5,h6,fun e=>by rw[s];exact h21 e,fun e=>?_,?_⟩
 ·have:=n e
  simp[c0y]at this
  simpa[ByteArray.size]using this.2
 ·have:=i e
  unfold opOf at this
  simp only[Option.isSome_map]at this
  rw[List.find?_isSome]at this
  obtain⟨x,y,u⟩:=this
  simp[opsL]at y
  simp at u
  rcases y with rfl|rfl|rfl|rfl|rfl|rfl|rfl|rfl|rfl|rfl|rfl <;> simp at u <;> omega
 ·rw[d2n]
  intro j q hq
  obtain⟨x,y,u⟩:=d2o hk hq
  have:=a4j p y
  rw[s,Nat.zero_add,<- u]
  exact⟨this.1,hw q (List.mem_of_getElem? hq)⟩
theorem b1k{fx:Bool}{c c':Cs}(h:declareC s fx a c=.ok c')(hb:c.bl≠[]):c'.sl=c.sl.set a c.live/\c.live<30:=by
 unfold declareC at h
 split at h
 ·rename_i e;exact absurd e hb
 ·split at h
  ·cases h
  ·split at h
   ·cases h
   ·rename_i hl
    cases h
    exact⟨rfl,by omega⟩
theorem c2z{s:List UInt8} : ∀{bl:List (List Lc)} {q:Nat×Bool},findL s bl=some q->q.1<sumL bl
 | [],q,h=>by simp[findL]at h
 | b::r,q,h=>by
  rw[findL]at h
  split at h
  ·rename_i i hi
   cases h
   rw[List.findIdx?_eq_some_iff_getElem]at hi
   have:=hi.1
   rw[a1o]
   show sumL r+i<_
   omega
  ·have:=c2z h
   rw[a1o]
   omega
theorem d2p{c c':Cs}(h:a6n fs s a c=.ok c')(hl:Lv c):∃v:Int,c'.sl=c.sl.set a v/\0<=v/\v<30+fs.length/\∀q,findL s c.bl=some q->v<30:=by
 unfold a6n at h
 have z:sumL c.bl<=30:=hl
 split at h
 ·rename_i p hp
  cases h
  have:=c2z hp
  exact⟨p.1,rfl,by omega,by omega,fun q hq=>by omega⟩
 ·rename_i hn
  split at h
  ·rename_i j hj
   cases h
   have y:j<fs.length:=by
    unfold funI at hj
    rw[List.findIdx?_eq_some_iff_getElem]at hj
    exact hj.1
   exact⟨30+j,rfl,by omega,by omega,fun q hq=>by rw[hn]at hq;cases hq⟩
  ·cases h
theorem c3a(fs:List (List UInt8))(n:Nd):LP fs n:=by
 refine a6j (m:=LP fs) (fun k t o ks ih c c' s hl hb h=>?_) n
 have z9:Lv c.enter:=hl
 have hP:∀x∈ks,LP fs x:=ih
 have z8:∀x∈ks,isN x:=fun x hx=>b5q s hx
 -- a block
 have blk:∀c c',k=4->Lv c->c.bl≠[]->visC fs true ⟨k,t,o,ks⟩ c=.ok c'->∃u p,LQ fs ⟨k,t,o,ks⟩ c c' u p:=fun c c' e hl hb h=>by
  subst e
  rw[c9q]at h
  obtain⟨u,ps,q⟩:=a9y fs ks c.enter c' hP z8 hl hb h
  refine⟨-1::u,⟨4,⟨t.toArray⟩,o,-1,ps⟩,?_,fun rest=>?_,b3z s q.k q.wf (fun e=>by omega) (fun e=>by omega) (fun e=>by omega) (fun e=>by omega),rfl,fun e=>by simp at e⟩
  ·rw[q.sl];simp[Cs.enter]
  ·rw[layN]
   simp only[List.cons_append,List.headD_cons,List.tail_cons]
   rw[q.la]
 by_cases e4:k=4
 ·rcases h with h|⟨_,h⟩
  ·subst e4
   rw[b3r]at h
   obtain⟨d,h1,h2⟩:=a5n h
   subst h2
   obtain⟨u,p,q⟩:=blk c.begin d rfl (by unfold Lv Cs.live Cs.begin at *;simpa[a1o]using hl) (by simp[Cs.begin]) h1
   exact⟨u,p,q.sl,q.la,q.wf,q.k,fun e=>by simp at e⟩
  ·exact blk c c' e4 hl hb h
 have h:visC fs false ⟨k,t,o,ks⟩ c=.ok c':=by
  rcases h with h|⟨e,_⟩
  ·exact h
  ·exact absurd e e4
 by_cases e10:k=10
 ·subst e10
  have h3:ks.length=3:=by
   rw[isN]at s
   obtain⟨a1,_⟩:=s
   unfold a0w at a1
   omega
  match ks,h3 with
  | [x,y,z],_ =>
   rw[c2k]at h
   obtain⟨d,h1,h2⟩:=a1h h
   obtain⟨e,h3,h4⟩:=a1h h2
   obtain⟨g,h5,h6⟩:=a5n h4
   subst h6
   obtain⟨u,ps,q⟩:=a9y fs [x,y] c.enter d (fun w hw=>hP w (by simp at hw⊢;rcases hw with rfl|rfl <;> simp)) (fun w hw=>z8 w (by simp at hw⊢;rcases hw with rfl|rfl <;> simp)) z9 hb h1
   have kd:=a2q fs _ _ _ h1
   have ld:=a5g fs _ _ _ h1 z9
   obtain⟨s1,s2⟩:=b1k h3 (by simp[Cs.begin])
   have hz:z.k=4:=by
    have:=(a4j s (j:=2) (x:=z) rfl).1
    simpa[a0z]using this
   have lb:Lv d.begin:=by unfold Lv Cs.live Cs.begin at *;simpa[a1o]using ld
   obtain⟨ez,pz,qz⟩:=hP z (by simp) e g (z8 z (by simp)) (Lv.declare h3 lb) (b2h (Kp.declare h3) (by simp[Cs.begin])) (.inr ⟨hz,h5⟩)
   have z5:e.sl=c.sl++(d.begin.live:Int)::u:=by
    rw[s1]
    show d.sl.set _ _=_
    rw[q.sl]
    show(c.sl++[-1]++u).set _ _=_
    rw[List.append_assoc]
    exact c2x c.sl _ _ _
   refine⟨(d.begin.live:Int)::u++ez,⟨10,⟨t.toArray⟩,o,d.begin.live,ps++[pz]⟩,?_,fun rest=>?_,b3z s ?_ ?_ (fun e=>by omega) (fun _=>by omega) (fun e=>by omega) (fun e=>by omega),rfl,fun e=>by simp at e⟩
   ·show g.sl=_
    rw[qz.sl,z5];simp
   ·rw[layN]
    simp only[List.cons_append,List.headD_cons,List.tail_cons]
    have h2:=q.la (ez++rest)
    have h3:=qz.la rest
    simp only[layN.go]at h2⊢
    rw[List.append_assoc]
    simp only[Prod.mk.injEq]at h2
    obtain⟨u1,u2⟩:=h2
    rw[u2,h3,<- u1]
    simp
   ·have:=q.k
    have h4:=qz.k
    simp at this⊢
    rw[this]
    simp[h4]
   ·intro q' z4
    rcases List.mem_append.1 z4 with h|h
    ·exact q.wf _ h
    ·simp at h;subst h;exact qz.wf
 rw[a4e _ _ _ _ _ _ e4 e10]at h
 obtain⟨d,h1,h2⟩:=a1h h
 obtain⟨u,ps,q⟩:=a9y fs ks c.enter d hP z8 z9 hb h1
 have ld:=a5g fs _ _ _ h1 z9
 have kd:=a2q fs _ _ _ h1
 have f:d.sl=c.sl ++ -1::u:=by rw[q.sl];simp[Cs.enter]
 have i:∀v rest,layN ⟨k,t,o,ks⟩ (v::u++rest)=(⟨k,⟨t.toArray⟩,o,v,ps⟩,rest):=fun v rest=>by
  rw[layN]
  simp only[List.cons_append,List.headD_cons,List.tail_cons]
  rw[q.la]
 unfold actC at h2
 split at h2
 ·rename_i e35
  obtain⟨s1,s2⟩:=b1k h2 (b2h kd hb)
  exact⟨(d.live:Int)::u,_,by rw[s1,f];exact c2x _ _ _ _,i _,b3z s q.k q.wf (fun e=>by omega) (fun _=>by omega) (fun e=>by omega) (fun e=>by omega),rfl,fun(e:k=18)=>by omega⟩
 split at h2
 ·rename_i e18
  obtain⟨v,s1,s2,s3,s4⟩:=d2p h2 ld
  have z2:ks=[]:=by
   rw[isN]at s
   obtain⟨a1,_⟩:=s
   unfold a0w at a1
   exact List.length_eq_zero_iff.1 (by omega)
  have z6:d.bl=c.bl:=by
   subst z2
   cases h1
   rfl
  exact⟨v::u,_,by rw[s1,f];exact c2x _ _ _ _,i _,b3z s q.k q.wf (fun _=>⟨s2,s3⟩) (fun e=>by omega) (fun e=>by omega) (fun e=>by omega),rfl,fun _ z hz=>s4 z (by rw[z6];exact hz)⟩
 split at h2
 ·rename_i e6
  split at h2
  ·rename_i hsb
   have e2:d=c':=by injection h2
   subst e2
   refine⟨-1::u,_,f,i _,b3z s q.k q.wf (fun e=>by omega) (fun e=>by omega) (fun _=>?_) (fun e=>by omega),rfl,fun(e:k=18)=>by omega⟩
   subst e6
   have z7:=s
   rw[isN]at s
   obtain⟨a1,_,_,_,_,_,a7,_,_⟩:=s
   have h2:ks.length=2:=by unfold a0w at a1;omega
   match ks,h2 with
   | [x,y],_ =>
    have hc:=a7 rfl
    simp at hc
    have z3:=c2y q.k
    match ps,z3 with
    | [p,p'],_ =>
     have z0:p.k=x.k:=by have:=q.k;simp at this;exact this.1
     refine⟨p,rfl,?_⟩
     have hx:x.k=18\/x.k=20:=by
      obtain⟨xk,xt,xo,xs⟩:=x
      rw[a3e]at hc
      split at hc
      ·rename_i e;exact .inl e
      ·split at hc
       ·rename_i e;exact .inr e
       ·split at hc
        ·simp at hc
        ·cases hc
     rcases hx with hx|hx
     ·refine .inr ⟨by omega,?_⟩
      simp only[List.head?_cons,setB]at hsb
      rw[if_pos hx]at hsb
      have z6:d.bl=c.bl:=by
       rw[allC]at h1
       obtain⟨c1,g1,g2⟩:=a1h h1
       rw[allC]at g2
       obtain⟨c2,g3,g4⟩:=a1h g2
       cases g4
       have b1:=c9t fs x _ _ (a4j z7 (j:=0) (x:=x) rfl).2 (by have:=(a4j z7 (j:=0) (x:=x) rfl).1;simpa[a0z]using this) g1
       have b2:=c9t fs y _ _ (a4j z7 (j:=1) (x:=y) rfl).2 (by have:=(a4j z7 (j:=1) (x:=y) rfl).1;simpa[a0z]using this) g3
       rw[b2,b1];rfl
      cases hf:findL x.t d.bl with
      | none=>rw[hf]at hsb;simp at hsb
      | some z =>
       obtain⟨p0,z1,e0,h0⟩:=q.hd x [y] rfl hx z (by show findL x.t c.bl=_;rw[<- z6];exact hf)
       cases e0
       exact h0
     ·exact .inl (by omega)
  ·cases h2
 split at h2
 ·rename_i e21
  split at h2
  ·cases h2
  ·cases h2
   exact⟨-1::u,_,f,i _,b3z s q.k q.wf (fun e=>by omega) (fun e=>by omega) (fun e=>by omega) (fun _=>by omega),rfl,fun(e:k=18)=>by omega⟩
 ·cases h2
  exact⟨-1::u,_,f,i _,b3z s q.k q.wf (fun e=>by omega) (fun e=>by omega) (fun e=>by omega) (fun e=>by omega),rfl,fun(e:k=18)=>by omega⟩
structure WFn (nf:Nat) (p:Pt):Prop where
 k:p.k=2
 wf:Wf nf p
 l1:1<=p.kids.length
 l6:p.kids.length<=6
structure FQ (fs:List (List UInt8)) (n:Nd) (c c':Cs) (ext:List Int) (p:Pt):Prop where
 sl:c'.sl=c.sl++ext
 la:∀rest,layN n (ext++rest)=(p,rest)
 wf:WFn fs.length p
 t:p.t=⟨n.t.toArray⟩
theorem b9n(l m:List Nd)(sl:List Int):layN.go (l++m) sl=((layN.go l sl).1++(layN.go m (layN.go l sl).2).1,(layN.go m (layN.go l sl).2).2):=by
 induction l generalizing sl with
 | nil=>simp[layN.go]
 | cons x l ih=>simp[layN.go,ih]
theorem d2q(fs:List (List UInt8))(i:Nat)(n:Nd)(c c':Cs)(hN:isN n)(hk:n.k=2)(hc:c.bl=[])(h:funC fs i n c=.ok c'):∃g p,FQ fs n c c' g p:=by
 unfold funC at h
 split at h
 ·cases h
 split at h
 ·cases h
 rename_i h6
 obtain⟨d,h1,h2⟩:=a5n h
 subst h2
 obtain⟨k,t,o,ks⟩:=n
 simp only at hk h6 h1
 subst hk
 have f:1<=ks.length:=by
  have:=hN
  rw[isN]at this
  obtain⟨a1,_⟩:=this
  unfold a0w at a1
  omega
 have y:ks≠[]:=fun e=>by rw[e]at f;simp at f
 obtain⟨u,z,hz⟩:∃u z,ks=u++[z]:=⟨ks.dropLast,ks.getLast y,(List.dropLast_concat_getLast y).symm⟩
 subst hz
 rw[a9b]at h1
 obtain⟨e,h3,h4⟩:=a1h h1
 have lb:Lv c.enter.begin:=by unfold Lv Cs.live Cs.begin Cs.enter;simp[hc,sumL]
 have nb:c.enter.begin.bl≠[]:=by simp[Cs.begin]
 obtain⟨e1,qs,q⟩:=a9y fs u c.enter.begin e (fun x _=>c3a fs x) (fun x m=>b5q hN (by simp[m])) lb nb h3
 have s:z.k=4:=by
  have:=(a4j hN (j:=u.length) (x:=z) (by simp)).1
  unfold a0z at this
  simpa using this
 obtain⟨a,pz,v⟩:=c3a fs z e d (b5q hN (by simp)) (a5g fs _ _ _ h3 lb) (b2h (a2q fs _ _ _ h3) nb) (.inr ⟨s,h4⟩)
 refine⟨-1::(e1++a),⟨2,⟨t.toArray⟩,o,-1,qs++[pz]⟩,?_,fun rest=>?_,⟨rfl,b3z hN ?_ ?_ (fun e=>by omega) (fun e=>by omega) (fun e=>by omega) (fun e=>by omega),by simp,?_⟩,rfl⟩
 ·show d.sl=_
  rw[v.sl,q.sl]
  show c.sl++[-1]++e1++a=_
  simp
 ·rw[layN]
  simp only[List.cons_append,List.headD_cons,List.tail_cons]
  rw[b9n,List.append_assoc,q.la]
  simp only[layN.go]
  rw[v.la]
 ·rw[List.map_append,List.map_append,q.k]
  simp[v.k]
 ·intro x m
  rcases List.mem_append.1 m with h|h
  ·exact q.wf _ h
  ·simp at h;subst h;exact v.wf
 ·have:=c2y q.k
  simp at h6⊢
  omega
structure UQ (fs:List (List UInt8)) (l:List Nd) (c c':Cs) (ext:List Int) (ps:List Pt):Prop where
 sl:c'.sl=c.sl++ext
 la:∀rest,layN.go l (ext++rest)=(ps,rest)
 wf:∀q∈ps,WFn fs.length q
 t:ps.map Pt.t=l.map fun n=>(⟨n.t.toArray⟩:ByteArray)
theorem d6m{i:Nat}{n:Nd}{c c':Cs}(hc:c.bl=[])(h:funC fs i n c=.ok c'):c'.bl=[]:=by
 have:=(b6u fs i n c c' h).len
 rw[hc]at this
 exact List.length_eq_zero_iff.1 this
theorem b7e(fs:List (List UInt8)):∀(l:List Nd) (i:Nat) (c z:Cs),(∀x∈l,isN x/\x.k=2)->c.bl=[]->a5m fs i l c=.ok z->∃o s,UQ fs l c z o s
 | [],i,c,z,_,_,h=>by
  rw[a5m]at h
  cases h
  exact⟨[],[],by simp,fun rest=>rfl,by simp,rfl⟩
 | x::l,i,c,z,hN,hc,h=>by
  rw[a5m]at h
  obtain⟨d,h1,h2⟩:=a1h h
  obtain⟨j,p,u⟩:=d2q fs i x c d (hN x (by simp)).1 (hN x (by simp)).2 hc h1
  obtain⟨m,s,v⟩:=b7e fs l (i+1) d z (fun y n=>hN y (List.mem_cons_of_mem _ n)) (d6m hc h1) h2
  refine⟨j++m,p::s,by rw[v.sl,u.sl,List.append_assoc],fun rest=>?_,fun q hq=>?_,by simp[u.t,v.t]⟩
  ·rw[layN.go,List.append_assoc,u.la,v.la]
  ·rcases List.mem_cons.1 hq with rfl|hq
   ·exact u.wf
   ·exact v.wf q hq
theorem b7f(fs:List (List UInt8)):∀(l:List Nd) (i:Nat) (c z:Cs),a5m fs i l c=.ok z->i<=12->i+l.length<=12
 | [],i,_,_,_,hi=>by simpa using hi
 | x::l,i,c,z,h,hi=>by
  rw[a5m]at h
  obtain⟨d,h1,h2⟩:=a1h h
  have:i<12:=by
   unfold funC at h1
   split at h1
   ·cases h1
   split at h1
   ·cases h1
   omega
  have:=b7f fs l (i+1) d z h2 (by omega)
  simp
  omega
structure WU (u:Pt):Prop where
 wf:∀q∈u.kids,WFn u.kids.length q
 l:u.kids.length<=12
 main:∃j,j<u.kids.length/\(∃q,u.kids[j]?=some q/\q.t=⟨#[109,97,105,110]⟩/\q.kids.length=1)/\∀i q,i<j->u.kids[i]?=some q->q.t≠⟨#[109,97,105,110]⟩
theorem c7a{n:Nd}{sl:List Int}(hN:isN n)(hk:n.k=1)(h:a7k n=.ok sl):∃u,(∀rest,layN n (sl++rest)=(u,rest))/\WU u:=by
 obtain⟨k,t,o,ks⟩:=n
 simp only at hk
 subst hk
 unfold a7k at h
 simp only at h
 split at h
 ·cases h
 rename_i c hc
 split at h
 ·cases h
 rename_i j hj
 split at h
 ·cases h
 rename_i hpb
 cases h
 have z3:∀x∈ks,isN x/\x.k=2:=fun x m=>by
  obtain⟨i,hi⟩:=List.getElem?_of_mem m
  obtain⟨a,b⟩:=a4j hN hi
  exact⟨b,by simpa[a0z]using a⟩
 obtain⟨z8,v,q⟩:=b7e _ ks 0 _ c z3 rfl hc
 have d:v.length=ks.length:=by have:=congrArg List.length q.t;simpa using this
 have y7:=b7f _ ks 0 _ c hc (by omega)
 have z5:c.sl=-1::z8:=q.sl
 refine⟨⟨1,⟨t.toArray⟩,o,-1,v⟩,fun rest=>?_,?_,by show v.length<=12;omega,?_⟩
 ·rw[z5,layN]
  simp only[List.cons_append,List.headD_cons,List.tail_cons]
  rw[q.la]
 ·intro x m
  have:=q.wf x m
  rw[List.length_map]at this
  show WFn v.length x
  rw[d]
  exact this
 ·unfold funI at hj
  rw[List.findIdx?_eq_some_iff_getElem]at hj
  obtain⟨z0,z9,z1⟩:=hj
  rw[List.length_map]at z0
  have s:∀(i:Nat) (x:Pt),v[i]?=some x->∃y,ks[i]?=some y/\x.t=(⟨y.t.toArray⟩:ByteArray):=fun i x m=>by
   have h1:(v.map Pt.t)[i]?=some x.t:=by rw[List.getElem?_map,m];rfl
   rw[q.t,List.getElem?_map]at h1
   obtain⟨y,h2,h3⟩:=Option.map_eq_some_iff.1 h1
   exact⟨y,h2,h3.symm⟩
  have g:v[j]?=some v[j]:=List.getElem?_eq_getElem (by omega)
  obtain⟨y,hy,z6⟩:=s j _ g
  have z2:y=ks[j]:=by rw[List.getElem?_eq_getElem (by omega)]at hy;exact(Option.some.inj hy).symm
  have f:y.t=W.main_:=by
   simp at z9
   rw[z2];exact z9
  refine⟨j,by show j<v.length;omega,⟨v[j],g,by rw[z6,f],?_⟩,fun i x hi m e=>?_⟩
  ·-- no parameters
   have h1:=q.wf v[j] (List.getElem_mem _)
   have h2:v[j].kids.length=ks[j].kids.length:=by
    have z4:=q.la []
    have key:∀(l:List Nd) (sl:List Int) (i:Nat) (x:Nd) (p:Pt),l[i]?=some x->(layN.go l sl).1[i]?=some p->p.kids.length=x.kids.length:=by
     have y8:∀(l:List Nd) (sl:List Int),(layN.go l sl).1.length=l.length:=by
      intro l
      induction l with
      | nil=>intro sl;rfl
      | cons a l ih=>intro sl;simp[layN.go,ih]
     intro l
     induction l with
     | nil=>intro sl i x p h;simp at h
     | cons a l ih =>
      intro sl i x p h1 h2
      cases i with
      | zero =>
       simp[layN.go]at h1 h2
       subst h1
       subst h2
       obtain⟨ak,y6,ao,y5⟩:=a
       simp[layN,y8]
      | succ i =>
       simp only[layN.go,List.getElem?_cons_succ]at h1 h2
       exact ih _ i x p h1 h2
    have:=key ks (z8++[]) j ks[j] v[j] (List.getElem?_eq_getElem (by omega)) (by rw[z4];exact g)
    exact this
   have h3:ks[j]?=some ks[j]:=List.getElem?_eq_getElem (by omega)
   rw[h3]at hpb
   simp[b1b]at hpb
   have:=h1.l1
   omega
  ·obtain⟨z,hz,z7⟩:=s i x m
   have h3:=z1 i hi
   have y9:z=ks[i]'(by omega):=by rw[List.getElem?_eq_getElem (by omega)]at hz;exact(Option.some.inj hz).symm
   rw[z7]at e
   simp at h3 e
   apply h3
   rw[<- y9]
   exact e
end Go.Proofs.YtfbpdbndejefdaaGreatDoor.V
