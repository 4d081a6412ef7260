import Derived.Test.YtomniogfpfbolaaGreatDoorS21
namespace Go.Proofs.YtomniogfpfbolaaGreatDoor.V.C
open Go.RowKit Go
set_option maxRecDepth 100000
set_option maxHeartbeats 8000000
set_option linter.all false
variable {p x y:Pt} {l:List Pt} {q:Q4} {tm:Array Value} {b:Option Addr} {to:Int} {V:World} {e:Ending} {a:Value}
structure Pq (nf:Nat) (p:Pt):Prop where
 wf:Wf nf p
 n:isN (era p)
theorem c7l(p:Pt):(era p).k=p.k:=by cases p;rfl
theorem d7q(p:Pt):(era p).n=p.n:=by cases p;rfl
theorem c3h{j:Nat}(h:p.kids[j]?=some x):(era p).kids[j]?=some (era x):=by rw[a5p,List.getElem?_map,h];rfl
theorem Pq.kid{nf:Nat}{j:Nat}(h:Pq nf p)(hx:p.kids[j]?=some x):Pq nf x/\a0w p.k p.kids.length j x.k:=by
 obtain⟨h1,h2⟩:=h
 have z:Wf nf x:=by
  obtain⟨k,t,n,sl,kids⟩:=p
  rw[Wf]at h1
  obtain⟨_,_,_,_,_,_,_,_,h1⟩:=h1
  exact((d0w _ _ _ _ _).1 h1 j x hx).2
 have w:=c3h hx
 have v:era p=⟨(era p).k,(era p).t,(era p).n,(era p).kids⟩:=by generalize era p=q;cases q;rfl
 rw[v]at h2
 have:=a3b h2 w
 refine⟨⟨z,this.2⟩,?_⟩
 rw[<- c7l p,<- c7l x]
 have y:(era p).kids.length=p.kids.length:=by rw[a5p,List.length_map]
 rw[<- y]
 exact this.1
theorem c7m{l:List Nd}{x:Nd}(h:x∈l):a1l x<=a1l.go l:=by
 induction l with
 | nil=>simp at h
 | cons a l ih =>
  simp only[a1l.go]
  rcases List.mem_cons.1 h with rfl|h
  ·omega
  ·have:=ih h;omega
theorem a1t{j:Nat}(h:p.kids[j]?=some x):hgt x+1<=hgt p:=by
 have h1:=c7m (List.mem_of_getElem? (c3h h))
 have h2:a1l (era p)=a1l.go (era p).kids+1:=by cases era p;rfl
 show a1l (era x)+1<=a1l (era p)
 omega
def cntL (l:List Pt):Nat:=manyN.go (l.map era)
theorem a2v(p:Pt):cnt p=cntL p.kids+1:=by
 show manyN (era p)=_
 have h2:manyN (era p)=manyN.go (era p).kids+1:=by cases era p;rfl
 rw[h2,a5p]
 rfl
theorem a1d(x:Pt)(l:List Pt):cntL (x::l)=cnt x+cntL l:=by simp[cntL,manyN.go]
theorem a3m:cntL []=0:=rfl
theorem a6h(p:Pt):1<=hgt p:=by
 have h2:a1l (era p)=a1l.go (era p).kids+1:=by cases era p;rfl
 show 1<=a1l (era p)
 omega
theorem Pq.head{nf:Nat}(h:Pq nf p):a0r p.k p.kids.length/\(p.k=14->p.t.size<=300)/\(p.k=13->0<=p.n/\p.n<=9223372036854775807)/\(p.k=18->0<=p.sl/\p.sl<30+nf)/\(p.k=3\/p.k=5\/p.k=10->0<=p.sl/\p.sl<30)/\(p.k=6->∃x,p.kids[0]?=some x/\(x.k=20\/(x.k=18/\x.sl<30)))/\(p.k=21->p.kids.length<=6):=by
 obtain⟨k,t,n,sl,kids⟩:=p
 have:=h.wf
 rw[Wf]at this
 obtain⟨r,s,u,v,w,y,z,_⟩:=this
 exact⟨r,s,u,v,w,y,z⟩
theorem Pq.op{nf:Nat}(h:Pq nf p)(hk:p.k=22):(1<=p.n/\p.n<=9)\/p.n=20\/p.n=21:=by
 have hn:=h.n
 have z:era p=⟨(era p).k,(era p).t,(era p).n,(era p).kids⟩:=by generalize era p=q;cases q;rfl
 rw[z,isN]at hn
 obtain⟨_,_,_,⟨w,_⟩,_⟩:=hn
 have:=w (by rw[c7l];exact hk)
 rw[d7q]at this
 unfold opOf at this
 simp only[Option.isSome_map]at this
 rw[List.find?_isSome]at this
 obtain⟨x,y,z⟩:=this
 simp[opsL]at y
 simp at z
 rcases y with rfl|rfl|rfl|rfl|rfl|rfl|rfl|rfl|rfl|rfl|rfl <;> simp at z <;> omega
structure At (w1:World) (B nf:Nat) (D0:Nat->Prop) (m0:Ma) (W0:World) (os:List (Nat×Obj)) (ko kc:Nat) (D:Nat->Prop) (m:Ma) (W:World):Prop where
 mq:Mq w1 B D m W
 iv:Inv nf m
 ex:Ex m0 m ko kc
 ck:CK D0 W0 D W
 bo:∀p∈os,W.heap[p.1]?=some p.2/\¬D p.1
section
variable {w1:World} {B nf:Nat} {D0 D D1:Nat->Prop} {m0 m m1:Ma} {W0 W W1:World} {os:List (Nat×Obj)} {ko kc k j:Nat}
theorem At.begin(h:Mq w1 B D m W0)(hi:Inv nf m)(hb:Bw W0 W)(ho:∀p∈os,W.heap[p.1]?=some p.2/\W0.heap.size<=p.1):At w1 B nf D m W0 os 0 0 D m W :=
 ⟨h.below hb,hi,Ex.refl m,CK.below hb,fun p z=>⟨(ho p z).1,h.new (ho p z).2⟩⟩
theorem At.begin'(h:Mq w1 B D m W)(hi:Inv nf m)(ho:∀p∈os,W.heap[p.1]?=some p.2/\¬D p.1):At w1 B nf D m W os 0 0 D m W:=⟨h,hi,Ex.refl m,CK.refl,ho⟩
theorem At.below(h:At w1 B nf D0 m0 W0 os ko kc D m W)(hb:Bw W W1):At w1 B nf D0 m0 W0 os ko kc D m W1 :=
 ⟨h.mq.below hb,h.iv,h.ex,h.ck.trans (CK.below hb),fun p z=>⟨q0z hb (h.bo p z).1,(h.bo p z).2⟩⟩
theorem At.add(h:At w1 B nf D0 m0 W0 os ko kc D m W)(hb:Bw W W1){t:Nat}{o:Obj}(ht:W.heap.size<=t)(g:W1.heap[t]?=some o):At w1 B nf D0 m0 W0 ((t,o)::os) ko kc D m W1:=by
 have h1:=h.below hb
 refine⟨h1.mq,h1.iv,h1.ex,h1.ck,fun p z=>?_⟩
 rcases List.mem_cons.1 z with rfl|z
 ·exact⟨g,h.mq.new ht⟩
 ·exact h1.bo p z
theorem At.drop{p:Nat×Obj}(h:At w1 B nf D0 m0 W0 (p::os) ko kc D m W):At w1 B nf D0 m0 W0 os ko kc D m W:=⟨h.mq,h.iv,h.ex,h.ck,fun q hq=>h.bo q (List.mem_cons_of_mem _ hq)⟩
theorem At.step(h:At w1 B nf D0 m0 W0 os ko kc D m W)(hM:Mq w1 B D1 m1 W1)(hI:Inv nf m1)(hX:Ex m m1 k j)(hK:CK D W D1 W1):At w1 B nf D0 m0 W0 os (ko+k) (kc+j) D1 m1 W1 :=
 ⟨hM,hI,h.ex.trans hX (Nat.le_refl _) (Nat.le_refl _),h.ck.trans hK,fun p z=>by
  obtain⟨g,n⟩:=h.bo p z
  exact hK.box g n⟩
theorem At.land{i:Nat}{x:Q4}(h:At w1 B nf D0 m0 W0 os ko kc D m W)(hM:Mq w1 B D1 { m with co:=m.co.set i x } W1)(hI:Inv nf { m with co:=m.co.set i x })(hK:CK D W D1 W1)(hi:m0.co.length<=i):At w1 B nf D0 m0 W0 os ko kc D1 { m with co:=m.co.set i x } W1 :=
 ⟨hM,hI,h.ex.set hi,h.ck.trans hK,fun p z=>by
  obtain⟨g,n⟩:=h.bo p z
  exact hK.box g n⟩
theorem At.at(h:At w1 B nf D0 m0 W0 os ko kc D m W)(i:Nat){t:Nat}{o:Obj}(hi:os[i]?=some (t,o)):W.heap[t]?=some o:=(h.bo _ (List.mem_of_getElem? hi)).1
theorem At.done{P:Ma->Value->Prop}{v:Value}(h:At w1 B nf D0 m0 W0 os ko kc D m W)(hk:ko<=k)(hj:kc<=j)(hP:P m v):MZ w1 B nf D0 m0 W0 k j P (.returned v) W :=
 ⟨v,m,D,rfl,h.mq,h.iv,h.ex.trans (Ex.refl m) (by omega) (by omega),h.ck,hP⟩
end
structure Rm (m:Ma) (u c:Nat):Prop where
 us:m.us+u<=250
 co:m.co.length+4*c<=3000
 cs:m.cs.length+c<=700
theorem Rm.on{m m':Ma}{u c u' c' ko kc:Nat}(h:Rm m u c)(hX:Ex m m' ko kc)(hu:m'.us+u'<=m.us+u)(hk:ko+4*c'<=4*c)(hc:kc+c'<=c):Rm m' u' c':=by
 have h1:=hX.lco
 have h2:=hX.lcs
 have h3:=h.us
 have h4:=h.co
 have h5:=h.cs
 exact⟨by omega,by omega,by omega⟩
def EC (w1:World) (B nf n:Nat):Prop:=∀(p:Pt) (b:Option Addr) (cap:Nat) (to:Int) (D:Nat->Prop) (m:Ma) (W:World),hgt p<=n->Pq nf p->a1i p.k->PK tt w1 p.kids b cap->Mq w1 B D m W->Inv nf m->rgO m.rg to->Rm m (8*hgt p) (cnt p)->Cl 59 #[pM B,ptv p b cap,vi to] W (MZ w1 B nf D m W (4*cnt p) (cnt p) fun m' v=>v=.tuple #[]/\m'.us=m.us)
section
variable {w1:World} {B nf:Nat} {D:Nat->Prop} {m:Ma} {W:World}
theorem a0x(p:Pt)(b:Option Addr)(cap:Nat):ptv p b cap=.agg #[vi p.k,.string p.t,vi p.n,vi p.sl,.slice b p.kids.length cap]:=rfl
theorem b6f{n:Nat}(hE:EC w1 B nf n)(p:Pt)(b:Option Addr)(cap:Nat)(hn:hgt p<=n)(hp:Pq nf p)(hk:a1i p.k)(hK:PK tt w1 p.kids b cap)(h:Mq w1 B D m W)(hi:Inv nf m)(hr:Rm m (8*hgt p+1) (cnt p)):Cl 65 #[pM B,ptv p b cap] W (MZ w1 B nf D m W (4*cnt p) (cnt p) fun m' v=>(∃r,v=vi r/\rgO m'.rg r)/\m'.us<=m.us+1):=by
 obtain⟨w0,f⟩:∃w0,W.alloc (.cells #[vi p.k,.string p.t,vi p.n,vi p.sl,.slice b p.kids.length cap] 47)=w0:=⟨_,rfl⟩
 have g0:w0.heap[W.heap.size]?=some (pbx p b cap):=by rw[<- f];exact new1 W _
 have z7:Bw W w0:=by rw[<- f];exact q1z (Below.refl W.heap.size W) _
 have hA:=At.begin (os:=[(W.heap.size,pbx p b cap)]) h hi z7 (fun q hq=>by simp at hq;subst hq;exact⟨g0,Nat.le_refl _⟩)
 obtain⟨c0,_,_,c3,_,_,_,_,_,_⟩:=in5 g0
 rw[a0x]
 by_cases h18:p.k=18/\p.sl<30
 ·obtain⟨z,hs⟩:=h18
  have hd:(p.k == 18)=true:=by simpa using z
  obtain⟨sl,z9⟩:∃sl:Nat,p.sl=sl:=⟨p.sl.toNat,by have:=hp.head.2.2.2.1 z;omega⟩
  rw[z9]at c3 hs f⊢
  obtain⟨_,_,_,_,c⟩:=hA.mq.mc
  have hl:sl<m.pl.length:=by rw[hi.p30];omega
  have c5:=c.pl sl _ (List.getElem?_eq_getElem hl)
  have d:=hi.pl _ (List.getElem_mem hl)
  obtain⟨x,hx⟩:∃x,m.pl[sl]=x:=⟨_,rfl⟩
  rw[hx]at c5 d
  have w:∀V,Bw w0 V->MZ w1 B nf D m W (4*cnt p) (cnt p) (fun m' v=>(∃r,v=vi r/\rgO m'.rg r)/\m'.us<=m.us+1) (.returned (vi x)) V:=fun V hb=>(hA.below hb).done (Nat.zero_le _) (Nat.zero_le _) ⟨⟨x,rfl,d⟩,by omega⟩
  have h0:(0:Int)<=(sl:Int):=by omega
  have hw:((sl:Nat):Int)<30:=by omega
  replace w:Hid _:=w
  clear hA h hi hr hp hK hE hn z z9 c hx d g0
  go_enter Tryz.func65,Tryz.ntmps65
  go_wp2
  go_quiet (fail)
  go_wp2
  go_ret
  exact w.out _ (q9z bz0)
 ·have hu:m.us<250:=by have:=hr.us;omega
  have ht:=b2e hA.mq hi hu
  have y:∀(s:World) (D2:Nat->Prop) (u:Ma),Mq w1 B D2 u s->Inv nf u->Ex m u 0 0->CK D w0 D2 s->u={ m with us:=m.us+1,rg:=max m.rg (m.us+1) }->s.heap[W.heap.size]?=some (pbx p b cap)/\Cl 59 #[pM B,ptv p b cap,vi (m.us:Nat)] s fun e w3=>e=.returned (.tuple #[])/\MZ w1 B nf D m W (4*cnt p) (cnt p) (fun m' v=>(∃r,v=vi r/\rgO m'.rg r)/\m'.us<=m.us+1) (.returned (vi (m.us:Nat))) w3:=fun s D2 u i g l a o=>by
   have z5:=hA.step i g l a
   have z8:rgO u.rg (m.us:Nat):=by rw[o];exact⟨by omega,.inl (by show(m.us:Int)<(max m.rg (m.us+1):Nat);omega)⟩
   have z0:u.us=m.us+1:=by rw[o]
   refine⟨z5.at 0 rfl,(hE p b cap (m.us:Nat) D2 u s hn hp hk hK i g z8 (hr.on l (by omega) (by omega) (by omega))).mono ?_⟩
   rintro e w3 ⟨v,m3,D3,rfl,z4,z3,z6,z2,rfl,z1⟩
   exact⟨rfl,(z5.step z4 z3 z6 z2).done (by omega) (by omega) ⟨⟨_,rfl,z8.mono z6.rg⟩,by omega⟩⟩
  replace y:Hid _:=y
  clear hA hr h hi hu hE hK hn z7
  by_cases z:p.k=18
  ·have hd:(p.k == 18)=true:=by simpa using z
   have hs:¬p.sl<30:=fun e=>h18 ⟨z,e⟩
   clear z h18 hk hp
   go_enter Tryz.func65,Tryz.ntmps65
   go_wp2_with (go_at_call 26;refine ht.mono ?_;rintro e s ⟨v,u,D2,rfl,i,g,l,a,rfl,o⟩;obtain⟨gg,hc⟩:=y.out _ _ _ i g l a o;refine Hid.out ?_)
   obtain⟨e0,e1,e2,e3,e4,_,_,_,_,_⟩:=in5 gg
   rw[a0x]at hc
   clear y i g l a o ht gg
   refine Lib.hid ?_
   go_wp2_with (go_at_call 59;refine hc.mono ?_;rintro e w3 ⟨rfl,hz⟩)
   go_ret
   exact hz
  ·have hd:(p.k == 18)=false:=by simpa using z
   clear z h18 hk hp
   go_enter Tryz.func65,Tryz.ntmps65
   go_wp2_with (go_at_call 26;refine ht.mono ?_;rintro e s ⟨v,u,D2,rfl,i,g,l,a,rfl,o⟩;obtain⟨gg,hc⟩:=y.out _ _ _ i g l a o;refine Hid.out ?_)
   obtain⟨e0,e1,e2,e3,e4,_,_,_,_,_⟩:=in5 gg
   rw[a0x]at hc
   clear y i g l a o ht gg
   refine Lib.hid ?_
   go_wp2_with (go_at_call 59;refine hc.mono ?_;rintro e w3 ⟨rfl,hz⟩)
   go_ret
   exact hz
end
section
variable {w1:World} {B nf:Nat} {D0 D:Nat->Prop} {m0 m:Ma} {W0 W:World} {os:List (Nat×Obj)} {ko kc:Nat}
theorem At.drew(h:At w1 B nf D0 m0 W0 os ko kc D m W):At w1 B nf D0 m0 W0 os ko kc D m W.drew:=h.below bz0.drew
theorem At.operand{n:Nat}(h:At w1 B nf D0 m0 W0 os ko kc D m W)(hE:EC w1 B nf n)(y:Pt)(b:Option Addr)(cap:Nat)(hn:hgt y<=n)(hp:Pq nf y)(hk:a1i y.k)(hK:PK tt w1 y.kids b cap)(hr:Rm m (8*hgt y+1) (cnt y)):Cl 65 #[pM B,ptv y b cap] W fun e V=>∃r m1 D1,e=.returned (vi r)/\At w1 B nf D0 m0 W0 os (ko+4*cnt y) (kc+cnt y) D1 m1 V/\Ex m m1 (4*cnt y) (cnt y)/\rgO m1.rg r/\m1.us<=m.us+1:=by
 refine(b6f hE y b cap hn hp hk hK h.mq h.iv hr).mono ?_
 rintro e V ⟨v,m1,D1,rfl,u,t,z,s,⟨r,rfl,w⟩,x⟩
 exact⟨r,m1,D1,rfl,h.step u t z s,z,w,x⟩
theorem At.expr{n:Nat}(h:At w1 B nf D0 m0 W0 os ko kc D m W)(hE:EC w1 B nf n)(y:Pt)(b:Option Addr)(cap:Nat)(to:Int)(ht:rgO m.rg to)(hn:hgt y<=n)(hp:Pq nf y)(hk:a1i y.k)(hK:PK tt w1 y.kids b cap)(hr:Rm m (8*hgt y) (cnt y)):Cl 59 #[pM B,ptv y b cap,vi to] W fun e V=>∃m1 D1,e=.returned (.tuple #[])/\At w1 B nf D0 m0 W0 os (ko+4*cnt y) (kc+cnt y) D1 m1 V/\Ex m m1 (4*cnt y) (cnt y)/\m1.us=m.us:=by
 refine(hE y b cap to D m W hn hp hk hK h.mq h.iv ht hr).mono ?_
 rintro e V ⟨v,m1,D1,rfl,w,u,z,t,rfl,x⟩
 exact⟨m1,D1,rfl,h.step w u z t,z,x⟩
theorem At.order(h:At w1 B nf D0 m0 W0 os ko kc D m W)(hl:m.co.length<3000)(q:Q4)(hq:okQ m.rg m.cs.length (m.co.length+1) m.co.length q):Cl 28 #[pM B,vi q.op,vi q.a,vi q.b,vi q.c] W fun e V=>∃m1 D1,e=.returned (vi (m.co.length:Nat))/\At w1 B nf D0 m0 W0 os (ko+1) kc D1 m1 V/\Ex m m1 1 0/\m1.us=m.us/\m1.co=m.co++[q]:=by
 refine(a7x h.mq h.iv hl q hq).mono ?_
 rintro e V ⟨v,m1,D1,rfl,x,w,y,u,rfl,z⟩
 exact⟨m1,D1,rfl,h.step x w y u,y,by rw[z],by rw[z]⟩
theorem At.const(h:At w1 B nf D0 m0 W0 os ko kc D m W)(v:Vl)(hv:okV nf v)(to:Int)(ht:rgO m.rg to)(hl:m.co.length<3000)(hc:m.cs.length<700):Cl 27 #[pM B,v.v,vi to] W fun e V=>∃m1 D1,e=.returned (.tuple #[])/\At w1 B nf D0 m0 W0 os (ko+1) (kc+1) D1 m1 V/\Ex m m1 1 1/\m1.us=m.us:=by
 refine(c2w h.mq h.iv v hv to ht hl hc).mono ?_
 rintro e V ⟨_,m1,D1,rfl,x,w,z,u,rfl,y⟩
 exact⟨m1,D1,rfl,h.step x w z u,z,y⟩
theorem At.landed(h:At w1 B nf D0 m0 W0 os ko kc D m W){i:Nat}(hq:m.co[i]?=some q)(hop:q.op=9\/q.op=8)(hl:m.co.length<=3000)(hi:m0.co.length<=i):Cl 93 #[pM B,vi (i:Nat)] W fun e V=>∃x m1 D1,e=.returned (.tuple #[])/\At w1 B nf D0 m0 W0 os ko kc D1 m1 V/\m1={ m with co:=m.co.set i x }:=by
 refine(c7b h.mq h.iv hq hop hl).mono ?_
 rintro e V ⟨rfl,x,D1,z,y,w⟩
 exact⟨x,_,D1,rfl,h.land z y w hi,rfl⟩
theorem At.take(h:At w1 B nf D0 m0 W0 os ko kc D m W)(hu:m.us<250):Cl 26 #[pM B] W fun e V=>∃m1 D1,e=.returned (vi (m.us:Nat))/\At w1 B nf D0 m0 W0 os ko kc D1 m1 V/\Ex m m1 0 0/\m1.us=m.us+1/\rgO m1.rg (m.us:Nat):=by
 refine(b2e h.mq h.iv hu).mono ?_
 rintro e V ⟨_,m1,D1,rfl,x,w,y,v,rfl,z⟩
 exact⟨m1,D1,rfl,h.step x w y v,y,by rw[z],by rw[z];exact⟨by omega,.inl (by show(m.us:Int)<(max m.rg (m.us+1):Nat);omega)⟩⟩
theorem At.declare(h:At w1 B nf D0 m0 W0 os ko kc D m W)(hu:m.us<250)(p:Pt)(b:Option Addr)(cap:Nat)(h0:0<=p.sl)(h1:p.sl<30):Cl 21 #[pM B,ptv p b cap] W fun e V=>∃m1 D1,e=.returned (vi (m.us:Nat))/\At w1 B nf D0 m0 W0 os ko kc D1 m1 V/\Ex m m1 0 0/\m1.us=m.us+1/\rgO m1.rg (m.us:Nat):=by
 refine(declare_any h.mq h.iv hu p b cap h0 h1).mono ?_
 rintro e V ⟨_,m1,D1,rfl,w,y,z,v,rfl,x⟩
 exact⟨m1,D1,rfl,h.step w y z v,z,x,⟨by omega,.inl (by have:=y.us;omega)⟩⟩
end
section
variable {w1:World} {B nf:Nat} {D:Nat->Prop} {m:Ma} {W:World}
def funV (i:Int) (h:0<=i/\i<=1000):Vl:=⟨5,i,E0,by decide,WalkArith.wf_i64 (by omega),by decide⟩
theorem d1s(i:Int)(h:0<=i/\i<=1000)(hn:i<nf):okV nf (funV i h):=by
 have y:=h.1
 have z:i<=2147483647:=by omega
 exact⟨by simp[mayB,funV,y,z],by show(5:Int)≠4;decide,fun _=>hn⟩
theorem name_any(sl to:Int)(h0:0<=sl)(h1:sl<30+nf)(hnf:nf<=12)(h:Mq w1 B D m W)(hi:Inv nf m)(ht:rgO m.rg to)(hr:Rm m 1 1):Cl 86 #[pM B,vi sl,vi to] W (MZ w1 B nf D m W 4 1 fun m' v=>v=.tuple #[]):=by
 have u:=At.begin (os:=[]) h hi (Below.refl W.heap.size W) (fun q hq=>by simp at hq)
 have r:m.co.length<3000:=by have:=hr.co;omega
 by_cases hs:sl<30
 ·obtain⟨s,rfl⟩:∃s:Nat,sl=s:=⟨sl.toNat,by omega⟩
  obtain⟨_,_,_,_,c⟩:=h.mc
  have w:s<m.pl.length:=by rw[hi.p30];omega
  have c5:=c.pl s _ (List.getElem?_eq_getElem w)
  have z:=hi.pl _ (List.getElem_mem w)
  obtain⟨x,t⟩:∃x,m.pl[s]=x:=⟨_,rfl⟩
  rw[t]at c5 z
  have o:=u.order r ⟨1,to,x,0⟩ (.inr (.inr (.inr (.inr (.inr (.inl ⟨.inl rfl,ht,z,rfl⟩))))))
  clear u h hi hr c t z ht h1 hnf
  go_enter Tryz.func86,Tryz.ntmps86
  go_wp2_with (go_at_call 28;refine o.mono ?_;rintro e p ⟨m1,D1,rfl,y,_,_,_⟩)
  go_end0
  exact y.done (by omega) (by omega) rfl
 ·have l:IntKind.i64.wrap (sl-30)=sl-30:=by rw[IntKind.wrap_i64];omega
  have n:=u.const (funV (sl-30) ⟨by omega,by omega⟩) (d1s _ _ (by omega)) to ht r (by have:=hr.cs;omega)
  clear u h hi hr ht
  go_enter Tryz.func86,Tryz.ntmps86
  go_wp2_with (go_at_call 27;refine n.mono ?_;rintro e p ⟨m1,D1,rfl,y,_,_⟩)
  go_end0
  exact y.done (by omega) (by omega) rfl
theorem b2k{n:Nat}(hE:EC w1 B nf n)(op:Int)(hop:op=4\/op=7\/(21<=op/\op<=29))(p:Pt)(b:Option Addr)(cap:Nat)(to:Int)(y0 y1:Pt)(hks:p.kids=[y0,y1])(hn:hgt p<=n+1)(hp:Pq nf p)(hk0:a1i y0.k)(hk1:a1i y1.k)(hK:PK tt w1 p.kids b cap)(h:Mq w1 B D m W)(hi:Inv nf m)(ht:rgO m.rg to)(hr:Rm m (8*hgt p) (cnt p)):Cl 87 #[pM B,vi op,ptv p b cap,vi to] W (MZ w1 B nf D m W (4*cnt p) (cnt p) fun m' v=>v=.tuple #[]):=by
 have f:p.kids[0]?=some y0:=by rw[hks];rfl
 have i:p.kids[1]?=some y1:=by rw[hks];rfl
 obtain⟨g,z,b0,l,rfl,w9,y6,y3⟩:=PK.kid hK f
 obtain⟨g',x1,b1,o,e1,_,y7,y4⟩:=PK.kid hK i
 cases e1
 have y8:=(hp.kid f).1
 have y9:=(hp.kid i).1
 have x3:=a1t f
 have x4:=a1t i
 have w8:cnt p=cnt y0+cnt y1+1:=by rw[a2v,hks,a1d,a1d,a3m];omega
 have y5:2<=cap:=by have:=hK.1.1;rw[hks]at this;exact this
 rw[a0x,hks]
 obtain⟨w0,z7⟩:∃w0,W.alloc (.cells #[vi p.k,.string p.t,vi p.n,vi p.sl,.slice (some (Ad g z)) 2 cap] 47)=w0:=⟨_,rfl⟩
 have g0:w0.heap[W.heap.size]?=some (.cells #[vi p.k,.string p.t,vi p.n,vi p.sl,.slice (some (Ad g z)) 2 cap] 47):=by rw[<- z7];exact new1 W _
 have y2:Bw W w0:=by rw[<- z7];exact q1z (Below.refl W.heap.size W) _
 have hA:=At.begin (os:=[(W.heap.size,.cells #[vi p.k,.string p.t,vi p.n,vi p.sl,.slice (some (Ad g z)) 2 cap] 47)]) h hi y2 (fun q hq=>by simp at hq;subst hq;exact⟨g0,Nat.le_refl _⟩)
 have w7:(2:Int)<=(cap:Int):=by omega
 -- what is read,wherever the method stands
 have r:∀{ko kc:Nat} {D1:Nat->Prop} {m1:Ma} {V:World},At w1 B nf D m W [(W.heap.size,.cells #[vi p.k,.string p.t,vi p.n,vi p.sl,.slice (some (Ad g z)) 2 cap] 47)] ko kc D1 m1 V->V.cell? (Ad W.heap.size 4)=some (.slice (some (Ad g z)) 2 cap)/\KC V y0 g z b0 l/\KC V y1 g (z+5) b1 o:=fun hV=>by
  refine⟨q2z (hV.at 0 rfl) rfl,?_,?_⟩
  ·simpa using y3 _ hV.mq.bl
  ·simpa using y4 _ hV.mq.bl
 have hf:∀{k0 k1:Nat} {m1 a:Ma} {r1 r2:Int},Ex m m1 (4*cnt y0) (cnt y0)->Ex m1 a (4*cnt y1) (cnt y1)->rgO m1.rg r1->rgO a.rg r2->a.co.length<3000/\okQ a.rg a.cs.length (a.co.length+1) a.co.length ⟨op,to,r1,r2⟩:=fun y s c d=>by
  have l1:=y.lco
  have l2:=s.lco
  have l3:=hr.co
  refine⟨by omega,.inr (.inr (.inr (.inr (.inr (.inr (.inr ⟨by rcases hop with e|e|e;exact .inl e;exact .inr (.inr (.inl e));exact .inr (.inr (.inr e)),ht.mono (Nat.le_trans y.rg s.rg),c.mono s.rg,d⟩))))))⟩
 have z6:Rm m (8*hgt y0+1) (cnt y0):=hr.on (Ex.refl m) (by omega) (by omega) (by omega)
 have w:=fun V (hb:Bw w0 V)=>(hA.below hb).operand hE y0 b0 l (by omega) y8 hk0 y6 z6
 have x:=fun(m1:Ma) (D1:Nat->Prop) V (hV:At w1 B nf D m W [(W.heap.size,.cells #[vi p.k,.string p.t,vi p.n,vi p.sl,.slice (some (Ad g z)) 2 cap] 47)] (0+4*cnt y0) (0+cnt y0) D1 m1 V) (y:Ex m m1 (4*cnt y0) (cnt y0)) (hu:m1.us<=m.us+1)=>hV.operand hE y1 b1 o (by omega) y9 hk1 y7 (hr.on y (by omega) (by omega) (by omega))
 obtain⟨z8,x7,x8⟩:=r hA.drew
 replace w:Hid _:=w
 replace x:Hid _:=x
 replace r:Hid _:=@r
 replace hf:Hid _:=@hf
 obtain⟨a0,a1,a2,a3,a4⟩:=x7
 obtain⟨z0,z1,z2,z3,z4⟩:=x8
 clear hr z6 y3 y4 hE y6 y7 y8 y9 hk0 hk1 hi h ht hK hp hks f i y2 g0 hA x3 x4 hn hop y5
 rw[a0x]at w x
 go_enter Tryz.func87,Tryz.ntmps87
 go_wp2
 go_region_held3 (fun u=>u.cell? (Ad W.heap.size 4)=some (.slice (some (Ad g z)) 2 cap)/\u.cell? (Ad g z)=some (vi y0.k)/\u.cell? (Ad g (z+1))=some (.string y0.t)/\u.cell? (Ad g (z+2))=some (vi y0.n)/\u.cell? (Ad g (z+3))=some (vi y0.sl)/\u.cell? (Ad g (z+4))=some (.slice b0 y0.kids.length l)/\u.cell? (Ad g (z+5))=some (vi y1.k)/\u.cell? (Ad g (z+5+1))=some (.string y1.t)/\u.cell? (Ad g (z+5+2))=some (vi y1.n)/\u.cell? (Ad g (z+5+3))=some (vi y1.sl)/\u.cell? (Ad g (z+5+4))=some (.slice b1 y1.kids.length o)) (go_keep) (first|(go_at_call_of 65 y0;refine(w.out _ bz0.drew).mono ?_;rintro e w2 ⟨r1,m1,D1,rfl,z9,y,c,x6⟩;obtain⟨z8,⟨a0,a1,a2,a3,a4⟩,⟨z0,z1,z2,z3,z4⟩⟩:=r.out z9)|(go_at_call_of 65 y1;refine(x.out _ _ _ z9 y x6).mono ?_;rintro e w3 ⟨r2,a,D2,rfl,x9,s,d,x0⟩;obtain⟨z8,⟨a0,a1,a2,a3,a4⟩,⟨z0,z1,z2,z3,z4⟩⟩:=r.out x9))
 obtain⟨x5,z5⟩:=hf.out (k0:=0) (k1:=0) y s c d
 have ho:=x9.order x5 ⟨op,to,r1,r2⟩ z5
 clear w x r hf z9 y s c d z5
 go_wp2_with (go_at_call 28;refine ho.mono ?_;rintro e w4 ⟨m3,D3,rfl,x2,_,_,_⟩)
 go_end0
 exact x2.done (by omega) (by omega) rfl
end
section
variable {w1:World} {B nf:Nat} {D:Nat->Prop} {m:Ma} {W:World}
abbrev bx (x:Vl):Obj:=.cells #[vi x.k,vi x.n,.string x.s] 75
abbrev put3 (W:World) (B:Nat) (x:Vl):World:=((W.setCell (Ad B 0) (vi x.k)).setCell (Ad B 1) (vi x.n)).setCell (Ad B 2) (.string x.s)
theorem put3_same{W:World}{B:Nat}{x:Vl}(y:Vl)(h:W.heap[B]?=some (bx x)):(put3 W B y).heap[B]?=some (bx y):=q7z _ (q7z _ (q7z _ h))
theorem b9p(W:World)(B:Nat)(y:Vl):a0b (fun q=>q=B) W (put3 W B y):=((a1u _ _ _ _).trans (a1u _ _ _ _)).trans (a1u _ _ _ _)
theorem put3_below{w W:World}{B:Nat}(y:Vl)(h:Bw w W)(hB:w.heap.size<=B):Bw w (put3 W B y):=a0b.toBelow h (b9p W B y) fun k e=>e▸hB
abbrev nilW:Vl:=⟨0,0,E0,by decide,by decide,by decide⟩
abbrev intW (i:Int) (h:0<=i/\i<=9223372036854775807):Vl:=⟨2,i,E0,by decide,WalkArith.wf_i64 (by omega),by decide⟩
abbrev txtW (s:ByteArray) (h:s.size<=300):Vl:=⟨3,0,s,by decide,by decide,by unfold maxLen;omega⟩
abbrev booW (b:Bool):Vl:=⟨1,if b then 1 else 0,E0,by decide,by cases b <;> decide,by decide⟩
theorem c3i:okV nf nilW:=⟨by simp[mayB,nilW],by show(0:Int)≠4;decide,fun e=>by cases(show(0:Int)=5 from e)⟩
theorem c3j(i:Int)(h:0<=i/\i<=9223372036854775807):okV nf (intW i h):=⟨by simp[mayB,intW],by show(2:Int)≠4;decide,fun e=>by cases(show(2:Int)=5 from e)⟩
theorem d1t(s:ByteArray)(h:s.size<=300):okV nf (txtW s h):=⟨by simp only[mayB,if_true];have z:(s.size:Int)<=300:=Int.ofNat_le.2 h;simp[z],by show(3:Int)≠4;decide,fun e=>by cases(show(3:Int)=5 from e)⟩
theorem c3k(b:Bool):okV nf (booW b):=⟨by cases b <;> simp[mayB,booW],by show(1:Int)≠4;decide,fun e=>by cases(show(1:Int)=5 from e)⟩
theorem number_any(n:Int)(w:World):Cl 94 #[vi n] w fun e z=>e=.returned (val 2 n E0)/\Bw w z:=by
 have y:=q1z (Below.refl w.heap.size w) (box 2 n E0)
 go_enter Tryz.func94,Tryz.ntmps94
 go_wp2
 exact bodyPost_ret (v:=val 2 n E0) (by simp[results,Tryz.results94,go_sem]) rfl ⟨rfl,y⟩
theorem b0f(b:Bool)(w:World):Cl 115 #[.bool b] w fun e z=>e=.returned (val 1 (if b then 1 else 0) E0)/\Bw w z:=by
 have y:=q1z (Below.refl w.heap.size w) (box 1 (if b then 1 else 0) E0)
 cases b
 all_goals
  go_enter Tryz.func115,Tryz.ntmps115
  go_wp2
  exact bodyPost_ret (v:=val 1 _ E0) (by simp[results,Tryz.results115,go_sem]) rfl ⟨rfl,y⟩
theorem c3l{W:World}{B:Nat}{x:Vl}(h:tm[2]?.getD undef=Po B 0)(hx:W.heap[B]?=some (bx x)):(results Tryz.f90 tm).run Tryz.prog W=.ok x.v W:=by
 have c0:=q2z (i:=0) (v:=vi x.k) hx rfl
 have c1:=q2z (i:=1) (v:=vi x.n) hx rfl
 have c2:=q2z (i:=2) (v:=.string x.s) hx rfl
 simp[results,Tryz.results90,go_sem,h,c0,c1,c2]
theorem b6g(p:Pt)(b:Option Addr)(cap:Nat)(hp:Pq nf p)(W:World):Cl 90 #[ptv p b cap] W fun e W'=>∃v:Vl,e=.returned v.v/\okV nf v/\Bw W W':=by
 obtain⟨s,l⟩:∃s,(W.alloc (.cells #[vi p.k,.string p.t,vi p.n,vi p.sl,.slice b p.kids.length cap] 47)).alloc (.cells #[vi 0,vi 0,.string ⟨#[]⟩] 75)=s:=⟨_,rfl⟩
 have g0:s.heap[W.heap.size]?=some (pbx p b cap):=by rw[<- l];exact q4z _ (new1 W _)
 have g1:s.heap[W.heap.size+1]?=some (bx nilW):=by rw[<- l];exact new2 W _ _
 have u:Bw W s:=by rw[<- l];exact q1z (q1z (Below.refl W.heap.size W) _) _
 obtain⟨c0,c1,c2,_,_,_,_,_,_,_⟩:=in5 g0
 have d0:=q2z (i:=0) (v:=vi 0) g1 rfl
 have d1:=q2z (i:=1) (v:=vi 0) g1 rfl
 have d2:=q2z (i:=2) (v:=.string E0) g1 rfl
 have f0:s.frozen? (Ad (W.heap.size+1) 0)=false:=q6z g1
 have f1:s.frozen? (Ad (W.heap.size+1) 1)=false:=q6z g1
 have f2:s.frozen? (Ad (W.heap.size+1) 2)=false:=q6z g1
 rw[a0x]
 have h:=hp.head
 have z:∀(V:World) (v:Vl),Bw s V->okV nf v->V.heap[W.heap.size+1]?=some (bx nilW)/\W.heap.size+1<V.heap.size/\∃x:Vl,Ending.returned v.v=.returned x.v/\okV nf x/\Bw W (put3 V (W.heap.size+1) v):=fun V v a hv=>⟨q0z a g1,Nat.lt_of_lt_of_le (q5z g1) a.size,v,rfl,hv,put3_below v (q3z u a) (by omega)⟩
 by_cases h13:p.k=13
 ·have hd:(p.k == 13)=true:=by simpa using h13
  have hn:=h.2.2.1 h13
  have q:=number_any p.n s
  replace z:Hid _:=z
  clear h hp h13 u g0 g1
  go_enter Tryz.func90,Tryz.ntmps90
  go_wp2_with (go_at_call 94;refine q.mono ?_;rintro e r ⟨rfl,o⟩;obtain⟨y,_,w⟩:=z.out _ (intW p.n hn) o (c3j _ _);have d0:=q2z (i:=0) (v:=vi 0) y rfl;have d1:=q2z (i:=1) (v:=vi 0) y rfl;have d2:=q2z (i:=2) (v:=.string E0) y rfl;have f0:r.frozen? (Ad (W.heap.size+1) 0)=false:=q6z y;have f1:r.frozen? (Ad (W.heap.size+1) 1)=false:=q6z y;have f2:r.frozen? (Ad (W.heap.size+1) 2)=false:=q6z y;replace w:Hid _:=w)
  exact bodyPost_ret (c3l (x:=intW p.n hn) (B:=W.heap.size+1) rfl (put3_same (intW p.n hn) y)) rfl w.out
 have hd:(p.k == 13)=false:=by simpa using h13
 by_cases h14:p.k=14
 ·have c:(p.k == 14)=true:=by simpa using h14
  have g:=h.2.1 h14
  obtain⟨y,_,w⟩:=z _ (txtW p.t g) bz0 (d1t _ _)
  replace w:Hid _:=w
  clear z h hp h13 h14 u
  go_enter Tryz.func90,Tryz.ntmps90
  go_wp2
  exact bodyPost_ret (c3l (x:=txtW p.t g) (B:=W.heap.size+1) rfl (put3_same (txtW p.t g) y)) rfl w.out
 have c:(p.k == 14)=false:=by simpa using h14
 by_cases h16:p.k=16
 ·have d:(p.k == 16)=true:=by simpa using h16
  have q:=b0f true s
  replace z:Hid _:=z
  clear h hp h13 h14 h16 u g0 g1
  go_enter Tryz.func90,Tryz.ntmps90
  go_wp2_with (go_at_call 115;refine q.mono ?_;rintro e r ⟨rfl,o⟩;obtain⟨y,_,w⟩:=z.out _ (booW true) o (c3k _);have d0:=q2z (i:=0) (v:=vi 0) y rfl;have d1:=q2z (i:=1) (v:=vi 0) y rfl;have d2:=q2z (i:=2) (v:=.string E0) y rfl;have f0:r.frozen? (Ad (W.heap.size+1) 0)=false:=q6z y;have f1:r.frozen? (Ad (W.heap.size+1) 1)=false:=q6z y;have f2:r.frozen? (Ad (W.heap.size+1) 2)=false:=q6z y;replace w:Hid _:=w)
  exact bodyPost_ret (c3l (x:=booW true) (B:=W.heap.size+1) rfl (put3_same (booW true) y)) rfl w.out
 have d:(p.k == 16)=false:=by simpa using h16
 by_cases h17:p.k=17
 ·have f:(p.k == 17)=true:=by simpa using h17
  have q:=b0f false s
  replace z:Hid _:=z
  clear h hp h13 h14 h16 h17 u g0 g1
  go_enter Tryz.func90,Tryz.ntmps90
  go_wp2_with (go_at_call 115;refine q.mono ?_;rintro e r ⟨rfl,o⟩;obtain⟨y,_,w⟩:=z.out _ (booW false) o (c3k _);have d0:=q2z (i:=0) (v:=vi 0) y rfl;have d1:=q2z (i:=1) (v:=vi 0) y rfl;have d2:=q2z (i:=2) (v:=.string E0) y rfl;have f0:r.frozen? (Ad (W.heap.size+1) 0)=false:=q6z y;have f1:r.frozen? (Ad (W.heap.size+1) 1)=false:=q6z y;have f2:r.frozen? (Ad (W.heap.size+1) 2)=false:=q6z y;replace w:Hid _:=w)
  exact bodyPost_ret (c3l (x:=booW false) (B:=W.heap.size+1) rfl (put3_same (booW false) y)) rfl w.out
 have f:(p.k == 17)=false:=by simpa using h17
 obtain⟨y,_,w⟩:=z _ nilW bz0 c3i
 replace w:Hid _:=w
 clear z h hp h13 h14 h16 h17 u
 go_enter Tryz.func90,Tryz.ntmps90
 go_wp2
 exact bodyPost_ret (c3l (x:=nilW) (B:=W.heap.size+1) rfl (put3_same (nilW) y)) rfl w.out
def b6h (p:Pt):Bool:=p.k == 22&&(p.n == 20||p.n == 21)
theorem b7t(p:Pt)(b:Option Addr)(cap:Nat)(W:World):Cl 114 #[ptv p b cap] W fun e W'=>e=.returned (.bool (b6h p))/\Bw W W':=by
 have z:=q1z (Below.refl W.heap.size W) (pbx p b cap)
 obtain⟨c0,c1,c2,_,_,_,_,_,_,_⟩:=in5 (new1 W (pbx p b cap))
 rw[a0x]
 unfold b6h
 rcases Bool.eq_false_or_eq_true (p.k == 22)with h1|h1 <;> rcases Bool.eq_false_or_eq_true (p.n == 20)with h2|h2 <;> rcases Bool.eq_false_or_eq_true (p.n == 21)with h3|h3 <;> rw[h1,h2,h3]
 all_goals
  go_enter Tryz.func114,Tryz.ntmps114
  go_wp2
  go_ret
  exact⟨rfl,z⟩
end
section
variable {w1:World} {B nf:Nat} {D:Nat->Prop} {m:Ma} {W:World}
theorem b0g{j:Nat}(h:l[j]?=some y):cntL (l.take (j+1))=cntL (l.take j)+cnt y:=by
 rw[List.take_add_one,h]
 show cntL (l.take j++[y])=_
 simp only[cntL,List.map_append,List.map_cons,List.map_nil]
 have key:∀(a b:List Nd),manyN.go (a++b)=manyN.go a+manyN.go b:=by
  intro a b
  induction a with
  | nil=>simp[manyN.go]
  | cons x l ih=>simp only[List.cons_append,manyN.go,ih];omega
 rw[key]
 simp[manyN.go]
theorem b2l{j:Nat}(h:l[j]?=some y):cntL (l.take j)+cnt y<=cntL l:=by
 have key:∀(a b:List Nd),manyN.go (a++b)=manyN.go a+manyN.go b:=by
  intro a b
  induction a with
  | nil=>simp[manyN.go]
  | cons x l ih=>simp only[List.cons_append,manyN.go,ih];omega
 have h1:=b0g h
 have h2:cntL l=cntL (l.take (j+1))+cntL (l.drop (j+1)):=by
  unfold cntL
  rw[<- key,<- List.map_append,List.take_append_drop]
 omega
theorem c7n{n:Nat}(hE:EC w1 B nf n)(p:Pt)(b:Option Addr)(cap:Nat)(to:Int)(h21:p.k=21)(hn:hgt p<=n+1)(hp:Pq nf p)(hK:PK tt w1 p.kids b cap)(h:Mq w1 B D m W)(hi:Inv nf m)(ht:rgO m.rg to)(hr:Rm m (8*hgt p) (cnt p)):Cl 88 #[pM B,ptv p b cap,vi to] W (MZ w1 B nf D m W (4*cnt p) (cnt p) fun m' v=>v=.tuple #[]):=by
 have hb0:=q1z (Below.refl W.heap.size W) (pbx p b cap)
 have hA:=At.begin (os:=[(W.heap.size,pbx p b cap)]) h hi hb0 (fun q hq=>by simp at hq;subst hq;exact⟨new1 _ _,Nat.le_refl _⟩)
 have hfit:∀(j:Nat) (y:Pt),p.kids[j]?=some y->a1i y.k/\Pq nf y/\hgt y+1<=hgt p:=fun j y hy=>by
  have h1:=hp.kid hy
  have h2:=h1.2
  unfold a0w at h2
  rw[h21]at h2
  exact⟨by simpa using h2,h1.1,a1t hy⟩
 have hl6:=hp.head.2.2.2.2.2.2 h21
 have hl1:1<=p.kids.length:=by
  have:=hp.head.1
  unfold a0r at this
  omega
 have hct:=a2v p
 have hc:∀{j:Nat} {y:Pt},p.kids[j]?=some y->cntL (p.kids.take (j+1))=cntL (p.kids.take j)+cnt y/\cntL (p.kids.take j)+cnt y<=cntL p.kids:=fun hy=>⟨b0g hy,b2l hy⟩
 have hks:=hK.1
 have hpo:=a6h p
 obtain⟨ks,hkse⟩:∃ks,p.kids=ks:=⟨_,rfl⟩
 obtain⟨L,hL⟩:∃L,ks.length=L:=⟨_,rfl⟩
 have hend:∀(m1:Ma),Ex m m1 (4*cntL ks) (cntL ks)->m1.us=m.us+L->Inv nf m1->m1.co.length<3000/\okQ m1.rg m1.cs.length (m1.co.length+1) m1.co.length ⟨11,to,(m.us:Nat),(L:Int)-1⟩:=fun m1 hx hu hI=>by
  have l1:=hx.lco
  have l2:=hr.co
  have l3:=hI.us
  rw[hkse]at hct hl6 hl1
  refine⟨by omega,.inr (.inr (.inr (.inr (.inl ⟨rfl,ht.mono hx.rg,⟨by show(0:Int)<=(m.us:Nat);omega,.inl (by show((m.us:Nat):Int)<_;omega)⟩,by show(0:Int)<=(L:Int)-1;omega,by show(L:Int)-1<=5;omega,by show((m.us:Nat):Int)+((L:Int)-1)<_;omega⟩))))⟩
 have hp4:(W.alloc (pbx p b cap)).cell? (Ad W.heap.size 4)=some (.slice b L cap):=by
  have:=(in5 (new1 W (pbx p b cap))).c4
  rw[hkse,hL]at this
  exact this
 obtain⟨_,_,_,_,c⟩:=hA.mq.mc
 have c4:=c.us
 rw[hkse]at hK hfit hks hc hl6 hl1 hct
 rw[hL]at hks hl6 hl1
 have hLc:(L:Int)<=(cap:Int):=by omega
 have hw:IntKind.i64.wrap ((L:Int)-1)=(L:Int)-1:=by rw[IntKind.wrap_i64];omega
 rw[a0x,hkse,hL]
 have hobj:pbx p b cap=.cells #[vi p.k,.string p.t,vi p.n,vi p.sl,.slice b L cap] 47:=by unfold pbx;rw[hkse,hL]
 rw[hobj]at hA hp4 c4
 have hrr:∀(m1:Ma) (j:Nat) (y:Pt),ks[j]?=some y->j<L->Ex m m1 (4*cntL (ks.take j)) (cntL (ks.take j))->m1.us=m.us+j->m1.us<250/\∀m2,Ex m1 m2 0 0->m2.us=m1.us+1->Rm m2 (8*hgt y) (cnt y)/\hgt y<=n:=fun m1 j y hy hj hx hu=>by
  have l2:=hr.us
  have l3:=(hfit j y hy).2.2
  have l4:=(hc hy).2
  have l5:=a6h y
  refine⟨by omega,fun m2 hx2 hu2=>⟨hr.on (hx.trans hx2 (Nat.le_refl _) (Nat.le_refl _)) (by omega) (by omega) (by omega),by omega⟩⟩
 replace hK:Hid _:=hK
 replace hfit:Hid _:=hfit
 replace hL:Hid _:=hL
 replace hE:Hid (EC w1 B nf n):=hE
 replace hrr:Hid _:=hrr
 replace hend:Hid _:=hend
 replace hc:Hid _:=@hc
 replace hct:Hid _:=hct
 have hI:At w1 B nf D m W [(W.heap.size,.cells #[vi p.k,.string p.t,vi p.n,vi p.sl,.slice b L cap] 47)] (4*cntL (ks.take 0)) (cntL (ks.take 0)) D m (W.alloc (.cells #[vi p.k,.string p.t,vi p.n,vi p.sl,.slice b L cap] 47))/\m.us=m.us+0:=⟨hA,rfl⟩
 replace hI:Hid _:=hI
 clear hA hp h hkse hobj hb0 hn hi ht hr c hpo h21
 go_enter Tryz.func88,Tryz.ntmps88
 go_wp2
 go_loopw [16] (fun ix wr=>∃j:Nat,j<=L/\ix=vi (j:Nat)/\∃D1 m1,At w1 B nf D m W [(W.heap.size,.cells #[vi p.k,.string p.t,vi p.n,vi p.sl,.slice b L cap] 47)] (4*cntL (ks.take j)) (cntL (ks.take j)) D1 m1 wr/\m1.us=m.us+j) (fun ix _=>L-(intOf ix).toNat)
 case atStart=>exact⟨0,Nat.zero_le _,rfl,D,m,hI.out⟩
 case round =>
  obtain⟨j,hj,rfl,D1,m1,hA1,hu1⟩:=hrel
  clear hI
  by_cases hlt:j<L
  ·have hlt':(j:Int)<(L:Int):=by omega
   have hge:(0:Int)<=(j:Int):=by omega
   have hjk:j<ks.length:=by have:=hL.out;omega
   obtain⟨y,hy⟩:∃y,ks[j]?=some y:=⟨_,List.getElem?_eq_getElem hjk⟩
   obtain⟨g,off,b',cap',rfl,hgl,hpy,hcy⟩:=PK.kid hK.out hy
   obtain⟨v0,v1,v2,v3,v4⟩:=hcy wr hA1.mq.bl
   obtain⟨hsy,hqy,hhy⟩:=hfit.out j y hy
   obtain⟨hu250,hrm⟩:=hrr.out m1 j y hy hlt hA1.ex hu1
   have hb1:=q1z (Below.refl wr.heap.size wr) (pbx y b' cap')
   have hA2:=hA1.add hb1 (Nat.le_refl _) (new1 wr (pbx y b' cap'))
   have ht2:=fun V (hb:Below (wr.alloc (pbx y b' cap')).heap.size (wr.alloc (pbx y b' cap')) V)=>(hA2.below hb).take hu250
   have he2:=fun V m2 D2 (hV:At w1 B nf D m W ((wr.heap.size,pbx y b' cap')::[(W.heap.size,.cells #[vi p.k,.string p.t,vi p.n,vi p.sl,.slice (some (Ad g off)) L cap] 47)]) (4*cntL (ks.take j)) (cntL (ks.take j)) D2 m2 V) (hx2:Ex m1 m2 0 0) (hu2:m2.us=m1.us+1) (hg2:rgO m2.rg (m1.us:Nat))=>hV.expr hE.out y b' cap' (m1.us:Nat) hg2 (hrm m2 hx2 hu2).2 hqy hsy hpy (hrm m2 hx2 hu2).1
   obtain⟨k0,k1,k2,k3,k4,_,_,_,_,_⟩:=in5 (W:=(wr.alloc (pbx y b' cap')).drew) (new1 wr (pbx y b' cap'))
   replace k0:(wr.alloc (.cells #[vi y.k,.string y.t,vi y.n,vi y.sl,.slice b' y.kids.length cap'] 47)).drew.cell? (Ad wr.heap.size 0)=some (vi y.k):=k0
   replace ht2:Hid _:=ht2
   replace he2:Hid _:=he2
   have hcc:=(hc.out hy).1
   have hj1:Hid (j+1<=L):=hlt
   replace hcc:Hid _:=hcc
   replace hu1:Hid _:=hu1
   clear hy hA1 hcy hrr hfit hE hrm hsy hqy hpy hA2 hb1
   go_wp2
   go_region_held3 (fun u=>u.cell? (Ad wr.heap.size 0)=some (vi y.k)/\u.cell? (Ad wr.heap.size 1)=some (.string y.t)/\u.cell? (Ad wr.heap.size 2)=some (vi y.n)/\u.cell? (Ad wr.heap.size 3)=some (vi y.sl)/\u.cell? (Ad wr.heap.size 4)=some (.slice b' y.kids.length cap')) (go_keep) (first|(go_at_call 26;refine(ht2.out _ bz0.drew).mono ?_;rintro e w2 ⟨m2,D2,rfl,hA3,hx2,hu2,hg2⟩;obtain⟨k0,k1,k2,k3,k4,_,_,_,_,_⟩:=in5 (hA3.at 0 rfl))|(go_at_call 59;refine(he2.out _ _ _ hA3 hx2 hu2 hg2).mono ?_;rintro e w3 ⟨m3,D3,rfl,hA4,hx3,hu3⟩;obtain⟨k0,k1,k2,k3,k4,_,_,_,_,_⟩:=in5 (hA4.at 0 rfl)))
   go_wp2
   go_roundw
   case rel =>
    have hu2':=hu1.out
    have hA5:=hA4.drop
    rw[<- hcc.out,<- Nat.mul_add,<- hcc.out]at hA5
    exact⟨j+1,hj1.out,by go_num,D3,m3,hA5,by omega⟩
   case measure =>
    have:=hj1.out
    simp[intOf];omega
  ·have hlt':¬(j:Int)<(L:Int):=by omega
   have hjL:j=L:=by omega
   subst hjL
   rw[List.take_of_length_le (Nat.le_of_eq hL.out)]at hA1
   obtain⟨hl3,hq3⟩:=hend.out m1 hA1.ex hu1 hA1.iv
   have ho:=hA1.order hl3 ⟨11,to,(m.us:Nat),(j:Int)-1⟩ hq3
   have c5:=q2z (i:=4) (v:=.slice b j cap) (hA1.at 0 rfl) rfl
   clear hA1 hend hrr hfit hE hK hc hq3
   replace hu1:Hid _:=hu1
   go_wp2_with (go_at_call 28;refine ho.mono ?_;rintro e w3 ⟨m3,D3,rfl,hA3,_,_,_⟩)
   go_end0
   have:=hct.out
   exact hA3.done (by omega) (by omega) rfl
end
section
variable {w1:World} {B nf:Nat} {D:Nat->Prop} {m:Ma} {W:World}
theorem okJ{r nc nl i:Nat} : okQ r nc nl i ⟨8,0,0,0⟩:=.inl ⟨rfl,Int.le_refl _,by show(0:Int)<=nl;omega,rfl,rfl⟩
theorem okT{r nc nl i:Nat}{x:Int}(h:rgO r x):okQ r nc nl i ⟨9,x,0,0⟩:=.inr (.inl ⟨rfl,h,Int.le_refl _,by show(0:Int)<=nl;omega,rfl⟩)
theorem a8b{l:List Q4} : (l++[q])[l.length]?=some q:=by simp
theorem b2m{n:Nat}(hE:EC w1 B nf n)(p:Pt)(b:Option Addr)(cap:Nat)(to:Int)(h22:p.k=22)(y0 y1:Pt)(hks:p.kids=[y0,y1])(hn:hgt p<=n+1)(hp:Pq nf p)(hk0:a1i y0.k)(hk1:a1i y1.k)(hK:PK tt w1 p.kids b cap)(h:Mq w1 B D m W)(hi:Inv nf m)(ht:rgO m.rg to)(hr:Rm m (8*hgt p) (cnt p)):Cl 89 #[pM B,ptv p b cap,vi to] W (MZ w1 B nf D m W (4*cnt p) (cnt p) fun m' v=>v=.tuple #[]):=by
 have t3:=hp.op h22
 have z7:p.kids[0]?=some y0:=by rw[hks];rfl
 have z8:p.kids[1]?=some y1:=by rw[hks];rfl
 have x3:=q1z (Below.refl W.heap.size W) (pbx p b cap)
 have hA:=At.begin (os:=[(W.heap.size,pbx p b cap)]) h hi x3 (fun q hq=>by simp at hq;subst hq;exact⟨new1 _ _,Nat.le_refl _⟩)
 obtain⟨c0,c1,c2,c3,c4,_,_,_,_,_⟩:=in5 (new1 W (pbx p b cap))
 have o:=fun V=>b7t p b cap V
 by_cases hz:p.n=20\/p.n=21
 ·have y8:b6h p=true:=by unfold b6h;rcases hz with e|e <;> simp[h22,e]
  rw[y8]at o
  obtain⟨g,z,b0,x0,rfl,q9,t4,s8⟩:=PK.kid hK z7
  obtain⟨g',r0,b1,x9,e1,_,t5,s9⟩:=PK.kid hK z8
  cases e1
  have t6:=(hp.kid z7).1
  have t7:=(hp.kid z8).1
  have r2:=a1t z7
  have r3:=a1t z8
  have y6:cnt p=cnt y0+cnt y1+1:=by rw[a2v,hks,a1d,a1d,a3m];omega
  have t0:2<=cap:=by have:=hK.1.1;rw[hks]at this;exact this
  have q8:(2:Int)<=(cap:Int):=by omega
  have y7:p.kids.length=2:=by rw[hks];rfl
  have l:∀{ko kc:Nat} {D1:Nat->Prop} {m1:Ma} {V:World},At w1 B nf D m W [(W.heap.size,pbx p (some (Ad g z)) cap)] ko kc D1 m1 V->V.cell? (Ad W.heap.size 2)=some (vi p.n)/\V.cell? (Ad W.heap.size 4)=some (.slice (some (Ad g z)) 2 cap)/\KC V y0 g z b0 x0/\KC V y1 g (z+5) b1 x9:=fun s=>by
   refine⟨q2z (s.at 0 rfl) rfl,?_,?_,?_⟩
   ·have:=q2z (i:=4) (v:=.slice (some (Ad g z)) p.kids.length cap) (s.at 0 rfl) rfl
    rw[y7]at this
    exact this
   ·simpa using s8 _ s.mq.bl
   ·simpa using s9 _ s.mq.bl
  have r4:=a6h y0
  have t9:Rm m (8*hgt y0) (cnt y0):=hr.on (Ex.refl m) (by omega) (by omega) (by omega)
  have r1:=hr.co
  -- the first expression
  have s1:=fun V (hb:Below (W.alloc (pbx p (some (Ad g z)) cap)).heap.size (W.alloc (pbx p (some (Ad g z)) cap)) V)=>(hA.below hb).expr hE y0 b0 x0 to ht (by omega) t6 hk0 t4 t9
  -- the test behind it
  have s2:∀(V:World) (m1:Ma) (D1:Nat->Prop),At w1 B nf D m W [(W.heap.size,pbx p (some (Ad g z)) cap)] (0+4*cnt y0) (0+cnt y0) D1 m1 V->Cl 28 #[pM B,vi 9,vi to,vi 0,vi 0] V fun e V2=>∃w D2,e=.returned (vi (m1.co.length:Nat))/\At w1 B nf D m W [(W.heap.size,pbx p (some (Ad g z)) cap)] (0+4*cnt y0+1) (0+cnt y0) D2 w V2/\w.us=m1.us/\w.co[m1.co.length]?=some ⟨9,to,0,0⟩/\m.co.length<=m1.co.length:=fun V m1 D1 s=>by
   have l1:=s.ex.lco
   refine(s.order (by omega) ⟨9,to,0,0⟩ (okT (ht.mono s.ex.rg))).mono ?_
   rintro e V2 ⟨w,D2,rfl,u,w9,r,y3⟩
   exact⟨w,D2,rfl,u,r,by rw[y3];exact a8b,l1.1⟩
  have s3:∀(V:World) (m1:Ma) (D1:Nat->Prop) (k:Nat),k<=2->At w1 B nf D m W [(W.heap.size,pbx p (some (Ad g z)) cap)] (0+4*cnt y0+k) (0+cnt y0) D1 m1 V->m1.us=m.us->Cl 59 #[pM B,ptv y1 b1 x9,vi to] V fun e V2=>∃w D2,e=.returned (.tuple #[])/\At w1 B nf D m W [(W.heap.size,pbx p (some (Ad g z)) cap)] (0+4*cnt y0+k+4*cnt y1) (0+cnt y0+cnt y1) D2 w V2/\Ex m1 w (4*cnt y1) (cnt y1):=fun V m1 D1 k hk s hu=>by
   refine(s.expr hE y1 b1 x9 to (ht.mono s.ex.rg) (by omega) t7 hk1 t5 (hr.on s.ex (by omega) (by omega) (by omega))).mono ?_
   rintro e V2 ⟨w,D2,rfl,u,w9,r⟩
   exact⟨w,D2,rfl,u,w9⟩
  have s4:∀(V:World) (m1:Ma) (D1:Nat->Prop) (ko kc i:Nat) (q:Q4),At w1 B nf D m W [(W.heap.size,pbx p (some (Ad g z)) cap)] ko kc D1 m1 V->ko<=4*cnt p->m1.co[i]?=some q->(q.op=9\/q.op=8)->m.co.length<=i->Cl 93 #[pM B,vi (i:Nat)] V fun e V2=>∃x w D2,e=.returned (.tuple #[])/\At w1 B nf D m W [(W.heap.size,pbx p (some (Ad g z)) cap)] ko kc D2 w V2/\w={ m1 with co:=m1.co.set i x }:=fun V m1 D1 ko kc i q s hk hq ho hi=>by
   have l1:=s.ex.lco
   exact s.landed hq ho (by omega) hi
  have s5:∀(V:World) (m1:Ma) (D1:Nat->Prop),At w1 B nf D m W [(W.heap.size,pbx p (some (Ad g z)) cap)] (0+4*cnt y0+1) (0+cnt y0) D1 m1 V->Cl 28 #[pM B,vi 8,vi 0,vi 0,vi 0] V fun e V2=>∃w D2,e=.returned (vi (m1.co.length:Nat))/\At w1 B nf D m W [(W.heap.size,pbx p (some (Ad g z)) cap)] (0+4*cnt y0+2) (0+cnt y0) D2 w V2/\w.us=m1.us/\w.co=m1.co++[⟨8,0,0,0⟩]/\m.co.length<=m1.co.length:=fun V m1 D1 s=>by
   have l1:=s.ex.lco
   refine(s.order (by omega) ⟨8,0,0,0⟩ okJ).mono ?_
   rintro e V2 ⟨w,D2,rfl,u,w9,r,y3⟩
   exact⟨w,D2,rfl,u,r,y3,l1.1⟩
  have y:∀(V:World) (m1:Ma) (D1:Nat->Prop) (k:Nat),k<=2->At w1 B nf D m W [(W.heap.size,pbx p (some (Ad g z)) cap)] (0+4*cnt y0+k+4*cnt y1) (0+cnt y0+cnt y1) D1 m1 V->MZ w1 B nf D m W (4*cnt p) (cnt p) (fun m' v=>v=.tuple #[]) (.returned (.tuple #[])) V:=fun V m1 D1 k hk s=>s.done (by omega) (by omega) rfl
  replace s1:Hid _:=s1
  replace s2:Hid _:=s2
  replace s3:Hid _:=s3
  replace s4:Hid _:=s4
  replace s5:Hid _:=s5
  replace l:Hid _:=@l
  replace y:Hid _:=y
  rw[y7]at c4
  have v6:Hid (∀V,Below (W.alloc (pbx p (some (Ad g z)) cap)).heap.size (W.alloc (pbx p (some (Ad g z)) cap)) V->At w1 B nf D m W [(W.heap.size,pbx p (some (Ad g z)) cap)] 0 0 D m V):=fun V hb=>hA.below hb
  replace y6:Hid _:=y6
  replace hz:Hid _:=hz
  have x1:pbx p (some (Ad g z)) cap=.cells #[vi p.k,.string p.t,vi p.n,vi p.sl,.slice (some (Ad g z)) 2 cap] 47:=by unfold pbx;rw[y7]
  rw[x1]at s1 s2 s3 s4 s5 l y v6 c0 c1 c2 c3 c4
  simp only[a0x,y7]at s1 s3 o⊢
  clear hr t9 s8 s9 hE t4 t5 t6 t7 hk0 hk1 hi h ht hK hp hks z7 z8 x3 r2 r3 hn t3 t0 r4 r1 hA y7 h22 x1 y8
  go_enter Tryz.func89,Tryz.ntmps89
  go_wp2_with (go_at_call 114;refine(o _).mono ?_;rintro e w2 ⟨rfl,f⟩;refine Hid.out ?_)
  obtain⟨x2,x4,⟨a0,a1,a2,a3,a4⟩,⟨z0,z1,z2,z3,z4⟩⟩:=l.out (v6.out _ f)
  clear o c0 c1 c2 c3 c4 v6
  refine Lib.hid ?_
  go_wp2_with (go_at_call 59;refine(s1.out _ f).mono ?_;rintro e w3 ⟨m1,D1,rfl,v2,r6,x7⟩;refine Hid.out ?_)
  obtain⟨y2,y4,⟨b0,b1,b2,b3,b4⟩,⟨d0,d1,d2,d3,d4⟩⟩:=l.out v2
  clear s1 x2 x4 a0 a1 a2 a3 a4 z0 z1 z2 z3 z4 r6 f
  replace x7:Hid _:=x7
  refine Lib.hid ?_
  go_wp2_with (go_at_call 28;refine(s2.out _ _ _ v2).mono ?_;rintro e w4 ⟨w,D2,rfl,u,r,z9,y9⟩;refine Hid.out ?_)
  obtain⟨v0,v1,_,⟨r7,r8,r9,s0,s6⟩⟩:=l.out u
  clear s2 y2 y4 b0 b1 b2 b3 b4 d0 d1 d2 d3 d4 v2
  replace r:Hid _:=r
  obtain⟨i1,t1⟩:∃i1,m1.co.length=i1:=⟨_,rfl⟩
  rw[t1]at z9 y9⊢
  clear t1
  by_cases h21:p.n=21
  ·have hd:(p.n == 21)=true:=by simpa using h21
   clear h21 hz
   refine Lib.hid ?_
   go_wp2_with (go_at_call 28;refine(s5.out _ _ _ u).mono ?_;rintro e w5 ⟨m3,D3,rfl,s7,w0,y5,d⟩;refine Hid.out ?_)
   have t8:m3.co[i1]?=some ⟨9,to,0,0⟩:=by rw[y5,List.getElem?_append_left (List.getElem?_eq_some_iff.1 z9).1];exact z9
   have x5:i1<w.co.length:=(List.getElem?_eq_some_iff.1 z9).1
   have x6:m3.co[w.co.length]?=some ⟨8,0,0,0⟩:=by rw[y5];exact a8b
   replace w0:Hid _:=w0
   obtain⟨i2,t2⟩:∃i2,w.co.length=i2:=⟨_,rfl⟩
   rw[t2]at x6 x5 d⊢
   have l4:=s4.out _ _ _ _ _ _ _ s7 (by have:=y6.out;omega) t8 (.inl rfl) y9
   clear s5 y5 z9 u t2 v0 v1 r7 r8 r9 s0 s6 t8
   replace x6:Hid _:=x6
   replace x5:Hid _:=x5
   replace d:Hid _:=d
   refine Lib.hid ?_
   go_wp2_with (go_at_call 93;refine l4.mono ?_;rintro e w6 ⟨x,m4,D4,rfl,v3,v8⟩;refine Hid.out ?_)
   obtain⟨y2,y4,_,⟨d0,d1,d2,d3,d4⟩⟩:=l.out v3
   have z5:m4.us=m.us:=by have a:=x7.out;have b:=r.out;have c:=w0.out;rw[v8];show m3.us=_;omega
   have v9:m4.co[i2]?=some ⟨8,0,0,0⟩:=by have:=x5.out;rw[v8];show(m3.co.set i1 x)[i2]?=_;rw[List.getElem?_set_ne (by omega)];exact x6.out
   have l5:=s3.out _ _ _ 2 (Nat.le_refl _) v3 z5
   clear l4 v8 s7 z5
   replace v9:Hid _:=v9
   refine Lib.hid ?_
   go_wp2_with (go_at_call 59;refine l5.mono ?_;rintro e w7 ⟨m5,D5,rfl,v4,z6⟩;refine Hid.out ?_)
   have l6:=s4.out _ _ _ _ _ _ _ v4 (by have:=y6.out;omega) (z6.get v9.out) (.inr rfl) d.out
   clear l5 v3 z6 s3 y2 y4 d0 d1 d2 d3 d4
   refine Lib.hid ?_
   go_wp2_with (go_at_call 93;refine l6.mono ?_;rintro e w8 ⟨x8,m6,D6,rfl,v5,_⟩)
   go_end0
   exact y.out _ _ _ _ (Nat.le_refl _) v5
  ·have hd:(p.n == 21)=false:=by simpa using h21
   have z5:w.us=m.us:=by have a:=x7.out;have b:=r.out;omega
   have l5:=s3.out _ _ _ 1 (by omega) u z5
   clear h21 hz z5 s5
   refine Lib.hid ?_
   go_wp2_with (go_at_call 59;refine l5.mono ?_;rintro e w7 ⟨m5,D5,rfl,v4,z6⟩;refine Hid.out ?_)
   have l6:=s4.out _ _ _ _ _ _ _ v4 (by have:=y6.out;omega) (z6.get z9) (.inl rfl) y9
   clear l5 u z6 s3 v0 v1 r7 r8 r9 s0 s6
   refine Lib.hid ?_
   go_wp2_with (go_at_call 93;refine l6.mono ?_;rintro e w8 ⟨x8,m6,D6,rfl,v5,_⟩)
   go_end0
   exact y.out _ _ _ _ (by omega) v5
 ·have y8:b6h p=false:=by
   unfold b6h
   have e1:(p.n == 20)=false:=by simp;omega
   have e2:(p.n == 21)=false:=by simp;omega
   rw[e1,e2]
   simp
  rw[y8]at o
  have hg:=fun V (hb:Below (W.alloc (pbx p b cap)).heap.size (W.alloc (pbx p b cap)) V)=>b2k hE (20+p.n) (by omega) p b cap to y0 y1 hks hn hp hk0 hk1 hK (hA.below hb).mq hi ht hr
  have hw:IntKind.i64.wrap (20+p.n)=20+p.n:=by rw[IntKind.wrap_i64];omega
  have y:∀(V V2:World) (e:Ending),Below (W.alloc (pbx p b cap)).heap.size (W.alloc (pbx p b cap)) V->MZ w1 B nf D m V (4*cnt p) (cnt p) (fun m' v=>v=.tuple #[]) e V2->e=.returned (.tuple #[])/\MZ w1 B nf D m W (4*cnt p) (cnt p) (fun m' v=>v=.tuple #[]) (.returned (.tuple #[])) V2:=fun V V2 e hb hz=>by
   obtain⟨v,m',D',rfl,hM,hI,hX,hC,rfl⟩:=hz
   exact⟨rfl,_,m',D',rfl,hM,hI,hX,(CK.below (q3z x3 hb)).trans hC,rfl⟩
  have v7:∀V,Below (W.alloc (pbx p b cap)).heap.size (W.alloc (pbx p b cap)) V->V.heap[W.heap.size]?=some (pbx p b cap):=fun V hb=>q0z hb (new1 _ _)
  replace hg:Hid _:=hg
  replace y:Hid _:=y
  replace v7:Hid _:=v7
  clear hr hE hi h ht hK hp hks z7 z8 x3 hn t3 hA h22 y8 hz hk0 hk1
  simp only[a0x]at hg o⊢
  go_enter Tryz.func89,Tryz.ntmps89
  go_wp2_with (go_at_call 114;refine(o _).mono ?_;rintro e w2 ⟨rfl,f⟩;refine Hid.out ?_)
  obtain⟨e0,e1,e2,e3,e4,_,_,_,_,_⟩:=in5 (v7.out _ f)
  clear o c0 c1 c2 c3 c4
  refine Lib.hid ?_
  go_wp2_with (go_at_call 87;refine(hg.out _ f).mono ?_;intro e w3 hq;obtain⟨rfl,r5⟩:=y.out _ _ _ f hq)
  go_end0
  exact r5
end
structure Cb (D:Nat->Prop) (W:World) (B:Nat) (p:Pt) (b:Option Addr) (cap:Nat) (to:Int) (P M T:Nat):Prop where
 p:W.heap[P]?=some (pbx p b cap)
 m:W.heap[M]?=some (.cells #[pM B] 64)
 t:W.heap[T]?=some (.cells #[vi to] 3)
 np:¬D P
 nm:¬D M
 nt:¬D T
section
variable {w1:World} {B nf:Nat} {D:Nat->Prop} {m:Ma} {W:World}
abbrev cbo (B:Nat) (p:Pt) (b:Option Addr) (cap:Nat) (to:Int) (P M T:Nat):List (Nat×Obj):=[(P,pbx p b cap),(M,.cells #[pM B] 64),(T,.cells #[vi to] 3)]
theorem Cb.at{cap:Nat}{P M T:Nat}(h:Cb D W B p b cap to P M T)(hM:Mq w1 B D m W)(hi:Inv nf m):At w1 B nf D m W (cbo B p b cap to P M T) 0 0 D m W :=
 At.begin' hM hi fun q hq=>by
  simp at hq
  rcases hq with rfl|rfl|rfl
  ·exact⟨h.p,h.np⟩
  ·exact⟨h.m,h.nm⟩
  ·exact⟨h.t,h.nt⟩
structure Cr (V:World) (B:Nat) (p:Pt) (b:Option Addr) (cap:Nat) (to:Int) (P M T:Nat):Prop where
 p0:V.cell? (Ad P 0)=some (vi p.k)
 p1:V.cell? (Ad P 1)=some (.string p.t)
 p2:V.cell? (Ad P 2)=some (vi p.n)
 p3:V.cell? (Ad P 3)=some (vi p.sl)
 p4:V.cell? (Ad P 4)=some (.slice b p.kids.length cap)
 m:V.cell? (Ad M 0)=some (Po B 0)
 t:V.cell? (Ad T 0)=some (vi to)
theorem At.cr{D0 D1:Nat->Prop}{m0 m1:Ma}{W0:World}{ko kc:Nat}{cap:Nat}{P M T:Nat}(h:At w1 B nf D0 m0 W0 (cbo B p b cap to P M T) ko kc D1 m1 V):Cr V B p b cap to P M T:=by
 obtain⟨c0,c1,c2,c3,c4,_,_,_,_,_⟩:=in5 (h.at 0 rfl)
 exact⟨c0,c1,c2,c3,c4,q2z (h.at 1 rfl) rfl,q2z (h.at 2 rfl) rfl⟩
abbrev clo3 (P M T:Nat):Array Value:=#[Po P 0,Po M 0,Po T 0]
abbrev EZ (w1:World) (B nf:Nat) (D:Nat->Prop) (m:Ma) (W:World) (p:Pt):Ending->World->Prop:=MZ w1 B nf D m W (4*cnt p) (cnt p) fun _ v=>v=.tuple #[]
theorem a8z{ko kc:Nat}(h:MZ w1 B nf D m W ko kc (fun _ v=>v=.tuple #[]) e V):e=.returned (.tuple #[])/\MZ w1 B nf D m W ko kc (fun _ v=>v=.tuple #[]) (.returned (.tuple #[])) V:=by
 obtain⟨v,m',D',rfl,y,x,z,w,rfl⟩:=h
 exact⟨rfl,_,m',D',rfl,y,x,z,w,rfl⟩
theorem MZ.le{ko kc k j:Nat}{P:Ma->Value->Prop}(h:MZ w1 B nf D m W ko kc P e V)(hk:ko<=k)(hj:kc<=j):MZ w1 B nf D m W k j P e V:=by
 obtain⟨v,m',D',rfl,x,w,y,u,z⟩:=h
 exact⟨_,m',D',rfl,x,w,y.trans (Ex.refl m') (by omega) (by omega),u,z⟩
theorem b2n(p:Pt):1<=cnt p:=by rw[a2v];omega
theorem d7r{cap:Nat}{P M T:Nat}(hk:p.k=18)(hnf:nf<=12)(hp:Pq nf p)(hc:Cb D W B p b cap to P M T)(h:Mq w1 B D m W)(hi:Inv nf m)(ht:rgO m.rg to)(hr:Rm m (8*hgt p) (cnt p)):Cl 85 (clo3 P M T) W (EZ w1 B nf D m W p):=by
 obtain⟨p0,p1,p2,p3,p4,s,t⟩:=(hc.at h hi).cr
 have z:=hp.head.2.2.2.1 hk
 have x:=b2n p
 have w:=a6h p
 have v:=name_any p.sl to z.1 z.2 hnf h hi ht (hr.on (Ex.refl m) (by omega) (by omega) (by omega))
 rw[hk]at p0
 clear hp hc h hi ht hr z
 go_enter Tryz.func85,Tryz.ntmps85
 go_wp2_with (go_at_call 86;refine v.mono ?_;intro e u hq;obtain⟨rfl,y⟩:=a8z hq)
 go_end0
 exact y.le (by omega) (by omega)
theorem d7s{cap:Nat}{P M T:Nat}(hk:p.k=19)(hc:Cb D W B p b cap to P M T)(h:Mq w1 B D m W)(hi:Inv nf m)(ht:rgO m.rg to)(hr:Rm m (8*hgt p) (cnt p)):Cl 85 (clo3 P M T) W (EZ w1 B nf D m W p):=by
 obtain⟨p0,p1,p2,p3,p4,u,v⟩:=(hc.at h hi).cr
 have z:=b2n p
 have y:=(hc.at h hi).order (by have:=hr.co;omega) ⟨3,to,0,0⟩ (.inr (.inr (.inr (.inr (.inr (.inr (.inl ⟨.inl rfl,ht,rfl,rfl⟩)))))))
 rw[hk]at p0
 clear hc h hi ht hr
 go_enter Tryz.func85,Tryz.ntmps85
 go_wp2_with (go_at_call 28;refine y.mono ?_;rintro e w ⟨m1,D1,rfl,x,_,_,_⟩)
 go_end0
 exact x.done (by omega) (by omega) rfl
theorem d5j{cap:Nat}{P M T:Nat}(hk:13<=p.k/\p.k<=17)(hp:Pq nf p)(hc:Cb D W B p b cap to P M T)(h:Mq w1 B D m W)(hi:Inv nf m)(ht:rgO m.rg to)(hr:Rm m (8*hgt p) (cnt p)):Cl 85 (clo3 P M T) W (EZ w1 B nf D m W p):=by
 have s:=hc.at h hi
 obtain⟨p0,p1,p2,p3,p4,i,l⟩:=s.drew.cr
 obtain⟨c,_,_,_,_,_,_⟩:=s.cr
 have g:=b2n p
 have o:=fun V=>b6g p b cap hp V
 have x:=fun V (q:Bw W V) (v:Vl) (r:okV nf v)=>(s.below q).const v r to ht (by have:=hr.co;omega) (by have:=hr.cs;omega)
 have y:=fun V (q:Bw W V)=>(s.below q).cr
 have n1:(p.k == 18)=false:=by simp;omega
 have n2:(p.k == 19)=false:=by simp;omega
 have n3:(p.k == 20)=false:=by simp;omega
 have n4:(p.k == 26)=false:=by simp;omega
 have n5:(p.k == 21)=false:=by simp;omega
 have n6:(p.k == 22)=false:=by simp;omega
 have n7:(p.k == 23)=false:=by simp;omega
 have n8:(p.k == 24)=false:=by simp;omega
 have a:(p.k == 25)=false:=by simp;omega
 replace x:Hid _:=x
 replace y:Hid _:=y
 simp only[a0x]at o
 clear hk hp hc h hi ht hr s
 go_enter Tryz.func85,Tryz.ntmps85
 go_wp2
 go_region_held3 (fun u=>u.cell? (Ad P 0)=some (vi p.k)/\u.cell? (Ad P 1)=some (.string p.t)/\u.cell? (Ad P 2)=some (vi p.n)/\u.cell? (Ad P 3)=some (vi p.sl)/\u.cell? (Ad P 4)=some (.slice b p.kids.length cap)/\u.cell? (Ad M 0)=some (Po B 0)/\u.cell? (Ad T 0)=some (vi to)) (go_keep) (first|(go_at_call 90;refine(o _).mono ?_;rintro e d ⟨v,rfl,r,z⟩;replace z:=q3z (Below.refl W.heap.size W).drew z;obtain⟨p0,p1,p2,p3,p4,i,l⟩:=y.out _ z)|(go_at_call 27;refine(x.out _ z v r).mono ?_;rintro e f ⟨m1,D1,rfl,w,_,_⟩;obtain⟨p0,p1,p2,p3,p4,i,l⟩:=w.cr))
 go_wp2
 go_end0
 exact w.done (by omega) (by omega) rfl
end
section
variable {w1:World} {B nf:Nat} {D:Nat->Prop} {m:Ma} {W:World}
theorem a9h(hp:Pq nf p)(hk:p.k=20\/p.k=26\/p.k=22):∃y z,p.kids=[y,z]/\a1i y.k/\a1i z.k:=by
 have v:p.kids.length=2:=by
  have:=hp.head.1
  unfold a0r at this
  omega
 match hks:p.kids,v with
 | [y,z],_ =>
  have w:=(hp.kid (j:=0) (x:=y) (by rw[hks];rfl)).2
  have h1:=(hp.kid (j:=1) (x:=z) (by rw[hks];rfl)).2
  unfold a0w at w h1
  rw[if_neg (by omega),if_neg (by omega),if_neg (by omega),if_neg (by omega),if_neg (by omega)]at w h1
  exact⟨y,z,rfl,w,h1⟩
theorem a7j(hp:Pq nf p)(hk:p.k=23\/p.k=24\/p.k=25\/p.k=5\/p.k=7\/p.k=11\/p.k=12):∃z,p.kids=[z]/\a1i z.k:=by
 have w:p.kids.length=1:=by
  have:=hp.head.1
  unfold a0r at this
  omega
 match hks:p.kids,w with
 | [z],_ =>
  have y:=(hp.kid (j:=0) (x:=z) (by rw[hks];rfl)).2
  unfold a0w at y
  rw[if_neg (by omega),if_neg (by omega),if_neg (by omega),if_neg (by omega),if_neg (by omega)]at y
  exact⟨z,rfl,y⟩
theorem d7t{n:Nat}(hE:EC w1 B nf n){cap:Nat}{P M T:Nat}(hk:p.k=20)(hn:hgt p<=n+1)(hp:Pq nf p)(hK:PK tt w1 p.kids b cap)(hc:Cb D W B p b cap to P M T)(h:Mq w1 B D m W)(hi:Inv nf m)(ht:rgO m.rg to)(hr:Rm m (8*hgt p) (cnt p)):Cl 85 (clo3 P M T) W (EZ w1 B nf D m W p):=by
 obtain⟨p0,p1,p2,p3,p4,q,r⟩:=(hc.at h hi).cr
 obtain⟨t,u,z,w,x⟩:=a9h hp (by omega)
 have v:=b2k hE 4 (by omega) p b cap to t u z hn hp w x hK h hi ht hr
 rw[hk]at p0
 simp only[a0x,hk]at v
 clear hp hc h hi ht hr hK hE z hn
 go_enter Tryz.func85,Tryz.ntmps85
 go_wp2_with (go_at_call 87;refine v.mono ?_;intro e s hq;obtain⟨rfl,y⟩:=a8z hq)
 go_end0
 exact y
theorem d7u{n:Nat}(hE:EC w1 B nf n){cap:Nat}{P M T:Nat}(hk:p.k=26)(hn:hgt p<=n+1)(hp:Pq nf p)(hK:PK tt w1 p.kids b cap)(hc:Cb D W B p b cap to P M T)(h:Mq w1 B D m W)(hi:Inv nf m)(ht:rgO m.rg to)(hr:Rm m (8*hgt p) (cnt p)):Cl 85 (clo3 P M T) W (EZ w1 B nf D m W p):=by
 obtain⟨p0,p1,p2,p3,p4,q,r⟩:=(hc.at h hi).cr
 obtain⟨t,u,z,w,x⟩:=a9h hp (by omega)
 have v:=b2k hE 7 (by omega) p b cap to t u z hn hp w x hK h hi ht hr
 rw[hk]at p0
 simp only[a0x,hk]at v
 clear hp hc h hi ht hr hK hE z hn
 go_enter Tryz.func85,Tryz.ntmps85
 go_wp2_with (go_at_call 87;refine v.mono ?_;intro e s hq;obtain⟨rfl,y⟩:=a8z hq)
 go_end0
 exact y
theorem d7v{n:Nat}(hE:EC w1 B nf n){cap:Nat}{P M T:Nat}(hk:p.k=21)(hn:hgt p<=n+1)(hp:Pq nf p)(hK:PK tt w1 p.kids b cap)(hc:Cb D W B p b cap to P M T)(h:Mq w1 B D m W)(hi:Inv nf m)(ht:rgO m.rg to)(hr:Rm m (8*hgt p) (cnt p)):Cl 85 (clo3 P M T) W (EZ w1 B nf D m W p):=by
 obtain⟨p0,p1,p2,p3,p4,v,w⟩:=(hc.at h hi).cr
 have y:=c7n hE p b cap to hk hn hp hK h hi ht hr
 rw[hk]at p0
 simp only[a0x,hk]at y
 clear hp hc h hi ht hr hK hE hn
 go_enter Tryz.func85,Tryz.ntmps85
 go_wp2_with (go_at_call 88;refine y.mono ?_;intro e x hq;obtain⟨rfl,z⟩:=a8z hq)
 go_end0
 exact z
theorem d7w{n:Nat}(hE:EC w1 B nf n){cap:Nat}{P M T:Nat}(hk:p.k=22)(hn:hgt p<=n+1)(hp:Pq nf p)(hK:PK tt w1 p.kids b cap)(hc:Cb D W B p b cap to P M T)(h:Mq w1 B D m W)(hi:Inv nf m)(ht:rgO m.rg to)(hr:Rm m (8*hgt p) (cnt p)):Cl 85 (clo3 P M T) W (EZ w1 B nf D m W p):=by
 obtain⟨p0,p1,p2,p3,p4,q,r⟩:=(hc.at h hi).cr
 obtain⟨t,u,z,w,x⟩:=a9h hp (by omega)
 have v:=b2m hE p b cap to hk t u z hn hp w x hK h hi ht hr
 rw[hk]at p0
 simp only[a0x,hk]at v
 clear hp hc h hi ht hr hK hE z hn
 go_enter Tryz.func85,Tryz.ntmps85
 go_wp2_with (go_at_call 89;refine v.mono ?_;intro e s hq;obtain⟨rfl,y⟩:=a8z hq)
 go_end0
 exact y
theorem c3m{n:Nat}(hE:EC w1 B nf n){cap g off:Nat}{P M T:Nat}(hks:p.kids=[y])(hy:a1i y.k)(hn:hgt p<=n+1)(hp:Pq nf p)(hK:PK tt w1 p.kids (some (Ad g off)) cap)(hc:Cb D W B p (some (Ad g off)) cap to P M T)(h:Mq w1 B D m W)(hi:Inv nf m)(ht:rgO m.rg to)(hr:Rm m (8*hgt p) (cnt p))(op:Int)(hop:op=30\/op=31\/op=6):∃b' cap',(1:Int)<=cap /\
  (∀{ko kc:Nat} {D1:Nat->Prop} {m1:Ma} {V:World},At w1 B nf D m W (cbo B p (some (Ad g off)) cap to P M T) ko kc D1 m1 V->KC V y g off b' cap'/\V.cell? (Ad P 4)=some (.slice (some (Ad g off)) 1 cap)/\V.cell? (Ad M 0)=some (Po B 0)/\V.cell? (Ad T 0)=some (vi to)) /\
  (∀V,Bw W V->Cl 65 #[pM B,ptv y b' cap'] V fun e w=>∃r m1 D1,e=.returned (vi r)/\At w1 B nf D m W (cbo B p (some (Ad g off)) cap to P M T) (0+4*cnt y) (0+cnt y) D1 m1 w/\rgO m1.rg r) /\
  (∀(V:World) (m1:Ma) (D1:Nat->Prop) (r:Int),At w1 B nf D m W (cbo B p (some (Ad g off)) cap to P M T) (0+4*cnt y) (0+cnt y) D1 m1 V->rgO m1.rg r->Cl 28 #[pM B,vi op,vi to,vi r,vi 0] V fun e w=>∃v D2,e=.returned (vi (m1.co.length:Nat))/\At w1 B nf D m W (cbo B p (some (Ad g off)) cap to P M T) (0+4*cnt y+1) (0+cnt y) D2 v w)/\0+4*cnt y+1<=4*cnt p/\0+cnt y<=cnt p:=by
 have z:p.kids[0]?=some y:=by rw[hks];rfl
 obtain⟨g',f,b',cap',e1,b,s,o⟩:=PK.kid hK z
 cases e1
 have hA:=hc.at h hi
 have z9:cnt p=cnt y+1:=by rw[a2v,hks,a1d,a3m]
 have t:=(hp.kid z).1
 have c:=a1t z
 have d:1<=cap:=by have:=hK.1.1;rw[hks]at this;exact this
 have u:Rm m (8*hgt y+1) (cnt y):=hr.on (Ex.refl m) (by omega) (by omega) (by omega)
 refine⟨b',cap',by omega,fun x=>?_,fun V hb=>?_,fun V m1 D1 r x a=>?_,by omega,by omega⟩
 ·obtain⟨p0,p1,p2,p3,p4,cm,ct⟩:=x.cr
  rw[hks]at p4
  exact⟨by simpa using o _ x.mq.bl,p4,cm,ct⟩
 ·refine((hA.below hb).operand hE y b' cap' (by omega) t hy s u).mono ?_
  rintro e w ⟨r,m1,D1,rfl,i,_,q,_⟩
  exact⟨r,m1,D1,rfl,i,q⟩
 ·have l1:=x.ex.lco
  have l2:=hr.co
  refine(x.order (by omega) ⟨op,to,r,0⟩ (.inr (.inr (.inr (.inr (.inr (.inl ⟨by show op=1\/op=6\/op=30\/op=31;omega,ht.mono x.ex.rg,a,rfl⟩))))))).mono ?_
  rintro e w ⟨v,D2,rfl,l,_,_,_⟩
  exact⟨v,D2,rfl,l⟩
theorem d7x{n:Nat}(hE:EC w1 B nf n){cap:Nat}{P M T:Nat}(hk:p.k=23)(hn:hgt p<=n+1)(hp:Pq nf p)(hK:PK tt w1 p.kids b cap)(hc:Cb D W B p b cap to P M T)(h:Mq w1 B D m W)(hi:Inv nf m)(ht:rgO m.rg to)(hr:Rm m (8*hgt p) (cnt p)):Cl 85 (clo3 P M T) W (EZ w1 B nf D m W p):=by
 obtain⟨y,w,hy⟩:=a7j hp (by omega)
 have q:p.kids[0]?=some y:=by rw[w];rfl
 obtain⟨g,z,_,_,rfl,_,_,_⟩:=PK.kid hK q
 obtain⟨b',cap',z9,x,s1,s2,i,l⟩:=c3m hE w hy hn hp hK hc h hi ht hr 30 (by omega)
 have f:=hc.at h hi
 obtain⟨p0,_,_,_,_,_,_⟩:=f.cr
 obtain⟨⟨a0,a1,a2,a3,a4⟩,d,a,c⟩:=x f.drew
 rw[hk]at p0
 simp only[a0x]at s1
 replace s1:Hid _:=s1
 replace s2:Hid _:=s2
 replace x:Hid _:=@x
 clear hp hc h hi ht hr hK hE hn w f
 go_enter Tryz.func85,Tryz.ntmps85
 go_wp2
 go_region_held3 (fun u=>u.cell? (Ad P 4)=some (.slice (some (Ad g z)) 1 cap)/\u.cell? (Ad M 0)=some (Po B 0)/\u.cell? (Ad T 0)=some (vi to)/\u.cell? (Ad g z)=some (vi y.k)/\u.cell? (Ad g (z+1))=some (.string y.t)/\u.cell? (Ad g (z+2))=some (vi y.n)/\u.cell? (Ad g (z+3))=some (vi y.sl)/\u.cell? (Ad g (z+4))=some (.slice b' y.kids.length cap')) (go_keep) (first|(go_at_call 65;refine(s1.out _ bz0.drew).mono ?_;rintro e w2 ⟨r,m1,D1,rfl,s,o⟩;obtain⟨⟨a0,a1,a2,a3,a4⟩,d,a,c⟩:=x.out s)|(go_at_call 28;refine(s2.out _ _ _ _ s o).mono ?_;rintro e w3 ⟨m2,D2,rfl,v⟩;obtain⟨⟨a0,a1,a2,a3,a4⟩,d,a,c⟩:=x.out v))
 go_wp2
 go_end0
 exact v.done i l rfl
theorem d7y{n:Nat}(hE:EC w1 B nf n){cap:Nat}{P M T:Nat}(hk:p.k=24)(hn:hgt p<=n+1)(hp:Pq nf p)(hK:PK tt w1 p.kids b cap)(hc:Cb D W B p b cap to P M T)(h:Mq w1 B D m W)(hi:Inv nf m)(ht:rgO m.rg to)(hr:Rm m (8*hgt p) (cnt p)):Cl 85 (clo3 P M T) W (EZ w1 B nf D m W p):=by
 obtain⟨y,w,hy⟩:=a7j hp (by omega)
 have q:p.kids[0]?=some y:=by rw[w];rfl
 obtain⟨g,z,_,_,rfl,_,_,_⟩:=PK.kid hK q
 obtain⟨b',cap',z9,x,s1,s2,i,l⟩:=c3m hE w hy hn hp hK hc h hi ht hr 31 (by omega)
 have f:=hc.at h hi
 obtain⟨p0,_,_,_,_,_,_⟩:=f.cr
 obtain⟨⟨a0,a1,a2,a3,a4⟩,d,a,c⟩:=x f.drew
 rw[hk]at p0
 simp only[a0x]at s1
 replace s1:Hid _:=s1
 replace s2:Hid _:=s2
 replace x:Hid _:=@x
 clear hp hc h hi ht hr hK hE hn w f
 go_enter Tryz.func85,Tryz.ntmps85
 go_wp2
 go_region_held3 (fun u=>u.cell? (Ad P 4)=some (.slice (some (Ad g z)) 1 cap)/\u.cell? (Ad M 0)=some (Po B 0)/\u.cell? (Ad T 0)=some (vi to)/\u.cell? (Ad g z)=some (vi y.k)/\u.cell? (Ad g (z+1))=some (.string y.t)/\u.cell? (Ad g (z+2))=some (vi y.n)/\u.cell? (Ad g (z+3))=some (vi y.sl)/\u.cell? (Ad g (z+4))=some (.slice b' y.kids.length cap')) (go_keep) (first|(go_at_call 65;refine(s1.out _ bz0.drew).mono ?_;rintro e w2 ⟨r,m1,D1,rfl,s,o⟩;obtain⟨⟨a0,a1,a2,a3,a4⟩,d,a,c⟩:=x.out s)|(go_at_call 28;refine(s2.out _ _ _ _ s o).mono ?_;rintro e w3 ⟨m2,D2,rfl,v⟩;obtain⟨⟨a0,a1,a2,a3,a4⟩,d,a,c⟩:=x.out v))
 go_wp2
 go_end0
 exact v.done i l rfl
theorem d7z{n:Nat}(hE:EC w1 B nf n){cap:Nat}{P M T:Nat}(hk:p.k=25)(hn:hgt p<=n+1)(hp:Pq nf p)(hK:PK tt w1 p.kids b cap)(hc:Cb D W B p b cap to P M T)(h:Mq w1 B D m W)(hi:Inv nf m)(ht:rgO m.rg to)(hr:Rm m (8*hgt p) (cnt p)):Cl 85 (clo3 P M T) W (EZ w1 B nf D m W p):=by
 obtain⟨y,w,hy⟩:=a7j hp (by omega)
 have q:p.kids[0]?=some y:=by rw[w];rfl
 obtain⟨g,z,_,_,rfl,_,_,_⟩:=PK.kid hK q
 obtain⟨b',cap',z9,x,s1,s2,i,l⟩:=c3m hE w hy hn hp hK hc h hi ht hr 6 (by omega)
 have f:=hc.at h hi
 obtain⟨p0,_,_,_,_,_,_⟩:=f.cr
 obtain⟨⟨a0,a1,a2,a3,a4⟩,d,a,c⟩:=x f.drew
 rw[hk]at p0
 simp only[a0x]at s1
 replace s1:Hid _:=s1
 replace s2:Hid _:=s2
 replace x:Hid _:=@x
 clear hp hc h hi ht hr hK hE hn w f
 go_enter Tryz.func85,Tryz.ntmps85
 go_wp2
 go_region_held3 (fun u=>u.cell? (Ad P 4)=some (.slice (some (Ad g z)) 1 cap)/\u.cell? (Ad M 0)=some (Po B 0)/\u.cell? (Ad T 0)=some (vi to)/\u.cell? (Ad g z)=some (vi y.k)/\u.cell? (Ad g (z+1))=some (.string y.t)/\u.cell? (Ad g (z+2))=some (vi y.n)/\u.cell? (Ad g (z+3))=some (vi y.sl)/\u.cell? (Ad g (z+4))=some (.slice b' y.kids.length cap')) (go_keep) (first|(go_at_call 65;refine(s1.out _ bz0.drew).mono ?_;rintro e w2 ⟨r,m1,D1,rfl,s,o⟩;obtain⟨⟨a0,a1,a2,a3,a4⟩,d,a,c⟩:=x.out s)|(go_at_call 28;refine(s2.out _ _ _ _ s o).mono ?_;rintro e w3 ⟨m2,D2,rfl,v⟩;obtain⟨⟨a0,a1,a2,a3,a4⟩,d,a,c⟩:=x.out v))
 go_wp2
 go_end0
 exact v.done i l rfl
theorem d1u{n:Nat}(hnf:nf<=12)(hE:EC w1 B nf n){cap:Nat}{P M T:Nat}(hk:a1i p.k)(hn:hgt p<=n+1)(hp:Pq nf p)(hK:PK tt w1 p.kids b cap)(hc:Cb D W B p b cap to P M T)(h:Mq w1 B D m W)(hi:Inv nf m)(ht:rgO m.rg to)(hr:Rm m (8*hgt p) (cnt p)):Cl 85 (clo3 P M T) W (EZ w1 B nf D m W p):=by
 obtain⟨k1,k2⟩:=hk
 rcases(show(13<=p.k/\p.k<=17)\/p.k=18\/p.k=19\/p.k=20\/p.k=21\/p.k=22\/p.k=23\/p.k=24\/p.k=25\/p.k=26 by omega)with e|e|e|e|e|e|e|e|e|e
 ·exact d5j e hp hc h hi ht hr
 ·exact d7r e hnf hp hc h hi ht hr
 ·exact d7s e hc h hi ht hr
 ·exact d7t hE e hn hp hK hc h hi ht hr
 ·exact d7v hE e hn hp hK hc h hi ht hr
 ·exact d7w hE e hn hp hK hc h hi ht hr
 ·exact d7x hE e hn hp hK hc h hi ht hr
 ·exact d7y hE e hn hp hK hc h hi ht hr
 ·exact d7z hE e hn hp hK hc h hi ht hr
 ·exact d7u hE e hn hp hK hc h hi ht hr
theorem d1v{n:Nat}(hnf:nf<=12)(hE:EC w1 B nf n):EC w1 B nf (n+1):=by
 intro p b cap s D m W hn g f d h q l i
 obtain⟨y,x⟩:∃y,((W.alloc (.cells #[Po B 0] 64)).alloc (.cells #[vi p.k,.string p.t,vi p.n,vi p.sl,.slice b p.kids.length cap] 47)).alloc (.cells #[vi s] 3)=y:=⟨_,rfl⟩
 have w:Bw W y:=by rw[<- x];exact q1z (q1z (q1z bz0 _) _) _
 have g0:y.heap[W.heap.size]?=some (.cells #[pM B] 64):=by rw[<- x];exact q4z _ (q4z _ (new1 _ _))
 have g1:y.heap[W.heap.size+1]?=some (pbx p b cap):=by rw[<- x];exact q4z _ (new2 _ _ _)
 have g2:y.heap[W.heap.size+1+1]?=some (.cells #[vi s] 3):=by rw[<- x];exact new3 _ _ _ _
 have c0:y.cell? (Ad W.heap.size 0)=some (Po B 0):=q2z g0 rfl
 have o:=h.below w
 have u:Cb D y B p b cap s (W.heap.size+1) W.heap.size (W.heap.size+1+1):=⟨g1,g0,g2,h.new (by omega),h.new (by omega),h.new (by omega)⟩
 have hg:=c2r (clo3 (W.heap.size+1) W.heap.size (W.heap.size+1+1)) o q (d1u hnf hE f hn g d u o q l i)
 have z:∀(e:Ending) (V:World),MZ w1 B nf D m y (4*cnt p) (cnt p) (fun m' v=>v=.tuple #[]/\m'.us=m.us) e V->e=.returned (.tuple #[])/\MZ w1 B nf D m W (4*cnt p) (cnt p) (fun m' v=>v=.tuple #[]/\m'.us=m.us) (.returned (.tuple #[])) V:=fun e V c=>by
  obtain⟨v,m',D',rfl,hM,hI,hX,hC,rfl,a⟩:=c
  exact⟨rfl,_,m',D',rfl,hM,hI,hX,(CK.below w).trans hC,rfl,a⟩
 replace z:Hid _:=z
 rw[a0x]
 clear hE hn g f d h q l i w g0 g1 g2 o u
 go_enter Tryz.func59,Tryz.ntmps59
 go_wp2_with (go_at_call 24;refine hg.mono ?_;intro e w3 hq;obtain⟨rfl,r⟩:=z.out _ _ hq)
 go_end0
 exact r
theorem d0d(hnf:nf<=12):∀n,EC w1 B nf n
 | 0=>fun p b cap z D m W hn=>by have:=a6h p;omega
 | n+1=>d1v hnf (d0d hnf n)
end
section
variable {w1:World} {B nf:Nat} {D:Nat->Prop} {m:Ma} {W:World}
theorem d8a{W:World}{B:Nat}{b c d x:Value}(h:tm[2]?.getD undef=Po B 0)(hx:W.heap[B]?=some (.cells #[a,b,c,d,x] 47)):(results Tryz.f23 tm).run Tryz.prog W=.ok (.agg #[a,b,c,d,x]) W:=by
 obtain⟨c0,c1,c2,c3,c4,_,_,_,_,_⟩:=in5 hx
 simp[results,Tryz.results23,go_sem,h,c0,c1,c2,c3,c4]
theorem body_any(q:Pt)(g off cap:Nat)(m:Nat)(hm:q.kids.length=m+1)(hmm:m+1<=9223372036854775807)(y:Pt)(b':Option Addr)(cap':Nat)(W:World)(hc:KC W y g (off+m*5) b' cap')(hg:g<W.heap.size):Cl 23 #[ptv q (some (Ad g off)) cap] W fun h W'=>h=.returned (ptv y b' cap')/\Bw W W':=by
 obtain⟨z,u⟩:∃z,(W.alloc (.cells #[vi q.k,.string q.t,vi q.n,vi q.sl,.slice (some (Ad g off)) (m+1) cap] 47)).alloc (.cells #[vi 0,.string ⟨#[]⟩,vi 0,vi 0,.slice none 0 0] 47)=z:=⟨_,rfl⟩
 have x:Bw W z:=by rw[<- u];exact q1z (q1z bz0 _) _
 have g1:z.heap[W.heap.size]?=some (.cells #[vi q.k,.string q.t,vi q.n,vi q.sl,.slice (some (Ad g off)) (m+1) cap] 47):=by rw[<- u];exact q4z _ (new1 _ _)
 have g2:z.heap[W.heap.size+1]?=some zpx:=by rw[<- u];exact new2 _ _ _
 obtain⟨_,_,_,_,p4,_,_,_,_,_⟩:=in5 g1
 obtain⟨d0,a,b,c,d,f0,f1,f2,f3,f4⟩:=in5 g2
 obtain⟨c0,c1,c2,c3,c4⟩:=hc
 have k0:=(x.cell (p:=(Ad g _)) hg).trans c0
 have k1:=(x.cell (p:=(Ad g _)) hg).trans c1
 have k2:=(x.cell (p:=(Ad g _)) hg).trans c2
 have r:=(x.cell (p:=(Ad g _)) hg).trans c3
 have f:=(x.cell (p:=(Ad g _)) hg).trans c4
 have s:=put5_same (vi y.k) (.string y.t) (vi y.n) (vi y.sl) (.slice b' y.kids.length cap') g2
 have v:Bw W (put5 z (W.heap.size+1) (vi y.k) (.string y.t) (vi y.n) (vi y.sl) (.slice b' y.kids.length cap')):=a0b.toBelow x (put5_self z (W.heap.size+1) _ _ _ _ _) (fun j e=>by omega)
 rw[a0x,hm]
 have o:IntKind.i64.wrap (((m+1:Nat):Int)-1)=(m:Int):=by rw[IntKind.wrap_i64];omega
 have i:(0:Int)<=(m:Int):=by omega
 have l:(m:Int)<((m+1:Nat):Int):=by omega
 obtain⟨X,w⟩:∃X,put5 z (W.heap.size+1) (vi y.k) (.string y.t) (vi y.n) (vi y.sl) (.slice b' y.kids.length cap')=X:=⟨_,rfl⟩
 rw[w]at s v
 replace w:((((z.setCell (Ad (W.heap.size+1) 0) (vi y.k)).setCell (Ad (W.heap.size+1) 1) (.string y.t)).setCell (Ad (W.heap.size+1) 2) (vi y.n)).setCell (Ad (W.heap.size+1) 3) (vi y.sl)).setCell (Ad (W.heap.size+1) 4) (.slice b' y.kids.length cap')=X:=w
 replace w:Hid _:=w
 clear x g1 g2 c0 c1 c2 c3 c4 hm
 go_enter Tryz.func23,Tryz.ntmps23
 go_wp2
 rw[w.out]
 exact bodyPost_ret (d8a (B:=W.heap.size+1) rfl s) rfl ⟨rfl,v⟩
def TZ (w1:World) (B nf:Nat) (D:Nat->Prop) (m:Ma) (W:World) (y:Pt) (T:Nat) (U:Nat->Prop) (W':World):Prop :=
 ∃(m':Ma) (D':Nat->Prop) (i:Nat) (r:Int),Mq w1 B D' m' W'/\Inv nf m'/\Ex m m' (4*cnt y+1) (cnt y)/\a0b (fun q=>D q\/q=T) W W'/\(∀k,D' k->D k\/W.heap.size<=k)/\¬D' T/\W'.heap[T]?=some (.cells #[vi (i:Nat)] 3)/\m.co.length<=i/\m'.co[i]?=some ⟨9,r,0,0⟩/\U m'.us
theorem c3n{n:Nat}(hE:EC w1 B nf n){cap:Nat}{P M T:Nat}(hn:hgt y<=n)(hp:Pq nf y)(hk:a1i y.k)(hK:PK tt w1 y.kids b cap)(hc:Cb D W B y b cap 0 P M T)(hMT:M≠T)(hPT:P≠T)(hT:w1.heap.size<=T)(h:Mq w1 B D m W)(hi:Inv nf m)(hr:Rm m (8*hgt y+1) (cnt y+1)):Cl 116 #[Po M 0,Po P 0,Po T 0] W fun e W'=>e=.returned (.tuple #[])/\TZ w1 B nf D m W y T (fun _=>True) W':=by
 have c:=hc.at h hi
 obtain⟨p0,p1,p2,p3,p4,cm,ct⟩:=c.drew.cr
 have s1:=fun V (hb:Bw W V)=>(c.below hb).operand hE y b cap hn hp hk hK (hr.on (Ex.refl m) (by omega) (by omega) (by omega))
 have s2:∀(V:World) (m1:Ma) (D1:Nat->Prop) (r:Int),At w1 B nf D m W (cbo B y b cap 0 P M T) (0+4*cnt y) (0+cnt y) D1 m1 V->rgO m1.rg r->Cl 28 #[pM B,vi 9,vi r,vi 0,vi 0] V fun e V1=>∃x D2,e=.returned (vi (m1.co.length:Nat))/\At w1 B nf D m W (cbo B y b cap 0 P M T) (0+4*cnt y+1) (0+cnt y) D2 x V1/\x.co=m1.co++[⟨9,r,0,0⟩]/\m.co.length<=m1.co.length:=fun V m1 D1 r z hg=>by
  have l1:=z.ex.lco
  have l2:=hr.co
  refine(z.order (by omega) ⟨9,r,0,0⟩ (okT hg)).mono ?_
  rintro e V1 ⟨x,D2,rfl,v,_,_,s⟩
  exact⟨x,D2,rfl,v,s,l1.1⟩
 have w:∀(V:World) (m1 x:Ma) (D2:Nat->Prop) (r:Int),At w1 B nf D m W (cbo B y b cap 0 P M T) (0+4*cnt y+1) (0+cnt y) D2 x V->x.co=m1.co++[⟨9,r,0,0⟩]->m.co.length<=m1.co.length->V.frozen? (Ad T 0)=false/\TZ w1 B nf D m W y T (fun _=>True) (V.setCell (Ad T 0) (vi (m1.co.length:Nat))):=fun V m1 x D2 r z s hl=>by
  have g:=z.at 2 rfl
  have a:=(z.bo (T,.cells #[vi 0] 3) (by simp)).2
  refine⟨q6z g,x,D2,m1.co.length,r,z.mq.wrote (a1u _ _ _ _) a hT,z.iv,z.ex.trans (Ex.refl x) (by omega) (by omega),(z.ck.k.mono (S':=fun q=>D q\/q=T) (fun _ _ e=>.inl e)).set T 0 _ (fun _=>.inr rfl),z.ck.o,a,q7z _ g,hl,by rw[s];exact a8b,trivial⟩
 have z7:=fun {ko kc:Nat} {D1:Nat->Prop} {m1:Ma} {V:World} (z:At w1 B nf D m W (cbo B y b cap 0 P M T) ko kc D1 m1 V)=>z.cr
 replace s1:Hid _:=s1
 replace s2:Hid _:=s2
 replace w:Hid _:=w
 simp only[a0x]at s1
 have z8:¬T=M:=fun e=>hMT e.symm
 have z9:¬T=P:=fun e=>hPT e.symm
 clear hE hn hp hk hK hc h hi hr c
 go_enter Tryz.func116,Tryz.ntmps116
 go_wp2
 go_region_held3 (fun u=>u.cell? (Ad P 0)=some (vi y.k)/\u.cell? (Ad P 1)=some (.string y.t)/\u.cell? (Ad P 2)=some (vi y.n)/\u.cell? (Ad P 3)=some (vi y.sl)/\u.cell? (Ad P 4)=some (.slice b y.kids.length cap)/\u.cell? (Ad M 0)=some (Po B 0)) (go_keep) (first|(go_at_call 65;refine(s1.out _ bz0.drew).mono ?_;rintro e w2 ⟨r,m1,D1,rfl,l,_,d,_⟩;obtain⟨p0,p1,p2,p3,p4,cm,ct⟩:=l.cr)|(go_at_call 28;refine(s2.out _ _ _ _ l d).mono ?_;rintro e w3 ⟨x,D2,rfl,v,p,f⟩;obtain⟨p0,p1,p2,p3,p4,cm,ct⟩:=v.cr;obtain⟨fT,i⟩:=w.out _ _ _ _ _ v p f;replace i:Hid _:=i))
 go_wp2
 go_end0
 exact⟨rfl,i.out⟩
theorem d1w{T:Nat}{W':World}(hi:Inv nf m)(hz:TZ w1 B nf D m W y T (fun _=>True) W'):(∃x,W'.cell? (Ad B 4)=some (vi x))/\W'.frozen? (Ad B 4)=false/\TZ w1 B nf D m W y T (fun u=>u=m.us) (W'.setCell (Ad B 4) (vi (m.us:Nat))):=by
 obtain⟨m',D',i,r,w,o,z,p,s,t,n,q,hq,_⟩:=hz
 obtain⟨_,_,_,_,c⟩:=w.mc
 obtain⟨a,b⟩:=w.setUs m.us
 have v:T≠B:=fun e=>t (e▸w.dr)
 refine⟨⟨_,c.us⟩,c.fz _,_,D',i,r,a,o.back (Nat.le_trans hi.us z.rg),⟨z.pa,z.rg,z.co,z.cs⟩,p.set B 4 _ (fun hB=>?_),s,t,(q8z _ _ v).trans n,q,hq,rfl⟩
 rcases s B w.dr with e|e
 ·exact .inl e
 ·omega
theorem c7o(fr:Array Value){T:Nat}(h:Mq w1 B D m W)(hi:Inv nf m)(hc:Cl 116 fr W fun e W'=>e=.returned (.tuple #[])/\TZ w1 B nf D m W y T (fun _=>True) W'):Cl 24 #[pM B,.func (.func 116) #[] fr] W fun e W'=>e=.returned (.tuple #[])/\TZ w1 B nf D m W y T (fun u=>u=m.us) W':=by
 obtain⟨ca,cc,ia,ic,c⟩:=h.mc
 have c4:=c.us
 clear c h
 go_enter Tryz.func24,Tryz.ntmps24
 go_wp2_with (go_at_call 116;refine hc.mono ?_;rintro e w ⟨rfl,z⟩;obtain⟨⟨x,v⟩,f4,hf⟩:=d1w hi z;replace hf:Hid _:=hf;clear z)
 go_end0
 exact⟨rfl,hf.out⟩
theorem d8b{W:World}{B:Nat}(h:tm[4]?.getD undef=Po B 0)(hx:W.heap[B]?=some (.cells #[a] 3)):(results Tryz.f92 tm).run Tryz.prog W=.ok a W:=by
 have c0:=q2z (i:=0) (v:=a) hx rfl
 simp[results,Tryz.results92,go_sem,h,c0]
theorem At.test{D0:Nat->Prop}{m0:Ma}{W0:World}{os:List (Nat×Obj)}{ko kc n:Nat}(hA:At w1 B nf D0 m0 W0 os ko kc D m W)(hE:EC w1 B nf n)(y:Pt)(b:Option Addr)(cap:Nat)(hn:hgt y<=n)(hp:Pq nf y)(l:a1i y.k)(g:PK tt w1 y.kids b cap)(hr:Rm m (8*hgt y+1) (cnt y+1)):Cl 92 #[pM B,ptv y b cap] W fun e V=>∃(m1:Ma) (D1:Nat->Prop) (i:Nat) (r:Int),e=.returned (vi (i:Nat))/\At w1 B nf D0 m0 W0 os (ko+(4*cnt y+1)) (kc+cnt y) D1 m1 V/\Ex m m1 (4*cnt y+1) (cnt y)/\m1.us=m.us/\m.co.length<=i/\m1.co[i]?=some ⟨9,r,0,0⟩:=by
 obtain⟨x,w⟩:∃x,((W.alloc (.cells #[Po B 0] 64)).alloc (.cells #[vi y.k,.string y.t,vi y.n,vi y.sl,.slice b y.kids.length cap] 47)).alloc (.cells #[vi 0] 3)=x:=⟨_,rfl⟩
 have s:Bw W x:=by rw[<- w];exact q1z (q1z (q1z bz0 _) _) _
 have g0:x.heap[W.heap.size]?=some (.cells #[pM B] 64):=by rw[<- w];exact q4z _ (q4z _ (new1 _ _))
 have g1:x.heap[W.heap.size+1]?=some (pbx y b cap):=by rw[<- w];exact q4z _ (new2 _ _ _)
 have g2:x.heap[W.heap.size+1+1]?=some (.cells #[vi 0] 3):=by rw[<- w];exact new3 _ _ _ _
 have c0:x.cell? (Ad W.heap.size 0)=some (Po B 0):=q2z g0 rfl
 have h:=hA.mq
 have c:=h.below s
 have q:Cb D x B y b cap 0 (W.heap.size+1) W.heap.size (W.heap.size+1+1):=⟨g1,g0,g2,h.new (by omega),h.new (by omega),h.new (by omega)⟩
 have f:w1.heap.size<=W.heap.size:=h.bl.size
 have hg:=c7o _ c hA.iv (c3n hE hn hp l g q (by omega) (by omega) (by omega) c hA.iv hr)
 have z:∀(V:World),TZ w1 B nf D m x y (W.heap.size+1+1) (fun u=>u=m.us) V->∃i:Nat,V.heap[W.heap.size+1+1]?=some (.cells #[vi (i:Nat)] 3)/\∃(m1:Ma) (D1:Nat->Prop) (j:Nat) (r:Int),Ending.returned (vi (i:Nat))=.returned (vi (j:Nat))/\At w1 B nf D0 m0 W0 os (ko+(4*cnt y+1)) (kc+cnt y) D1 m1 (V.setCell (Ad (W.heap.size+1+1) 0) (vi (i:Nat)))/\Ex m m1 (4*cnt y+1) (cnt y)/\m1.us=m.us/\m.co.length<=j/\m1.co[j]?=some ⟨9,r,0,0⟩:=fun V o=>by
  obtain⟨m',D',i,r,hM,hI,a,g,ho,nT,p,hl,hq,hu⟩:=o
  have d:CK D W D' (V.setCell (Ad (W.heap.size+1+1) 0) (vi (i:Nat))):=by
   refine⟨((a0b.of_below (S:=D) s).then g (fun j hj e=>?_)).set _ 0 _ (fun hB=>by omega),fun k l=>?_⟩
   ·rcases e with e|e
    ·exact e
    ·omega
   ·rcases ho k l with e|e
    ·exact .inl e
    ·exact .inr (Nat.le_trans s.size e)
  exact⟨i,p,m',D',i,r,rfl,hA.step (hM.wrote (a1u _ _ _ _) nT (by omega)) hI a d,a,hu,hl,hq⟩
 replace z:Hid _:=z
 rw[a0x]
 clear hE hn hp l g h hr s g0 g1 g2 c q hA f
 go_enter Tryz.func92,Tryz.ntmps92
 go_wp2_with (go_at_call 24;refine hg.mono ?_;rintro e w3 ⟨rfl,o⟩;obtain⟨i,p,hq⟩:=z.out _ o;have d0:=q2z (i:=0) (v:=vi (i:Nat)) p rfl;have f0:w3.frozen? (Ad (W.heap.size+1+1) 0)=false:=q6z p;replace hq:Hid _:=hq;clear o)
 exact bodyPost_ret (d8b (B:=W.heap.size+1+1) rfl (q7z (vi (i:Nat)) p)) rfl hq.out
theorem b9q{n:Nat}(hE:EC w1 B nf n)(x:Int)(hx:rgO m.rg x)(y:Pt)(b:Option Addr)(cap:Nat)(hn:hgt y<=n)(hp:Pq nf y)(hk:a1i y.k)(hK:PK tt w1 y.kids b cap)(h:Mq w1 B D m W)(hi:Inv nf m)(hr:Rm m (8*hgt y+1) (cnt y+1)):Cl 91 #[pM B,vi x,ptv y b cap] W (MZ w1 B nf D m W (4*cnt y+1) (cnt y) fun _ v=>v=.tuple #[]):=by
 obtain⟨s,l⟩:∃s,W.alloc (.cells #[vi y.k,.string y.t,vi y.n,vi y.sl,.slice b y.kids.length cap] 47)=s:=⟨_,rfl⟩
 have p:Bw W s:=by rw[<- l];exact q1z bz0 _
 have g0:s.heap[W.heap.size]?=some (pbx y b cap):=by rw[<- l];exact new1 _ _
 have f:=At.begin (os:=[(W.heap.size,pbx y b cap)]) h hi p (fun q hq=>by simp at hq;subst hq;exact⟨g0,Nat.le_refl _⟩)
 obtain⟨c0,c1,c2,c3,c4,_,_,_,_,_⟩:=in5 g0
 have z:=b7t y b cap s
 have w:∀V,Bw s V->V.heap[W.heap.size]?=some (pbx y b cap):=fun V i=>q0z i g0
 cases hz:b6h y with
 | true =>
  rw[hz]at z
  have s1:=fun V (i:Bw s V)=>(f.below i).operand hE y b cap hn hp hk hK (hr.on (Ex.refl m) (by omega) (by omega) (by omega))
  have s2:∀(V:World) (m1:Ma) (D1:Nat->Prop) (r:Int),At w1 B nf D m W [(W.heap.size,pbx y b cap)] (0+4*cnt y) (0+cnt y) D1 m1 V->rgO m1.rg r->Cl 28 #[pM B,vi 1,vi x,vi r,vi 0] V fun e g=>(∃v,e=.returned v)/\MZ w1 B nf D m W (4*cnt y+1) (cnt y) (fun _ v=>v=.tuple #[]) (.returned (.tuple #[])) g:=fun V m1 D1 r c hg=>by
   have l1:=c.ex.lco
   have l2:=hr.co
   refine(c.order (by omega) ⟨1,x,r,0⟩ (.inr (.inr (.inr (.inr (.inr (.inl ⟨.inl rfl,hx.mono c.ex.rg,hg,rfl⟩))))))).mono ?_
   rintro e g ⟨m2,D2,rfl,a,_,_,_⟩
   exact⟨⟨_,rfl⟩,a.done (by omega) (by omega) rfl⟩
  replace s1:Hid _:=s1
  replace s2:Hid _:=s2
  replace w:Hid _:=w
  simp only[a0x]at s1 z⊢
  clear hE hn hp hk hK h hi hr f p g0 hz hx
  go_enter Tryz.func91,Tryz.ntmps91
  go_wp2_with (go_at_call 114;refine z.mono ?_;rintro e w2 ⟨rfl,u⟩;refine Hid.out ?_)
  obtain⟨e0,e1,e2,e3,e4,_,_,_,_,_⟩:=in5 (w.out _ u)
  clear z c0 c1 c2 c3 c4
  refine Lib.hid ?_
  go_wp2_with (first|(go_at_call 65;refine(s1.out _ u).mono ?_;rintro e w3 ⟨r,m1,D1,rfl,o,_,d,_⟩)|(go_at_call 28;refine(s2.out _ _ _ _ o d).mono ?_;rintro e w4 ⟨⟨v,rfl⟩,hq⟩))
  go_end0
  exact hq
 | false =>
  rw[hz]at z
  have s1:∀V,Bw s V->Cl 59 #[pM B,ptv y b cap,vi x] V fun e g=>e=.returned (.tuple #[])/\MZ w1 B nf D m W (4*cnt y+1) (cnt y) (fun _ v=>v=.tuple #[]) (.returned (.tuple #[])) g:=fun V i=>by
   refine((f.below i).expr hE y b cap x hx hn hp hk hK (hr.on (Ex.refl m) (by omega) (by omega) (by omega))).mono ?_
   rintro e g ⟨m1,D1,rfl,o,_,_⟩
   exact⟨rfl,o.done (by omega) (by omega) rfl⟩
  replace s1:Hid _:=s1
  replace w:Hid _:=w
  simp only[a0x]at s1 z⊢
  clear hE hn hp hk hK h hi hr f p g0 hz hx
  go_enter Tryz.func91,Tryz.ntmps91
  go_wp2_with (go_at_call 114;refine z.mono ?_;rintro e w2 ⟨rfl,u⟩;refine Hid.out ?_)
  obtain⟨e0,e1,e2,e3,e4,_,_,_,_,_⟩:=in5 (w.out _ u)
  clear z c0 c1 c2 c3 c4
  refine Lib.hid ?_
  go_wp2_with (go_at_call 59;refine(s1.out _ u).mono ?_;rintro e w3 ⟨rfl,hq⟩)
  go_end0
  exact hq
end
end Go.Proofs.YtomniogfpfbolaaGreatDoor.V.C
