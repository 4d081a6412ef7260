import Derived.Test.YtomniogfpfbolaaGreatDoorS04
import Derived.Lib.ItoaNum
namespace Go.Proofs.YtomniogfpfbolaaGreatDoor
open Go
set_option maxRecDepth 100000
set_option maxHeartbeats 8000000
set_option linter.all false
variable {k:Int} {s t:List UInt8} {fx:Bool} {a:Nat} {fs:List (List UInt8)} {ks:List Nd}
theorem a3x{m:Nd->Prop}(h:∀k t n kids,(∀x∈kids,m x)->m ⟨k,t,n,kids⟩)(x:Nd):m x:=by
 exact Nd.rec (motive_1:=m) (motive_2:=fun l=>∀x∈l,m x) (fun k t n kids y=>h k t n kids y) (fun x z=>by simp at z) (fun a l v w x z=>by
  simp at z
  rcases z with rfl|z
  ·exact v
  ·exact w x z) x
abbrev wt (s:List UInt8):PT:=(1,s)
abbrev st (s:List UInt8):PT:=(4,s)
def a5v (x:Nd):Nat:=if x.k=22 then ((opOf x.n).map (fun p=>p.2)).getD 0 else if x.k=23\/x.k=24\/x.k=25 then 6 else 7
def parT (ts:List PT):List PT:=st S.lp::(ts++[st S.rp])
def atT (least:Nat) (p:Nat×List PT):List PT:=if p.1<least then parT p.2 else p.2
def a7o:List (Nat×List PT)->List PT
 | []=>[]
 | [p]=>p.2
 | p::q::l=>p.2++st S.cm::a7o (q::l)
def a5e (l:List (Nat×List PT)):List PT:=if l=[] then [st S.lp,st S.rp] else st S.lp::(a7o l++[st S.rp])
def allT (l:List (Nat×List PT)):List PT:=l.flatMap (fun p=>p.2)
def opT (o:Int):PT:=match opOf o with
 | none=>(4,[])
 | some (s,_)=>(if o=20\/o=21 then 1 else 4,s)
def lvlN (o:Int):Nat:=((opOf o).map (fun p=>p.2)).getD 0
def b5k (n:Nat):List UInt8:=Lib.decDigits n
def comb (k:Int) (t:List UInt8) (n:Int) (ks:List (Nat×List PT)):List PT :=
 if k=1\/k=4 then allT ks
 else if k=2 then [wt W.function_,wt t]++a5e ks.dropLast++(ks.getLast?.map (fun p=>p.2)).getD []++[wt W.end_]
 else if k=3\/k=18 then [wt t]
 else if k=13 then [(2,b5k n.toNat)]
 else if k=14 then [(3,t)]
 else if k=15 then [wt W.nil_]
 else if k=16 then [wt W.true_]
 else if k=17 then [wt W.false_]
 else if k=19 then [st S.lc,st S.rc]
 else if k=26 then wt W.next_::a5e ks
 else match ks with
  | []=>[]
  | p::l =>
   if k=21 then atT 7 p++a5e l
   else if k=23 then wt W.not_::atT 6 p
   else if k=24 then st S.mi::atT 6 p
   else if k=25 then st S.hs::atT 6 p
   else if k=5 then [wt W.local_,wt t,st S.eq]++p.2++[st S.sc]
   else if k=7 then p.2++[st S.sc]
   else if k=11 then wt W.return_::(p.2++[st S.sc])
   else if k=12 then wt W.emit_::(p.2++[st S.sc])
   else match l with
    | []=>[]
    | q::m =>
     if k=20 then atT 7 p++st S.lb::(q.2++[st S.rb])
     else if k=22 then atT (if lvlN n=2 then 3 else lvlN n) p++opT n::atT (lvlN n+1) q
     else if k=6 then p.2++st S.eq::(q.2++[st S.sc])
     else if k=9 then wt W.while_::(p.2++wt W.do_::(q.2++[wt W.end_]))
     else if k=8 then wt W.if_::(p.2++wt W.then_::(q.2++((m.head?.map (fun r=>wt W.else_::r.2)).getD []++[wt W.end_])))
     else match m with
      | []=>[]
      | r::_=>[wt W.for_,wt t,st S.eq]++p.2++st S.cm::(q.2++wt W.do_::(r.2++[wt W.end_]))
def a0k:Nd->List PT
 | ⟨k,t,n,kids⟩=>comb k t n (go kids)
where go:List Nd->List (Nat×List PT)
 | []=>[]
 | x::l=>(a5v x,a0k x)::go l
def info (x:Nd):Nat×List PT:=(a5v x,a0k x)
theorem c9r:∀l:List Nd,a0k.go l=l.map info
 | []=>rfl
 | x::l=>by rw[a0k.go,c9r l];rfl
theorem a0t(k:Int)(t:List UInt8)(n:Int)(kids:List Nd):a0k ⟨k,t,n,kids⟩=comb k t n (kids.map info):=by rw[a0k,c9r]
def a1i (k:Int):Prop:=13<=k/\k<=26
def Q (tag:Nat) (x:Nd) (a:Nat) (l:List PT) (r:List PT⊕(Nd×List PT)):Prop:=∃f,P f tag x a l=some r
abbrev yes (n:Nd) (l:List PT):List PT⊕(Nd×List PT):=.inr (n,l)
abbrev nil0:Nd:=nd 0 []
theorem c1b(l:List UInt8)(c:UInt8):numV (l++[c])=numV l*10+(c.toNat-48):=by simp[numV]
theorem d4i(t:List UInt8)(n:Int)(kids:List Nd)(h1:k≠22)(h2:k≠23)(h3:k≠24)(h4:k≠25):a5v ⟨k,t,n,kids⟩=7:=by
 unfold a5v
 simp only
 rw[if_neg h1,if_neg (by omega)]
theorem c1c(t:List UInt8)(n:Int)(y:Nd)(l:List Nd):a0k ⟨21,t,n,y::l⟩=atT 7 (info y)++a5e (l.map info):=by rw[a0t];rfl
theorem b8q(t:List UInt8)(n:Int)(y z:Nd):a0k ⟨20,t,n,[y,z]⟩=atT 7 (info y)++st S.lb::(a0k z++[st S.rb]):=by rw[a0t];rfl
theorem d0m(t:List UInt8)(n:Int)(y z:Nd):a0k ⟨22,t,n,[y,z]⟩=atT (if lvlN n=2 then 3 else lvlN n) (info y)++opT n::atT (lvlN n+1) (info z):=by rw[a0t];rfl
theorem c1d(t:List UInt8)(n:Int)(y z:Nd):a0k ⟨26,t,n,[y,z]⟩=wt W.next_::st S.lp::(a0k y++st S.cm::(a0k z++[st S.rp])):=by
 rw[a0t]
 show wt W.next_::a5e [info y,info z]=_
 simp[a5e,a7o,info]
theorem c6e(t:List UInt8)(n:Int)(y:Nd):a0k ⟨23,t,n,[y]⟩=wt W.not_::atT 6 (info y):=by rw[a0t];rfl
theorem c6f(t:List UInt8)(n:Int)(y:Nd):a0k ⟨24,t,n,[y]⟩=st S.mi::atT 6 (info y):=by rw[a0t];rfl
theorem c6g(t:List UInt8)(n:Int)(y:Nd):a0k ⟨25,t,n,[y]⟩=st S.hs::atT 6 (info y):=by rw[a0t];rfl
def b0t (k:Int):Prop:=5<=k/\k<=12
def a3q:Nd->Option Nat
 | ⟨k,_,_,kids⟩=>if k=18 then some 0 else if k=20 then go kids else if k=21 then (go kids).map (· + 1) else none
where go:List Nd->Option Nat
 | []=>none
 | x::_=>a3q x
def a0w (k:Int) (len i:Nat) (kk:Int):Prop :=
 if k=1 then kk=2
 else if k=2 then (if i+1=len then kk=4 else kk=3)
 else if k=4 then b0t kk
 else if k=8\/k=9 then (if 0<i then kk=4 else a1i kk)
 else if k=10 then (if i=2 then kk=4 else a1i kk)
 else a1i kk
def a0r (k:Int) (len:Nat):Prop :=
 k=1\/k=4\/(k=2/\1<=len)\/((k=3\/k=18\/k=13\/k=14\/k=15\/k=16\/k=17\/k=19)/\len=0)\/((k=5\/k=7\/k=11\/k=12\/k=23\/k=24\/k=25)/\len=1)\/(k=10/\len=3) \/
 ((k=6\/k=9\/k=20\/k=22\/k=26)/\len=2)\/(k=8/\(len=2\/len=3))\/(k=21/\1<=len)
def a2d (k:Int):Prop:=k=2\/k=3\/k=18\/k=5\/k=10
def c1e (t:List UInt8):Bool:=t.all txtB&&decide (t.length<=300)
def isN:Nd->Prop
 | ⟨k,t,n,kids⟩=>a0r k kids.length/\(a2d k->a4s t=true)/\(¬a2d k->k≠14->t=[])/\((k=22->(opOf n).isSome=true)/\(k=14->c1e t=true))/\(k=13->0<=n/\n<=9223372036854775807)/\(k≠22->k≠13->n=0) /\
  (k=6->(kids.head?.bind a3q)=some 0)/\(k=7->(kids.head?.bind a3q).isSome=true/\kids.head?.map (fun x=>x.k)=some 21)/\go k kids.length 0 kids
where go (k:Int) (len:Nat):Nat->List Nd->Prop
 | _,[]=>True
 | i,x::l=>a0w k len i x.k/\isN x/\go k len (i+1) l
theorem a5f(k:Int)(len:Nat):∀(l:List Nd) (i:Nat),isN.go k len i l↔∀j x,l[j]?=some x->a0w k len (i+j) x.k/\isN x
 | [],i=>by simp[isN.go]
 | x::l,i=>by
  rw[isN.go,a5f k len l (i+1)]
  constructor
  ·rintro⟨h1,h2,h3⟩ j y z
   cases j with
   | zero=>simp at z;subst z;exact⟨h1,h2⟩
   | succ j=>have:=h3 j y (by simpa using z);rw[show i+(j+1)=i+1+j by omega];exact this
  ·intro h
   have w:=h 0 x (by simp)
   refine⟨w.1,w.2,fun j y z=>?_⟩
   have:=h (j+1) y (by simpa using z)
   rw[show i+1+j=i+(j+1) by omega]
   exact this
structure Lc where
 nm:List UInt8
 fx:Bool
structure Cs where
 sl:List Int
 bl:List (List Lc)
abbrev CR:Type:=Except (Int×Nat) Cs
def sumL (bl:List (List Lc)):Nat:=(bl.map List.length).sum
def Cs.live (c:Cs):Nat:=sumL c.bl
def Cs.enter (c:Cs):Cs:={ c with sl:=c.sl++[-1] }
def Cs.begin (c:Cs):Cs:={ c with bl:=[]::c.bl }
def Cs.close (c:Cs):Cs:={ c with bl:=c.bl.tail }
def Cs.put (c:Cs) (a:Nat) (v:Int):Cs:={ c with sl:=c.sl.set a v }
def findL (s:List UInt8):List (List Lc)->Option (Nat×Bool)
 | []=>none
 | b::r=>match b.findIdx? (fun x=>x.nm == s) with
  | some i=>some (sumL r+i,(b[i]?.map Lc.fx).getD false)
  | none=>findL s r
def funI (fs:List (List UInt8)) (s:List UInt8):Option Nat:=fs.findIdx? (fun x=>x == s)
def declareC (s:List UInt8) (fx:Bool) (a:Nat) (c:Cs):CR :=
 match c.bl with
 | []=>.ok c
 | b::r=>if b.any (fun x=>x.nm == s) then .error (5,a) else if 30<=c.live then .error (1,a) else .ok ⟨c.sl.set a c.live,(b++[⟨s,fx⟩])::r⟩
def a4a (fs:List (List UInt8)) (s:List UInt8) (a:Nat) (c:Cs):CR :=
 match findL s c.bl with
 | some p=>.ok (c.put a p.1)
 | none=>match funI fs s with
  | some j=>.ok (c.put a (30+j))
  | none=>.error (4,a)
def setB (p:Option Nd) (c:Cs):Bool :=
 match p with
 | none=>true
 | some x=>if x.k=18 then (match findL x.t c.bl with|some q=>!q.2|none=>false) else true
def actC (fs:List (List UInt8)) (k:Int) (t:List UInt8) (ks:List Nd) (a:Nat) (c:Cs):CR :=
 if k=3\/k=5 then declareC t false a c
 else if k=18 then a4a fs t a c
 else if k=6 then (if setB ks.head? c then .ok c else .error (3,a))
 else if k=21 then (if 6<ks.length then .error (1,a) else .ok c)
 else .ok c
def visC (fs:List (List UInt8)):Bool->Nd->Cs->CR
 | f,⟨k,t,_,ks⟩,c =>
  if k=4 then (if f then go k t 0 0 ks c.enter else (go k t 0 0 ks c.begin.enter).map Cs.close)
  else (go k t c.sl.length 0 ks c.enter).bind fun c'=>if k=10 then .ok c' else actC fs k t ks c.sl.length c'
where go (k:Int) (t:List UInt8) (a:Nat):Nat->List Nd->Cs->CR
 | _,[],c=>.ok c
 | i,x::l,c=>(if k=10/\i=2 then (declareC t true a c.begin).bind fun c'=>(visC fs true x c').map Cs.close else visC fs false x c).bind (go k t a (i+1) l)
def a4t (fs:List (List UInt8)):List Nd->Cs->CR
 | [],c=>.ok c
 | [z],c=>visC fs true z c
 | x::y::l,c=>(visC fs false x c).bind (a4t fs (y::l))
def b3c (fs:List (List UInt8)) (i:Nat) (s:List UInt8):Bool:=match funI fs s with|some j=>decide (j<i)|none=>false
def funC (fs:List (List UInt8)) (i:Nat) (n:Nd) (c:Cs):CR :=
 if b3c fs i n.t then .error (5,c.sl.length)
 else if 12<=i\/6<n.kids.length then .error (1,c.sl.length)
 else (a4t fs n.kids c.enter.begin).map Cs.close
def a4p (fs:List (List UInt8)):Nat->List Nd->Cs->CR
 | _,[],c=>.ok c
 | i,x::l,c=>(funC fs i x c).bind (a4p fs (i+1) l)
abbrev W.main_:List UInt8:=[109,97,105,110]
def a8u (x:Option Nd):Bool:=match x with|some x=>decide (1<x.kids.length)|none=>false
def a5y (n:Nd):Except (Int×Nat) (List Int) :=
 let fs:=n.kids.map Nd.t
 match a4p fs 0 n.kids ⟨[-1],[]⟩ with
 | .error e=>.error e
 | .ok c=>match funI fs W.main_ with
  | none=>.error (4,0)
  | some j=>if a8u n.kids[j]? then .error (6,0) else .ok c.sl
theorem a0l(b:List Lc)(r:List (List Lc)):sumL (b::r)=b.length+sumL r:=by simp[sumL]
theorem a5n{c c':Cs}(h:declareC s fx a c=.ok c'):c'.sl.length=c.sl.length/\c'.bl.length=c.bl.length/\c'.bl.tail=c.bl.tail:=by
 unfold declareC at h
 split at h
 ·cases h;simp
 ·rename_i b r e
  split at h
  ·cases h
  ·split at h
   ·cases h
   ·cases h;simp[e]
theorem a6o{c c':Cs}(h:a4a fs s a c=.ok c'):c'.sl.length=c.sl.length/\c'.bl=c.bl:=by
 unfold a4a at h
 split at h
 ·cases h;simp[Cs.put]
 ·split at h
  ·cases h;simp[Cs.put]
  ·cases h
theorem d0n{c c':Cs}(h:actC fs k t ks a c=.ok c'):c'.sl.length=c.sl.length/\c'.bl.length=c.bl.length/\c'.bl.tail=c.bl.tail:=by
 unfold actC at h
 split at h
 ·exact a5n h
 split at h
 ·have:=a6o h;simp[this]
 split at h
 ·split at h
  ·cases h;simp
  ·cases h
 split at h
 ·split at h
  ·cases h
  ·cases h;simp
 ·cases h;simp
structure Ld where
 nm:List UInt8
 dp:Nat
 lp:Bool
def a0h:List (List Lc)->List Ld
 | []=>[]
 | b::r=>a0h r++b.map fun x=>⟨x.nm,r.length+1,x.fx⟩
theorem a2i:∀bl,(a0h bl).length=sumL bl
 | []=>rfl
 | b::r=>by rw[a0h,a0l,List.length_append,List.length_map,a2i r];omega
theorem b0y:∀(bl:List (List Lc)) (x:Ld),x∈a0h bl->1<=x.dp/\x.dp<=bl.length
 | [],x,h=>by simp[a0h]at h
 | b::r,x,h=>by
  rw[a0h,List.mem_append]at h
  rcases h with h|h
  ·have:=b0y r x h;simp;omega
  ·obtain⟨y,_,rfl⟩:=List.mem_map.1 h;simp
theorem b5l(b:List Lc)(r:List (List Lc))(s:List UInt8):(∃x∈a0h (b::r),x.dp=r.length+1/\x.nm=s)↔b.any (fun x=>x.nm == s)=true:=by
 rw[a0h]
 constructor
 ·rintro⟨x,z,hd,hn⟩
  rw[List.mem_append]at z
  rcases z with z|z
  ·have:=b0y r x z;omega
  ·obtain⟨y,w,rfl⟩:=List.mem_map.1 z
   rw[List.any_eq_true]
   exact⟨y,w,by simpa using hn⟩
 ·intro h
  rw[List.any_eq_true]at h
  obtain⟨y,w,hn⟩:=h
  exact⟨⟨y.nm,r.length+1,y.fx⟩,List.mem_append_right _ (List.mem_map.2 ⟨y,w,rfl⟩),rfl,by simpa using hn⟩
def NB (bl:List (List Lc)):Prop:=∀b∈bl,(b.map Lc.nm).Nodup
theorem a8v{b:List Lc}{i:Nat}(h:b.findIdx? (fun x=>x.nm == s)=some i):∃x,b[i]?=some x/\x.nm=s:=by
 rw[List.findIdx?_eq_some_iff_getElem]at h
 obtain⟨y,z,_⟩:=h
 exact⟨b[i],List.getElem?_eq_getElem y,by simpa using z⟩
theorem a6c{b:List Lc}(h:b.findIdx? (fun x=>x.nm == s)=none):∀x∈b,x.nm≠s:=by
 rw[List.findIdx?_eq_none_iff]at h
 intro x z
 simpa using h x z
theorem b0z:∀{bl:List (List Lc)} {s:List UInt8},findL s bl=none->∀x∈a0h bl,x.nm≠s
 | [],s,_,x,z=>by simp[a0h]at z
 | b::r,s,h,x,z=>by
  rw[findL]at h
  cases hf:b.findIdx? (fun x=>x.nm == s) with
  | some i=>rw[hf]at h;cases h
  | none =>
   rw[hf]at h
   rw[a0h,List.mem_append]at z
   rcases z with z|z
   ·exact b0z h x z
   ·obtain⟨y,w,rfl⟩:=List.mem_map.1 z
    exact a6c hf y w
theorem a8j:∀{bl:List (List Lc)} {s:List UInt8} {i:Nat} {fx:Bool},NB bl->findL s bl=some (i,fx)->(∃d,(a0h bl)[i]?=some ⟨s,d,fx⟩)/\∀j x,i<j->(a0h bl)[j]?=some x->x.nm≠s
 | [],s,i,fx,_,h=>by cases h
 | b::r,s,i,fx,hN,h=>by
  have q:NB r:=fun c l=>hN c (by simp[l])
  have p:=a2i r
  rw[findL]at h
  cases hf:b.findIdx? (fun x=>x.nm == s) with
  | some k =>
   rw[hf]at h
   obtain⟨x,t,hn⟩:=a8v hf
   simp only[t,Option.map_some,Option.getD_some,Option.some.injEq,Prod.mk.injEq]at h
   obtain⟨rfl,rfl⟩:=h
   refine⟨⟨r.length+1,?_⟩,fun j z o w=>?_⟩
   ·rw[a0h,List.getElem?_append_right (by omega),p,Nat.add_sub_cancel_left]
    simp[t,hn]
   ·rw[a0h,List.getElem?_append_right (by omega),p,List.getElem?_map]at w
    obtain⟨y,u,rfl⟩:=Option.map_eq_some_iff.1 w
    intro e
    have v:=hN b (by simp)
    rw[List.nodup_iff_pairwise_ne,List.pairwise_iff_getElem]at v
    have h1:=(List.getElem?_eq_some_iff.1 t)
    have h2:=(List.getElem?_eq_some_iff.1 u)
    obtain⟨a1,a⟩:=h1
    obtain⟨f,g⟩:=h2
    have:=v k (j-sumL r) (by simpa using a1) (by simpa using f) (by omega)
    simp only[List.getElem_map,a,g]at this
    exact this (hn.trans e.symm)
  | none =>
   rw[hf]at h
   obtain⟨⟨d,h1⟩,h2⟩:=a8j q h
   have n:i<(a0h r).length:=(List.getElem?_eq_some_iff.1 h1).1
   refine⟨⟨d,by rw[a0h,List.getElem?_append_left n];exact h1⟩,fun j z o w=>?_⟩
   rw[a0h]at w
   by_cases hjr:j<(a0h r).length
   ·rw[List.getElem?_append_left hjr]at w
    exact h2 j z o w
   ·rw[List.getElem?_append_right (by omega),List.getElem?_map]at w
    obtain⟨y,u,rfl⟩:=Option.map_eq_some_iff.1 w
    exact a6c hf y (List.mem_of_getElem? u)
theorem NB.declare{c c':Cs}(hN:NB c.bl)(h:declareC s fx a c=.ok c'):NB c'.bl:=by
 unfold declareC at h
 split at h
 ·cases h;exact hN
 ·rename_i b r e
  split at h
  ·cases h
  ·rename_i hany
   split at h
   ·cases h
   ·cases h
    intro d hd
    simp only[List.mem_cons]at hd
    rcases hd with rfl|hd
    ·rw[List.map_append]
     have t:=hN b (by rw[e];simp)
     rw[List.nodup_append]
     refine⟨t,by simp,fun x u y w=>?_⟩
     simp at w
     subst w
     intro q
     obtain⟨z,v,rfl⟩:=List.mem_map.1 u
     exact hany (List.any_eq_true.2 ⟨z,v,by simpa using q⟩)
    ·exact hN d (by rw[e];simp[hd])
theorem NB.begin{c:Cs}(hN:NB c.bl):NB c.begin.bl:=fun b z=>by
 simp only[Cs.begin,List.mem_cons]at z
 rcases z with rfl|z
 ·simp
 ·exact hN b z
structure Kp (c c':Cs):Prop where
 len:c'.bl.length=c.bl.length
 tail:c'.bl.tail=c.bl.tail
 sl:c.sl.length<=c'.sl.length
 nb:NB c.bl->NB c'.bl
theorem Kp.refl(c:Cs):Kp c c:=⟨rfl,rfl,Nat.le_refl _,id⟩
theorem Kp.trans{a b c:Cs}(h:Kp a b)(k:Kp b c):Kp a c:=⟨k.len.trans h.len,k.tail.trans h.tail,Nat.le_trans h.sl k.sl,fun x=>k.nb (h.nb x)⟩
theorem Kp.enter(c:Cs):Kp c c.enter:=⟨rfl,rfl,by simp[Cs.enter],id⟩
theorem Kp.block{c d:Cs}(h:Kp c.begin d):Kp c d.close/\d.close.bl=c.bl:=by
 have e:d.close.bl=c.bl:=by
  have:=h.tail
  simpa[Cs.begin,Cs.close]using this
 exact⟨⟨by rw[e],by rw[e],by have:=h.sl;simpa[Cs.begin,Cs.close]using this,fun hn=>by rw[e];exact hn⟩,e⟩
theorem Kp.declare{c c':Cs}(h:declareC s fx a c=.ok c'):Kp c c':=by
 obtain⟨h1,h2,h3⟩:=a5n h
 exact⟨h2,h3,by omega,fun hn=>NB.declare hn h⟩
theorem Kp.name{c c':Cs}(h:a4a fs s a c=.ok c'):Kp c c':=by
 obtain⟨h1,h2⟩:=a6o h
 exact⟨by rw[h2],by rw[h2],by omega,fun hn=>by rw[h2];exact hn⟩
theorem Kp.act{c c':Cs}(h:actC fs k t ks a c=.ok c'):Kp c c':=by
 unfold actC at h
 split at h
 ·exact Kp.declare h
 split at h
 ·exact Kp.name h
 split at h
 ·split at h
  ·cases h;exact Kp.refl _
  ·cases h
 split at h
 ·split at h
  ·cases h
  ·cases h;exact Kp.refl _
 ·cases h;exact Kp.refl _
theorem a0y{x:CR}{f:Cs->CR}{c:Cs}(h:x.bind f=.ok c):∃d,x=.ok d/\f d=.ok c:=by
 cases x with
 | error e=>cases h
 | ok d=>exact⟨d,rfl,h⟩
theorem a4e{x:CR}{f:Cs->Cs}{c:Cs}(h:x.map f=.ok c):∃d,x=.ok d/\f d=c:=by
 cases x with
 | error e=>cases h
 | ok d=>exact⟨d,rfl,by simpa[Except.map]using h⟩
theorem a2g(fs:List (List UInt8))(n:Nd):∀(f:Bool) (c z:Cs),visC fs f n c=.ok z->Kp c z:=by
 refine a3x (m:=fun n=>∀(f:Bool) (c z:Cs),visC fs f n c=.ok z->Kp c z) (fun k t o ks s f c z h=>?_) n
 have w:∀(k:Int) (t:List UInt8) (a:Nat) (l:List Nd),(∀y∈l,y∈ks)->∀(i:Nat) (c z:Cs),visC.go fs k t a i l c=.ok z->Kp c z:=by
  intro k t a l
  induction l with
  | nil=>intro _ i c z h;rw[visC.go]at h;cases h;exact Kp.refl _
  | cons x l ihl =>
   intro u i c z h
   rw[visC.go]at h
   obtain⟨d,h1,h2⟩:=a0y h
   have v:=s x (u x (by simp))
   have h3:=ihl (fun y r=>u y (by simp[r])) _ d z h2
   split at h1
   ·obtain⟨e,h4,h5⟩:=a0y h1
    obtain⟨g,q,rfl⟩:=a4e h5
    exact(((Kp.declare h4).trans (v _ _ _ q)).block.1).trans h3
   ·exact(v _ _ _ h1).trans h3
 rw[visC]at h
 split at h
 ·split at h
  ·exact(Kp.enter c).trans (w _ _ _ ks (fun _ h=>h) _ _ _ h)
  ·obtain⟨d,h1,rfl⟩:=a4e h
   exact(((Kp.enter c.begin).trans (w _ _ _ ks (fun _ h=>h) _ _ _ h1)).block).1
 ·obtain⟨d,h1,h2⟩:=a0y h
  have h3:=(Kp.enter c).trans (w _ _ _ ks (fun _ h=>h) _ _ _ h1)
  split at h2
  ·cases h2;exact h3
  ·exact h3.trans (Kp.act h2)
theorem b3d(fs:List (List UInt8)):∀(l:List Nd) (c w:Cs),a4t fs l c=.ok w->Kp c w
 | [],c,w,h=>by rw[a4t]at h;cases h;exact Kp.refl _
 | [z],c,w,h=>by rw[a4t]at h;exact a2g fs z _ _ _ h
 | x::y::l,c,w,h=>by
  rw[a4t]at h
  obtain⟨d,h1,h2⟩:=a0y h
  exact(a2g fs x _ _ _ h1).trans (b3d fs (y::l) d w h2)
theorem b7e(fs:List (List UInt8))(i:Nat)(n:Nd)(c c':Cs)(h:funC fs i n c=.ok c'):Kp c c':=by
 unfold funC at h
 split at h
 ·cases h
 split at h
 ·cases h
 ·obtain⟨d,h1,rfl⟩:=a4e h
  exact(Kp.enter c).trans ((b3d fs _ _ _ h1).block.1)
def Pre (c c':Cs):Prop:=∀b r,c.bl=b::r->∃m,c'.bl=(b++m)::r
theorem Pre.refl(c:Cs):Pre c c:=fun b r h=>⟨[],by simpa using h⟩
theorem Pre.trans{a b c:Cs}(h:Pre a b)(k:Pre b c):Pre a c:=fun x r e=>by
 obtain⟨m,h1⟩:=h x r e
 obtain⟨m',h2⟩:=k _ _ h1
 exact⟨m++m',by rw[h2,List.append_assoc]⟩
theorem Pre.same{c c':Cs}(h:c'.bl=c.bl):Pre c c':=fun b r e=>⟨[],by rw[h,e];simp⟩
theorem Pre.block{c d:Cs}(h:Pre c.begin d):d.close.bl=c.bl:=by
 obtain⟨m,e⟩:=h [] c.bl rfl
 simp[Cs.close,e]
theorem Pre.declare{c c':Cs}(h:declareC s fx a c=.ok c'):Pre c c':=by
 intro b r e
 unfold declareC at h
 rw[e]at h
 simp only at h
 split at h
 ·cases h
 ·split at h
  ·cases h
  ·cases h;exact⟨_,rfl⟩
theorem Pre.act{c c':Cs}(h:actC fs k t ks a c=.ok c'):Pre c c':=by
 unfold actC at h
 split at h
 ·exact Pre.declare h
 split at h
 ·exact Pre.same (a6o h).2
 split at h
 ·split at h
  ·cases h;exact Pre.refl _
  ·cases h
 split at h
 ·split at h
  ·cases h
  ·cases h;exact Pre.refl _
 ·cases h;exact Pre.refl _
theorem d0o(fs:List (List UInt8))(n:Nd):∀(f:Bool) (c z:Cs),visC fs f n c=.ok z->Pre c z:=by
 refine a3x (m:=fun n=>∀(f:Bool) (c z:Cs),visC fs f n c=.ok z->Pre c z) (fun k t o ks r f c z h=>?_) n
 have w:∀(k:Int) (t:List UInt8) (a:Nat) (l:List Nd),(∀y∈l,y∈ks)->∀(i:Nat) (c z:Cs),visC.go fs k t a i l c=.ok z->Pre c z:=by
  intro k t a l
  induction l with
  | nil=>intro _ i c z h;rw[visC.go]at h;cases h;exact Pre.refl _
  | cons x l ihl =>
   intro s i c z h
   rw[visC.go]at h
   obtain⟨d,h1,h2⟩:=a0y h
   have u:=r x (s x (by simp))
   have h3:=ihl (fun y q=>s y (by simp[q])) _ d z h2
   split at h1
   ·obtain⟨e,h4,h5⟩:=a0y h1
    obtain⟨g,p,rfl⟩:=a4e h5
    exact(Pre.same ((Pre.declare h4).trans (u _ _ _ p)).block).trans h3
   ·exact(u _ _ _ h1).trans h3
 have v:∀c:Cs,Pre c c.enter:=fun c=>Pre.same rfl
 rw[visC]at h
 split at h
 ·split at h
  ·exact(v c).trans (w _ _ _ ks (fun _ h=>h) _ _ _ h)
  ·obtain⟨d,h1,rfl⟩:=a4e h
   exact Pre.same ((v c.begin).trans (w _ _ _ ks (fun _ h=>h) _ _ _ h1)).block
 ·obtain⟨d,h1,h2⟩:=a0y h
  have h3:=(v c).trans (w _ _ _ ks (fun _ h=>h) _ _ _ h1)
  split at h2
  ·cases h2;exact h3
  ·exact h3.trans (Pre.act h2)
theorem b8r{b m:List Lc}{r:List (List Lc)} : (a0h ((b++m)::r)).take (a0h (b::r)).length=a0h (b::r):=by
 rw[a0h,a0h,List.map_append,<- List.append_assoc]
 exact List.take_left' rfl
theorem a7p(fs:List (List UInt8))(t:List UInt8)(o:Int)(ks:List Nd)(c:Cs):visC fs false ⟨4,t,o,ks⟩ c=(visC fs true ⟨4,t,o,ks⟩ c.begin).map Cs.close:=by
 rw[visC,visC]
 rfl
def Lv (c:Cs):Prop:=c.live<=30
theorem Lv.declare{c c':Cs}(h:declareC s fx a c=.ok c')(hc:Lv c):Lv c':=by
 unfold declareC at h
 split at h
 ·cases h;exact hc
 ·rename_i b r e
  split at h
  ·cases h
  ·split at h
   ·cases h
   ·cases h
    unfold Lv Cs.live at *
    rw[e,a0l]at *
    simp
    omega
end Go.Proofs.YtomniogfpfbolaaGreatDoor
