/- Of programs, in plain words: how nodes are written, and that what is written is read as the same. Expressions. -/
import Derived.Lib.ItoaNum
import Derived.Test.YtfbpdbndejefdaaGreatDoorS11
namespace Go.Proofs.YtfbpdbndejefdaaGreatDoor
open Go
set_option maxRecDepth 100000
set_option maxHeartbeats 8000000
set_option linter.all false
variable {k o:Int} {p:UInt8->Bool} {l l1:List PT} {x n y v:Nd} {s t:List UInt8} {a b c:Nat} {kids us:List Nd}
theorem a6j{m:Nd->Prop}(h:∀k t n kids,(∀x∈kids,m x)->m ⟨k,t,n,kids⟩)(x:Nd):m x:=by
 exact Nd.rec (motive_1:=m) (motive_2:=fun l=>∀x∈l,m x) (fun k t n kids y=>h k t n kids y) (fun x z=>by simp at z) (fun a l u v x z=>by
  simp at z
  rcases z with rfl|z
  ·exact u
  ·exact v x z) x
abbrev wt (s:List UInt8):PT:=(1,s)
abbrev st (s:List UInt8):PT:=(4,s)
def a5e (x:Nd):Nat:=if x.k=22 then ((opOf x.n).map (fun p=>p.2)).getD 0 else if x.k=23\/x.k=24\/x.k=25 then 6 else 7
def parT (ts:List PT):List PT:=st S.lp::(ts++[st S.rp])
def atT (least:Nat) (p:Nat×List PT):List PT:=if p.1<least then parT p.2 else p.2
def a7g:List (Nat×List PT)->List PT
 | []=>[]
 | [p]=>p.2
 | p::q::l=>p.2++st S.cm::a7g (q::l)
def a4m (l:List (Nat×List PT)):List PT:=if l=[] then [st S.lp,st S.rp] else st S.lp::(a7g l++[st S.rp])
def allT (l:List (Nat×List PT)):List PT:=l.flatMap (fun p=>p.2)
def opT (o:Int):PT:=match opOf o with
 | none=>(4,[])
 | some (s,_)=>(if o=20\/o=21 then 1 else 4,s)
def lvlN (o:Int):Nat:=((opOf o).map (fun p=>p.2)).getD 0
def b4w (n:Nat):List UInt8:=Lib.decDigits n
def comb (k:Int) (t:List UInt8) (n:Int) (ks:List (Nat×List PT)):List PT :=
 if k=1\/k=4 then allT ks
 else if k=2 then [wt W.function_,wt t]++a4m ks.dropLast++(ks.getLast?.map (fun p=>p.2)).getD []++[wt W.end_]
 else if k=3\/k=18 then [wt t]
 else if k=13 then [(2,b4w n.toNat)]
 else if k=14 then [(3,t)]
 else if k=15 then [wt W.nil_]
 else if k=16 then [wt W.true_]
 else if k=17 then [wt W.false_]
 else if k=19 then [st S.lc,st S.rc]
 else if k=26 then wt W.next_::a4m ks
 else match ks with
  | []=>[]
  | p::l =>
   if k=21 then atT 7 p++a4m l
   else if k=23 then wt W.not_::atT 6 p
   else if k=24 then st S.mi::atT 6 p
   else if k=25 then st S.hs::atT 6 p
   else if k=5 then [wt W.local_,wt t,st S.eq]++p.2++[st S.sc]
   else if k=7 then p.2++[st S.sc]
   else if k=11 then wt W.return_::(p.2++[st S.sc])
   else if k=12 then wt W.emit_::(p.2++[st S.sc])
   else match l with
    | []=>[]
    | q::m =>
     if k=20 then atT 7 p++st S.lb::(q.2++[st S.rb])
     else if k=22 then atT (if lvlN n=2 then 3 else lvlN n) p++opT n::atT (lvlN n+1) q
     else if k=6 then p.2++st S.eq::(q.2++[st S.sc])
     else if k=9 then wt W.while_::(p.2++wt W.do_::(q.2++[wt W.end_]))
     else if k=8 then wt W.if_::(p.2++wt W.then_::(q.2++((m.head?.map (fun r=>wt W.else_::r.2)).getD []++[wt W.end_])))
     else match m with
      | []=>[]
      | r::_=>[wt W.for_,wt t,st S.eq]++p.2++st S.cm::(q.2++wt W.do_::(r.2++[wt W.end_]))
def a0i:Nd->List PT
 | ⟨k,t,n,kids⟩=>comb k t n (go kids)
where go:List Nd->List (Nat×List PT)
 | []=>[]
 | x::l=>(a5e x,a0i x)::go l
def info (x:Nd):Nat×List PT:=(a5e x,a0i x)
theorem c9f:∀l:List Nd,a0i.go l=l.map info
 | []=>rfl
 | x::l=>by rw[a0i.go,c9f l];rfl
theorem a0o(k:Int)(t:List UInt8)(n:Int)(kids:List Nd):a0i ⟨k,t,n,kids⟩=comb k t n (kids.map info):=by rw[a0i,c9f]
def a2s (k:Int):Prop:=13<=k/\k<=26
def Q (tag:Nat) (x:Nd) (a:Nat) (l:List PT) (r:List PT⊕(Nd×List PT)):Prop:=∃f,P f tag x a l=some r
abbrev yes (n:Nd) (l:List PT):List PT⊕(Nd×List PT):=.inr (n,l)
abbrev nil0:Nd:=nd 0 []
theorem c0v(l:List UInt8)(c:UInt8):numV (l++[c])=numV l*10+(c.toNat-48):=by simp[numV]
theorem d5g(t:List UInt8)(n:Int)(kids:List Nd)(h1:k≠22)(h2:k≠23)(h3:k≠24)(h4:k≠25):a5e ⟨k,t,n,kids⟩=7:=by
 unfold a5e
 simp only
 rw[if_neg h1,if_neg (by omega)]
theorem c0w(t:List UInt8)(n:Int)(y:Nd)(l:List Nd):a0i ⟨21,t,n,y::l⟩=atT 7 (info y)++a4m (l.map info):=by rw[a0o];rfl
theorem b8j(t:List UInt8)(n:Int)(y z:Nd):a0i ⟨20,t,n,[y,z]⟩=atT 7 (info y)++st S.lb::(a0i z++[st S.rb]):=by rw[a0o];rfl
theorem d0r(t:List UInt8)(n:Int)(y z:Nd):a0i ⟨22,t,n,[y,z]⟩=atT (if lvlN n=2 then 3 else lvlN n) (info y)++opT n::atT (lvlN n+1) (info z):=by rw[a0o];rfl
theorem c0x(t:List UInt8)(n:Int)(y z:Nd):a0i ⟨26,t,n,[y,z]⟩=wt W.next_::st S.lp::(a0i y++st S.cm::(a0i z++[st S.rp])):=by
 rw[a0o]
 show wt W.next_::a4m [info y,info z]=_
 simp[a4m,a7g,info]
theorem c5n(t:List UInt8)(n:Int)(y:Nd):a0i ⟨23,t,n,[y]⟩=wt W.not_::atT 6 (info y):=by rw[a0o];rfl
theorem c5o(t:List UInt8)(n:Int)(y:Nd):a0i ⟨24,t,n,[y]⟩=st S.mi::atT 6 (info y):=by rw[a0o];rfl
theorem c5p(t:List UInt8)(n:Int)(y:Nd):a0i ⟨25,t,n,[y]⟩=st S.hs::atT 6 (info y):=by rw[a0o];rfl
def b4x (k:Int):Prop:=5<=k/\k<=12
def a3e:Nd->Option Nat
 | ⟨k,_,_,kids⟩=>if k=18 then some 0 else if k=20 then go kids else if k=21 then (go kids).map (· + 1) else none
where go:List Nd->Option Nat
 | []=>none
 | x::_=>a3e x
def a0z (k:Int) (len i:Nat) (kk:Int):Prop :=
 if k=1 then kk=2
 else if k=2 then (if i+1=len then kk=4 else kk=3)
 else if k=4 then b4x kk
 else if k=8\/k=9 then (if 0<i then kk=4 else a2s kk)
 else if k=10 then (if i=2 then kk=4 else a2s kk)
 else a2s kk
def a0w (k:Int) (len:Nat):Prop :=
 k=1\/k=4\/(k=2/\1<=len)\/((k=3\/k=18\/k=13\/k=14\/k=15\/k=16\/k=17\/k=19)/\len=0)\/((k=5\/k=7\/k=11\/k=12\/k=23\/k=24\/k=25)/\len=1)\/(k=10/\len=3) \/
 ((k=6\/k=9\/k=20\/k=22\/k=26)/\len=2)\/(k=8/\(len=2\/len=3))\/(k=21/\1<=len)
def a1v (k:Int):Prop:=k=2\/k=3\/k=18\/k=5\/k=10
def c0y (t:List UInt8):Bool:=t.all txtB&&decide (t.length<=300)
def isN:Nd->Prop
 | ⟨k,t,n,kids⟩=>a0w k kids.length/\(a1v k->a8s t=true)/\(¬a1v k->k≠14->t=[])/\((k=22->(opOf n).isSome=true)/\(k=14->c0y t=true))/\(k=13->0<=n/\n<=9223372036854775807)/\(k≠22->k≠13->n=0) /\
  (k=6->(kids.head?.bind a3e)=some 0)/\(k=7->(kids.head?.bind a3e).isSome=true/\kids.head?.map (fun x=>x.k)=some 21)/\go k kids.length 0 kids
where go (k:Int) (len:Nat):Nat->List Nd->Prop
 | _,[]=>True
 | i,x::l=>a0z k len i x.k/\isN x/\go k len (i+1) l
theorem a7h(k:Int)(len:Nat):∀(l:List Nd) (i:Nat),isN.go k len i l↔∀j x,l[j]?=some x->a0z k len (i+j) x.k/\isN x
 | [],i=>by simp[isN.go]
 | x::l,i=>by
  rw[isN.go,a7h k len l (i+1)]
  constructor
  ·rintro⟨h1,h2,h3⟩ j y z
   cases j with
   | zero=>simp at z;subst z;exact⟨h1,h2⟩
   | succ j=>have:=h3 j y (by simpa using z);rw[show i+(j+1)=i+1+j by omega];exact this
  ·intro h
   have h0:=h 0 x (by simp)
   refine⟨h0.1,h0.2,fun j y z=>?_⟩
   have:=h (j+1) y (by simpa using z)
   rw[show i+1+j=i+(j+1) by omega]
   exact this
theorem b8k(t:List UInt8)(n:Int)(y:Nd):a0i ⟨5,t,n,[y]⟩=[wt W.local_,wt t,st S.eq]++a0i y++[st S.sc]:=by rw[a0o];rfl
theorem c5q(t:List UInt8)(n:Int)(y z:Nd):a0i ⟨6,t,n,[y,z]⟩=a0i y++st S.eq::(a0i z++[st S.sc]):=by rw[a0o];rfl
theorem d0s(t:List UInt8)(n:Int)(y:Nd):a0i ⟨7,t,n,[y]⟩=a0i y++[st S.sc]:=by rw[a0o];rfl
theorem c5r(t:List UInt8)(n:Int)(y z:Nd):a0i ⟨8,t,n,[y,z]⟩=wt W.if_::(a0i y++wt W.then_::(a0i z++[wt W.end_])):=by rw[a0o];rfl
theorem c5s(t:List UInt8)(n:Int)(y z v:Nd):a0i ⟨8,t,n,[y,z,v]⟩=wt W.if_::(a0i y++wt W.then_::(a0i z++(wt W.else_::a0i v++[wt W.end_]))):=by rw[a0o];rfl
theorem b8l(t:List UInt8)(n:Int)(y z:Nd):a0i ⟨9,t,n,[y,z]⟩=wt W.while_::(a0i y++wt W.do_::(a0i z++[wt W.end_])):=by rw[a0o];rfl
theorem c5t(t:List UInt8)(n:Int)(y z v:Nd):a0i ⟨10,t,n,[y,z,v]⟩=[wt W.for_,wt t,st S.eq]++a0i y++st S.cm::(a0i z++wt W.do_::(a0i v++[wt W.end_])):=by rw[a0o];rfl
theorem b4y(t:List UInt8)(n:Int)(y:Nd):a0i ⟨11,t,n,[y]⟩=wt W.return_::(a0i y++[st S.sc]):=by rw[a0o];rfl
theorem c0z(t:List UInt8)(n:Int)(y:Nd):a0i ⟨12,t,n,[y]⟩=wt W.emit_::(a0i y++[st S.sc]):=by rw[a0o];rfl
def a1w (p:PT):List UInt8:=if p.1=3 then 34::(p.2++[34]) else p.2
def b8m:List PT->List UInt8
 | []=>[]
 | [p]=>a1w p
 | p::q::l=>a1w p++32::b8m (q::l)
def a8t (p:PT):Prop:=tokR (a1w p)=.tok p.1 p.2 (a1w p).length/\gap1 (a1w p)=0
def allV (ts:List PT):Prop:=∀p∈ts,a8t p
theorem c1a{p:PT}(hp:a8t p)(hl:allV l):allV (p::l):=fun q hq=>by
 simp at hq
 rcases hq with rfl|hq
 ·exact hp
 ·exact hl q hq
theorem b6q:allV []:=fun p hp=>by simp at hp
def cost:List PT->Nat
 | []=>0
 | p::l=>(a1w p).length+1+cost l
theorem a0k:∀a b:List PT,cost (a++b)=cost a+cost b
 | [],b=>by simp[cost]
 | p::a,b=>by rw[List.cons_append,cost,cost,a0k a b];omega
theorem a1t(s:List UInt8)(l:List PT):cost (wt s::l)=s.length+1+cost l:=by
 rw[cost];unfold a1w;rw[if_neg (by show ¬(1:Int)=3;decide)]
theorem a1y(s:List UInt8)(l:List PT):cost (st s::l)=s.length+1+cost l:=by
 rw[cost];unfold a1w;rw[if_neg (by show ¬(4:Int)=3;decide)]
theorem a1f:cost []=0:=rfl
theorem b6r:∀ts:List PT,(b8m ts).length<=cost ts
 | []=>by simp[b8m]
 | [p]=>by rw[b8m,cost];omega
 | p::q::l=>by
  have:=b6r (q::l)
  rw[b8m,cost,List.length_append,List.length_cons]
  omega
theorem a1l{x:PR}{g:Nd->List PT->PR}(h:x.on g=some (.inr (n,l))):∃m k,x=some (.inr (m,k))/\g m k=some (.inr (n,l)):=by
 unfold PR.on at h
 match x,h with
 | some (.inr (m,k)),h=>exact⟨m,k,rfl,h⟩
theorem a0p{g:List PT->PR}(h:need s l g=some (.inr (n,l1))):tx l=s/\g l.tail=some (.inr (n,l1)):=by
 unfold need at h
 split at h
 ·rename_i c;exact⟨c,h⟩
 ·cases h
theorem a2u{g:List UInt8->List PT->PR}(h:a0v l g=some (.inr (n,l1))):a8s (tx l)=true/\g (tx l) l.tail=some (.inr (n,l1)):=by
 unfold a0v at h
 split at h
 ·rename_i c;exact⟨c,h⟩
 ·cases h
theorem pass(h:tx l≠[]):cost l=(tx l).length+1+cost l.tail/\(allV l->allV l.tail):=by
 cases l with
 | nil=>exact absurd rfl h
 | cons p l =>
  have hk:¬(p.1=2\/p.1=3):=fun c=>h (by simp[tx,c])
  have e:tx (p::l)=p.2:=by simp[tx,hk]
  rw[e,cost]
  unfold a1w
  rw[if_neg (fun c=>hk (.inr c))]
  exact⟨rfl,fun hv q hq=>hv q (List.mem_cons_of_mem _ hq)⟩
theorem a0h(h:tx l=s)(hs:s≠[]):cost l=s.length+1+cost l.tail/\(allV l->allV l.tail):=by
 subst h
 exact pass hs
theorem b4z(n:Nat)(x:Nd):cost (a0i x)<=cost (atT n (info x))/\cost (atT n (info x))<=cost (a0i x)+4:=by
 unfold atT info
 simp only
 split
 ·unfold parT
  rw[a1y,a0k,a1y,a1f]
  simp
  omega
 ·omega
theorem b5a(h:a<=b)(x:Nd):cost (atT a (info x))<=cost (atT b (info x)):=by
 have h1:=b4z b x
 unfold atT info at h1⊢
 simp only at h1⊢
 split
 ·rw[if_pos (by omega)];exact Nat.le_refl _
 ·exact h1.1
theorem a7z(h:a<=a5e x):atT a (info x)=a0i x:=by
 unfold atT info
 simp only
 rw[if_neg (by omega)]
def okE (y:Nd):Prop:=isN y/\a2s y.k
theorem a9p(h:k≠1/\k≠2/\k≠4/\k≠8/\k≠9/\k≠10)(len i:Nat)(kk:Int)(he:a2s kk):a0z k len i kk:=by
 unfold a0z
 rw[if_neg h.1,if_neg h.2.1,if_neg h.2.2.1,if_neg (by omega),if_neg h.2.2.2.2.2]
 exact he
theorem mkE{n:Int}(hk:a0w k kids.length)(he:13<=k/\k<=26)(h18:k≠18)(h14:k≠14)(h13:k=13->0<=n/\n<=9223372036854775807)(h22:k=22->(opOf n).isSome=true)(h0:k≠22->k≠13->n=0)(h:∀y∈kids,okE y):okE ⟨k,[],n,kids⟩:=by
 refine⟨?_,he⟩
 rw[isN]
 refine⟨hk,fun c=>by simp only[a1v]at c;omega,fun _ _=>rfl,⟨h22,fun c=>absurd c h14⟩,h13,h0,fun c=>by omega,fun c=>by omega,?_⟩
 rw[a7h]
 intro j y z
 have:=h y (List.mem_of_getElem? z)
 exact⟨a9p (by omega) _ _ _ this.2,this.1⟩
theorem c9g(h:a8s t=true):okE ⟨18,t,0,[]⟩:=by
 refine⟨?_,by show(13:Int)<=18/\(18:Int)<=26;omega⟩
 rw[isN]
 refine⟨by unfold a0w;simp,fun _=>h,fun c=>absurd (by simp[a1v]) c,⟨fun c=>by omega,fun c=>by omega⟩,fun c=>by omega,fun _ _=>rfl,fun c=>by omega,fun c=>by omega,?_⟩
 rw[a7h]
 intro j y z
 simp at z
theorem d5h(h:c0y t=true):okE ⟨14,t,0,[]⟩:=by
 refine⟨?_,by show(13:Int)<=14/\(14:Int)<=26;omega⟩
 rw[isN]
 refine⟨by unfold a0w;simp,fun c=>by simp only[a1v]at c;omega,fun _ c=>absurd rfl c,⟨fun c=>by omega,fun _=>h⟩,fun c=>by omega,fun _ _=>rfl,fun c=>by omega,fun c=>by omega,?_⟩
 rw[a7h]
 intro j y z
 simp at z
theorem b1t{k:Nat}(h:opAt s=some (o,k)):opOf o=some (s,k)/\s≠[]:=by
 unfold opAt at h
 cases hf:opsL.find? (fun p=>p.1 == s) with
 | none=>rw[hf]at h;cases h
 | some p =>
  rw[hf]at h
  obtain⟨z,y,v⟩:=p
  have h1:=List.mem_of_find?_eq_some hf
  have h2:=List.find?_some hf
  simp at h h2
  obtain⟨rfl,rfl⟩:=h
  subst h2
  have:∀p∈opsL,opOf p.2.1=some (p.1,p.2.2)/\p.1≠[]:=by decide
  exact this _ h1
theorem d0t{k:Nat}(h:opOf o=some (s,k))(l:List PT):cost (opT o::l)=s.length+1+cost l:=by
 unfold opT
 rw[h]
 simp only
 by_cases c:o=20\/o=21
 ·rw[if_pos c];exact a1t s l
 ·rw[if_neg c];exact a1y s l
theorem c9h:∀(m:Nat) (l:List UInt8),l.length<=m->l≠[]->l.all digB=true->(1<l.length->l.head?≠some 48)->Lib.decDigits (numV l)=l
 | 0,l,h,h0,_,_=>absurd (List.eq_nil_of_length_eq_zero (by omega)) h0
 | m+1,l,h,h0,ha,hz=>by
  obtain⟨q,c,rfl⟩:∃q c,l=q++[c]:=⟨l.dropLast,l.getLast h0,(List.dropLast_concat_getLast _).symm⟩
  have j:=a8l (by simp only[List.all_append,List.all_cons,List.all_nil,Bool.and_true,Bool.and_eq_true]at ha;exact ha.2)
  have hq:q.all digB=true:=by simp only[List.all_append,Bool.and_eq_true]at ha;exact ha.1
  have v:UInt8.ofNat (48+(c.toNat-48))=c:=by
   rw[show 48+(c.toNat-48)=c.toNat by omega];exact UInt8.ofNat_toNat
  rw[c0v,Lib.decDigits]
  by_cases hqe:q=[]
  ·subst hqe
   have e0:numV []=0:=rfl
   rw[e0,dif_pos (by omega)]
   simp only[Nat.zero_mul,Nat.zero_add,List.nil_append]
   rw[v]
  ·have y:0<numV q:=by
    cases q with
    | nil=>exact absurd rfl hqe
    | cons d r =>
     have hd:=a8l (by simp only[List.all_cons,Bool.and_eq_true]at hq;exact hq.1)
     have z:d≠48:=fun e=>hz (by simp) (by simp[e])
     have u:d.toNat≠48:=fun e=>z (UInt8.toNat_inj.1 e)
     have:=c0s d r (by omega)
     have:=Nat.pow_pos (n:=r.length) (show 0<10 by omega)
     omega
   rw[dif_neg (by omega)]
   have p:(numV q*10+(c.toNat-48)) / 10=numV q:=by omega
   have s:(numV q*10+(c.toNat-48)) % 10=c.toNat-48:=by omega
   rw[p,s,v,c9h m q (by simp at h;omega) hqe hq (fun o=>by
    have:=hz (by simp;omega)
    cases q with
    | nil=>exact absurd rfl hqe
    | cons d r=>simpa using this)]
theorem b3j(h:a8t (2,t)):Lib.decDigits (numV t)=t/\numV t<=9223372036854775807:=by
 have v:a1w (2,t)=t:=by unfold a1w;rw[if_neg (by show ¬(2:Int)=3;decide)]
 have h1:=h.1
 rw[v]at h1
 cases t with
 | nil=>simp[tokR]at h1
 | cons c r =>
  unfold tokR at h1
  simp only at h1
  split at h1
  ·split at h1 <;> cases h1
  split at h1
  ·split at h1
   ·rename_i hz
    obtain⟨_,u,_⟩:=TokR.inj h1
    rw[u]at hz
    unfold numE at hz
    split at hz
    ·omega
    ·rename_i ha
     split at hz
     ·omega
     ·rename_i h0
      split at hz
      ·omega
      ·rename_i hm
       exact⟨c9h _ (c::r) (Nat.le_refl _) (by simp) (by simpa using ha) (fun z y=>h0 ⟨z,y⟩),by omega⟩
   ·cases h1
  split at h1
  ·split at h1
   ·split at h1
    ·cases h1
    ·have:=(TokR.inj h1).1;omega
   ·cases h1
  split at h1
  ·cases h1
  ·have:=(TokR.inj h1).1;omega
theorem b1u(h:a8t (3,t)):c0y t=true:=by
 have s:a1w (3,t)=34::(t++[34]):=by unfold a1w;rw[if_pos rfl]
 have h1:=h.1
 rw[s]at h1
 unfold tokR at h1
 simp only at h1
 rw[if_neg (by decide),if_neg (by decide),if_pos (by decide)]at h1
 split at h1
 ·split at h1
  ·cases h1
  ·rename_i h3
   obtain⟨_,p,q⟩:=TokR.inj h1
   have v:runN txtB (t++[34])=t.length:=by simp at q;omega
   rw[v]at h3
   simp only[c0y,Bool.and_eq_true,decide_eq_true_eq]
   refine⟨?_,by omega⟩
   rw[List.all_eq_true]
   intro c u
   obtain⟨i,y,z⟩:=List.getElem_of_mem u
   refine a6y txtB (t++[34]) i (by omega) c ?_
   rw[List.getElem?_append_left y,List.getElem?_eq_getElem y,z]
 ·cases h1
def sumC:List Nd->Nat
 | []=>0
 | x::l=>cost (a0i x)+2+sumC l
def sumS:List Nd->Nat
 | []=>0
 | x::l=>cost (a0i x)+sumS l
theorem b0z:∀us:List Nd,us≠[]->cost (a7g (us.map info))+2=sumC us
 | [],h=>absurd rfl h
 | [x],_=>by simp[a7g,sumC,info]
 | x::y::l,_=>by
  have z:=b0z (y::l) (by simp)
  have e:a7g ((x::y::l).map info)=a0i x++st S.cm::a7g ((y::l).map info):=by simp[a7g,info]
  rw[e,a0k,a1y,sumC,<- z]
  simp
  omega
theorem b1a(us:List Nd)(h:us≠[]):cost (a4m (us.map info))=2+sumC us:=by
 have e:a4m (us.map info)=st S.lp::(a7g (us.map info)++[st S.rp]):=by
  unfold a4m
  rw[if_neg (by simpa using h)]
 rw[e,a1y,a0k,a1y,a1f,<- b0z us h]
 simp <;> omega
theorem a9q:cost (a4m (([]:List Nd).map info))=4:=by
 show cost [st S.lp,st S.rp]=4
 rw[a1y,a1y,a1f];rfl
theorem b1v:∀us:List Nd,cost (allT (us.map info))=sumS us
 | []=>rfl
 | x::l=>by
  have e:allT ((x::l).map info)=a0i x++allT (l.map info):=by simp[allT,info]
  rw[e,a0k,b1v l,sumS]
def b1w (tag:Nat) (x:Nd) (a:Nat) (l:List PT) (n:Nd) (l1:List PT):Prop :=
 match tag with
 | 0=>a<=6->okE n/\allV l1/\cost (atT a (info n))+cost l1<=cost l
 | 1=>okE n/\allV l1/\cost (atT 6 (info n))+cost l1<=cost l
 | 2=>a<=5->okE x->okE n/\allV l1/\cost (atT a (info n))+cost l1<=cost (atT (if a=2 then 3 else a) (info x))+cost l
 | 3=>okE n/\allV l1/\cost (atT 7 (info n))+cost l1<=cost l
 | 4=>okE x->okE n/\allV l1/\cost (atT 7 (info n))+cost l1<=cost (atT 7 (info x))+cost l
 | 5=>okE x->okE n/\allV l1/\a5e n=7/\cost (a0i n)+cost l1<=cost (atT 7 (info x))+cost l/\(tx l=S.lb->n.k=20/\a3e n=a3e x)/\(tx l≠S.lb->n.k=21/\a3e n=(a3e x).map (· + 1))
 | 6=>∀ks,x=nd 21 ks->∃us,us≠[]/\n=nd 21 (ks++us)/\(∀z∈us,okE z)/\allV l1/\sumC us+cost l1<=cost l
 | 7=>∀ks,x=nd 4 ks->∃us,n=nd 4 (ks++us)/\(∀s∈us,isN s/\b4x s.k)/\allV l1/\sumS us+cost l1<=cost l
 | 8=>isN n/\b4x n.k/\allV l1/\cost (a0i n)+cost l1<=cost l
 | 9=>okE x->a5e x=7->a3e x=some a->isN n/\b4x n.k/\allV l1/\cost (a0i n)+cost l1<=cost (a0i x)+cost l+2
 | 10=>isN n/\n.k=2/\allV l1/\cost (a0i n)+cost l1<=cost l
 | 11=>∃us,us≠[]/\n.kids=x.kids++us/\(∀p∈us,∃s,p=⟨3,s,0,[]⟩/\a8s s=true)/\allV l1/\sumC us+cost l1<=cost l+2
 | 12=>∀fs,x=nd 1 fs->∃us,n=nd 1 (fs++us)/\(∀g∈us,isN g/\g.k=2)/\sumS us+cost l1<=cost l
 | _=>True
theorem a2j{n:Int}(h:k≠22/\k≠23/\k≠24/\k≠25):a5e ⟨k,t,n,kids⟩=7:=d5g _ _ _ h.1 h.2.1 h.2.2.1 h.2.2.2
theorem d5i(hx:okE x)(hy:okE y)(hv:allV l1)(h:tx l=S.lb)(hc:cost (a0i y)+4+cost l1<=cost l):b1w 5 x 0 l (nd 20 [x,y]) l1:=by
 intro _
 refine⟨mkE (by unfold a0w;simp) (by omega) (by decide) (by decide) (fun c=>by omega) (fun c=>by omega) (fun _ _=>rfl) (fun z v=>by simp at v;rcases v with rfl|rfl <;> assumption),hv,a2j (by decide),?_,fun _=>⟨rfl,?_⟩,fun c=>absurd h c⟩
 ·show cost (a0i ⟨20,[],0,[x,y]⟩)+cost l1<=_
  rw[b8j,a0k,a1y,a0k,a1y,a1f]
  simp
  omega
 ·show a3e ⟨20,[],0,[x,y]⟩=_
  rw[a3e,if_neg (by decide),if_pos rfl,a3e.go]
theorem c1b(hx:okE x)(hy:∀z∈us,okE z)(hv:allV l1)(h:tx l≠S.lb)(hc:cost (a4m (us.map info))+cost l1<=cost l):b1w 5 x 0 l (nd 21 (x::us)) l1:=by
 intro _
 refine⟨mkE (by unfold a0w;simp) (by omega) (by decide) (by decide) (fun c=>by omega) (fun c=>by omega) (fun _ _=>rfl) (fun z y=>by simp at y;rcases y with rfl|y;exact hx;exact hy z y),hv,a2j (by decide),?_,fun c=>absurd c h,fun _=>⟨rfl,?_⟩⟩
 ·show cost (a0i ⟨21,[],0,x::us⟩)+cost l1<=_
  rw[c0w,a0k]
  omega
 ·show a3e ⟨21,[],0,x::us⟩=_
  rw[a3e,if_neg (by decide),if_neg (by decide),if_pos rfl,a3e.go]
theorem b8n(f:Nat)(ih:∀j x a l n l1,P f j x a l=some (.inr (n,l1))->allV l->b1w j x a l n l1) :
  ∀j x a l n l1,j<=6->P (f+1) j x a l=some (.inr (n,l1))->allV l->b1w j x a l n l1:=by
 intro j x a l n l1 ht h hv
 match j,ht,h with
 | 0,_,h =>
  intro ha
  rw[P]at h
  by_cases c:5<a
  ·rw[if_pos c]at h
   have ea:a=6:=by omega
   rw[ea]
   exact ih 1 _ _ _ _ _ h hv
  ·rw[if_neg c]at h
   obtain⟨m,k,h1,h2⟩:=a1l h
   obtain⟨g,v1,c1⟩:=ih 0 _ _ _ _ _ h1 hv (by omega)
   obtain⟨o2,v2,c2⟩:=ih 2 _ _ _ _ _ h2 v1 (by omega) g
   refine⟨o2,v2,?_⟩
   have:cost (atT (if a=2 then 3 else a) (info m))<=cost (atT (a+1) (info m)):=b5a (by split <;> omega) m
   omega
 | 1,_,h =>
  rw[P]at h
  have un:∀k:Int,(k=23\/k=24\/k=25)->∀s:List UInt8,tx l=s->s≠[]->(P f 1 (nd 0 []) 0 l.tail).on (fun x l=>.ok (nd k [x]) l)=some (.inr (n,l1))->(∀y,a0i ⟨k,[],0,[y]⟩=wt s::atT 6 (info y)\/a0i ⟨k,[],0,[y]⟩=st s::atT 6 (info y))->b1w 1 x a l n l1:=fun k hk s hs z9 h z4=>by
   obtain⟨m,q,h1,h2⟩:=a1l h
   cases h2
   obtain⟨u,i⟩:=a0h hs z9
   obtain⟨g,v1,c1⟩:=ih 1 _ _ _ _ _ h1 (i hv)
   refine⟨mkE (by unfold a0w;simp;omega) (by omega) (by omega) (by omega) (fun c=>by omega) (fun c=>by omega) (fun _ _=>rfl) (fun z v=>by simp at v;rw[v];exact g),v1,?_⟩
   have hb:a5e (nd k [m])=6:=by
    unfold a5e nd
    simp only
    rw[if_neg (by omega),if_pos hk]
   rw[a7z (by omega)]
   show cost (a0i ⟨k,[],0,[m]⟩)+_<=_
   rcases z4 m with e|e <;> rw[e]
   ·rw[a1t];omega
   ·rw[a1y];omega
  by_cases e1:tx l=S.mi
  ·rw[if_pos e1]at h
   exact un 24 (by omega) S.mi e1 (by decide) h (fun y=>.inr (c5o _ _ y))
  rw[if_neg e1]at h
  by_cases e2:tx l=W.not_
  ·rw[if_pos e2]at h
   exact un 23 (by omega) W.not_ e2 (by decide) h (fun y=>.inl (c5n _ _ y))
  rw[if_neg e2]at h
  by_cases e3:tx l=S.hs
  ·rw[if_pos e3]at h
   exact un 25 (by omega) S.hs e3 (by decide) h (fun y=>.inr (c5p _ _ y))
  rw[if_neg e3]at h
  obtain⟨m,q,h1,h2⟩:=a1l h
  obtain⟨g,v1,c1⟩:=ih 3 _ _ _ _ _ h1 hv
  obtain⟨o2,v2,c2⟩:=ih 4 _ _ _ _ _ h2 v1 g
  refine⟨o2,v2,?_⟩
  have:=b5a (show 6<=7 by omega) n
  omega
 | 2,_,h =>
  intro ha hx
  rw[P]at h
  have z5:PR.ok x l=some (.inr (n,l1))->okE n/\allV l1/\cost (atT a (info n))+cost l1<=cost (atT (if a=2 then 3 else a) (info x))+cost l:=fun e=>by
   cases e
   refine⟨hx,hv,?_⟩
   have:cost (atT a (info x))<=cost (atT (if a=2 then 3 else a) (info x)):=b5a (by split <;> omega) x
   omega
  cases ho:opAt (tx l) with
  | none=>rw[ho]at h;exact z5 h
  | some p =>
   obtain⟨o,k⟩:=p
   rw[ho]at h
   simp only at h
   by_cases c:k=a
   ·subst c
    rw[if_pos rfl]at h
    obtain⟨y,q,h1,h2⟩:=a1l h
    obtain⟨z6,z9⟩:=b1t ho
    obtain⟨u,i⟩:=a0h rfl z9
    obtain⟨g,v1,c1⟩:=ih 0 _ _ _ _ _ h1 (i hv) (by omega)
    have z2:lvlN o=k:=by unfold lvlN;rw[z6];rfl
    have hb:a5e ⟨22,[],o,[x,y]⟩=k:=by
     unfold a5e
     simp only
     rw[if_pos trivial,z6];rfl
    have hN:okE ⟨22,[],o,[x,y]⟩:=mkE (by unfold a0w;simp) (by omega) (by decide) (by decide) (fun c=>by omega) (fun _=>by rw[z6];rfl) (fun c=>absurd rfl c) (fun z v=>by simp at v;rcases v with rfl|rfl <;> assumption)
    have z7:cost (a0i ⟨22,[],o,[x,y]⟩)+cost q<=cost (atT (if k=2 then 3 else k) (info x))+cost l:=by
     rw[d0r,z2,a0k,d0t z6]
     omega
    by_cases c2:k=2
    ·rw[if_pos c2]at h2
     cases h2
     refine⟨hN,v1,?_⟩
     rw[a7z (by omega)]
     exact z7
    ·rw[if_neg c2]at h2
     obtain⟨o2,v2,c3⟩:=ih 2 _ _ _ _ _ h2 v1 ha hN
     refine⟨o2,v2,?_⟩
     rw[if_neg c2]at c3⊢
     rw[if_neg c2]at z7
     rw[a7z (x:=⟨22,[],o,[x,y]⟩) (by omega)]at c3
     omega
   ·rw[if_neg c]at h
    exact z5 h
 | 3,_,h =>
  cases l with
  | nil=>rw[P]at h;cases h
  | cons t r =>
   rw[P]at h
   have z3:=hv t (by simp)
   have d:allV r:=fun q hq=>hv q (by simp[hq])
   by_cases e2:t.1=2
   ·rw[if_pos e2]at h
    cases h
    obtain⟨t1,t2⟩:=t
    simp only at e2
    subst e2
    obtain⟨d1,d2⟩:=b3j z3
    refine⟨mkE (by unfold a0w;simp) (by omega) (by decide) (by decide) (fun _=>by show(0:Int)<=b4t t2/\b4t t2<=9223372036854775807;unfold b4t;omega) (fun c=>by omega) (fun _ c=>absurd rfl c) (fun z v=>by simp at v),d,?_⟩
    rw[a7z (by rw[a2j (by decide)];omega),a0o]
    show cost [(2,b4w (b4t t2).toNat)]+_<=_
    have:(b4t t2).toNat=numV t2:=by unfold b4t;omega
    rw[this]
    unfold b4w
    rw[d1]
    show cost [(2,t2)]+cost _<=cost ((2,t2)::_)
    simp only[cost]
    omega
   rw[if_neg e2]at h
   by_cases e3:t.1=3
   ·rw[if_pos e3]at h
    cases h
    obtain⟨t1,t2⟩:=t
    simp only at e3
    subst e3
    refine⟨d5h (b1u z3),d,?_⟩
    rw[a7z (by rw[a2j (by decide)];omega),a0o]
    show cost [(3,t2)]+cost _<=cost ((3,t2)::_)
    simp only[cost]
    omega
   rw[if_neg e3]at h
   have z8:∀(s:List UInt8) (k:Int),tx (t::r)=s->s≠[]->(k=15\/k=16\/k=17)->(a0i ⟨k,[],0,[]⟩=[wt s])->PR.ok (nd k []) r=some (.inr (n,l1))->b1w 3 x a (t::r) n l1:=fun s k hs z9 hk z4 e=>by
    cases e
    obtain⟨u,i⟩:=a0h hs z9
    refine⟨mkE (by unfold a0w;simp;omega) (by omega) (by omega) (by omega) (fun c=>by omega) (fun c=>by omega) (fun _ _=>rfl) (fun z v=>by simp at v),d,?_⟩
    rw[a7z (by rw[show nd k []=⟨k,[],0,[]⟩ from rfl,a2j (by omega)];omega)]
    show cost (a0i ⟨k,[],0,[]⟩)+_<=_
    rw[z4,a1t,a1f,u]
    simp
   by_cases s1:tx (t::r)=S.lp
   ·rw[if_pos s1]at h
    obtain⟨m,q,h1,h2⟩:=a1l h
    obtain⟨n1,n2⟩:=a0p h2
    cases n2
    obtain⟨u,i⟩:=a0h s1 (by decide)
    obtain⟨p3,p4⟩:=a0h n1 (by decide)
    obtain⟨g,v1,c1⟩:=ih 0 _ _ _ _ _ h1 d (by omega)
    refine⟨g,p4 v1,?_⟩
    have:=b4z 7 n
    have:=b4z 0 n
    simp at u p3
    omega
   rw[if_neg s1]at h
   by_cases s2:tx (t::r)=W.nil_
   ·rw[if_pos s2]at h;exact z8 _ 15 s2 (by decide) (by omega) (by rw[a0o];rfl) h
   rw[if_neg s2]at h
   by_cases s3:tx (t::r)=W.true_
   ·rw[if_pos s3]at h;exact z8 _ 16 s3 (by decide) (by omega) (by rw[a0o];rfl) h
   rw[if_neg s3]at h
   by_cases s4:tx (t::r)=W.false_
   ·rw[if_pos s4]at h;exact z8 _ 17 s4 (by decide) (by omega) (by rw[a0o];rfl) h
   rw[if_neg s4]at h
   by_cases s5:tx (t::r)=S.lc
   ·rw[if_pos s5]at h
    obtain⟨n1,n2⟩:=a0p h
    cases n2
    obtain⟨u,i⟩:=a0h s5 (by decide)
    obtain⟨p3,p4⟩:=a0h n1 (by decide)
    refine⟨mkE (by unfold a0w;simp) (by omega) (by decide) (by decide) (fun c=>by omega) (fun c=>by omega) (fun _ _=>rfl) (fun z v=>by simp at v),p4 d,?_⟩
    rw[a7z (by rw[show nd 19 []=⟨19,[],0,[]⟩ from rfl,a2j (by decide)];omega)]
    have e:a0i (nd 19 [])=[st S.lc,st S.rc]:=by show a0i ⟨19,[],0,[]⟩=_;rw[a0o];rfl
    rw[e,a1y,a1y,a1f]
    simp at u p3⊢
    omega
   rw[if_neg s5]at h
   by_cases s6:tx (t::r)=W.next_
   ·rw[if_pos s6]at h
    obtain⟨n1,n2⟩:=a0p h
    obtain⟨m,q,h1,h2⟩:=a1l n2
    obtain⟨n3,n4⟩:=a0p h2
    obtain⟨m2,q2,h3,h4⟩:=a1l n4
    obtain⟨n5,n6⟩:=a0p h4
    cases n6
    obtain⟨u,i⟩:=a0h s6 (by decide)
    obtain⟨p3,p4⟩:=a0h n1 (by decide)
    obtain⟨p5,p6⟩:=a0h n3 (by decide)
    obtain⟨p7,p8⟩:=a0h n5 (by decide)
    obtain⟨g,v1,c1⟩:=ih 0 _ _ _ _ _ h1 (p4 d) (by omega)
    obtain⟨o2,v2,c2⟩:=ih 0 _ _ _ _ _ h3 (p6 v1) (by omega)
    refine⟨mkE (by unfold a0w;simp) (by omega) (by decide) (by decide) (fun c=>by omega) (fun c=>by omega) (fun _ _=>rfl) (fun z v=>by simp at v;rcases v with rfl|rfl <;> assumption),p8 v2,?_⟩
    rw[a7z (by rw[show nd 26 [m,m2]=⟨26,[],0,[m,m2]⟩ from rfl,a2j (by decide)];omega)]
    show cost (a0i ⟨26,[],0,[m,m2]⟩)+_<=_
    have:=b4z 0 m
    have:=b4z 0 m2
    rw[c0x,a1t,a1y,a0k,a1y,a0k,a1y,a1f]
    simp at u p3 p5 p7⊢
    omega
   rw[if_neg s6]at h
   obtain⟨n1,n2⟩:=a2u h
   cases n2
   have z9:tx (t::r)≠[]:=fun e=>by rw[e]at n1;revert n1;decide
   obtain⟨u,i⟩:=pass z9
   refine⟨c9g n1,d,?_⟩
   rw[a7z (by rw[a2j (by decide)];omega),a0o]
   show cost [wt (tx (t::r))]+_<=_
   rw[a1t,a1f]
   simp at u⊢
   omega
 | 4,_,h =>
  intro hx
  rw[P]at h
  by_cases c:tx l=S.lb\/tx l=S.lp
  ·rw[if_pos c]at h
   obtain⟨m,q,h1,h2⟩:=a1l h
   obtain⟨g,v1,b1,c1,_,_⟩:=ih 5 _ _ _ _ _ h1 hv hx
   obtain⟨o2,v2,c2⟩:=ih 4 _ _ _ _ _ h2 v1 g
   refine⟨o2,v2,?_⟩
   rw[a7z (x:=m) (by omega)]at c2
   omega
  ·rw[if_neg c]at h
   cases h
   exact⟨hx,hv,Nat.le_refl _⟩
 | 5,_,h =>
  intro hx
  rw[P]at h
  by_cases c:tx l=S.lb
  ·rw[if_pos c]at h
   obtain⟨m,q,h1,h2⟩:=a1l h
   obtain⟨n1,n2⟩:=a0p h2
   cases n2
   obtain⟨u,i⟩:=a0h c (by decide)
   obtain⟨p3,p4⟩:=a0h n1 (by decide)
   obtain⟨g,v1,c1⟩:=ih 0 _ _ _ _ _ h1 (i hv) (by omega)
   have:=b4z 0 m
   exact d5i hx g (p4 v1) c (by simp at u p3;omega) hx
  ·rw[if_neg c]at h
   obtain⟨n1,n2⟩:=a0p h
   obtain⟨u,i⟩:=a0h n1 (by decide)
   by_cases c2:tx l.tail=S.rp
   ·rw[if_pos c2]at n2
    cases n2
    obtain⟨p3,p4⟩:=a0h c2 (by decide)
    exact c1b (us:=[]) hx (fun z v=>by simp at v) (p4 (i hv)) c (by rw[a9q];simp at u p3;omega) hx
   ·rw[if_neg c2]at n2
    obtain⟨us,u1,u2,u3,u4,u5⟩:=ih 6 _ _ _ _ _ n2 (i hv) [x] rfl
    subst u2
    exact c1b (us:=us) hx u3 u4 c (by rw[b1a us u1];simp at u;omega) hx
 | 6,_,h =>
  intro ks z1
  subst z1
  rw[P]at h
  obtain⟨m,q,h1,h2⟩:=a1l h
  obtain⟨g,v1,c1⟩:=ih 0 _ _ _ _ _ h1 hv (by omega)
  have:=b4z 0 m
  by_cases c:tx q=S.cm
  ·rw[if_pos c]at h2
   obtain⟨u,i⟩:=a0h c (by decide)
   obtain⟨us,u1,u2,u3,u4,u5⟩:=ih 6 _ _ _ _ _ h2 (i v1) _ rfl
   refine⟨m::us,by simp,by rw[u2];simp[nd],fun z v=>?_,u4,?_⟩
   ·simp at v
    rcases v with rfl|v
    ·exact g
    ·exact u3 z v
   ·rw[sumC]
    simp at u
    omega
  ·rw[if_neg c]at h2
   obtain⟨n1,n2⟩:=a0p h2
   cases n2
   obtain⟨u,i⟩:=a0h n1 (by decide)
   refine⟨[m],by simp,rfl,fun z v=>by simp at v;rw[v];exact g,i v1,?_⟩
   rw[sumC,sumC]
   simp at u
   omega
theorem mkN(hk:a0w k kids.length)(hn:a1v k->a8s t=true)(hnn:¬a1v k->t=[])(h22:k≠22/\k≠13/\k≠14)(h6:k=6->kids.head?.bind a3e=some 0)(h7:k=7->(kids.head?.bind a3e).isSome=true/\kids.head?.map (fun x=>x.k)=some 21)(hgo:∀j y,kids[j]?=some y->a0z k kids.length j y.k/\isN y):isN ⟨k,t,0,kids⟩:=by
 rw[isN]
 refine⟨hk,hn,fun c _=>hnn c,⟨fun c=>absurd c h22.1,fun c=>absurd c h22.2.2⟩,fun c=>absurd c h22.2.1,fun _ _=>rfl,h6,h7,?_⟩
 rw[a7h]
 intro j y z
 rw[Nat.zero_add]
 exact hgo j y z
theorem go1(h:a0z k 1 0 y.k/\isN y):∀j z,[y][j]?=some z->a0z k [y].length j z.k/\isN z
 | 0,z,e=>by cases e;exact h
 | j+1,z,e=>by simp at e
theorem go2(h:a0z k 2 0 y.k/\isN y)(h2:a0z k 2 1 v.k/\isN v):∀j z,[y,v][j]?=some z->a0z k [y,v].length j z.k/\isN z
 | 0,z,e=>by cases e;exact h
 | 1,z,e=>by cases e;exact h2
 | j+2,z,e=>by simp at e
theorem go3{u:Nd}(h:a0z k 3 0 y.k/\isN y)(h2:a0z k 3 1 v.k/\isN v)(h3:a0z k 3 2 u.k/\isN u):∀j z,[y,v,u][j]?=some z->a0z k [y,v,u].length j z.k/\isN z
 | 0,z,e=>by cases e;exact h
 | 1,z,e=>by cases e;exact h2
 | 2,z,e=>by cases e;exact h3
 | j+3,z,e=>by simp at e
theorem d0u(h:∀s∈us,isN s/\b4x s.k):isN (nd 4 us):=by
 refine mkN (by unfold a0w;simp) (fun c=>by simp only[a1v]at c;omega) (fun _=>rfl) (by decide) (fun c=>by omega) (fun c=>by omega) (fun j y z=>?_)
 have:=h y (List.mem_of_getElem? z)
 exact⟨by unfold a0z;rw[if_neg (by decide),if_neg (by decide),if_pos rfl];exact this.2,this.1⟩
theorem b8o(us:List Nd):cost (a0i (nd 4 us))=sumS us:=by
 have e:a0i (nd 4 us)=allT (us.map info):=by show a0i ⟨4,[],0,us⟩=_;rw[a0o];rfl
 rw[e,b1v]
theorem e0{m:Nd} : cost (atT 0 (info m))=cost (a0i m):=by rw[a7z (Nat.zero_le _)]
theorem b8p(f:Nat)(ih:∀z9 x a l n l1,P f z9 x a l=some (.inr (n,l1))->allV l->b1w z9 x a l n l1) :
  ∀z9 x a l n l1,7<=z9->P (f+1) z9 x a l=some (.inr (n,l1))->allV l->b1w z9 x a l n l1:=by
 intro z9 x a l n l1 ht h hv
 have ex:∀{l n l1},P f 0 (nd 0 []) 0 l=some (.inr (n,l1))->allV l->okE n/\allV l1/\cost (a0i n)+cost l1<=cost l:=fun h hv=>by
  obtain⟨u,v1,c1⟩:=ih 0 _ _ _ _ _ h hv (by omega)
  rw[e0]at c1
  exact⟨u,v1,c1⟩
 have bl:∀{l n l1},P f 7 (nd 4 []) 0 l=some (.inr (n,l1))->allV l->isN n/\n.k=4/\allV l1/\cost (a0i n)+cost l1<=cost l:=fun h hv=>by
  obtain⟨us,u1,u2,u3,u4⟩:=ih 7 _ _ _ _ _ h hv [] rfl
  subst u1
  exact⟨d0u u2,rfl,u3,by rw[List.nil_append,b8o];exact u4⟩
 have v:∀{l},a8s (tx l)=true->tx l≠[]:=fun h e=>by rw[e]at h;revert h;decide
 match z9,ht,h with
 | 7,_,h =>
  intro ks z2
  subst z2
  rw[P]at h
  by_cases c:tx l=W.end_\/tx l=W.else_
  ·rw[if_pos c]at h
   cases h
   exact⟨[],by simp,fun s hs=>by simp at hs,hv,by simp[sumS]⟩
  ·rw[if_neg c]at h
   obtain⟨m,q,h1,h2⟩:=a1l h
   obtain⟨i1,i2,v1,c1⟩:=ih 8 _ _ _ _ _ h1 hv
   obtain⟨us,u1,u2,u3,u4⟩:=ih 7 _ _ _ _ _ h2 v1 _ rfl
   refine⟨m::us,by rw[u1];simp[nd],fun s hs=>?_,u3,by rw[sumS];omega⟩
   simp at hs
   rcases hs with rfl|hs
   ·exact⟨i1,i2⟩
   ·exact u2 s hs
 | 8,_,h =>
  rw[P]at h
  by_cases w1:tx l=W.local_
  ·rw[if_pos w1]at h
   obtain⟨n1,n2⟩:=a2u h
   obtain⟨n3,n4⟩:=a0p n2
   obtain⟨m,q,h1,h2⟩:=a1l n4
   obtain⟨n5,n6⟩:=a0p h2
   cases n6
   obtain⟨i,o⟩:=a0h w1 (by decide)
   obtain⟨p3,p4⟩:=pass (v n1)
   obtain⟨p5,p6⟩:=a0h n3 (by decide)
   obtain⟨p7,p8⟩:=a0h n5 (by decide)
   obtain⟨u,v1,c1⟩:=ex h1 (p6 (p4 (o hv)))
   refine⟨mkN (by unfold a0w;simp) (fun _=>n1) (fun c=>absurd (by simp[a1v]) c) (by decide) (fun c=>by omega) (fun c=>by omega) (go1 ⟨a9p (by decide) _ _ _ u.2,u.1⟩),by show(5:Int)<=5/\(5:Int)<=12;omega,p8 v1,?_⟩
   rw[b8k]
   simp only[List.cons_append,List.nil_append]
   rw[a1t,a1t,a1y,a0k,a1y,a1f]
   simp at i p5 p7⊢
   omega
  rw[if_neg w1]at h
  by_cases w2:tx l=W.if_
  ·rw[if_pos w2]at h
   obtain⟨m,q,h1,h2⟩:=a1l h
   obtain⟨n1,n2⟩:=a0p h2
   obtain⟨b,q2,h3,h4⟩:=a1l n2
   obtain⟨i,o⟩:=a0h w2 (by decide)
   obtain⟨p3,p4⟩:=a0h n1 (by decide)
   obtain⟨u,v1,c1⟩:=ex h1 (o hv)
   obtain⟨b1,b2,b3,b4⟩:=bl h3 (p4 v1)
   by_cases w:tx q2=W.else_
   ·rw[if_pos w]at h4
    obtain⟨d,q3,h5,h6⟩:=a1l h4
    obtain⟨n3,n4⟩:=a0p h6
    cases n4
    obtain⟨p5,p6⟩:=a0h w (by decide)
    obtain⟨p7,p8⟩:=a0h n3 (by decide)
    obtain⟨d1,d2,d3,d4⟩:=bl h5 (p6 b3)
    refine⟨mkN (by unfold a0w;simp) (fun c=>by simp only[a1v]at c;omega) (fun _=>rfl) (by decide) (fun c=>by omega) (fun c=>by omega) (go3 ⟨by unfold a0z;simp;exact u.2,u.1⟩ ⟨by unfold a0z;simp;exact b2,b1⟩ ⟨by unfold a0z;simp;exact d2,d1⟩),by show(5:Int)<=8/\(8:Int)<=12;omega,p8 d3,?_⟩
    show cost (a0i ⟨8,[],0,[m,b,d]⟩)+_<=_
    rw[c5s,a1t,a0k,a1t,a0k,List.cons_append,a1t,a0k,a1t,a1f]
    simp at i p3 p5 p7⊢
    omega
   ·rw[if_neg w]at h4
    obtain⟨n3,n4⟩:=a0p h4
    cases n4
    obtain⟨p7,p8⟩:=a0h n3 (by decide)
    refine⟨mkN (by unfold a0w;simp) (fun c=>by simp only[a1v]at c;omega) (fun _=>rfl) (by decide) (fun c=>by omega) (fun c=>by omega) (go2 ⟨by unfold a0z;simp;exact u.2,u.1⟩ ⟨by unfold a0z;simp;exact b2,b1⟩),by show(5:Int)<=8/\(8:Int)<=12;omega,p8 b3,?_⟩
    show cost (a0i ⟨8,[],0,[m,b]⟩)+_<=_
    rw[c5r,a1t,a0k,a1t,a0k,a1t,a1f]
    simp at i p3 p7⊢
    omega
  rw[if_neg w2]at h
  by_cases w3:tx l=W.while_
  ·rw[if_pos w3]at h
   obtain⟨m,q,h1,h2⟩:=a1l h
   obtain⟨n1,n2⟩:=a0p h2
   obtain⟨b,q2,h3,h4⟩:=a1l n2
   obtain⟨n3,n4⟩:=a0p h4
   cases n4
   obtain⟨i,o⟩:=a0h w3 (by decide)
   obtain⟨p3,p4⟩:=a0h n1 (by decide)
   obtain⟨p7,p8⟩:=a0h n3 (by decide)
   obtain⟨u,v1,c1⟩:=ex h1 (o hv)
   obtain⟨b1,b2,b3,b4⟩:=bl h3 (p4 v1)
   refine⟨mkN (by unfold a0w;simp) (fun c=>by simp only[a1v]at c;omega) (fun _=>rfl) (by decide) (fun c=>by omega) (fun c=>by omega) (go2 ⟨by unfold a0z;simp;exact u.2,u.1⟩ ⟨by unfold a0z;simp;exact b2,b1⟩),by show(5:Int)<=9/\(9:Int)<=12;omega,p8 b3,?_⟩
   show cost (a0i ⟨9,[],0,[m,b]⟩)+_<=_
   rw[b8l,a1t,a0k,a1t,a0k,a1t,a1f]
   simp at i p3 p7⊢
   omega
  rw[if_neg w3]at h
  by_cases w4:tx l=W.for_
  ·rw[if_pos w4]at h
   obtain⟨n1,n2⟩:=a2u h
   obtain⟨n3,n4⟩:=a0p n2
   obtain⟨m,q,h1,h2⟩:=a1l n4
   obtain⟨n5,n6⟩:=a0p h2
   obtain⟨m2,q2,h3,h4⟩:=a1l n6
   obtain⟨n7,n8⟩:=a0p h4
   obtain⟨b,q3,h5,h6⟩:=a1l n8
   obtain⟨n9,z6⟩:=a0p h6
   cases z6
   obtain⟨i,o⟩:=a0h w4 (by decide)
   obtain⟨p3,p4⟩:=pass (v n1)
   obtain⟨p5,p6⟩:=a0h n3 (by decide)
   obtain⟨p7,p8⟩:=a0h n5 (by decide)
   obtain⟨p9,z8⟩:=a0h n7 (by decide)
   obtain⟨z4,z5⟩:=a0h n9 (by decide)
   obtain⟨u,v1,c1⟩:=ex h1 (p6 (p4 (o hv)))
   obtain⟨o2,v2,c2⟩:=ex h3 (p8 v1)
   obtain⟨b1,b2,b3,b4⟩:=bl h5 (z8 v2)
   refine⟨mkN (by unfold a0w;simp) (fun _=>n1) (fun c=>absurd (by simp[a1v]) c) (by decide) (fun c=>by omega) (fun c=>by omega) (go3 ⟨by unfold a0z;simp;exact u.2,u.1⟩ ⟨by unfold a0z;simp;exact o2.2,o2.1⟩ ⟨by unfold a0z;simp;exact b2,b1⟩),by show(5:Int)<=10/\(10:Int)<=12;omega,z5 b3,?_⟩
   rw[c5t]
   simp only[List.cons_append,List.nil_append]
   rw[a1t,a1t,a1y,a0k,a1y,a0k,a1t,a0k,a1t,a1f]
   simp at i p5 p7 p9 z4⊢
   omega
  rw[if_neg w4]at h
  by_cases w5:tx l=W.return_
  ·rw[if_pos w5]at h
   obtain⟨m,q,h1,h2⟩:=a1l h
   obtain⟨n1,n2⟩:=a0p h2
   cases n2
   obtain⟨i,o⟩:=a0h w5 (by decide)
   obtain⟨p3,p4⟩:=a0h n1 (by decide)
   obtain⟨u,v1,c1⟩:=ex h1 (o hv)
   refine⟨mkN (by unfold a0w;simp) (fun c=>by simp only[a1v]at c;omega) (fun _=>rfl) (by decide) (fun c=>by omega) (fun c=>by omega) (go1 ⟨a9p (by decide) _ _ _ u.2,u.1⟩),by show(5:Int)<=11/\(11:Int)<=12;omega,p4 v1,?_⟩
   show cost (a0i ⟨11,[],0,[m]⟩)+_<=_
   rw[b4y,a1t,a0k,a1y,a1f]
   simp at i p3⊢
   omega
  rw[if_neg w5]at h
  by_cases w6:tx l=W.emit_
  ·rw[if_pos w6]at h
   obtain⟨m,q,h1,h2⟩:=a1l h
   obtain⟨n1,n2⟩:=a0p h2
   cases n2
   obtain⟨i,o⟩:=a0h w6 (by decide)
   obtain⟨p3,p4⟩:=a0h n1 (by decide)
   obtain⟨u,v1,c1⟩:=ex h1 (o hv)
   refine⟨mkN (by unfold a0w;simp) (fun c=>by simp only[a1v]at c;omega) (fun _=>rfl) (by decide) (fun c=>by omega) (fun c=>by omega) (go1 ⟨a9p (by decide) _ _ _ u.2,u.1⟩),by show(5:Int)<=12/\(12:Int)<=12;omega,p4 v1,?_⟩
   show cost (a0i ⟨12,[],0,[m]⟩)+_<=_
   rw[c0z,a1t,a0k,a1y,a1f]
   simp at i p3⊢
   omega
  rw[if_neg w6]at h
  obtain⟨n1,n2⟩:=a2u h
  obtain⟨m,q,h1,h2⟩:=a1l n2
  obtain⟨n3,n4⟩:=a0p h2
  cases n4
  obtain⟨i,o⟩:=pass (v n1)
  obtain⟨p3,p4⟩:=a0h n3 (by decide)
  obtain⟨i1,i2,v1,c1⟩:=ih 9 _ _ _ _ _ h1 (o hv) (c9g n1) (a2j (by decide)) (by rw[a3e,if_pos rfl])
  refine⟨i1,i2,p4 v1,?_⟩
  have e:a0i ⟨18,tx l,0,[]⟩=[wt (tx l)]:=by rw[a0o];rfl
  rw[e,a1t,a1f]at c1
  simp at p3
  omega
 | 9,_,h =>
  intro hx hb z7
  rw[P]at h
  by_cases c1:tx l=S.lb
  ·rw[if_pos c1]at h
   obtain⟨m,q,h1,h2⟩:=a1l h
   obtain⟨u,v1,b1,k1,k2,_⟩:=ih 5 _ _ _ _ _ h1 hv hx
   obtain⟨i1,i2,v2,k3⟩:=ih 9 _ _ _ _ _ h2 v1 u b1 (by rw[(k2 c1).2];exact z7)
   rw[a7z (x:=x) (by omega)]at k1
   exact⟨i1,i2,v2,by omega⟩
  rw[if_neg c1]at h
  by_cases c2:tx l=S.lp
  ·rw[if_pos c2]at h
   obtain⟨m,q,h1,h2⟩:=a1l h
   obtain⟨u,v1,b1,k1,_,k2⟩:=ih 5 _ _ _ _ _ h1 hv hx
   obtain⟨i1,i2,v2,k3⟩:=ih 9 _ _ _ _ _ h2 v1 u b1 (by rw[(k2 c1).2,z7];rfl)
   rw[a7z (x:=x) (by omega)]at k1
   exact⟨i1,i2,v2,by omega⟩
  rw[if_neg c2]at h
  by_cases c3:a=0
  ·rw[if_pos c3]at h
   obtain⟨n1,n2⟩:=a0p h
   obtain⟨m,q,h1,h2⟩:=a1l n2
   cases h2
   obtain⟨i,o⟩:=a0h n1 (by decide)
   obtain⟨u,v1,k1⟩:=ex h1 (o hv)
   refine⟨mkN (by unfold a0w;simp) (fun c=>by simp only[a1v]at c;omega) (fun _=>rfl) (by decide) (fun _=>by simp[z7,c3]) (fun c=>by omega) (go2 ⟨a9p (by decide) _ _ _ hx.2,hx.1⟩ ⟨a9p (by decide) _ _ _ u.2,u.1⟩),by show(5:Int)<=6/\(6:Int)<=12;omega,v1,?_⟩
   show cost (a0i ⟨6,[],0,[x,m]⟩)+_<=_
   rw[c5q,a0k,a1y,a0k,a1y,a1f]
   simp at i⊢
   omega
  rw[if_neg c3]at h
  by_cases c4:x.k=21
  ·rw[if_pos c4]at h
   cases h
   refine⟨mkN (by unfold a0w;simp) (fun c=>by simp only[a1v]at c;omega) (fun _=>rfl) (by decide) (fun c=>by omega) (fun _=>⟨by simp[z7],by simp[c4]⟩) (go1 ⟨a9p (by decide) _ _ _ hx.2,hx.1⟩),by show(5:Int)<=7/\(7:Int)<=12;omega,hv,?_⟩
   show cost (a0i ⟨7,[],0,[x]⟩)+_<=_
   rw[d0s,a0k,a1y,a1f]
   simp
   omega
  ·rw[if_neg c4]at h;cases h
 | 10,_,h =>
  rw[P]at h
  obtain⟨n1,n2⟩:=a0p h
  obtain⟨n3,n4⟩:=a2u n2
  obtain⟨n5,n6⟩:=a0p n4
  obtain⟨i,o⟩:=a0h n1 (by decide)
  obtain⟨p3,p4⟩:=pass (v n3)
  obtain⟨p5,p6⟩:=a0h n5 (by decide)
  have mk:∀(us:List Nd) (b:Nd),(∀p∈us,∃s,p=(⟨3,s,0,[]⟩:Nd)/\a8s s=true)->isN b->b.k=4->isN ⟨2,tx l.tail,0,us++[b]⟩:=fun us b hu y9 z0=>by
   refine mkN (by unfold a0w;simp) (fun _=>n3) (fun c=>absurd (by simp[a1v]) c) (by decide) (fun c=>by omega) (fun c=>by omega) (fun j y hy=>?_)
   by_cases e:j<us.length
   ·rw[List.getElem?_append_left e]at hy
    obtain⟨s,rfl,hs⟩:=hu y (List.mem_of_getElem? hy)
    refine⟨by unfold a0z;rw[if_neg (by decide),if_pos rfl,if_neg (by simp;omega)],?_⟩
    exact mkN (by unfold a0w;simp) (fun _=>hs) (fun c=>absurd (by simp[a1v]) c) (by decide) (fun c=>by omega) (fun c=>by omega) (fun j y hy=>by simp at hy)
   ·rw[List.getElem?_append_right (by omega)]at hy
    have e2:j-us.length=0:=by
     by_cases z:j-us.length=0
     ·exact z
     ·rw[List.getElem?_eq_none (by simp;omega)]at hy;cases hy
    rw[e2]at hy
    simp at hy
    subst hy
    exact⟨by unfold a0z;rw[if_neg (by decide),if_pos rfl,if_pos (by simp;omega)];exact z0,y9⟩
  have sh:∀(us:List Nd) (b:Nd),cost (a0i ⟨2,tx l.tail,0,us++[b]⟩)=9+((tx l.tail).length+1)+cost (a4m (us.map info))+cost (a0i b)+4:=fun us b=>by
   have z3:a0i ⟨2,tx l.tail,0,us++[b]⟩=[wt W.function_,wt (tx l.tail)]++a4m (us.map info)++a0i b++[wt W.end_]:=by
    rw[a0o]
    unfold comb
    rw[if_neg (by decide),if_pos rfl]
    simp[info]
   rw[z3,a0k,a0k,a0k,a1t,a1t,a1t,a1f]
   simp
  by_cases c:tx l.tail.tail.tail=S.rp
  ·rw[if_pos c]at n6
   obtain⟨b,q,h1,h2⟩:=a1l n6
   obtain⟨n7,n8⟩:=a0p h2
   cases n8
   obtain⟨p7,p8⟩:=a0h c (by decide)
   obtain⟨p9,z8⟩:=a0h n7 (by decide)
   obtain⟨b1,b2,b3,b4⟩:=bl h1 (p8 (p6 (p4 (o hv))))
   refine⟨mk [] b (fun p hp=>by simp at hp) b1 b2,rfl,z8 b3,?_⟩
   have:=sh [] b
   rw[List.nil_append]at this
   rw[this,a9q]
   simp at i p5 p7 p9
   omega
  ·rw[if_neg c]at n6
   obtain⟨m,q,h1,h2⟩:=a1l n6
   obtain⟨n7,n8⟩:=a0p h2
   obtain⟨b,q2,h3,h4⟩:=a1l n8
   obtain⟨n9,z6⟩:=a0p h4
   cases z6
   obtain⟨us,u1,u2,u3,u4,u5⟩:=ih 11 _ _ _ _ _ h1 (p6 (p4 (o hv)))
   obtain⟨p7,p8⟩:=a0h n7 (by decide)
   obtain⟨p9,z8⟩:=a0h n9 (by decide)
   obtain⟨b1,b2,b3,b4⟩:=bl h3 (p8 u4)
   have e:m.kids=us:=by rw[u2];simp
   rw[e]
   refine⟨mk us b u3 b1 b2,rfl,z8 b3,?_⟩
   rw[sh,b1a us u1]
   simp at i p5 p7 p9
   omega
 | 11,_,h =>
  rw[P]at h
  obtain⟨n1,n2⟩:=a2u h
  obtain⟨i,o⟩:=pass (v n1)
  have hc:cost (a0i ⟨3,tx l,0,[]⟩)=(tx l).length+1:=by
   have e:a0i ⟨3,tx l,0,[]⟩=[wt (tx l)]:=by rw[a0o];rfl
   rw[e,a1t,a1f]
  by_cases c:tx l.tail=S.cm
  ·rw[if_pos c]at n2
   obtain⟨p3,p4⟩:=a0h c (by decide)
   obtain⟨us,u1,u2,u3,u4,u5⟩:=ih 11 _ _ _ _ _ n2 (p4 (o hv))
   refine⟨⟨3,tx l,0,[]⟩::us,by simp,by rw[u2];simp,fun p hp=>?_,u4,?_⟩
   ·simp at hp
    rcases hp with rfl|hp
    ·exact⟨tx l,rfl,n1⟩
    ·exact u3 p hp
   ·rw[sumC,hc]
    simp at p3
    omega
  ·rw[if_neg c]at n2
   cases n2
   refine⟨[⟨3,tx l,0,[]⟩],by simp,rfl,fun p hp=>by simp at hp;exact⟨tx l,hp,n1⟩,o hv,?_⟩
   rw[sumC,sumC,hc]
   omega
 | 12,_,h =>
  intro fs z1
  subst z1
  rw[P]at h
  by_cases c:l=[]
  ·rw[if_pos c]at h
   cases h
   exact⟨[],by simp,fun g hg=>by simp at hg,by simp[sumS]⟩
  ·rw[if_neg c]at h
   obtain⟨m,q,h1,h2⟩:=a1l h
   obtain⟨i1,i2,v1,c1⟩:=ih 10 _ _ _ _ _ h1 hv
   obtain⟨us,u1,u2,u3⟩:=ih 12 _ _ _ _ _ h2 v1 _ rfl
   refine⟨m::us,by rw[u1];simp[nd],fun g hg=>?_,by rw[sumS];omega⟩
   simp at hg
   rcases hg with rfl|hg
   ·exact⟨i1,i2⟩
   ·exact u2 g hg
 | n+13,_,_=>exact trivial
theorem a9r:∀(f z:Nat) (x:Nd) (a:Nat) (l:List PT) (n:Nd) (l1:List PT),P f z x a l=some (.inr (n,l1))->allV l->b1w z x a l n l1
 | 0,_,_,_,_,_,_,h,_=>by cases h
 | f+1,z,x,a,l,n,l1,h,hv=>by
  by_cases c:z<=6
  ·exact b8n f (a9r f) z x a l n l1 c h hv
  ·exact b8p f (a9r f) z x a l n l1 (by omega) h hv
theorem b8q(h:Q 12 (nd 1 []) 0 l (yes n l1))(hv:allV l):isN n/\n.k=1/\(b8m (a0i n)).length<=cost l:=by
 obtain⟨f,h⟩:=h
 obtain⟨us,v,z,s⟩:=a9r f 12 _ _ _ _ _ h hv [] rfl
 subst v
 rw[List.nil_append]
 refine⟨mkN (by unfold a0w;simp) (fun c=>by simp only[a1v]at c;omega) (fun _=>rfl) (by decide) (fun c=>by omega) (fun c=>by omega) (fun j y u=>?_),rfl,?_⟩
 ·have:=z y (List.mem_of_getElem? u)
  exact⟨by unfold a0z;rw[if_pos rfl];exact this.2,this.1⟩
 ·have e:a0i (nd 1 us)=allT (us.map info):=by show a0i ⟨1,[],0,us⟩=_;rw[a0o];rfl
  have:=b6r (a0i (nd 1 us))
  rw[e,b1v]at this
  rw[e]
  omega
def Tot (y:PR) (b:Nat):Prop:=∃r,y=some r/\∀n l1,r=.inr (n,l1)->l1.length<b
theorem Tot.mono{y:PR}(h:Tot y b)(hbc:b<=c):Tot y c:=by
 obtain⟨r,h1,h2⟩:=h
 exact⟨r,h1,fun n l1 e=>by have:=h2 n l1 e;omega⟩
theorem a1n{x:PR}{g:Nd->List PT->PR}(h:Tot x c)(hg:∀n l,l.length<c->Tot (g n l) b):Tot (x.on g) b:=by
 obtain⟨r,rfl,h2⟩:=h
 rcases r with l|⟨n,l⟩
 ·exact⟨.inl l,rfl,fun n l1 e=>by cases e⟩
 ·exact hg n l (h2 n l rfl)
theorem a2c(h:l.length<b):Tot (.ok n l) b:=⟨_,rfl,fun m l1 e=>by cases e;exact h⟩
theorem b6s:Tot (.no l) b:=⟨_,rfl,fun m l1 e=>by cases e⟩
theorem a2f(h:tx l≠[]):l.tail.length+1=l.length:=by
 cases l with
 | nil=>exact absurd rfl h
 | cons p l=>rfl
theorem a0q{g:List PT->PR}(hs:s≠[])(hg:l.tail.length+1=l.length->Tot (g l.tail) b):Tot (need s l g) b:=by
 unfold need
 split
 ·rename_i c;exact hg (a2f (by rw[c];exact hs))
 ·exact b6s
theorem a2v{g:List UInt8->List PT->PR}(hg:l.tail.length+1=l.length->Tot (g (tx l) l.tail) b):Tot (a0v l g) b:=by
 unfold a0v
 split
 ·rename_i c;exact hg (a2f (fun e=>by rw[e]at c;revert c;decide))
 ·exact b6s
theorem a0t{c:Prop}[Decidable c]{x y:PR}(h1:c->Tot x b)(h2:¬c->Tot y b):Tot (if c then x else y) b:=by
 split
 ·exact h1 (by assumption)
 ·exact h2 (by assumption)
def rank (tag a:Nat):Nat :=
 match tag with
 | 0=>4+(6-a)
 | 1=>3
 | 4=>2
 | 6=>11
 | 7=>2
 | 9=>2
 | 12=>2
 | _=>1
def room (tag:Nat) (l:List PT):Nat :=
 match tag with
 | 2|4|7|9|12=>l.length+1
 | _=>l.length
theorem a3m:∀(f v:Nat) (x:Nd) (a:Nat) (l:List PT),v<=12->16*l.length+rank v a<=f->Tot (P f v x a l) (room v l)
 | 0,v,x,a,l,_,h=>by
  exfalso
  have:1<=rank v a:=by unfold rank;split <;> omega
  omega
 | f+1,v,x,a,l,ht,h=>by
  have E:∀(q:List PT),q.length<l.length->Tot (P f 0 (nd 0 []) 0 q) q.length:=fun q hq=>a3m f 0 _ 0 q (by omega) (by simp only[rank];omega)
  have u:∀(t:Nat) (y:Nd) (c:Nat) (q:List PT),t<=12->q.length<l.length->Tot (P f t y c q) (room t q):=fun t y c q h1 hq=>a3m f t y c q h1 (by
   have:rank t c<=11:=by unfold rank;split <;> omega
   omega)
  match v,ht,h with
  | 0,_,h =>
   rw[P]
   simp only[rank]at h
   refine a0t (fun c=>a3m f 1 _ _ l (by omega) (by simp only[rank];omega)) (fun c=>?_)
   refine a1n (a3m f 0 _ (a+1) l (by omega) (by simp only[rank];omega)) (fun n q hq=>?_)
   simp only[room]at hq⊢
   exact(u 2 n a q (by omega) hq).mono (by simp only[room];omega)
  | 1,_,h =>
   rw[P]
   simp only[rank]at h
   have un:∀(s:List UInt8) (k:Int),s≠[]->tx l=s->Tot ((P f 1 (nd 0 []) 0 l.tail).on fun x l=>.ok (nd k [x]) l) (room 1 l):=fun s k hs e=>by
    have z:=a2f (l:=l) (by rw[e];exact hs)
    refine a1n (u 1 _ 0 l.tail (by omega) (by omega)) (fun n q hq=>a2c ?_)
    simp only[room]at hq⊢
    omega
   refine a0t (un _ _ (by decide)) (fun _=>a0t (un _ _ (by decide)) (fun _=>a0t (un _ _ (by decide)) (fun _=>?_)))
   refine a1n (a3m f 3 _ 0 l (by omega) (by simp only[rank];omega)) (fun n q hq=>?_)
   simp only[room]at hq⊢
   exact(u 4 n 0 q (by omega) hq).mono (by simp only[room];omega)
  | 2,_,h =>
   rw[P]
   cases ho:opAt (tx l) with
   | none=>exact a2c (by simp only[room];omega)
   | some p =>
    obtain⟨o,k⟩:=p
    simp only
    refine a0t (fun c=>?_) (fun _=>a2c (by simp only[room];omega))
    have z:=a2f (b1t ho).2
    refine a1n (u 0 _ (a+1) l.tail (by omega) (by omega)) (fun n q hq=>?_)
    simp only[room]at hq⊢
    exact a0t (fun _=>a2c (by omega)) (fun _=>(u 2 _ a q (by omega) (by omega)).mono (by simp only[room];omega))
  | 3,_,h =>
   cases l with
   | nil=>rw[P];exact b6s
   | cons t r =>
    rw[P]
    have hr:∀{q:List PT} {n:Nd},q.length<=r.length->Tot (.ok n q) (room 3 (t::r)):=fun hq=>a2c (by simp only[room,List.length_cons];omega)
    refine a0t (fun _=>hr (Nat.le_refl _)) (fun _=>a0t (fun _=>hr (Nat.le_refl _)) (fun _=>a0t (fun _=>?_) (fun _=>a0t (fun _=>hr (Nat.le_refl _)) (fun _=>a0t (fun _=>hr (Nat.le_refl _)) (fun _=>a0t (fun _=>hr (Nat.le_refl _)) (fun _=>a0t (fun _=>?_) (fun _=>a0t (fun _=>?_) (fun _=>?_))))))))
    ·refine a1n (E r (by simp)) (fun n q hq=>a0q (by decide) (fun z=>hr (by omega)))
    ·exact a0q (by decide) (fun z=>hr (by omega))
    ·refine a0q (by decide) (fun z=>a1n (E _ (by rw[List.length_cons];omega)) (fun n q hq=>a0q (by decide) (fun z9=>a1n (E _ (by rw[List.length_cons];omega)) (fun n2 g j=>a0q (by decide) (fun z7=>hr (by omega))))))
    ·exact a2v (fun z=>hr (by simp))
  | 4,_,h =>
   rw[P]
   simp only[rank]at h
   refine a0t (fun c=>?_) (fun _=>a2c (by simp only[room];omega))
   refine a1n (a3m f 5 _ 0 l (by omega) (by simp only[rank];omega)) (fun n q hq=>?_)
   simp only[room]at hq⊢
   exact(u 4 n 0 q (by omega) hq).mono (by simp only[room];omega)
  | 5,_,h =>
   rw[P]
   refine a0t (fun c=>?_) (fun _=>a0q (by decide) (fun z=>a0t (fun c2=>?_) (fun _=>?_)))
   ·have z:=a2f (l:=l) (by rw[c];decide)
    exact a1n (E _ (by omega)) (fun n q hq=>a0q (by decide) (fun z9=>a2c (by simp only[room];omega)))
   ·have z9:=a2f (l:=l.tail) (by rw[c2];decide)
    exact a2c (by simp only[room];omega)
   ·exact(u 6 _ 0 l.tail (by omega) (by omega)).mono (by simp only[room];omega)
  | 6,_,h =>
   rw[P]
   simp only[rank]at h
   refine a1n (a3m f 0 _ 0 l (by omega) (by simp only[rank];omega)) (fun n q hq=>?_)
   simp only[room]at hq⊢
   refine a0t (fun c=>?_) (fun _=>a0q (by decide) (fun z=>a2c (by omega)))
   have z:=a2f (l:=q) (by rw[c];decide)
   exact(u 6 _ 0 q.tail (by omega) (by omega)).mono (by simp only[room];omega)
  | 7,_,h =>
   rw[P]
   simp only[rank]at h
   refine a0t (fun _=>a2c (by simp only[room];omega)) (fun _=>?_)
   refine a1n (a3m f 8 _ 0 l (by omega) (by simp only[rank];omega)) (fun n q hq=>?_)
   simp only[room]at hq⊢
   exact(u 7 _ 0 q (by omega) hq).mono (by simp only[room];omega)
  | 8,_,h =>
   rw[P]
   have B:∀(q:List PT),q.length<l.length->Tot (P f 7 (nd 4 []) 0 q) (q.length+1):=fun q hq=>u 7 _ 0 q (by omega) hq
   refine a0t (fun c=>?_) (fun _=>a0t (fun c=>?_) (fun _=>a0t (fun c=>?_) (fun _=>a0t (fun c=>?_) (fun _=>a0t (fun c=>?_) (fun _=>a0t (fun c=>?_) (fun _=>?_))))))
   ·have z:=a2f (l:=l) (by rw[c];decide)
    exact a2v (fun h1=>a0q (by decide) (fun h2=>a1n (E _ (by omega)) (fun n q hq=>a0q (by decide) (fun h3=>a2c (by simp only[room];omega)))))
   ·have z:=a2f (l:=l) (by rw[c];decide)
    exact a1n (E _ (by omega)) (fun n q hq=>a0q (by decide) (fun h2=>a1n (B _ (by omega)) (fun b g j=>a0t (fun c2=>a1n (B _ (by have:=a2f (l:=g) (by rw[c2];decide);omega)) (fun d q3 z8=>a0q (by decide) (fun h3=>a2c (by have:=a2f (l:=g) (by rw[c2];decide);simp only[room];omega)))) (fun _=>a0q (by decide) (fun h3=>a2c (by simp only[room];omega))))))
   ·have z:=a2f (l:=l) (by rw[c];decide)
    exact a1n (E _ (by omega)) (fun n q hq=>a0q (by decide) (fun h2=>a1n (B _ (by omega)) (fun b g j=>a0q (by decide) (fun h3=>a2c (by simp only[room];omega)))))
   ·have z:=a2f (l:=l) (by rw[c];decide)
    exact a2v (fun h1=>a0q (by decide) (fun h2=>a1n (E _ (by omega)) (fun n q hq=>a0q (by decide) (fun h3=>a1n (E _ (by omega)) (fun n2 g j=>a0q (by decide) (fun h4=>a1n (B _ (by omega)) (fun b q3 z8=>a0q (by decide) (fun h5=>a2c (by simp only[room];omega)))))))))
   ·have z:=a2f (l:=l) (by rw[c];decide)
    exact a1n (E _ (by omega)) (fun n q hq=>a0q (by decide) (fun h2=>a2c (by simp only[room];omega)))
   ·have z:=a2f (l:=l) (by rw[c];decide)
    exact a1n (E _ (by omega)) (fun n q hq=>a0q (by decide) (fun h2=>a2c (by simp only[room];omega)))
   ·exact a2v (fun h1=>a1n (u 9 _ 0 l.tail (by omega) (by omega)) (fun n q hq=>a0q (by decide) (fun h2=>a2c (by simp only[room]at hq⊢;omega))))
  | 9,_,h =>
   rw[P]
   simp only[rank]at h
   have i:∀c,Tot ((P f 5 x 0 l).on fun n l=>P f 9 n c l) (room 9 l):=fun c=>by
    refine a1n (a3m f 5 _ 0 l (by omega) (by simp only[rank];omega)) (fun n q hq=>?_)
    simp only[room]at hq⊢
    exact(u 9 n c q (by omega) hq).mono (by simp only[room];omega)
   refine a0t (fun _=>i a) (fun _=>a0t (fun _=>i (a+1)) (fun _=>a0t (fun _=>?_) (fun _=>a0t (fun _=>a2c (by simp only[room];omega)) (fun _=>b6s))))
   exact a0q (by decide) (fun z=>a1n (E _ (by omega)) (fun n q hq=>a2c (by simp only[room];omega)))
  | 10,_,h =>
   rw[P]
   have B:∀(q:List PT),q.length<l.length->Tot (P f 7 (nd 4 []) 0 q) (q.length+1):=fun q hq=>u 7 _ 0 q (by omega) hq
   refine a0q (by decide) (fun h1=>a2v (fun h2=>a0q (by decide) (fun h3=>a0t (fun c=>?_) (fun _=>?_))))
   ·have z:=a2f (l:=l.tail.tail.tail) (by rw[c];decide)
    exact a1n (B _ (by omega)) (fun b q hq=>a0q (by decide) (fun h4=>a2c (by simp only[room];omega)))
   ·exact a1n (u 11 _ 0 _ (by omega) (by omega)) (fun m q hq=>a0q (by decide) (fun h4=>a1n (B _ (by simp only[room]at hq;omega)) (fun b g j=>a0q (by decide) (fun h5=>a2c (by simp only[room]at hq⊢;omega)))))
  | 11,_,h =>
   rw[P]
   refine a2v (fun h1=>a0t (fun c=>?_) (fun _=>a2c (by simp only[room];omega)))
   have z:=a2f (l:=l.tail) (by rw[c];decide)
   exact(u 11 _ 0 l.tail.tail (by omega) (by omega)).mono (by simp only[room];omega)
  | 12,_,h =>
   rw[P]
   simp only[rank]at h
   refine a0t (fun _=>a2c (by simp only[room];omega)) (fun _=>?_)
   refine a1n (a3m f 10 _ 0 l (by omega) (by simp only[rank];omega)) (fun n q hq=>?_)
   simp only[room]at hq⊢
   exact(u 12 _ 0 q (by omega) hq).mono (by simp only[room];omega)
theorem d9c{tag:Nat}{r r':List PT⊕(Nd×List PT)}(h:Q tag x a l r)(z:Q tag x a l r'):r=r':=by
 obtain⟨f,h⟩:=h
 obtain⟨g,z⟩:=z
 have v:=c9c (show f<=f+g by omega) h
 have y:=c9c (show g<=f+g by omega) z
 rw[v]at y
 exact Option.some.inj y
theorem b3k(l:List UInt8):runN p (l.take (runN p l))=runN p l:=by
 have hn:=a3w p l
 have y:(l.take (runN p l)).length=runN p l:=by rw[List.length_take];omega
 refine a7x p _ _ (by omega) (fun i d z hd=>?_) (fun d hd=>?_)
 ·rw[List.getElem?_take_of_lt z]at hd
  exact a6y p l i z d hd
 ·rw[List.getElem?_eq_none (by omega)]at hd;cases hd
theorem c1c{l:List UInt8}{n:Nat}(h:tokR l=.tok k t n):tokR (l.take n)=.tok k t n:=by
 have u:=a3p h
 cases l with
 | nil=>simp[tokR]at h
 | cons c q =>
  obtain⟨m,rfl⟩:∃m,n=m+1:=⟨n-1,by omega⟩
  have e0:(c::q).take (m+1)=c::q.take m:=by simp
  have z:((c::q).take (m+1)).take (m+1)=(c::q).take (m+1):=by rw[List.take_take,Nat.min_self]
  unfold tokR at h
  simp only at h
  split at h
  ·rename_i hc
   split at h
   ·cases h
   ·rename_i h16
    have hr:=b3k (p:=rowB) (c::q)
    obtain⟨h1,h2,h3⟩:=TokR.inj h
    subst h1 h2
    rw[h3]at hr h16
    rw[h3]
    rw[e0]at hr z⊢
    unfold tokR
    simp only
    rw[if_pos hc,hr,if_neg h16,z]
  split at h
  ·rename_i hl hc
   split at h
   ·rename_i hz
    have hr:=b3k (p:=rowB) (c::q)
    obtain⟨h1,h2,h3⟩:=TokR.inj h
    subst h1 h2
    rw[h3]at hr hz
    rw[h3]
    rw[e0]at hr z hz⊢
    unfold tokR
    simp only
    rw[if_neg hl,if_pos hc,hr,z,if_pos hz]
   ·cases h
  split at h
  ·rename_i hl hd hc
   split at h
   ·rename_i hq
    split at h
    ·cases h
    ·rename_i h300
     obtain⟨h1,h2,h3⟩:=TokR.inj h
     obtain rfl:m=runN txtB q+1:=by omega
     subst h1 h2
     clear h3
     have s:runN txtB q<q.length:=by
      by_cases hh:runN txtB q<q.length
      ·exact hh
      ·rw[List.getElem?_eq_none (by omega)]at hq;cases hq
     have v:q.take (runN txtB q+1)=q.take (runN txtB q)++34::[]:=by
      rw[List.take_add_one,hq];rfl
     have hr:=a5s (p:=txtB) (l:=q) (r:=[]) (c:=34) (by decide)
     rw[e0,v]
     unfold tokR
     simp only
     rw[if_neg hl,if_neg hd,if_pos hc,hr,getElem?_take_at (by omega),if_pos rfl,if_neg h300,a4l (by omega)]
   ·cases h
  ·rename_i hl hd hc
   split at h
   ·cases h
   ·rename_i hz
    obtain⟨h1,h2,h3⟩:=TokR.inj h
    subst h1 h2
    rw[h3]
    have y:a3l ((c::q).take (m+1))=m+1:=by
     rw[e0]
     unfold a3l at h3⊢
     simp only at h3⊢
     split at h3
     ·rename_i h2
      obtain rfl:m=1:=by omega
      cases q with
      | nil=>simp at u
      | cons d q =>
       have:a5j (c::(d::q).take 1)=a5j (c::d::q):=by simp[a5j]
       rw[this,if_pos h2]
     ·split at h3
      ·rename_i h2
       obtain rfl:m=0:=by omega
       have:a5j (c::q.take 0)=false:=by simp[a5j]
       rw[this,if_neg (by simp),if_pos h2]
      ·omega
    rw[e0]at y z⊢
    unfold tokR
    simp only
    rw[if_neg hl,if_neg hd,if_neg hc,y,z]
    rfl
theorem c1d{l:List UInt8}{n:Nat}(h0:gap1 l=0)(h:tokR l=.tok k t n):gap1 (l.take n)=0:=by
 have z:=a3p h
 cases l with
 | nil=>simp[tokR]at h
 | cons c q =>
  obtain⟨m,rfl⟩:∃m,n=m+1:=⟨n-1,by omega⟩
  have e0:(c::q).take (m+1)=c::q.take m:=by simp
  rw[e0]
  unfold gap1 at h0⊢
  simp only at h0⊢
  split at h0
  ·omega
  ·rename_i h1
   rw[if_neg h1]
   split at h0
   ·rename_i h2
    have:0<runN a6x (c::q):=by
     have:¬c.toNat=10:=by omega
     simp[runN,a6x,this]
    omega
   ·rename_i h2
    rw[if_neg]
    rintro⟨h3,h4⟩
    cases q with
    | nil=>simp at h4
    | cons d q =>
     cases m with
     | zero=>simp at h4
     | succ m=>exact h2 ⟨h3,by simpa using h4⟩
theorem a8a:∀(m:Nat) (l:List UInt8) (a:Nat) (ts:List Tok),l.length<=m->a3z a l=.toks ts->allV (ts.map (fun t=>(t.k,t.t)))/\cost (ts.map (fun t=>(t.k,t.t)))<=2*l.length
 | 0,l,a,ts,hm,h=>by
  obtain rfl:l=[]:=List.eq_nil_of_length_eq_zero (by omega)
  rw[a3x]at h
  cases h
  exact⟨b6q,by simp[cost]⟩
 | m+1,l,a,ts,hm,h=>by
  by_cases h0:l=[]
  ·subst h0
   rw[a3x]at h
   cases h
   exact⟨b6q,by simp[cost]⟩
  by_cases h1:gap1 l=0
  ·cases ht:tokR l using TokR.byCases with
   | bad e=>rw[a7b h0 h1 ht]at h;cases h
   | tok k t n =>
    have s:=a3p ht
    rw[a7c h0 h1 ht]at h
    cases hq:a3z (a+n) (l.drop n)using a1u.byCases with
    | bad e p=>rw[hq]at h;cases h
    | toks us =>
     rw[hq]at h
     cases h
     obtain⟨y,z⟩:=a8a m (l.drop n) _ us (by simp;omega) hq
     have u:a1w (k,t)=l.take n:=by
      unfold a1w
      simp only
      exact(c0u ht []).2
     have v:(l.take n).length=n:=by rw[List.length_take];omega
     have hv:a8t (k,t):=by
      unfold a8t
      rw[u,v]
      exact⟨c1c ht,c1d h1 ht⟩
     have e:([(⟨k,t,a⟩:Tok)]++us).map (fun t=>(t.k,t.t))=(k,t)::us.map (fun t=>(t.k,t.t)):=by simp
     rw[e]
     refine⟨c1a hv y,?_⟩
     rw[cost,u,v]
     simp at z
     omega
  ·have h2:=a6l l
   rw[a7a h1]at h
   obtain⟨y,z⟩:=a8a m (l.drop (gap1 l)) _ ts (by simp;omega) h
   refine⟨y,?_⟩
   simp at z
   omega
theorem d0v{l:List UInt8}(h:runN p l=l.length):l.all p=true:=by
 rw[List.all_eq_true]
 intro x y
 obtain⟨i,z⟩:=List.getElem?_of_mem y
 exact a6y p l i (by have:=(List.getElem?_eq_some_iff.1 z).1;omega) x z
theorem kinds_of_valid(h:a8t (k,t)) :
  (k=1/\t.length<=16/\t.all rowB=true/\∃c r,t=c::r/\letB c=true)\/(k=2/\∃c r,t=c::r/\digB c=true)\/k=3\/(k=4/\∃c r,t=c::r/\letB c=false/\digB c=false):=by
 by_cases h3:k=3
 ·exact .inr (.inr (.inl h3))
 have y:a1w (k,t)=t:=by unfold a1w;rw[if_neg h3]
 have h1:=h.1
 rw[y]at h1
 simp only at h1
 cases t with
 | nil=>simp[tokR]at h1
 | cons c r =>
  unfold tokR at h1
  simp only at h1
  split at h1
  ·rename_i hc
   split at h1
   ·cases h1
   ·rename_i h16
    obtain⟨v,_,z⟩:=TokR.inj h1
    exact .inl ⟨v.symm,by rw[<- z];omega,d0v z,c,r,rfl,hc⟩
  split at h1
  ·rename_i hc
   split at h1
   ·exact .inr (.inl ⟨(TokR.inj h1).1.symm,c,r,rfl,hc⟩)
   ·cases h1
  split at h1
  ·split at h1
   ·split at h1
    ·cases h1
    ·exact absurd (TokR.inj h1).1.symm h3
   ·cases h1
  rename_i a1 a2 _
  split at h1
  ·cases h1
  ·exact .inr (.inr (.inr ⟨(TokR.inj h1).1.symm,c,r,rfl,by simpa using a1,by simpa using a2⟩))
def wdl:List PT->List UInt8
 | []=>[]
 | p::_=>if p.1=3 then [] else p.2
def a0y (s:List UInt8):Prop:=∃c r,s=c::r/\digB c=false
theorem d5j(hv:allV l)(hs:a0y s):wdl l=s↔tx l=s:=by
 obtain⟨c,r,rfl,z⟩:=hs
 cases l with
 | nil=>simp[wdl,tx]
 | cons p l =>
  obtain⟨k,t⟩:=p
  have:=kinds_of_valid (hv (k,t) (by simp))
  unfold wdl tx
  simp only
  by_cases h3:k=3
  ·simp[h3]
  ·rw[if_neg h3]
   by_cases h2:k=2
   ·rw[if_pos (.inl h2)]
    rcases this with⟨h,_⟩|⟨_,y,v,rfl,hd⟩|h|⟨h,_⟩
    ·omega
    ·constructor
     ·intro e
      have:y=c:=by simpa using(List.cons.inj e).1
      rw[this,z]at hd
      cases hd
     ·intro e;cases e
    ·omega
    ·omega
   ·rw[if_neg (by omega)]
theorem d0w(hv:a8t (k,t)):a8s (tx ((k,t)::l))=true↔k=1/\a0u.contains t=false:=by
 have hk:=kinds_of_valid hv
 unfold tx
 simp only
 by_cases h23:k=2\/k=3
 ·rw[if_pos h23]
  constructor
  ·intro h;exact absurd h (by decide)
  ·rintro⟨h,_⟩;omega
 ·rw[if_neg h23]
  rcases hk with⟨h,y,v,c,r,rfl,z⟩|⟨h,_⟩|h|⟨h,c,r,rfl,z,_⟩
  ·unfold a8s
   simp only[Bool.and_eq_true,Bool.not_eq_true',decide_eq_true_eq]
   constructor
   ·rintro⟨_,h⟩;exact⟨by assumption,h⟩
   ·rintro⟨_,hr⟩
    exact⟨⟨⟨⟨by simp,y⟩,by simpa using z⟩,v⟩,hr⟩
  ·omega
  ·omega
  ·constructor
   ·intro hn
    unfold a8s at hn
    simp[z]at hn
   ·rintro⟨h1,_⟩;omega
end Go.Proofs.YtfbpdbndejefdaaGreatDoor
