import Derived.Test.YtomniogfpfbolaaGreatDoorS10
namespace Go.Proofs.YtomniogfpfbolaaGreatDoor
open Go
set_option maxRecDepth 100000
set_option maxHeartbeats 8000000
set_option linter.all false
variable {p:UInt8->Bool} {l l1:List PT} {x y v:Nd} {s t:List UInt8} {a b c:Nat} {k o:Int} {kids us:List Nd}
theorem b9d(t:List UInt8)(n:Int)(y:Nd):a0k ⟨5,t,n,[y]⟩=[wt W.local_,wt t,st S.eq]++a0k y++[st S.sc]:=by rw[a0t];rfl
theorem c6x(t:List UInt8)(n:Int)(y z:Nd):a0k ⟨6,t,n,[y,z]⟩=a0k y++st S.eq::(a0k z++[st S.sc]):=by rw[a0t];rfl
theorem d1e(t:List UInt8)(n:Int)(y:Nd):a0k ⟨7,t,n,[y]⟩=a0k y++[st S.sc]:=by rw[a0t];rfl
theorem c6y(t:List UInt8)(n:Int)(y z:Nd):a0k ⟨8,t,n,[y,z]⟩=wt W.if_::(a0k y++wt W.then_::(a0k z++[wt W.end_])):=by rw[a0t];rfl
theorem c6z(t:List UInt8)(n:Int)(y z v:Nd):a0k ⟨8,t,n,[y,z,v]⟩=wt W.if_::(a0k y++wt W.then_::(a0k z++(wt W.else_::a0k v++[wt W.end_]))):=by rw[a0t];rfl
theorem b9e(t:List UInt8)(n:Int)(y z:Nd):a0k ⟨9,t,n,[y,z]⟩=wt W.while_::(a0k y++wt W.do_::(a0k z++[wt W.end_])):=by rw[a0t];rfl
theorem c7a(t:List UInt8)(n:Int)(y z v:Nd):a0k ⟨10,t,n,[y,z,v]⟩=[wt W.for_,wt t,st S.eq]++a0k y++st S.cm::(a0k z++wt W.do_::(a0k v++[wt W.end_])):=by rw[a0t];rfl
theorem b5x(t:List UInt8)(n:Int)(y:Nd):a0k ⟨11,t,n,[y]⟩=wt W.return_::(a0k y++[st S.sc]):=by rw[a0t];rfl
theorem c2j(t:List UInt8)(n:Int)(y:Nd):a0k ⟨12,t,n,[y]⟩=wt W.emit_::(a0k y++[st S.sc]):=by rw[a0t];rfl
def a1x (p:PT):List UInt8:=if p.1=3 then 34::(p.2++[34]) else p.2
def b9f:List PT->List UInt8
 | []=>[]
 | [p]=>a1x p
 | p::q::l=>a1x p++32::b9f (q::l)
def a7i (p:PT):Prop:=tokR (a1x p)=.tok p.1 p.2 (a1x p).length/\gap1 (a1x p)=0
def allV (ts:List PT):Prop:=∀p∈ts,a7i p
theorem c2k{p:PT}(hp:a7i p)(hl:allV l):allV (p::l):=fun q hq=>by
 simp at hq
 rcases hq with rfl|hq
 ·exact hp
 ·exact hl q hq
theorem b7m:allV []:=fun p z=>by simp at z
def cost:List PT->Nat
 | []=>0
 | p::l=>(a1x p).length+1+cost l
theorem a0p:∀a b:List PT,cost (a++b)=cost a+cost b
 | [],b=>by simp[cost]
 | p::a,b=>by rw[List.cons_append,cost,cost,a0p a b];omega
theorem a1z(s:List UInt8)(l:List PT):cost (wt s::l)=s.length+1+cost l:=by
 rw[cost];unfold a1x;rw[if_neg (by show ¬(1:Int)=3;decide)]
theorem a2j(s:List UInt8)(l:List PT):cost (st s::l)=s.length+1+cost l:=by
 rw[cost];unfold a1x;rw[if_neg (by show ¬(4:Int)=3;decide)]
theorem a1m:cost []=0:=rfl
theorem b7n:∀ts:List PT,(b9f ts).length<=cost ts
 | []=>by simp[b9f]
 | [p]=>by rw[b9f,cost];omega
 | p::q::l=>by
  have:=b7n (q::l)
  rw[b9f,cost,List.length_append,List.length_cons]
  omega
theorem a1s{x:PR}{g:Nd->List PT->PR}{n:Nd}(h:x.on g=some (.inr (n,l))):∃m k,x=some (.inr (m,k))/\g m k=some (.inr (n,l)):=by
 unfold PR.on at h
 match x,h with
 | some (.inr (m,k)),h=>exact⟨m,k,rfl,h⟩
theorem a0u{g:List PT->PR}{n:Nd}(h:need s l g=some (.inr (n,l1))):tx l=s/\g l.tail=some (.inr (n,l1)):=by
 unfold need at h
 split at h
 ·rename_i c;exact⟨c,h⟩
 ·cases h
theorem a3e{g:List UInt8->List PT->PR}{n:Nd}(h:a0n l g=some (.inr (n,l1))):a4s (tx l)=true/\g (tx l) l.tail=some (.inr (n,l1)):=by
 unfold a0n at h
 split at h
 ·rename_i c;exact⟨c,h⟩
 ·cases h
theorem pass(h:tx l≠[]):cost l=(tx l).length+1+cost l.tail/\(allV l->allV l.tail):=by
 cases l with
 | nil=>exact absurd rfl h
 | cons p l =>
  have z:¬(p.1=2\/p.1=3):=fun c=>h (by simp[tx,c])
  have e:tx (p::l)=p.2:=by simp[tx,z]
  rw[e,cost]
  unfold a1x
  rw[if_neg (fun c=>z (.inr c))]
  exact⟨rfl,fun y q hq=>y q (List.mem_cons_of_mem _ hq)⟩
theorem a0i(h:tx l=s)(hs:s≠[]):cost l=s.length+1+cost l.tail/\(allV l->allV l.tail):=by
 subst h
 exact pass hs
theorem b5y(n:Nat)(x:Nd):cost (a0k x)<=cost (atT n (info x))/\cost (atT n (info x))<=cost (a0k x)+4:=by
 unfold atT info
 simp only
 split
 ·unfold parT
  rw[a2j,a0p,a2j,a1m]
  simp
  omega
 ·omega
theorem b5z(h:a<=b)(x:Nd):cost (atT a (info x))<=cost (atT b (info x)):=by
 have h1:=b5y b x
 unfold atT info at h1⊢
 simp only at h1⊢
 split
 ·rw[if_pos (by omega)];exact Nat.le_refl _
 ·exact h1.1
theorem a8o(h:a<=a5v x):atT a (info x)=a0k x:=by
 unfold atT info
 simp only
 rw[if_neg (by omega)]
def okE (y:Nd):Prop:=isN y/\a1i y.k
theorem b0b(h:k≠1/\k≠2/\k≠4/\k≠8/\k≠9/\k≠10)(len i:Nat)(kk:Int)(he:a1i kk):a0w k len i kk:=by
 unfold a0w
 rw[if_neg h.1,if_neg h.2.1,if_neg h.2.2.1,if_neg (by omega),if_neg h.2.2.2.2.2]
 exact he
theorem mkE{n:Int}(hk:a0r k kids.length)(he:13<=k/\k<=26)(h18:k≠18)(h14:k≠14)(h13:k=13->0<=n/\n<=9223372036854775807)(h22:k=22->(opOf n).isSome=true)(h0:k≠22->k≠13->n=0)(h:∀y∈kids,okE y):okE ⟨k,[],n,kids⟩:=by
 refine⟨?_,he⟩
 rw[isN]
 refine⟨hk,fun c=>by simp only[a2d]at c;omega,fun _ _=>rfl,⟨h22,fun c=>absurd c h14⟩,h13,h0,fun c=>by omega,fun c=>by omega,?_⟩
 rw[a5f]
 intro j y z
 have:=h y (List.mem_of_getElem? z)
 exact⟨b0b (by omega) _ _ _ this.2,this.1⟩
theorem c9z(h:a4s t=true):okE ⟨18,t,0,[]⟩:=by
 refine⟨?_,by show(13:Int)<=18/\(18:Int)<=26;omega⟩
 rw[isN]
 refine⟨by unfold a0r;simp,fun _=>h,fun c=>absurd (by simp[a2d]) c,⟨fun c=>by omega,fun c=>by omega⟩,fun c=>by omega,fun _ _=>rfl,fun c=>by omega,fun c=>by omega,?_⟩
 rw[a5f]
 intro j y z
 simp at z
theorem d4v(h:c1e t=true):okE ⟨14,t,0,[]⟩:=by
 refine⟨?_,by show(13:Int)<=14/\(14:Int)<=26;omega⟩
 rw[isN]
 refine⟨by unfold a0r;simp,fun c=>by simp only[a2d]at c;omega,fun _ c=>absurd rfl c,⟨fun c=>by omega,fun _=>h⟩,fun c=>by omega,fun _ _=>rfl,fun c=>by omega,fun c=>by omega,?_⟩
 rw[a5f]
 intro j y z
 simp at z
theorem b2a{k:Nat}(h:opAt s=some (o,k)):opOf o=some (s,k)/\s≠[]:=by
 unfold opAt at h
 cases hf:opsL.find? (fun p=>p.1 == s) with
 | none=>rw[hf]at h;cases h
 | some p =>
  rw[hf]at h
  obtain⟨z,y,x⟩:=p
  have h1:=List.mem_of_find?_eq_some hf
  have h2:=List.find?_some hf
  simp at h h2
  obtain⟨rfl,rfl⟩:=h
  subst h2
  have:∀p∈opsL,opOf p.2.1=some (p.1,p.2.2)/\p.1≠[]:=by decide
  exact this _ h1
theorem d1f{k:Nat}(h:opOf o=some (s,k))(l:List PT):cost (opT o::l)=s.length+1+cost l:=by
 unfold opT
 rw[h]
 simp only
 by_cases c:o=20\/o=21
 ·rw[if_pos c];exact a1z s l
 ·rw[if_neg c];exact a2j s l
theorem d0a:∀(m:Nat) (l:List UInt8),l.length<=m->l≠[]->l.all digB=true->(1<l.length->l.head?≠some 48)->Lib.decDigits (numV l)=l
 | 0,l,h,h0,_,_=>absurd (List.eq_nil_of_length_eq_zero (by omega)) h0
 | m+1,l,h,h0,ha,hz=>by
  obtain⟨q,c,rfl⟩:∃q c,l=q++[c]:=⟨l.dropLast,l.getLast h0,(List.dropLast_concat_getLast _).symm⟩
  have s:=a7n (by simp only[List.all_append,List.all_cons,List.all_nil,Bool.and_true,Bool.and_eq_true]at ha;exact ha.2)
  have hq:q.all digB=true:=by simp only[List.all_append,Bool.and_eq_true]at ha;exact ha.1
  have x:UInt8.ofNat (48+(c.toNat-48))=c:=by
   rw[show 48+(c.toNat-48)=c.toNat by omega];exact UInt8.ofNat_toNat
  rw[c1b,Lib.decDigits]
  by_cases hqe:q=[]
  ·subst hqe
   have e0:numV []=0:=rfl
   rw[e0,dif_pos (by omega)]
   simp only[Nat.zero_mul,Nat.zero_add,List.nil_append]
   rw[x]
  ·have y:0<numV q:=by
    cases q with
    | nil=>exact absurd rfl hqe
    | cons d r =>
     have hd:=a7n (by simp only[List.all_cons,Bool.and_eq_true]at hq;exact hq.1)
     have z:d≠48:=fun e=>hz (by simp) (by simp[e])
     have w:d.toNat≠48:=fun e=>z (UInt8.toNat_inj.1 e)
     have:=c0q d r (by omega)
     have:=Nat.pow_pos (n:=r.length) (show 0<10 by omega)
     omega
   rw[dif_neg (by omega)]
   have u:(numV q*10+(c.toNat-48)) / 10=numV q:=by omega
   have v:(numV q*10+(c.toNat-48)) % 10=c.toNat-48:=by omega
   rw[u,v,x,d0a m q (by simp at h;omega) hqe hq (fun t=>by
    have:=hz (by simp;omega)
    cases q with
    | nil=>exact absurd rfl hqe
    | cons d r=>simpa using this)]
theorem b3p(h:a7i (2,t)):Lib.decDigits (numV t)=t/\numV t<=9223372036854775807:=by
 have x:a1x (2,t)=t:=by unfold a1x;rw[if_neg (by show ¬(2:Int)=3;decide)]
 have h1:=h.1
 rw[x]at h1
 cases t with
 | nil=>simp[tokR]at h1
 | cons c r =>
  unfold tokR at h1
  simp only at h1
  split at h1
  ·split at h1 <;> cases h1
  split at h1
  ·split at h1
   ·rename_i hz
    obtain⟨_,w,_⟩:=TokR.inj h1
    rw[w]at hz
    unfold numE at hz
    split at hz
    ·omega
    ·rename_i ha
     split at hz
     ·omega
     ·rename_i h0
      split at hz
      ·omega
      ·rename_i hm
       exact⟨d0a _ (c::r) (Nat.le_refl _) (by simp) (by simpa using ha) (fun z y=>h0 ⟨z,y⟩),by omega⟩
   ·cases h1
  split at h1
  ·split at h1
   ·split at h1
    ·cases h1
    ·have:=(TokR.inj h1).1;omega
   ·cases h1
  split at h1
  ·cases h1
  ·have:=(TokR.inj h1).1;omega
theorem b2b(h:a7i (3,t)):c1e t=true:=by
 have v:a1x (3,t)=34::(t++[34]):=by unfold a1x;rw[if_pos rfl]
 have h1:=h.1
 rw[v]at h1
 unfold tokR at h1
 simp only at h1
 rw[if_neg (by decide),if_neg (by decide),if_pos (by decide)]at h1
 split at h1
 ·split at h1
  ·cases h1
  ·rename_i h3
   obtain⟨_,s,u⟩:=TokR.inj h1
   have x:runN txtB (t++[34])=t.length:=by simp at u;omega
   rw[x]at h3
   simp only[c1e,Bool.and_eq_true,decide_eq_true_eq]
   refine⟨?_,by omega⟩
   rw[List.all_eq_true]
   intro c w
   obtain⟨i,y,z⟩:=List.getElem_of_mem w
   refine a7m txtB (t++[34]) i (by omega) c ?_
   rw[List.getElem?_append_left y,List.getElem?_eq_getElem y,z]
 ·cases h1
def sumC:List Nd->Nat
 | []=>0
 | x::l=>cost (a0k x)+2+sumC l
def sumS:List Nd->Nat
 | []=>0
 | x::l=>cost (a0k x)+sumS l
theorem b1g:∀us:List Nd,us≠[]->cost (a7o (us.map info))+2=sumC us
 | [],h=>absurd rfl h
 | [x],_=>by simp[a7o,sumC,info]
 | x::y::l,_=>by
  have z:=b1g (y::l) (by simp)
  have e:a7o ((x::y::l).map info)=a0k x++st S.cm::a7o ((y::l).map info):=by simp[a7o,info]
  rw[e,a0p,a2j,sumC,<- z]
  simp
  omega
theorem b1h(us:List Nd)(h:us≠[]):cost (a5e (us.map info))=2+sumC us:=by
 have e:a5e (us.map info)=st S.lp::(a7o (us.map info)++[st S.rp]):=by
  unfold a5e
  rw[if_neg (by simpa using h)]
 rw[e,a2j,a0p,a2j,a1m,<- b1g us h]
 simp <;> omega
theorem b0c:cost (a5e (([]:List Nd).map info))=4:=by
 show cost [st S.lp,st S.rp]=4
 rw[a2j,a2j,a1m];rfl
theorem b2c:∀us:List Nd,cost (allT (us.map info))=sumS us
 | []=>rfl
 | x::l=>by
  have e:allT ((x::l).map info)=a0k x++allT (l.map info):=by simp[allT,info]
  rw[e,a0p,b2c l,sumS]
def b2d (tag:Nat) (x:Nd) (a:Nat) (l:List PT) (n:Nd) (l1:List PT):Prop :=
 match tag with
 | 0=>a<=6->okE n/\allV l1/\cost (atT a (info n))+cost l1<=cost l
 | 1=>okE n/\allV l1/\cost (atT 6 (info n))+cost l1<=cost l
 | 2=>a<=5->okE x->okE n/\allV l1/\cost (atT a (info n))+cost l1<=cost (atT (if a=2 then 3 else a) (info x))+cost l
 | 3=>okE n/\allV l1/\cost (atT 7 (info n))+cost l1<=cost l
 | 4=>okE x->okE n/\allV l1/\cost (atT 7 (info n))+cost l1<=cost (atT 7 (info x))+cost l
 | 5=>okE x->okE n/\allV l1/\a5v n=7/\cost (a0k n)+cost l1<=cost (atT 7 (info x))+cost l/\(tx l=S.lb->n.k=20/\a3q n=a3q x)/\(tx l≠S.lb->n.k=21/\a3q n=(a3q x).map (· + 1))
 | 6=>∀ks,x=nd 21 ks->∃us,us≠[]/\n=nd 21 (ks++us)/\(∀z∈us,okE z)/\allV l1/\sumC us+cost l1<=cost l
 | 7=>∀ks,x=nd 4 ks->∃us,n=nd 4 (ks++us)/\(∀s∈us,isN s/\b0t s.k)/\allV l1/\sumS us+cost l1<=cost l
 | 8=>isN n/\b0t n.k/\allV l1/\cost (a0k n)+cost l1<=cost l
 | 9=>okE x->a5v x=7->a3q x=some a->isN n/\b0t n.k/\allV l1/\cost (a0k n)+cost l1<=cost (a0k x)+cost l+2
 | 10=>isN n/\n.k=2/\allV l1/\cost (a0k n)+cost l1<=cost l
 | 11=>∃us,us≠[]/\n.kids=x.kids++us/\(∀p∈us,∃s,p=⟨3,s,0,[]⟩/\a4s s=true)/\allV l1/\sumC us+cost l1<=cost l+2
 | 12=>∀fs,x=nd 1 fs->∃us,n=nd 1 (fs++us)/\(∀g∈us,isN g/\g.k=2)/\sumS us+cost l1<=cost l
 | _=>True
theorem a2w{n:Int}(h:k≠22/\k≠23/\k≠24/\k≠25):a5v ⟨k,t,n,kids⟩=7:=d4i _ _ _ h.1 h.2.1 h.2.2.1 h.2.2.2
theorem d4w(hx:okE x)(hy:okE y)(hv:allV l1)(h:tx l=S.lb)(hc:cost (a0k y)+4+cost l1<=cost l):b2d 5 x 0 l (nd 20 [x,y]) l1:=by
 intro _
 refine⟨mkE (by unfold a0r;simp) (by omega) (by decide) (by decide) (fun c=>by omega) (fun c=>by omega) (fun _ _=>rfl) (fun z w=>by simp at w;rcases w with rfl|rfl <;> assumption),hv,a2w (by decide),?_,fun _=>⟨rfl,?_⟩,fun c=>absurd h c⟩
 ·show cost (a0k ⟨20,[],0,[x,y]⟩)+cost l1<=_
  rw[b8q,a0p,a2j,a0p,a2j,a1m]
  simp
  omega
 ·show a3q ⟨20,[],0,[x,y]⟩=_
  rw[a3q,if_neg (by decide),if_pos rfl,a3q.go]
theorem c2l(hx:okE x)(hy:∀z∈us,okE z)(hv:allV l1)(h:tx l≠S.lb)(hc:cost (a5e (us.map info))+cost l1<=cost l):b2d 5 x 0 l (nd 21 (x::us)) l1:=by
 intro _
 refine⟨mkE (by unfold a0r;simp) (by omega) (by decide) (by decide) (fun c=>by omega) (fun c=>by omega) (fun _ _=>rfl) (fun z y=>by simp at y;rcases y with rfl|y;exact hx;exact hy z y),hv,a2w (by decide),?_,fun c=>absurd c h,fun _=>⟨rfl,?_⟩⟩
 ·show cost (a0k ⟨21,[],0,x::us⟩)+cost l1<=_
  rw[c1c,a0p]
  omega
 ·show a3q ⟨21,[],0,x::us⟩=_
  rw[a3q,if_neg (by decide),if_neg (by decide),if_pos rfl,a3q.go]
theorem b9g(f:Nat)(ih:∀u x a l n l1,P f u x a l=some (.inr (n,l1))->allV l->b2d u x a l n l1) :
  ∀u x a l n l1,u<=6->P (f+1) u x a l=some (.inr (n,l1))->allV l->b2d u x a l n l1:=by
 intro u x a l n l1 ht h hv
 match u,ht,h with
 | 0,_,h =>
  intro ha
  rw[P]at h
  by_cases c:5<a
  ·rw[if_pos c]at h
   have ea:a=6:=by omega
   rw[ea]
   exact ih 1 _ _ _ _ _ h hv
  ·rw[if_neg c]at h
   obtain⟨m,k,h1,h2⟩:=a1s h
   obtain⟨i,v,c1⟩:=ih 0 _ _ _ _ _ h1 hv (by omega)
   obtain⟨o2,v2,c2⟩:=ih 2 _ _ _ _ _ h2 v (by omega) i
   refine⟨o2,v2,?_⟩
   have:cost (atT (if a=2 then 3 else a) (info m))<=cost (atT (a+1) (info m)):=b5z (by split <;> omega) m
   omega
 | 1,_,h =>
  rw[P]at h
  have un:∀k:Int,(k=23\/k=24\/k=25)->∀s:List UInt8,tx l=s->s≠[]->(P f 1 (nd 0 []) 0 l.tail).on (fun x l=>.ok (nd k [x]) l)=some (.inr (n,l1))->(∀y,a0k ⟨k,[],0,[y]⟩=wt s::atT 6 (info y)\/a0k ⟨k,[],0,[y]⟩=st s::atT 6 (info y))->b2d 1 x a l n l1:=fun k hk s hs z9 h z4=>by
   obtain⟨m,q,h1,h2⟩:=a1s h
   cases h2
   obtain⟨p1,p2⟩:=a0i hs z9
   obtain⟨i,v,c1⟩:=ih 1 _ _ _ _ _ h1 (p2 hv)
   refine⟨mkE (by unfold a0r;simp;omega) (by omega) (by omega) (by omega) (fun c=>by omega) (fun c=>by omega) (fun _ _=>rfl) (fun z w=>by simp at w;rw[w];exact i),v,?_⟩
   have hb:a5v (nd k [m])=6:=by
    unfold a5v nd
    simp only
    rw[if_neg (by omega),if_pos hk]
   rw[a8o (by omega)]
   show cost (a0k ⟨k,[],0,[m]⟩)+_<=_
   rcases z4 m with e|e <;> rw[e]
   ·rw[a1z];omega
   ·rw[a2j];omega
  by_cases e1:tx l=S.mi
  ·rw[if_pos e1]at h
   exact un 24 (by omega) S.mi e1 (by decide) h (fun y=>.inr (c6f _ _ y))
  rw[if_neg e1]at h
  by_cases e2:tx l=W.not_
  ·rw[if_pos e2]at h
   exact un 23 (by omega) W.not_ e2 (by decide) h (fun y=>.inl (c6e _ _ y))
  rw[if_neg e2]at h
  by_cases e3:tx l=S.hs
  ·rw[if_pos e3]at h
   exact un 25 (by omega) S.hs e3 (by decide) h (fun y=>.inr (c6g _ _ y))
  rw[if_neg e3]at h
  obtain⟨m,q,h1,h2⟩:=a1s h
  obtain⟨i,v,c1⟩:=ih 3 _ _ _ _ _ h1 hv
  obtain⟨o2,v2,c2⟩:=ih 4 _ _ _ _ _ h2 v i
  refine⟨o2,v2,?_⟩
  have:=b5z (show 6<=7 by omega) n
  omega
 | 2,_,h =>
  intro ha hx
  rw[P]at h
  have z5:PR.ok x l=some (.inr (n,l1))->okE n/\allV l1/\cost (atT a (info n))+cost l1<=cost (atT (if a=2 then 3 else a) (info x))+cost l:=fun e=>by
   cases e
   refine⟨hx,hv,?_⟩
   have:cost (atT a (info x))<=cost (atT (if a=2 then 3 else a) (info x)):=b5z (by split <;> omega) x
   omega
  cases ho:opAt (tx l) with
  | none=>rw[ho]at h;exact z5 h
  | some p =>
   obtain⟨o,k⟩:=p
   rw[ho]at h
   simp only at h
   by_cases c:k=a
   ·subst c
    rw[if_pos rfl]at h
    obtain⟨y,q,h1,h2⟩:=a1s h
    obtain⟨z6,z9⟩:=b2a ho
    obtain⟨p1,p2⟩:=a0i rfl z9
    obtain⟨i,v,c1⟩:=ih 0 _ _ _ _ _ h1 (p2 hv) (by omega)
    have z2:lvlN o=k:=by unfold lvlN;rw[z6];rfl
    have hb:a5v ⟨22,[],o,[x,y]⟩=k:=by
     unfold a5v
     simp only
     rw[if_pos trivial,z6];rfl
    have hN:okE ⟨22,[],o,[x,y]⟩:=mkE (by unfold a0r;simp) (by omega) (by decide) (by decide) (fun c=>by omega) (fun _=>by rw[z6];rfl) (fun c=>absurd rfl c) (fun z w=>by simp at w;rcases w with rfl|rfl <;> assumption)
    have z7:cost (a0k ⟨22,[],o,[x,y]⟩)+cost q<=cost (atT (if k=2 then 3 else k) (info x))+cost l:=by
     rw[d0m,z2,a0p,d1f z6]
     omega
    by_cases c2:k=2
    ·rw[if_pos c2]at h2
     cases h2
     refine⟨hN,v,?_⟩
     rw[a8o (by omega)]
     exact z7
    ·rw[if_neg c2]at h2
     obtain⟨o2,v2,c3⟩:=ih 2 _ _ _ _ _ h2 v ha hN
     refine⟨o2,v2,?_⟩
     rw[if_neg c2]at c3⊢
     rw[if_neg c2]at z7
     rw[a8o (x:=⟨22,[],o,[x,y]⟩) (by omega)]at c3
     omega
   ·rw[if_neg c]at h
    exact z5 h
 | 3,_,h =>
  cases l with
  | nil=>rw[P]at h;cases h
  | cons t r =>
   rw[P]at h
   have z3:=hv t (by simp)
   have b:allV r:=fun q hq=>hv q (by simp[hq])
   by_cases e2:t.1=2
   ·rw[if_pos e2]at h
    cases h
    obtain⟨t1,t2⟩:=t
    simp only at e2
    subst e2
    obtain⟨d1,d2⟩:=b3p z3
    refine⟨mkE (by unfold a0r;simp) (by omega) (by decide) (by decide) (fun _=>by show(0:Int)<=b1s t2/\b1s t2<=9223372036854775807;unfold b1s;omega) (fun c=>by omega) (fun _ c=>absurd rfl c) (fun z w=>by simp at w),b,?_⟩
    rw[a8o (by rw[a2w (by decide)];omega),a0t]
    show cost [(2,b5k (b1s t2).toNat)]+_<=_
    have:(b1s t2).toNat=numV t2:=by unfold b1s;omega
    rw[this]
    unfold b5k
    rw[d1]
    show cost [(2,t2)]+cost _<=cost ((2,t2)::_)
    simp only[cost]
    omega
   rw[if_neg e2]at h
   by_cases e3:t.1=3
   ·rw[if_pos e3]at h
    cases h
    obtain⟨t1,t2⟩:=t
    simp only at e3
    subst e3
    refine⟨d4v (b2b z3),b,?_⟩
    rw[a8o (by rw[a2w (by decide)];omega),a0t]
    show cost [(3,t2)]+cost _<=cost ((3,t2)::_)
    simp only[cost]
    omega
   rw[if_neg e3]at h
   have z8:∀(s:List UInt8) (k:Int),tx (t::r)=s->s≠[]->(k=15\/k=16\/k=17)->(a0k ⟨k,[],0,[]⟩=[wt s])->PR.ok (nd k []) r=some (.inr (n,l1))->b2d 3 x a (t::r) n l1:=fun s k hs z9 hk z4 e=>by
    cases e
    obtain⟨p1,p2⟩:=a0i hs z9
    refine⟨mkE (by unfold a0r;simp;omega) (by omega) (by omega) (by omega) (fun c=>by omega) (fun c=>by omega) (fun _ _=>rfl) (fun z w=>by simp at w),b,?_⟩
    rw[a8o (by rw[show nd k []=⟨k,[],0,[]⟩ from rfl,a2w (by omega)];omega)]
    show cost (a0k ⟨k,[],0,[]⟩)+_<=_
    rw[z4,a1z,a1m,p1]
    simp
   by_cases s1:tx (t::r)=S.lp
   ·rw[if_pos s1]at h
    obtain⟨m,q,h1,h2⟩:=a1s h
    obtain⟨d,g⟩:=a0u h2
    cases g
    obtain⟨p1,p2⟩:=a0i s1 (by decide)
    obtain⟨p3,p4⟩:=a0i d (by decide)
    obtain⟨i,v,c1⟩:=ih 0 _ _ _ _ _ h1 b (by omega)
    refine⟨i,p4 v,?_⟩
    have:=b5y 7 n
    have:=b5y 0 n
    simp at p1 p3
    omega
   rw[if_neg s1]at h
   by_cases s2:tx (t::r)=W.nil_
   ·rw[if_pos s2]at h;exact z8 _ 15 s2 (by decide) (by omega) (by rw[a0t];rfl) h
   rw[if_neg s2]at h
   by_cases s3:tx (t::r)=W.true_
   ·rw[if_pos s3]at h;exact z8 _ 16 s3 (by decide) (by omega) (by rw[a0t];rfl) h
   rw[if_neg s3]at h
   by_cases s4:tx (t::r)=W.false_
   ·rw[if_pos s4]at h;exact z8 _ 17 s4 (by decide) (by omega) (by rw[a0t];rfl) h
   rw[if_neg s4]at h
   by_cases s5:tx (t::r)=S.lc
   ·rw[if_pos s5]at h
    obtain⟨d,g⟩:=a0u h
    cases g
    obtain⟨p1,p2⟩:=a0i s5 (by decide)
    obtain⟨p3,p4⟩:=a0i d (by decide)
    refine⟨mkE (by unfold a0r;simp) (by omega) (by decide) (by decide) (fun c=>by omega) (fun c=>by omega) (fun _ _=>rfl) (fun z w=>by simp at w),p4 b,?_⟩
    rw[a8o (by rw[show nd 19 []=⟨19,[],0,[]⟩ from rfl,a2w (by decide)];omega)]
    have e:a0k (nd 19 [])=[st S.lc,st S.rc]:=by show a0k ⟨19,[],0,[]⟩=_;rw[a0t];rfl
    rw[e,a2j,a2j,a1m]
    simp at p1 p3⊢
    omega
   rw[if_neg s5]at h
   by_cases s6:tx (t::r)=W.next_
   ·rw[if_pos s6]at h
    obtain⟨d,g⟩:=a0u h
    obtain⟨m,q,h1,h2⟩:=a1s g
    obtain⟨n3,n4⟩:=a0u h2
    obtain⟨m2,q2,h3,h4⟩:=a1s n4
    obtain⟨n5,n6⟩:=a0u h4
    cases n6
    obtain⟨p1,p2⟩:=a0i s6 (by decide)
    obtain⟨p3,p4⟩:=a0i d (by decide)
    obtain⟨p5,p6⟩:=a0i n3 (by decide)
    obtain⟨p7,p8⟩:=a0i n5 (by decide)
    obtain⟨i,v,c1⟩:=ih 0 _ _ _ _ _ h1 (p4 b) (by omega)
    obtain⟨o2,v2,c2⟩:=ih 0 _ _ _ _ _ h3 (p6 v) (by omega)
    refine⟨mkE (by unfold a0r;simp) (by omega) (by decide) (by decide) (fun c=>by omega) (fun c=>by omega) (fun _ _=>rfl) (fun z w=>by simp at w;rcases w with rfl|rfl <;> assumption),p8 v2,?_⟩
    rw[a8o (by rw[show nd 26 [m,m2]=⟨26,[],0,[m,m2]⟩ from rfl,a2w (by decide)];omega)]
    show cost (a0k ⟨26,[],0,[m,m2]⟩)+_<=_
    have:=b5y 0 m
    have:=b5y 0 m2
    rw[c1d,a1z,a2j,a0p,a2j,a0p,a2j,a1m]
    simp at p1 p3 p5 p7⊢
    omega
   rw[if_neg s6]at h
   obtain⟨d,g⟩:=a3e h
   cases g
   have z9:tx (t::r)≠[]:=fun e=>by rw[e]at d;revert d;decide
   obtain⟨p1,p2⟩:=pass z9
   refine⟨c9z d,b,?_⟩
   rw[a8o (by rw[a2w (by decide)];omega),a0t]
   show cost [wt (tx (t::r))]+_<=_
   rw[a1z,a1m]
   simp at p1⊢
   omega
 | 4,_,h =>
  intro hx
  rw[P]at h
  by_cases c:tx l=S.lb\/tx l=S.lp
  ·rw[if_pos c]at h
   obtain⟨m,q,h1,h2⟩:=a1s h
   obtain⟨i,v,b1,c1,_,_⟩:=ih 5 _ _ _ _ _ h1 hv hx
   obtain⟨o2,v2,c2⟩:=ih 4 _ _ _ _ _ h2 v i
   refine⟨o2,v2,?_⟩
   rw[a8o (x:=m) (by omega)]at c2
   omega
  ·rw[if_neg c]at h
   cases h
   exact⟨hx,hv,Nat.le_refl _⟩
 | 5,_,h =>
  intro hx
  rw[P]at h
  by_cases c:tx l=S.lb
  ·rw[if_pos c]at h
   obtain⟨m,q,h1,h2⟩:=a1s h
   obtain⟨d,g⟩:=a0u h2
   cases g
   obtain⟨p1,p2⟩:=a0i c (by decide)
   obtain⟨p3,p4⟩:=a0i d (by decide)
   obtain⟨i,v,c1⟩:=ih 0 _ _ _ _ _ h1 (p2 hv) (by omega)
   have:=b5y 0 m
   exact d4w hx i (p4 v) c (by simp at p1 p3;omega) hx
  ·rw[if_neg c]at h
   obtain⟨d,g⟩:=a0u h
   obtain⟨p1,p2⟩:=a0i d (by decide)
   by_cases c2:tx l.tail=S.rp
   ·rw[if_pos c2]at g
    cases g
    obtain⟨p3,p4⟩:=a0i c2 (by decide)
    exact c2l (us:=[]) hx (fun z w=>by simp at w) (p4 (p2 hv)) c (by rw[b0c];simp at p1 p3;omega) hx
   ·rw[if_neg c2]at g
    obtain⟨us,u1,u2,u3,u4,u5⟩:=ih 6 _ _ _ _ _ g (p2 hv) [x] rfl
    subst u2
    exact c2l (us:=us) hx u3 u4 c (by rw[b1h us u1];simp at p1;omega) hx
 | 6,_,h =>
  intro ks z1
  subst z1
  rw[P]at h
  obtain⟨m,q,h1,h2⟩:=a1s h
  obtain⟨i,v,c1⟩:=ih 0 _ _ _ _ _ h1 hv (by omega)
  have:=b5y 0 m
  by_cases c:tx q=S.cm
  ·rw[if_pos c]at h2
   obtain⟨p1,p2⟩:=a0i c (by decide)
   obtain⟨us,u1,u2,u3,u4,u5⟩:=ih 6 _ _ _ _ _ h2 (p2 v) _ rfl
   refine⟨m::us,by simp,by rw[u2];simp[nd],fun z w=>?_,u4,?_⟩
   ·simp at w
    rcases w with rfl|w
    ·exact i
    ·exact u3 z w
   ·rw[sumC]
    simp at p1
    omega
  ·rw[if_neg c]at h2
   obtain⟨d,g⟩:=a0u h2
   cases g
   obtain⟨p1,p2⟩:=a0i d (by decide)
   refine⟨[m],by simp,rfl,fun z w=>by simp at w;rw[w];exact i,p2 v,?_⟩
   rw[sumC,sumC]
   simp at p1
   omega
theorem mkN(hk:a0r k kids.length)(hn:a2d k->a4s t=true)(hnn:¬a2d k->t=[])(h22:k≠22/\k≠13/\k≠14)(h6:k=6->kids.head?.bind a3q=some 0)(h7:k=7->(kids.head?.bind a3q).isSome=true/\kids.head?.map (fun x=>x.k)=some 21)(hgo:∀j y,kids[j]?=some y->a0w k kids.length j y.k/\isN y):isN ⟨k,t,0,kids⟩:=by
 rw[isN]
 refine⟨hk,hn,fun c _=>hnn c,⟨fun c=>absurd c h22.1,fun c=>absurd c h22.2.2⟩,fun c=>absurd c h22.2.1,fun _ _=>rfl,h6,h7,?_⟩
 rw[a5f]
 intro j y z
 rw[Nat.zero_add]
 exact hgo j y z
theorem go1(h:a0w k 1 0 y.k/\isN y):∀j z,[y][j]?=some z->a0w k [y].length j z.k/\isN z
 | 0,z,e=>by cases e;exact h
 | j+1,z,e=>by simp at e
theorem go2(h:a0w k 2 0 y.k/\isN y)(h2:a0w k 2 1 v.k/\isN v):∀j z,[y,v][j]?=some z->a0w k [y,v].length j z.k/\isN z
 | 0,z,e=>by cases e;exact h
 | 1,z,e=>by cases e;exact h2
 | j+2,z,e=>by simp at e
theorem go3{u:Nd}(h:a0w k 3 0 y.k/\isN y)(h2:a0w k 3 1 v.k/\isN v)(h3:a0w k 3 2 u.k/\isN u):∀j z,[y,v,u][j]?=some z->a0w k [y,v,u].length j z.k/\isN z
 | 0,z,e=>by cases e;exact h
 | 1,z,e=>by cases e;exact h2
 | 2,z,e=>by cases e;exact h3
 | j+3,z,e=>by simp at e
theorem d1g(h:∀s∈us,isN s/\b0t s.k):isN (nd 4 us):=by
 refine mkN (by unfold a0r;simp) (fun c=>by simp only[a2d]at c;omega) (fun _=>rfl) (by decide) (fun c=>by omega) (fun c=>by omega) (fun j y z=>?_)
 have:=h y (List.mem_of_getElem? z)
 exact⟨by unfold a0w;rw[if_neg (by decide),if_neg (by decide),if_pos rfl];exact this.2,this.1⟩
theorem b9h(us:List Nd):cost (a0k (nd 4 us))=sumS us:=by
 have e:a0k (nd 4 us)=allT (us.map info):=by show a0k ⟨4,[],0,us⟩=_;rw[a0t];rfl
 rw[e,b2c]
theorem e0{m:Nd} : cost (atT 0 (info m))=cost (a0k m):=by rw[a8o (Nat.zero_le _)]
theorem b9i(f:Nat)(ih:∀z9 x a l n l1,P f z9 x a l=some (.inr (n,l1))->allV l->b2d z9 x a l n l1) :
  ∀z9 x a l n l1,7<=z9->P (f+1) z9 x a l=some (.inr (n,l1))->allV l->b2d z9 x a l n l1:=by
 intro z9 x a l n l1 ht h i
 have ex:∀{l n l1},P f 0 (nd 0 []) 0 l=some (.inr (n,l1))->allV l->okE n/\allV l1/\cost (a0k n)+cost l1<=cost l:=fun h i=>by
  obtain⟨u,t,c1⟩:=ih 0 _ _ _ _ _ h i (by omega)
  rw[e0]at c1
  exact⟨u,t,c1⟩
 have bl:∀{l n l1},P f 7 (nd 4 []) 0 l=some (.inr (n,l1))->allV l->isN n/\n.k=4/\allV l1/\cost (a0k n)+cost l1<=cost l:=fun h i=>by
  obtain⟨us,u1,u2,u3,u4⟩:=ih 7 _ _ _ _ _ h i [] rfl
  subst u1
  exact⟨d1g u2,rfl,u3,by rw[List.nil_append,b9h];exact u4⟩
 have v:∀{l},a4s (tx l)=true->tx l≠[]:=fun h e=>by rw[e]at h;revert h;decide
 match z9,ht,h with
 | 7,_,h =>
  intro ks z2
  subst z2
  rw[P]at h
  by_cases c:tx l=W.end_\/tx l=W.else_
  ·rw[if_pos c]at h
   cases h
   exact⟨[],by simp,fun s hs=>by simp at hs,i,by simp[sumS]⟩
  ·rw[if_neg c]at h
   obtain⟨m,q,h1,h2⟩:=a1s h
   obtain⟨i1,i2,t,c1⟩:=ih 8 _ _ _ _ _ h1 i
   obtain⟨us,u1,u2,u3,u4⟩:=ih 7 _ _ _ _ _ h2 t _ rfl
   refine⟨m::us,by rw[u1];simp[nd],fun s hs=>?_,u3,by rw[sumS];omega⟩
   simp at hs
   rcases hs with rfl|hs
   ·exact⟨i1,i2⟩
   ·exact u2 s hs
 | 8,_,h =>
  rw[P]at h
  by_cases w1:tx l=W.local_
  ·rw[if_pos w1]at h
   obtain⟨r,o⟩:=a3e h
   obtain⟨n3,n4⟩:=a0u o
   obtain⟨m,q,h1,h2⟩:=a1s n4
   obtain⟨n5,n6⟩:=a0u h2
   cases n6
   obtain⟨p1,p2⟩:=a0i w1 (by decide)
   obtain⟨p3,p4⟩:=pass (v r)
   obtain⟨p5,p6⟩:=a0i n3 (by decide)
   obtain⟨p7,p8⟩:=a0i n5 (by decide)
   obtain⟨u,t,c1⟩:=ex h1 (p6 (p4 (p2 i)))
   refine⟨mkN (by unfold a0r;simp) (fun _=>r) (fun c=>absurd (by simp[a2d]) c) (by decide) (fun c=>by omega) (fun c=>by omega) (go1 ⟨b0b (by decide) _ _ _ u.2,u.1⟩),by show(5:Int)<=5/\(5:Int)<=12;omega,p8 t,?_⟩
   rw[b9d]
   simp only[List.cons_append,List.nil_append]
   rw[a1z,a1z,a2j,a0p,a2j,a1m]
   simp at p1 p5 p7⊢
   omega
  rw[if_neg w1]at h
  by_cases w2:tx l=W.if_
  ·rw[if_pos w2]at h
   obtain⟨m,q,h1,h2⟩:=a1s h
   obtain⟨r,o⟩:=a0u h2
   obtain⟨b,q2,h3,h4⟩:=a1s o
   obtain⟨p1,p2⟩:=a0i w2 (by decide)
   obtain⟨p3,p4⟩:=a0i r (by decide)
   obtain⟨u,t,c1⟩:=ex h1 (p2 i)
   obtain⟨b1,b2,b3,b4⟩:=bl h3 (p4 t)
   by_cases w:tx q2=W.else_
   ·rw[if_pos w]at h4
    obtain⟨d,q3,h5,h6⟩:=a1s h4
    obtain⟨n3,n4⟩:=a0u h6
    cases n4
    obtain⟨p5,p6⟩:=a0i w (by decide)
    obtain⟨p7,p8⟩:=a0i n3 (by decide)
    obtain⟨d1,d2,d3,d4⟩:=bl h5 (p6 b3)
    refine⟨mkN (by unfold a0r;simp) (fun c=>by simp only[a2d]at c;omega) (fun _=>rfl) (by decide) (fun c=>by omega) (fun c=>by omega) (go3 ⟨by unfold a0w;simp;exact u.2,u.1⟩ ⟨by unfold a0w;simp;exact b2,b1⟩ ⟨by unfold a0w;simp;exact d2,d1⟩),by show(5:Int)<=8/\(8:Int)<=12;omega,p8 d3,?_⟩
    show cost (a0k ⟨8,[],0,[m,b,d]⟩)+_<=_
    rw[c6z,a1z,a0p,a1z,a0p,List.cons_append,a1z,a0p,a1z,a1m]
    simp at p1 p3 p5 p7⊢
    omega
   ·rw[if_neg w]at h4
    obtain⟨n3,n4⟩:=a0u h4
    cases n4
    obtain⟨p7,p8⟩:=a0i n3 (by decide)
    refine⟨mkN (by unfold a0r;simp) (fun c=>by simp only[a2d]at c;omega) (fun _=>rfl) (by decide) (fun c=>by omega) (fun c=>by omega) (go2 ⟨by unfold a0w;simp;exact u.2,u.1⟩ ⟨by unfold a0w;simp;exact b2,b1⟩),by show(5:Int)<=8/\(8:Int)<=12;omega,p8 b3,?_⟩
    show cost (a0k ⟨8,[],0,[m,b]⟩)+_<=_
    rw[c6y,a1z,a0p,a1z,a0p,a1z,a1m]
    simp at p1 p3 p7⊢
    omega
  rw[if_neg w2]at h
  by_cases w3:tx l=W.while_
  ·rw[if_pos w3]at h
   obtain⟨m,q,h1,h2⟩:=a1s h
   obtain⟨r,o⟩:=a0u h2
   obtain⟨b,q2,h3,h4⟩:=a1s o
   obtain⟨n3,n4⟩:=a0u h4
   cases n4
   obtain⟨p1,p2⟩:=a0i w3 (by decide)
   obtain⟨p3,p4⟩:=a0i r (by decide)
   obtain⟨p7,p8⟩:=a0i n3 (by decide)
   obtain⟨u,t,c1⟩:=ex h1 (p2 i)
   obtain⟨b1,b2,b3,b4⟩:=bl h3 (p4 t)
   refine⟨mkN (by unfold a0r;simp) (fun c=>by simp only[a2d]at c;omega) (fun _=>rfl) (by decide) (fun c=>by omega) (fun c=>by omega) (go2 ⟨by unfold a0w;simp;exact u.2,u.1⟩ ⟨by unfold a0w;simp;exact b2,b1⟩),by show(5:Int)<=9/\(9:Int)<=12;omega,p8 b3,?_⟩
   show cost (a0k ⟨9,[],0,[m,b]⟩)+_<=_
   rw[b9e,a1z,a0p,a1z,a0p,a1z,a1m]
   simp at p1 p3 p7⊢
   omega
  rw[if_neg w3]at h
  by_cases w4:tx l=W.for_
  ·rw[if_pos w4]at h
   obtain⟨r,o⟩:=a3e h
   obtain⟨n3,n4⟩:=a0u o
   obtain⟨m,q,h1,h2⟩:=a1s n4
   obtain⟨n5,n6⟩:=a0u h2
   obtain⟨m2,q2,h3,h4⟩:=a1s n6
   obtain⟨n7,n8⟩:=a0u h4
   obtain⟨b,q3,h5,h6⟩:=a1s n8
   obtain⟨n9,z6⟩:=a0u h6
   cases z6
   obtain⟨p1,p2⟩:=a0i w4 (by decide)
   obtain⟨p3,p4⟩:=pass (v r)
   obtain⟨p5,p6⟩:=a0i n3 (by decide)
   obtain⟨p7,p8⟩:=a0i n5 (by decide)
   obtain⟨p9,z8⟩:=a0i n7 (by decide)
   obtain⟨z4,z5⟩:=a0i n9 (by decide)
   obtain⟨u,t,c1⟩:=ex h1 (p6 (p4 (p2 i)))
   obtain⟨o2,v2,c2⟩:=ex h3 (p8 t)
   obtain⟨b1,b2,b3,b4⟩:=bl h5 (z8 v2)
   refine⟨mkN (by unfold a0r;simp) (fun _=>r) (fun c=>absurd (by simp[a2d]) c) (by decide) (fun c=>by omega) (fun c=>by omega) (go3 ⟨by unfold a0w;simp;exact u.2,u.1⟩ ⟨by unfold a0w;simp;exact o2.2,o2.1⟩ ⟨by unfold a0w;simp;exact b2,b1⟩),by show(5:Int)<=10/\(10:Int)<=12;omega,z5 b3,?_⟩
   rw[c7a]
   simp only[List.cons_append,List.nil_append]
   rw[a1z,a1z,a2j,a0p,a2j,a0p,a1z,a0p,a1z,a1m]
   simp at p1 p5 p7 p9 z4⊢
   omega
  rw[if_neg w4]at h
  by_cases w5:tx l=W.return_
  ·rw[if_pos w5]at h
   obtain⟨m,q,h1,h2⟩:=a1s h
   obtain⟨r,o⟩:=a0u h2
   cases o
   obtain⟨p1,p2⟩:=a0i w5 (by decide)
   obtain⟨p3,p4⟩:=a0i r (by decide)
   obtain⟨u,t,c1⟩:=ex h1 (p2 i)
   refine⟨mkN (by unfold a0r;simp) (fun c=>by simp only[a2d]at c;omega) (fun _=>rfl) (by decide) (fun c=>by omega) (fun c=>by omega) (go1 ⟨b0b (by decide) _ _ _ u.2,u.1⟩),by show(5:Int)<=11/\(11:Int)<=12;omega,p4 t,?_⟩
   show cost (a0k ⟨11,[],0,[m]⟩)+_<=_
   rw[b5x,a1z,a0p,a2j,a1m]
   simp at p1 p3⊢
   omega
  rw[if_neg w5]at h
  by_cases w6:tx l=W.emit_
  ·rw[if_pos w6]at h
   obtain⟨m,q,h1,h2⟩:=a1s h
   obtain⟨r,o⟩:=a0u h2
   cases o
   obtain⟨p1,p2⟩:=a0i w6 (by decide)
   obtain⟨p3,p4⟩:=a0i r (by decide)
   obtain⟨u,t,c1⟩:=ex h1 (p2 i)
   refine⟨mkN (by unfold a0r;simp) (fun c=>by simp only[a2d]at c;omega) (fun _=>rfl) (by decide) (fun c=>by omega) (fun c=>by omega) (go1 ⟨b0b (by decide) _ _ _ u.2,u.1⟩),by show(5:Int)<=12/\(12:Int)<=12;omega,p4 t,?_⟩
   show cost (a0k ⟨12,[],0,[m]⟩)+_<=_
   rw[c2j,a1z,a0p,a2j,a1m]
   simp at p1 p3⊢
   omega
  rw[if_neg w6]at h
  obtain⟨r,o⟩:=a3e h
  obtain⟨m,q,h1,h2⟩:=a1s o
  obtain⟨n3,n4⟩:=a0u h2
  cases n4
  obtain⟨p1,p2⟩:=pass (v r)
  obtain⟨p3,p4⟩:=a0i n3 (by decide)
  obtain⟨i1,i2,t,c1⟩:=ih 9 _ _ _ _ _ h1 (p2 i) (c9z r) (a2w (by decide)) (by rw[a3q,if_pos rfl])
  refine⟨i1,i2,p4 t,?_⟩
  have e:a0k ⟨18,tx l,0,[]⟩=[wt (tx l)]:=by rw[a0t];rfl
  rw[e,a1z,a1m]at c1
  simp at p3
  omega
 | 9,_,h =>
  intro hx hb z7
  rw[P]at h
  by_cases c1:tx l=S.lb
  ·rw[if_pos c1]at h
   obtain⟨m,q,h1,h2⟩:=a1s h
   obtain⟨u,t,b1,k1,k2,_⟩:=ih 5 _ _ _ _ _ h1 i hx
   obtain⟨i1,i2,v2,k3⟩:=ih 9 _ _ _ _ _ h2 t u b1 (by rw[(k2 c1).2];exact z7)
   rw[a8o (x:=x) (by omega)]at k1
   exact⟨i1,i2,v2,by omega⟩
  rw[if_neg c1]at h
  by_cases c2:tx l=S.lp
  ·rw[if_pos c2]at h
   obtain⟨m,q,h1,h2⟩:=a1s h
   obtain⟨u,t,b1,k1,_,k2⟩:=ih 5 _ _ _ _ _ h1 i hx
   obtain⟨i1,i2,v2,k3⟩:=ih 9 _ _ _ _ _ h2 t u b1 (by rw[(k2 c1).2,z7];rfl)
   rw[a8o (x:=x) (by omega)]at k1
   exact⟨i1,i2,v2,by omega⟩
  rw[if_neg c2]at h
  by_cases c3:a=0
  ·rw[if_pos c3]at h
   obtain⟨r,o⟩:=a0u h
   obtain⟨m,q,h1,h2⟩:=a1s o
   cases h2
   obtain⟨p1,p2⟩:=a0i r (by decide)
   obtain⟨u,t,k1⟩:=ex h1 (p2 i)
   refine⟨mkN (by unfold a0r;simp) (fun c=>by simp only[a2d]at c;omega) (fun _=>rfl) (by decide) (fun _=>by simp[z7,c3]) (fun c=>by omega) (go2 ⟨b0b (by decide) _ _ _ hx.2,hx.1⟩ ⟨b0b (by decide) _ _ _ u.2,u.1⟩),by show(5:Int)<=6/\(6:Int)<=12;omega,t,?_⟩
   show cost (a0k ⟨6,[],0,[x,m]⟩)+_<=_
   rw[c6x,a0p,a2j,a0p,a2j,a1m]
   simp at p1⊢
   omega
  rw[if_neg c3]at h
  by_cases c4:x.k=21
  ·rw[if_pos c4]at h
   cases h
   refine⟨mkN (by unfold a0r;simp) (fun c=>by simp only[a2d]at c;omega) (fun _=>rfl) (by decide) (fun c=>by omega) (fun _=>⟨by simp[z7],by simp[c4]⟩) (go1 ⟨b0b (by decide) _ _ _ hx.2,hx.1⟩),by show(5:Int)<=7/\(7:Int)<=12;omega,i,?_⟩
   show cost (a0k ⟨7,[],0,[x]⟩)+_<=_
   rw[d1e,a0p,a2j,a1m]
   simp
   omega
  ·rw[if_neg c4]at h;cases h
 | 10,_,h =>
  rw[P]at h
  obtain⟨r,o⟩:=a0u h
  obtain⟨n3,n4⟩:=a3e o
  obtain⟨n5,n6⟩:=a0u n4
  obtain⟨p1,p2⟩:=a0i r (by decide)
  obtain⟨p3,p4⟩:=pass (v n3)
  obtain⟨p5,p6⟩:=a0i n5 (by decide)
  have mk:∀(us:List Nd) (b:Nd),(∀p∈us,∃s,p=(⟨3,s,0,[]⟩:Nd)/\a4s s=true)->isN b->b.k=4->isN ⟨2,tx l.tail,0,us++[b]⟩:=fun us b hu y9 z0=>by
   refine mkN (by unfold a0r;simp) (fun _=>n3) (fun c=>absurd (by simp[a2d]) c) (by decide) (fun c=>by omega) (fun c=>by omega) (fun j y hy=>?_)
   by_cases e:j<us.length
   ·rw[List.getElem?_append_left e]at hy
    obtain⟨s,rfl,hs⟩:=hu y (List.mem_of_getElem? hy)
    refine⟨by unfold a0w;rw[if_neg (by decide),if_pos rfl,if_neg (by simp;omega)],?_⟩
    exact mkN (by unfold a0r;simp) (fun _=>hs) (fun c=>absurd (by simp[a2d]) c) (by decide) (fun c=>by omega) (fun c=>by omega) (fun j y hy=>by simp at hy)
   ·rw[List.getElem?_append_right (by omega)]at hy
    have e2:j-us.length=0:=by
     by_cases z:j-us.length=0
     ·exact z
     ·rw[List.getElem?_eq_none (by simp;omega)]at hy;cases hy
    rw[e2]at hy
    simp at hy
    subst hy
    exact⟨by unfold a0w;rw[if_neg (by decide),if_pos rfl,if_pos (by simp;omega)];exact z0,y9⟩
  have sh:∀(us:List Nd) (b:Nd),cost (a0k ⟨2,tx l.tail,0,us++[b]⟩)=9+((tx l.tail).length+1)+cost (a5e (us.map info))+cost (a0k b)+4:=fun us b=>by
   have z3:a0k ⟨2,tx l.tail,0,us++[b]⟩=[wt W.function_,wt (tx l.tail)]++a5e (us.map info)++a0k b++[wt W.end_]:=by
    rw[a0t]
    unfold comb
    rw[if_neg (by decide),if_pos rfl]
    simp[info]
   rw[z3,a0p,a0p,a0p,a1z,a1z,a1z,a1m]
   simp
  by_cases c:tx l.tail.tail.tail=S.rp
  ·rw[if_pos c]at n6
   obtain⟨b,q,h1,h2⟩:=a1s n6
   obtain⟨n7,n8⟩:=a0u h2
   cases n8
   obtain⟨p7,p8⟩:=a0i c (by decide)
   obtain⟨p9,z8⟩:=a0i n7 (by decide)
   obtain⟨b1,b2,b3,b4⟩:=bl h1 (p8 (p6 (p4 (p2 i))))
   refine⟨mk [] b (fun p hp=>by simp at hp) b1 b2,rfl,z8 b3,?_⟩
   have:=sh [] b
   rw[List.nil_append]at this
   rw[this,b0c]
   simp at p1 p5 p7 p9
   omega
  ·rw[if_neg c]at n6
   obtain⟨m,q,h1,h2⟩:=a1s n6
   obtain⟨n7,n8⟩:=a0u h2
   obtain⟨b,q2,h3,h4⟩:=a1s n8
   obtain⟨n9,z6⟩:=a0u h4
   cases z6
   obtain⟨us,u1,u2,u3,u4,u5⟩:=ih 11 _ _ _ _ _ h1 (p6 (p4 (p2 i)))
   obtain⟨p7,p8⟩:=a0i n7 (by decide)
   obtain⟨p9,z8⟩:=a0i n9 (by decide)
   obtain⟨b1,b2,b3,b4⟩:=bl h3 (p8 u4)
   have e:m.kids=us:=by rw[u2];simp
   rw[e]
   refine⟨mk us b u3 b1 b2,rfl,z8 b3,?_⟩
   rw[sh,b1h us u1]
   simp at p1 p5 p7 p9
   omega
 | 11,_,h =>
  rw[P]at h
  obtain⟨r,o⟩:=a3e h
  obtain⟨p1,p2⟩:=pass (v r)
  have hc:cost (a0k ⟨3,tx l,0,[]⟩)=(tx l).length+1:=by
   have e:a0k ⟨3,tx l,0,[]⟩=[wt (tx l)]:=by rw[a0t];rfl
   rw[e,a1z,a1m]
  by_cases c:tx l.tail=S.cm
  ·rw[if_pos c]at o
   obtain⟨p3,p4⟩:=a0i c (by decide)
   obtain⟨us,u1,u2,u3,u4,u5⟩:=ih 11 _ _ _ _ _ o (p4 (p2 i))
   refine⟨⟨3,tx l,0,[]⟩::us,by simp,by rw[u2];simp,fun p hp=>?_,u4,?_⟩
   ·simp at hp
    rcases hp with rfl|hp
    ·exact⟨tx l,rfl,r⟩
    ·exact u3 p hp
   ·rw[sumC,hc]
    simp at p3
    omega
  ·rw[if_neg c]at o
   cases o
   refine⟨[⟨3,tx l,0,[]⟩],by simp,rfl,fun p hp=>by simp at hp;exact⟨tx l,hp,r⟩,p2 i,?_⟩
   rw[sumC,sumC,hc]
   omega
 | 12,_,h =>
  intro fs z1
  subst z1
  rw[P]at h
  by_cases c:l=[]
  ·rw[if_pos c]at h
   cases h
   exact⟨[],by simp,fun g hg=>by simp at hg,by simp[sumS]⟩
  ·rw[if_neg c]at h
   obtain⟨m,q,h1,h2⟩:=a1s h
   obtain⟨i1,i2,t,c1⟩:=ih 10 _ _ _ _ _ h1 i
   obtain⟨us,u1,u2,u3⟩:=ih 12 _ _ _ _ _ h2 t _ rfl
   refine⟨m::us,by rw[u1];simp[nd],fun g hg=>?_,by rw[sumS];omega⟩
   simp at hg
   rcases hg with rfl|hg
   ·exact⟨i1,i2⟩
   ·exact u2 g hg
 | n+13,_,_=>exact trivial
theorem b0d:∀(f z:Nat) (x:Nd) (a:Nat) (l:List PT) (n:Nd) (l1:List PT),P f z x a l=some (.inr (n,l1))->allV l->b2d z x a l n l1
 | 0,_,_,_,_,_,_,h,_=>by cases h
 | f+1,z,x,a,l,n,l1,h,hv=>by
  by_cases c:z<=6
  ·exact b9g f (b0d f) z x a l n l1 c h hv
  ·exact b9i f (b0d f) z x a l n l1 (by omega) h hv
theorem b9j{n:Nd}(h:Q 12 (nd 1 []) 0 l (yes n l1))(hv:allV l):isN n/\n.k=1/\(b9f (a0k n)).length<=cost l:=by
 obtain⟨f,h⟩:=h
 obtain⟨us,x,z,v⟩:=b0d f 12 _ _ _ _ _ h hv [] rfl
 subst x
 rw[List.nil_append]
 refine⟨mkN (by unfold a0r;simp) (fun c=>by simp only[a2d]at c;omega) (fun _=>rfl) (by decide) (fun c=>by omega) (fun c=>by omega) (fun j y w=>?_),rfl,?_⟩
 ·have:=z y (List.mem_of_getElem? w)
  exact⟨by unfold a0w;rw[if_pos rfl];exact this.2,this.1⟩
 ·have e:a0k (nd 1 us)=allT (us.map info):=by show a0k ⟨1,[],0,us⟩=_;rw[a0t];rfl
  have:=b7n (a0k (nd 1 us))
  rw[e,b2c]at this
  rw[e]
  omega
def Tot (y:PR) (b:Nat):Prop:=∃r,y=some r/\∀n l1,r=.inr (n,l1)->l1.length<b
theorem Tot.mono{y:PR}(h:Tot y b)(hbc:b<=c):Tot y c:=by
 obtain⟨r,h1,h2⟩:=h
 exact⟨r,h1,fun n l1 e=>by have:=h2 n l1 e;omega⟩
theorem a1v{x:PR}{g:Nd->List PT->PR}(h:Tot x c)(hg:∀n l,l.length<c->Tot (g n l) b):Tot (x.on g) b:=by
 obtain⟨r,rfl,h2⟩:=h
 rcases r with l|⟨n,l⟩
 ·exact⟨.inl l,rfl,fun n l1 e=>by cases e⟩
 ·exact hg n l (h2 n l rfl)
theorem a2l{n:Nd}(h:l.length<b):Tot (.ok n l) b:=⟨_,rfl,fun m l1 e=>by cases e;exact h⟩
theorem b7o:Tot (.no l) b:=⟨_,rfl,fun m l1 e=>by cases e⟩
theorem a2t(h:tx l≠[]):l.tail.length+1=l.length:=by
 cases l with
 | nil=>exact absurd rfl h
 | cons p l=>rfl
theorem a0v{g:List PT->PR}(hs:s≠[])(hg:l.tail.length+1=l.length->Tot (g l.tail) b):Tot (need s l g) b:=by
 unfold need
 split
 ·rename_i c;exact hg (a2t (by rw[c];exact hs))
 ·exact b7o
theorem a3f{g:List UInt8->List PT->PR}(hg:l.tail.length+1=l.length->Tot (g (tx l) l.tail) b):Tot (a0n l g) b:=by
 unfold a0n
 split
 ·rename_i c;exact hg (a2t (fun e=>by rw[e]at c;revert c;decide))
 ·exact b7o
theorem a1b{c:Prop}[Decidable c]{x y:PR}(h1:c->Tot x b)(h2:¬c->Tot y b):Tot (if c then x else y) b:=by
 split
 ·exact h1 (by assumption)
 ·exact h2 (by assumption)
def rank (tag a:Nat):Nat :=
 match tag with
 | 0=>4+(6-a)
 | 1=>3
 | 4=>2
 | 6=>11
 | 7=>2
 | 9=>2
 | 12=>2
 | _=>1
def room (tag:Nat) (l:List PT):Nat :=
 match tag with
 | 2|4|7|9|12=>l.length+1
 | _=>l.length
theorem a4c:∀(f w:Nat) (x:Nd) (a:Nat) (l:List PT),w<=12->16*l.length+rank w a<=f->Tot (P f w x a l) (room w l)
 | 0,w,x,a,l,_,h=>by
  exfalso
  have:1<=rank w a:=by unfold rank;split <;> omega
  omega
 | f+1,w,x,a,l,ht,h=>by
  have E:∀(q:List PT),q.length<l.length->Tot (P f 0 (nd 0 []) 0 q) q.length:=fun q hq=>a4c f 0 _ 0 q (by omega) (by simp only[rank];omega)
  have go:∀(t:Nat) (y:Nd) (c:Nat) (q:List PT),t<=12->q.length<l.length->Tot (P f t y c q) (room t q):=fun t y c q h1 hq=>a4c f t y c q h1 (by
   have:rank t c<=11:=by unfold rank;split <;> omega
   omega)
  match w,ht,h with
  | 0,_,h =>
   rw[P]
   simp only[rank]at h
   refine a1b (fun c=>a4c f 1 _ _ l (by omega) (by simp only[rank];omega)) (fun c=>?_)
   refine a1v (a4c f 0 _ (a+1) l (by omega) (by simp only[rank];omega)) (fun n q hq=>?_)
   simp only[room]at hq⊢
   exact(go 2 n a q (by omega) hq).mono (by simp only[room];omega)
  | 1,_,h =>
   rw[P]
   simp only[rank]at h
   have un:∀(s:List UInt8) (k:Int),s≠[]->tx l=s->Tot ((P f 1 (nd 0 []) 0 l.tail).on fun x l=>.ok (nd k [x]) l) (room 1 l):=fun s k hs e=>by
    have z:=a2t (l:=l) (by rw[e];exact hs)
    refine a1v (go 1 _ 0 l.tail (by omega) (by omega)) (fun n q hq=>a2l ?_)
    simp only[room]at hq⊢
    omega
   refine a1b (un _ _ (by decide)) (fun _=>a1b (un _ _ (by decide)) (fun _=>a1b (un _ _ (by decide)) (fun _=>?_)))
   refine a1v (a4c f 3 _ 0 l (by omega) (by simp only[rank];omega)) (fun n q hq=>?_)
   simp only[room]at hq⊢
   exact(go 4 n 0 q (by omega) hq).mono (by simp only[room];omega)
  | 2,_,h =>
   rw[P]
   cases ho:opAt (tx l) with
   | none=>exact a2l (by simp only[room];omega)
   | some p =>
    obtain⟨o,k⟩:=p
    simp only
    refine a1b (fun c=>?_) (fun _=>a2l (by simp only[room];omega))
    have z:=a2t (b2a ho).2
    refine a1v (go 0 _ (a+1) l.tail (by omega) (by omega)) (fun n q hq=>?_)
    simp only[room]at hq⊢
    exact a1b (fun _=>a2l (by omega)) (fun _=>(go 2 _ a q (by omega) (by omega)).mono (by simp only[room];omega))
  | 3,_,h =>
   cases l with
   | nil=>rw[P];exact b7o
   | cons t r =>
    rw[P]
    have v:∀{q:List PT} {n:Nd},q.length<=r.length->Tot (.ok n q) (room 3 (t::r)):=fun hq=>a2l (by simp only[room,List.length_cons];omega)
    refine a1b (fun _=>v (Nat.le_refl _)) (fun _=>a1b (fun _=>v (Nat.le_refl _)) (fun _=>a1b (fun _=>?_) (fun _=>a1b (fun _=>v (Nat.le_refl _)) (fun _=>a1b (fun _=>v (Nat.le_refl _)) (fun _=>a1b (fun _=>v (Nat.le_refl _)) (fun _=>a1b (fun _=>?_) (fun _=>a1b (fun _=>?_) (fun _=>?_))))))))
    ·refine a1v (E r (by simp)) (fun n q hq=>a0v (by decide) (fun z=>v (by omega)))
    ·exact a0v (by decide) (fun z=>v (by omega))
    ·refine a0v (by decide) (fun z=>a1v (E _ (by rw[List.length_cons];omega)) (fun n q hq=>a0v (by decide) (fun z9=>a1v (E _ (by rw[List.length_cons];omega)) (fun n2 g u=>a0v (by decide) (fun z7=>v (by omega))))))
    ·exact a3f (fun z=>v (by simp))
  | 4,_,h =>
   rw[P]
   simp only[rank]at h
   refine a1b (fun c=>?_) (fun _=>a2l (by simp only[room];omega))
   refine a1v (a4c f 5 _ 0 l (by omega) (by simp only[rank];omega)) (fun n q hq=>?_)
   simp only[room]at hq⊢
   exact(go 4 n 0 q (by omega) hq).mono (by simp only[room];omega)
  | 5,_,h =>
   rw[P]
   refine a1b (fun c=>?_) (fun _=>a0v (by decide) (fun z=>a1b (fun c2=>?_) (fun _=>?_)))
   ·have z:=a2t (l:=l) (by rw[c];decide)
    exact a1v (E _ (by omega)) (fun n q hq=>a0v (by decide) (fun z9=>a2l (by simp only[room];omega)))
   ·have z9:=a2t (l:=l.tail) (by rw[c2];decide)
    exact a2l (by simp only[room];omega)
   ·exact(go 6 _ 0 l.tail (by omega) (by omega)).mono (by simp only[room];omega)
  | 6,_,h =>
   rw[P]
   simp only[rank]at h
   refine a1v (a4c f 0 _ 0 l (by omega) (by simp only[rank];omega)) (fun n q hq=>?_)
   simp only[room]at hq⊢
   refine a1b (fun c=>?_) (fun _=>a0v (by decide) (fun z=>a2l (by omega)))
   have z:=a2t (l:=q) (by rw[c];decide)
   exact(go 6 _ 0 q.tail (by omega) (by omega)).mono (by simp only[room];omega)
  | 7,_,h =>
   rw[P]
   simp only[rank]at h
   refine a1b (fun _=>a2l (by simp only[room];omega)) (fun _=>?_)
   refine a1v (a4c f 8 _ 0 l (by omega) (by simp only[rank];omega)) (fun n q hq=>?_)
   simp only[room]at hq⊢
   exact(go 7 _ 0 q (by omega) hq).mono (by simp only[room];omega)
  | 8,_,h =>
   rw[P]
   have B:∀(q:List PT),q.length<l.length->Tot (P f 7 (nd 4 []) 0 q) (q.length+1):=fun q hq=>go 7 _ 0 q (by omega) hq
   refine a1b (fun c=>?_) (fun _=>a1b (fun c=>?_) (fun _=>a1b (fun c=>?_) (fun _=>a1b (fun c=>?_) (fun _=>a1b (fun c=>?_) (fun _=>a1b (fun c=>?_) (fun _=>?_))))))
   ·have z:=a2t (l:=l) (by rw[c];decide)
    exact a3f (fun h1=>a0v (by decide) (fun h2=>a1v (E _ (by omega)) (fun n q hq=>a0v (by decide) (fun h3=>a2l (by simp only[room];omega)))))
   ·have z:=a2t (l:=l) (by rw[c];decide)
    exact a1v (E _ (by omega)) (fun n q hq=>a0v (by decide) (fun h2=>a1v (B _ (by omega)) (fun b g u=>a1b (fun c2=>a1v (B _ (by have:=a2t (l:=g) (by rw[c2];decide);omega)) (fun d q3 z8=>a0v (by decide) (fun h3=>a2l (by have:=a2t (l:=g) (by rw[c2];decide);simp only[room];omega)))) (fun _=>a0v (by decide) (fun h3=>a2l (by simp only[room];omega))))))
   ·have z:=a2t (l:=l) (by rw[c];decide)
    exact a1v (E _ (by omega)) (fun n q hq=>a0v (by decide) (fun h2=>a1v (B _ (by omega)) (fun b g u=>a0v (by decide) (fun h3=>a2l (by simp only[room];omega)))))
   ·have z:=a2t (l:=l) (by rw[c];decide)
    exact a3f (fun h1=>a0v (by decide) (fun h2=>a1v (E _ (by omega)) (fun n q hq=>a0v (by decide) (fun h3=>a1v (E _ (by omega)) (fun n2 g u=>a0v (by decide) (fun h4=>a1v (B _ (by omega)) (fun b q3 z8=>a0v (by decide) (fun h5=>a2l (by simp only[room];omega)))))))))
   ·have z:=a2t (l:=l) (by rw[c];decide)
    exact a1v (E _ (by omega)) (fun n q hq=>a0v (by decide) (fun h2=>a2l (by simp only[room];omega)))
   ·have z:=a2t (l:=l) (by rw[c];decide)
    exact a1v (E _ (by omega)) (fun n q hq=>a0v (by decide) (fun h2=>a2l (by simp only[room];omega)))
   ·exact a3f (fun h1=>a1v (go 9 _ 0 l.tail (by omega) (by omega)) (fun n q hq=>a0v (by decide) (fun h2=>a2l (by simp only[room]at hq⊢;omega))))
  | 9,_,h =>
   rw[P]
   simp only[rank]at h
   have i:∀c,Tot ((P f 5 x 0 l).on fun n l=>P f 9 n c l) (room 9 l):=fun c=>by
    refine a1v (a4c f 5 _ 0 l (by omega) (by simp only[rank];omega)) (fun n q hq=>?_)
    simp only[room]at hq⊢
    exact(go 9 n c q (by omega) hq).mono (by simp only[room];omega)
   refine a1b (fun _=>i a) (fun _=>a1b (fun _=>i (a+1)) (fun _=>a1b (fun _=>?_) (fun _=>a1b (fun _=>a2l (by simp only[room];omega)) (fun _=>b7o))))
   exact a0v (by decide) (fun z=>a1v (E _ (by omega)) (fun n q hq=>a2l (by simp only[room];omega)))
  | 10,_,h =>
   rw[P]
   have B:∀(q:List PT),q.length<l.length->Tot (P f 7 (nd 4 []) 0 q) (q.length+1):=fun q hq=>go 7 _ 0 q (by omega) hq
   refine a0v (by decide) (fun h1=>a3f (fun h2=>a0v (by decide) (fun h3=>a1b (fun c=>?_) (fun _=>?_))))
   ·have z:=a2t (l:=l.tail.tail.tail) (by rw[c];decide)
    exact a1v (B _ (by omega)) (fun b q hq=>a0v (by decide) (fun h4=>a2l (by simp only[room];omega)))
   ·exact a1v (go 11 _ 0 _ (by omega) (by omega)) (fun m q hq=>a0v (by decide) (fun h4=>a1v (B _ (by simp only[room]at hq;omega)) (fun b g u=>a0v (by decide) (fun h5=>a2l (by simp only[room]at hq⊢;omega)))))
  | 11,_,h =>
   rw[P]
   refine a3f (fun h1=>a1b (fun c=>?_) (fun _=>a2l (by simp only[room];omega)))
   have z:=a2t (l:=l.tail) (by rw[c];decide)
   exact(go 11 _ 0 l.tail.tail (by omega) (by omega)).mono (by simp only[room];omega)
  | 12,_,h =>
   rw[P]
   simp only[rank]at h
   refine a1b (fun _=>a2l (by simp only[room];omega)) (fun _=>?_)
   refine a1v (a4c f 10 _ 0 l (by omega) (by simp only[rank];omega)) (fun n q hq=>?_)
   simp only[room]at hq⊢
   exact(go 12 _ 0 q (by omega) hq).mono (by simp only[room];omega)
theorem d7p{tag:Nat}{r r':List PT⊕(Nd×List PT)}(h:Q tag x a l r)(z:Q tag x a l r'):r=r':=by
 obtain⟨f,h⟩:=h
 obtain⟨g,z⟩:=z
 have w:=c9p (show f<=f+g by omega) h
 have y:=c9p (show g<=f+g by omega) z
 rw[w]at y
 exact Option.some.inj y
theorem b3q(l:List UInt8):runN p (l.take (runN p l))=runN p l:=by
 have hn:=a3s p l
 have y:(l.take (runN p l)).length=runN p l:=by rw[List.length_take];omega
 refine a5l p _ _ (by omega) (fun i d z hd=>?_) (fun d hd=>?_)
 ·rw[List.getElem?_take_of_lt z]at hd
  exact a7m p l i z d hd
 ·rw[List.getElem?_eq_none (by omega)]at hd;cases hd
theorem c2m{l:List UInt8}{n:Nat}(h:tokR l=.tok k t n):tokR (l.take n)=.tok k t n:=by
 have v:=a3a h
 cases l with
 | nil=>simp[tokR]at h
 | cons c q =>
  obtain⟨m,rfl⟩:∃m,n=m+1:=⟨n-1,by omega⟩
  have e0:(c::q).take (m+1)=c::q.take m:=by simp
  have y:((c::q).take (m+1)).take (m+1)=(c::q).take (m+1):=by rw[List.take_take,Nat.min_self]
  unfold tokR at h
  simp only at h
  split at h
  ·rename_i hc
   split at h
   ·cases h
   ·rename_i h16
    have z:=b3q (p:=rowB) (c::q)
    obtain⟨h1,h2,h3⟩:=TokR.inj h
    subst h1 h2
    rw[h3]at z h16
    rw[h3]
    rw[e0]at z y⊢
    unfold tokR
    simp only
    rw[if_pos hc,z,if_neg h16,y]
  split at h
  ·rename_i hl hc
   split at h
   ·rename_i hz
    have z:=b3q (p:=rowB) (c::q)
    obtain⟨h1,h2,h3⟩:=TokR.inj h
    subst h1 h2
    rw[h3]at z hz
    rw[h3]
    rw[e0]at z y hz⊢
    unfold tokR
    simp only
    rw[if_neg hl,if_pos hc,z,y,if_pos hz]
   ·cases h
  split at h
  ·rename_i hl hd hc
   split at h
   ·rename_i hq
    split at h
    ·cases h
    ·rename_i h300
     obtain⟨h1,h2,h3⟩:=TokR.inj h
     obtain rfl:m=runN txtB q+1:=by omega
     subst h1 h2
     clear h3
     have u:runN txtB q<q.length:=by
      by_cases hh:runN txtB q<q.length
      ·exact hh
      ·rw[List.getElem?_eq_none (by omega)]at hq;cases hq
     have w:q.take (runN txtB q+1)=q.take (runN txtB q)++34::[]:=by
      rw[List.take_add_one,hq];rfl
     have z:=a6m (p:=txtB) (l:=q) (r:=[]) (c:=34) (by decide)
     rw[e0,w]
     unfold tokR
     simp only
     rw[if_neg hl,if_neg hd,if_pos hc,z,getElem?_take_at (by omega),if_pos rfl,if_neg h300,a5d (by omega)]
   ·cases h
  ·rename_i hl hd hc
   split at h
   ·cases h
   ·rename_i hz
    obtain⟨h1,h2,h3⟩:=TokR.inj h
    subst h1 h2
    rw[h3]
    have x:a3i ((c::q).take (m+1))=m+1:=by
     rw[e0]
     unfold a3i at h3⊢
     simp only at h3⊢
     split at h3
     ·rename_i h2
      obtain rfl:m=1:=by omega
      cases q with
      | nil=>simp at v
      | cons d q =>
       have:a5x (c::(d::q).take 1)=a5x (c::d::q):=by simp[a5x]
       rw[this,if_pos h2]
     ·split at h3
      ·rename_i h2
       obtain rfl:m=0:=by omega
       have:a5x (c::q.take 0)=false:=by simp[a5x]
       rw[this,if_neg (by simp),if_pos h2]
      ·omega
    rw[e0]at x y⊢
    unfold tokR
    simp only
    rw[if_neg hl,if_neg hd,if_neg hc,x,y]
    rfl
theorem c2n{l:List UInt8}{n:Nat}(h0:gap1 l=0)(h:tokR l=.tok k t n):gap1 (l.take n)=0:=by
 have z:=a3a h
 cases l with
 | nil=>simp[tokR]at h
 | cons c q =>
  obtain⟨m,rfl⟩:∃m,n=m+1:=⟨n-1,by omega⟩
  have e0:(c::q).take (m+1)=c::q.take m:=by simp
  rw[e0]
  unfold gap1 at h0⊢
  simp only at h0⊢
  split at h0
  ·omega
  ·rename_i h1
   rw[if_neg h1]
   split at h0
   ·rename_i h2
    have:0<runN a3r (c::q):=by
     have:¬c.toNat=10:=by omega
     simp[runN,a3r,this]
    omega
   ·rename_i h2
    rw[if_neg]
    rintro⟨h3,h4⟩
    cases q with
    | nil=>simp at h4
    | cons d q =>
     cases m with
     | zero=>simp at h4
     | succ m=>exact h2 ⟨h3,by simpa using h4⟩
theorem a8p:∀(m:Nat) (l:List UInt8) (a:Nat) (ts:List Tok),l.length<=m->a3j a l=.toks ts->allV (ts.map (fun t=>(t.k,t.t)))/\cost (ts.map (fun t=>(t.k,t.t)))<=2*l.length
 | 0,l,a,ts,hm,h=>by
  obtain rfl:l=[]:=List.eq_nil_of_length_eq_zero (by omega)
  rw[a3w]at h
  cases h
  exact⟨b7m,by simp[cost]⟩
 | m+1,l,a,ts,hm,h=>by
  by_cases h0:l=[]
  ·subst h0
   rw[a3w]at h
   cases h
   exact⟨b7m,by simp[cost]⟩
  by_cases h1:gap1 l=0
  ·cases ht:tokR l using TokR.byCases with
   | bad e=>rw[a4n h0 h1 ht]at h;cases h
   | tok k t n =>
    have u:=a3a ht
    rw[a4o h0 h1 ht]at h
    cases hq:a3j (a+n) (l.drop n)using a1k.byCases with
    | bad e p=>rw[hq]at h;cases h
    | toks us =>
     rw[hq]at h
     cases h
     obtain⟨y,z⟩:=a8p m (l.drop n) _ us (by simp;omega) hq
     have w:a1x (k,t)=l.take n:=by
      unfold a1x
      simp only
      exact(c0u ht []).2
     have x:(l.take n).length=n:=by rw[List.length_take];omega
     have v:a7i (k,t):=by
      unfold a7i
      rw[w,x]
      exact⟨c2m ht,c2n h1 ht⟩
     have e:([(⟨k,t,a⟩:Tok)]++us).map (fun t=>(t.k,t.t))=(k,t)::us.map (fun t=>(t.k,t.t)):=by simp
     rw[e]
     refine⟨c2k v y,?_⟩
     rw[cost,w,x]
     simp at z
     omega
  ·have h2:=a7e l
   rw[a4m h1]at h
   obtain⟨y,z⟩:=a8p m (l.drop (gap1 l)) _ ts (by simp;omega) h
   refine⟨y,?_⟩
   simp at z
   omega
theorem d1h{l:List UInt8}(h:runN p l=l.length):l.all p=true:=by
 rw[List.all_eq_true]
 intro x y
 obtain⟨i,z⟩:=List.getElem?_of_mem y
 exact a7m p l i (by have:=(List.getElem?_eq_some_iff.1 z).1;omega) x z
theorem kinds_of_valid(h:a7i (k,t)) :
  (k=1/\t.length<=16/\t.all rowB=true/\∃c r,t=c::r/\letB c=true)\/(k=2/\∃c r,t=c::r/\digB c=true)\/k=3\/(k=4/\∃c r,t=c::r/\letB c=false/\digB c=false):=by
 by_cases h3:k=3
 ·exact .inr (.inr (.inl h3))
 have y:a1x (k,t)=t:=by unfold a1x;rw[if_neg h3]
 have h1:=h.1
 rw[y]at h1
 simp only at h1
 cases t with
 | nil=>simp[tokR]at h1
 | cons c r =>
  unfold tokR at h1
  simp only at h1
  split at h1
  ·rename_i hc
   split at h1
   ·cases h1
   ·rename_i h16
    obtain⟨x,_,z⟩:=TokR.inj h1
    exact .inl ⟨x.symm,by rw[<- z];omega,d1h z,c,r,rfl,hc⟩
  split at h1
  ·rename_i hc
   split at h1
   ·exact .inr (.inl ⟨(TokR.inj h1).1.symm,c,r,rfl,hc⟩)
   ·cases h1
  split at h1
  ·split at h1
   ·split at h1
    ·cases h1
    ·exact absurd (TokR.inj h1).1.symm h3
   ·cases h1
  rename_i a1 a2 _
  split at h1
  ·cases h1
  ·exact .inr (.inr (.inr ⟨(TokR.inj h1).1.symm,c,r,rfl,by simpa using a1,by simpa using a2⟩))
def wdl:List PT->List UInt8
 | []=>[]
 | p::_=>if p.1=3 then [] else p.2
def a1h (s:List UInt8):Prop:=∃c r,s=c::r/\digB c=false
theorem d4x(hv:allV l)(hs:a1h s):wdl l=s↔tx l=s:=by
 obtain⟨c,r,rfl,z⟩:=hs
 cases l with
 | nil=>simp[wdl,tx]
 | cons p l =>
  obtain⟨k,t⟩:=p
  have:=kinds_of_valid (hv (k,t) (by simp))
  unfold wdl tx
  simp only
  by_cases h3:k=3
  ·simp[h3]
  ·rw[if_neg h3]
   by_cases h2:k=2
   ·rw[if_pos (.inl h2)]
    rcases this with⟨h,_⟩|⟨_,y,x,rfl,hd⟩|h|⟨h,_⟩
    ·omega
    ·constructor
     ·intro e
      have:y=c:=by simpa using(List.cons.inj e).1
      rw[this,z]at hd
      cases hd
     ·intro e;cases e
    ·omega
    ·omega
   ·rw[if_neg (by omega)]
theorem d1i(hv:a7i (k,t)):a4s (tx ((k,t)::l))=true↔k=1/\a0j.contains t=false:=by
 have w:=kinds_of_valid hv
 unfold tx
 simp only
 by_cases h23:k=2\/k=3
 ·rw[if_pos h23]
  constructor
  ·intro h;exact absurd h (by decide)
  ·rintro⟨h,_⟩;omega
 ·rw[if_neg h23]
  rcases w with⟨h,y,v,c,r,rfl,z⟩|⟨h,_⟩|h|⟨h,c,r,rfl,z,_⟩
  ·unfold a4s
   simp only[Bool.and_eq_true,Bool.not_eq_true',decide_eq_true_eq]
   constructor
   ·rintro⟨_,h⟩;exact⟨by assumption,h⟩
   ·rintro⟨_,x⟩
    exact⟨⟨⟨⟨by simp,y⟩,by simpa using z⟩,v⟩,x⟩
  ·omega
  ·omega
  ·constructor
   ·intro hn
    unfold a4s at hn
    simp[z]at hn
   ·rintro⟨h1,_⟩;omega
def endC (n:Nd) (R:CR):Except (Int×Nat) (List Int) :=
 match R with
 | .error e=>.error e
 | .ok c=>match funI (n.kids.map Nd.t) W.main_ with
  | none=>.error (4,0)
  | some j=>if a8u n.kids[j]? then .error (6,0) else .ok c.sl
theorem b7p(n:Nd):a5y n=endC n (a4p (n.kids.map Nd.t) 0 n.kids ⟨[-1],[]⟩):=rfl
theorem b9k(n:Nd)(e:Int×Nat):endC n (.error e)=.error e:=rfl
theorem b3r(n:Nd)(c:Cs)(h:funI (n.kids.map Nd.t) W.main_=none):endC n (.ok c)=.error (4,0):=by simp only[endC,h]
theorem b3s(n:Nd)(c:Cs)(j:Nat)(h:funI (n.kids.map Nd.t) W.main_=some j):endC n (.ok c)=if a8u n.kids[j]? then .error (6,0) else .ok c.sl:=by simp only[endC,h]
def Ec (x:CR):Prop:=∀e,x=.error e->e.1≠0
theorem Ec.ok(c:Cs):Ec (.ok c):=fun e h=>by cases h
theorem Ec.er(h:k≠0):Ec (.error (k,a)):=fun e z=>by cases z;exact h
theorem Ec.bind{x:CR}{f:Cs->CR}(hx:Ec x)(hf:∀c,Ec (f c)):Ec (x.bind f):=by
 cases x with
 | error e=>exact fun z h=>hx z h
 | ok c=>exact hf c
theorem Ec.map{x:CR}{f:Cs->Cs}(hx:Ec x):Ec (x.map f):=by
 cases x with
 | error e =>
  intro z h
  simp only[Except.map]at h
  cases h
  exact hx e rfl
 | ok c=>intro z h;simp only[Except.map]at h;cases h
theorem b1i(s:List UInt8)(fx:Bool)(a:Nat)(c:Cs):Ec (declareC s fx a c):=by
 unfold declareC
 split
 ·exact Ec.ok _
 ·split
  ·exact Ec.er (by decide)
  ·split
   ·exact Ec.er (by decide)
   ·exact Ec.ok _
theorem d4y(fs:List (List UInt8))(k:Int)(t:List UInt8)(ks:List Nd)(a:Nat)(c:Cs):Ec (actC fs k t ks a c):=by
 unfold actC
 split
 ·exact b1i _ _ _ _
 split
 ·unfold a4a
  split
  ·exact Ec.ok _
  ·split
   ·exact Ec.ok _
   ·exact Ec.er (by decide)
 split
 ·split
  ·exact Ec.ok _
  ·exact Ec.er (by decide)
 split
 ·split
  ·exact Ec.er (by decide)
  ·exact Ec.ok _
 ·exact Ec.ok _
theorem d0b(fs:List (List UInt8))(n:Nd):∀(f:Bool) (c:Cs),Ec (visC fs f n c):=by
 refine a3x (m:=fun n=>∀(f:Bool) (c:Cs),Ec (visC fs f n c)) (fun k t o ks v f c=>?_) n
 have z:∀(k:Int) (t:List UInt8) (a:Nat) (l:List Nd),(∀y∈l,y∈ks)->∀(i:Nat) (c:Cs),Ec (visC.go fs k t a i l c):=by
  intro k t a l
  induction l with
  | nil=>intro _ i c;rw[visC.go];exact Ec.ok _
  | cons x l ihl =>
   intro w i c
   rw[visC.go]
   refine Ec.bind ?_ (fun d=>ihl (fun y u=>w y (by simp[u])) _ d)
   split
   ·exact Ec.bind (b1i _ _ _ _) (fun d=>(v x (w x (by simp)) _ _).map)
   ·exact v x (w x (by simp)) _ _
 rw[visC]
 split
 ·split
  ·exact z _ _ _ ks (fun _ h=>h) _ _
  ·exact(z _ _ _ ks (fun _ h=>h) _ _).map
 ·refine Ec.bind (z _ _ _ ks (fun _ h=>h) _ _) (fun d=>?_)
  split
  ·exact Ec.ok _
  ·exact d4y _ _ _ _ _ _
theorem c2o(fs:List (List UInt8)):∀(l:List Nd) (c:Cs),Ec (a4t fs l c)
 | [],c=>by rw[a4t];exact Ec.ok _
 | [z],c=>by rw[a4t];exact d0b fs z _ _
 | x::y::l,c=>by rw[a4t];exact Ec.bind (d0b fs x _ _) (fun d=>c2o fs (y::l) d)
theorem d4z(fs:List (List UInt8))(i:Nat)(n:Nd)(c:Cs):Ec (funC fs i n c):=by
 unfold funC
 split
 ·exact Ec.er (by decide)
 split
 ·exact Ec.er (by decide)
 ·exact(c2o fs _ _).map
theorem c2p(fs:List (List UInt8)):∀(l:List Nd) (i:Nat) (c:Cs),Ec (a4p fs i l c)
 | [],i,c=>by rw[a4p];exact Ec.ok _
 | x::l,i,c=>by rw[a4p];exact Ec.bind (d4z fs i x c) (fun d=>c2p fs l (i+1) d)
theorem b3t{n:Nd}{cd:Int}(h:a5y n=.error (cd,a)):cd≠0:=by
 unfold a5y at h
 simp only at h
 split at h
 ·rename_i e he
  cases h
  exact c2p _ _ _ _ _ he
 ·split at h
  ·cases h;decide
  ·split at h
   ·cases h;decide
   ·cases h
def a4r (p:(Int×Nat)⊕Nd):(Int×Nat)⊕(Nd×List Int) :=
 match p with
 | .inl x=>.inl x
 | .inr n=>match a5y n with
  | .error e=>.inl e
  | .ok sl=>.inr (n,sl)
end Go.Proofs.YtomniogfpfbolaaGreatDoor
