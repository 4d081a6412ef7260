/- What programs mean, in plain words: a run by its tree, so many steps long; who has more goes on as the other one began. -/

namespace Go.Proofs.YtfbpdbndejefdaaGreatDoor.V
set_option maxRecDepth 100000
set_option maxHeartbeats 8000000
set_option linter.all false
variable {c:Int} {lim':Nat}
structure Pt where
 k:Int
 t:ByteArray
 n:Int
 sl:Int
 kids:List Pt
structure Vals (V T:Type) where
 nil:V
 num:Int->V
 txt:ByteArray->V
 boo:Bool->V
 fn:Int->V
 tab:Nat->V
 kind:V->Int
 int:V->Int
 truth:V->Bool
 text:V->ByteArray
 size:V->Nat
 op:Int->V->V->V×Int
 get:T->V->V
 set:T->V->V->T×Int
 next:T->V->V×Int
 len:T->Nat
 none:T
structure Rn (T:Type) where
 st:Nat
 out:List ByteArray
 calls:Nat
 tb:List T
abbrev Res (V T α:Type):Type:=(Int×Int×Rn T)⊕(V×Rn T)⊕(α×List V×Rn T)
abbrev Res.stop {V T α:Type} (e c:Int) (r:Rn T):Res V T α:=.inl (e,c,r)
abbrev Res.ret {V T α:Type} (v:V) (r:Rn T):Res V T α:=.inr (.inl (v,r))
abbrev Res.ok {V T α:Type} (a:α) (l:List V) (r:Rn T):Res V T α:=.inr (.inr (a,l,r))
def Res.bind {V T α β:Type} (x:Res V T α) (f:α->List V->Rn T->Res V T β):Res V T β :=
 match x with
 | .inl e=>.inl e
 | .inr (.inl e)=>.inr (.inl e)
 | .inr (.inr (a,l,r))=>f a l r
section
variable {V T:Type} (O:Vals V T) (prog:List Pt) (lim:Nat)
def tick {α:Type} (l:List V) (r:Rn T) (f:List V->Rn T->Res V T α):Res V T α:=if r.st=lim then Res.stop 0 0 r else f l { r with st:=r.st+1 }
def need {α:Type} (c:Int) (r:Rn T) (x:Res V T α):Res V T α:=if c=0 then x else Res.stop 2 c r
def allX {β:Type} (g:Pt->List V->Rn T->Res V T β):List Pt->List V->Rn T->Res V T (List β)
 | [],l,r=>Res.ok [] l r
 | p::ps,l,r=>(g p l r).bind fun v l r=>(allX g ps l r).bind fun vs l r=>Res.ok (v::vs) l r
def tabAt (r:Rn T) (a:V):T:=r.tb[(O.int a).toNat]?.getD O.none
def a1q (op:Int) (a b:V) (l:List V) (r:Rn T):Res V T V:=need (O.op op a b).2 r (Res.ok (O.op op a b).1 l r)
def exX (E:Pt->List V->Rn T->Res V T V) (q:Option Pt) (l:List V) (r:Rn T):Res V T V:=match q with|some q=>E q l r|none=>Res.stop 2 0 r
def blockX (S:Pt->List V->Rn T->Res V T V) (q:Option Pt) (l:List V) (r:Rn T):Res V T (List V):=match q with|some q=>allX S q.kids l r|none=>Res.ok [] l r
def b4r (g:Option Pt) (as:List V):List V:=as.take ((g.map fun g=>g.kids.length-1).getD 0)++List.replicate (30-(as.take ((g.map fun g=>g.kids.length-1).getD 0)).length) O.nil
def a3c {α:Type} (l:List V) (x:Res V T α):Res V T V:=match x with
 | .inl e=>.inl e
 | .inr (.inl (v,r))=>Res.ok v l { r with calls:=r.calls-1 }
 | .inr (.inr (_,_,r))=>Res.ok O.nil l { r with calls:=r.calls-1 }
def Y (E S W:Pt->List V->Rn T->Res V T V) (C:Pt->Int->Int->List V->Rn T->Res V T V) (tag:Nat) (p:Pt) (i j:Int) (l:List V) (r:Rn T):Res V T V :=
 if tag=0 then
  tick lim l r fun l r =>
   if p.k=13 then Res.ok (O.num p.n) l r
   else if p.k=14 then Res.ok (O.txt p.t) l r
   else if p.k=16\/p.k=17 then Res.ok (O.boo (p.k == 16)) l r
   else if p.k=18 then Res.ok (if p.sl<30 then l[p.sl.toNat]?.getD O.nil else O.fn (p.sl-30)) l r
   else if p.k=19 then need (if r.tb.length=200 then 1 else 0) r (Res.ok (O.tab r.tb.length) l { r with tb:=r.tb++[O.none] })
   else if p.k=20 then (exX E p.kids[0]? l r).bind fun a l r=>(exX E p.kids[1]? l r).bind fun k l r=>need (if O.kind a=4 then 0 else 3) r (Res.ok (O.get (tabAt O r a) k) l r)
   else if p.k=21 then (exX E p.kids[0]? l r).bind fun a l r=>(allX E p.kids.tail l r).bind fun as l r =>
    need (if O.kind a=5 then 0 else 3) r (need (if r.calls=40 then 1 else 0) r
     (a3c O l (blockX S ((prog[(O.int a).toNat]?).bind fun g=>g.kids.getLast?) (b4r O (prog[(O.int a).toNat]?) as) { r with calls:=r.calls+1 })))
   else if p.k=22\/p.k=23\/p.k=24 then (exX E p.kids[0]? l r).bind fun a l r =>
    if p.k=23 then a1q O 10 a O.nil l r
    else if p.k=24 then a1q O 11 a O.nil l r
    else if p.n=20\/p.n=21 then (if O.truth a=(p.n == 21) then Res.ok a l r else exX E p.kids[1]? l r)
    else (exX E p.kids[1]? l r).bind fun b l r=>a1q O p.n a b l r
   else if p.k=25 then (exX E p.kids[0]? l r).bind fun a l r=>if O.kind a=3 then Res.ok (O.num (O.size a)) l r else need (if O.kind a=4 then 0 else 3) r (Res.ok (O.num (O.len (tabAt O r a))) l r)
   else if p.k=26 then (exX E p.kids[0]? l r).bind fun a l r=>(exX E p.kids[1]? l r).bind fun k l r=>need (if O.kind a=4 then 0 else 3) r (need (O.next (tabAt O r a) k).2 r (Res.ok (O.next (tabAt O r a) k).1 l r))
   else Res.ok O.nil l r
 else if tag=1 then
  tick lim l r fun l r =>
   if p.k=5 then (exX E p.kids[0]? l r).bind fun v l r=>Res.ok O.nil (l.set p.sl.toNat v) r
   else if p.k=6 then
    (
     match p.kids[0]? with
     | some q=>if q.k=18 then (exX E p.kids[1]? l r).bind fun v l r=>Res.ok O.nil (l.set q.sl.toNat v) r
      else (exX E q.kids[0]? l r).bind fun a l r=>(exX E q.kids[1]? l r).bind fun k l r=>(exX E p.kids[1]? l r).bind fun v l r =>
       need (if O.kind a=4 then 0 else 3) r (need (O.set (tabAt O r a) k v).2 r (Res.ok O.nil l { r with tb:=r.tb.set (O.int a).toNat (O.set (tabAt O r a) k v).1 }))
     | none=>Res.ok O.nil l r)
   else if p.k=7 then exX E p.kids[0]? l r
   else if p.k=8 then (exX E p.kids[0]? l r).bind fun c l r=>(blockX S (if O.truth c then p.kids[1]? else p.kids[2]?) l r).bind fun _ l r=>Res.ok O.nil l r
   else if p.k=9 then W p l r
   else if p.k=10 then (exX E p.kids[0]? l r).bind fun a l r=>(exX E p.kids[1]? l r).bind fun b l r =>
    need (if O.kind a=2/\O.kind b=2 then 0 else 3) r (if O.int b<O.int a then Res.ok O.nil l r else C p (O.int a) (O.int b) l r)
   else if p.k=11 then (exX E p.kids[0]? l r).bind fun v _ r=>Res.ret v r
   else if p.k=12 then (exX E p.kids[0]? l r).bind fun v l r=>Res.ok O.nil l { r with out:=r.out++[O.text v] }
   else Res.ok O.nil l r
 else if tag=2 then
  (exX E p.kids[0]? l r).bind fun c l r=>if O.truth c then (blockX S p.kids.getLast? l r).bind fun _ l r=>W p l r else Res.ok O.nil l r
 else
  tick lim l r fun l r=>(blockX S p.kids.getLast? (l.set p.sl.toNat (O.num i)) r).bind fun _ l r=>if i=j then Res.ok O.nil l r else C p (i+1) j l r
def X:Nat->Nat->Pt->Int->Int->List V->Rn T->Res V T V
 | 0,_,_,_,_,_,r=>Res.stop 0 0 { r with st:=max r.st lim }
 | f+1,tag,p,i,j,l,r=>Y O prog lim (fun q=>X f 0 q 0 0) (fun q=>X f 1 q 0 0) (fun q=>X f 2 q 0 0) (fun q=>X f 3 q) tag p i j l r
end
section
variable {V T α β:Type}
def rnOf:Res V T α->Rn T
 | .inl (_,_,r)=>r
 | .inr (.inl (_,r))=>r
 | .inr (.inr (_,_,r))=>r
def Gr (lim:Nat) (r:Rn T) (x:Res V T α):Prop:=r.st<=(rnOf x).st/\r.out <+: (rnOf x).out/\(r.st<=lim->(rnOf x).st<=lim)
theorem Gr.stop{lim:Nat}{r:Rn T}{e:Int} : Gr lim r (Res.stop e c r:Res V T α):=⟨Nat.le_refl _,List.prefix_refl _,id⟩
theorem Gr.ret{lim:Nat}{r:Rn T}{v:V} : Gr lim r (Res.ret v r:Res V T α):=⟨Nat.le_refl _,List.prefix_refl _,id⟩
theorem Gr.ok{lim:Nat}{r r':Rn T}{a:α}{l:List V}(h1:r'.st=r.st)(h2:r.out <+: r'.out):Gr lim r (Res.ok a l r'):=⟨by rw[show rnOf (Res.ok a l r')=r' from rfl,h1];exact Nat.le_refl _,h2,fun h=>by rw[show rnOf (Res.ok a l r')=r' from rfl,h1];exact h⟩
theorem Gr.bind{lim:Nat}{r:Rn T}{x:Res V T α}{f:α->List V->Rn T->Res V T β}(h:Gr lim r x)(hf:∀a l z,Gr lim z (f a l z)):Gr lim r (x.bind f):=by
 obtain⟨h1,h2,h3⟩:=h
 match x with
 | .inl (e,c,z)=>exact⟨h1,h2,h3⟩
 | .inr (.inl (v,z))=>exact⟨h1,h2,h3⟩
 | .inr (.inr (a,l,z)) =>
  obtain⟨g1,g2,y⟩:=hf a l z
  exact⟨Nat.le_trans h1 g1,h2.trans g2,fun h=>y (h3 h)⟩
theorem Gr.tick{lim:Nat}{r:Rn T}{l:List V}{f:List V->Rn T->Res V T α}(hf:∀l z,Gr lim z (f l z)):Gr lim r (tick lim l r f):=by
 unfold Go.Proofs.YtfbpdbndejefdaaGreatDoor.V.tick
 by_cases h:r.st=lim
 ·rw[if_pos h];exact Gr.stop
 ·rw[if_neg h]
  obtain⟨g1,g2,y⟩:=hf l { r with st:=r.st+1 }
  exact⟨Nat.le_trans (Nat.le_succ _) g1,g2,fun v=>y (by show r.st+1<=lim;omega)⟩
theorem Gr.need{lim:Nat}{r:Rn T}{x:Res V T α}(h:Gr lim r x):Gr lim r (need c r x):=by
 unfold Go.Proofs.YtfbpdbndejefdaaGreatDoor.V.need
 by_cases hc:c=0
 ·rw[if_pos hc];exact h
 ·rw[if_neg hc];exact Gr.stop
theorem Gr.ite{lim:Nat}{r:Rn T}{c:Prop}[Decidable c]{x y:Res V T α}(hx:Gr lim r x)(hy:Gr lim r y):Gr lim r (if c then x else y):=by
 by_cases h:c
 ·rw[if_pos h];exact hx
 ·rw[if_neg h];exact hy
theorem Gr.all{lim:Nat}{g:Pt->List V->Rn T->Res V T β}(hg:∀p l r,Gr lim r (g p l r)):∀(z:List Pt) (l:List V) (r:Rn T),Gr lim r (allX g z l r)
 | [],_,_=>Gr.ok rfl (List.prefix_refl _)
 | p::z,l,r=>(hg p l r).bind fun _ l r=>(Gr.all hg z l r).bind fun _ _ _=>Gr.ok rfl (List.prefix_refl _)
theorem Gr.ex{lim:Nat}{E:Pt->List V->Rn T->Res V T V}(hE:∀p l r,Gr lim r (E p l r))(q:Option Pt)(l:List V)(r:Rn T):Gr lim r (exX E q l r):=by
 cases q
 ·exact Gr.stop
 ·exact hE _ l r
theorem Gr.block{lim:Nat}{S:Pt->List V->Rn T->Res V T V}(hS:∀p l r,Gr lim r (S p l r))(q:Option Pt)(l:List V)(r:Rn T):Gr lim r (blockX S q l r):=by
 cases q
 ·exact Gr.ok rfl (List.prefix_refl _)
 ·exact Gr.all hS _ l r
theorem Gr.back{lim:Nat}{O:Vals V T}{l:List V}{r r0:Rn T}{x:Res V T α}(h1:r0.st=r.st)(h2:r0.out=r.out)(h:Gr lim r0 x):Gr lim r (a3c O l x):=by
 obtain⟨g1,g2,z⟩:=h
 rw[h1]at g1 z
 rw[h2]at g2
 match x with
 | .inl (e,c,r')=>exact⟨g1,g2,z⟩
 | .inr (.inl (v,r'))=>exact⟨g1,g2,z⟩
 | .inr (.inr (a,l,r'))=>exact⟨g1,g2,z⟩
theorem Gr.y{lim:Nat}{O:Vals V T}{prog:List Pt}{E S W:Pt->List V->Rn T->Res V T V}{C:Pt->Int->Int->List V->Rn T->Res V T V}(hE:∀p l r,Gr lim r (E p l r))(hS:∀p l r,Gr lim r (S p l r))(hW:∀p l r,Gr lim r (W p l r))(hC:∀p i j l r,Gr lim r (C p i j l r))(tag:Nat)(p:Pt)(i j:Int)(l:List V)(r:Rn T):Gr lim r (Y O prog lim E S W C tag p i j l r):=by
 unfold Y a1q
 repeat' (first
  | with_reducible exact Gr.ok rfl (List.prefix_refl _)
  | with_reducible exact Gr.ret
  | with_reducible exact hW _ _ _
  | with_reducible exact hC _ _ _ _ _
  | with_reducible exact Gr.ex hE _ _ _
  | with_reducible exact Gr.block hS _ _ _
  | with_reducible exact Gr.all hE _ _ _
  | with_reducible exact Gr.ok rfl (List.prefix_append _ _)
  | with_reducible refine Gr.tick (fun l r=>?_)
  | with_reducible refine Gr.bind ?_ (fun _ l r=>?_)
  | with_reducible refine Gr.need ?_
  | (refine Gr.back ?_ ?_ (Gr.block hS _ _ _) <;> rfl)
  | with_reducible refine Gr.ite ?_ ?_
  | split)
theorem grow{lim:Nat}{O:Vals V T}{prog:List Pt} : ∀(f z:Nat) (p:Pt) (i j:Int) (l:List V) (r:Rn T),Gr lim r (X O prog lim f z p i j l r)
 | 0,_,_,_,_,_,_=>⟨Nat.le_max_left _ _,List.prefix_refl _,fun h=>Nat.max_le.2 ⟨h,Nat.le_refl _⟩⟩
 | f+1,z,p,i,j,l,r=>Gr.y (fun q l r=>grow f 0 q 0 0 l r) (fun q l r=>grow f 1 q 0 0 l r) (fun q l r=>grow f 2 q 0 0 l r) (fun q i j l r=>grow f 3 q i j l r) z p i j l r
def Rl (lim:Nat) (x y:Res V T α):Prop:=x=y\/∃r,x=Res.stop 0 0 r/\r.st=lim/\r.st<=(rnOf y).st/\r.out <+: (rnOf y).out
theorem Rl.refl{lim:Nat}(x:Res V T α):Rl lim x x:=.inl rfl
theorem Rl.bind{lim:Nat}{x y:Res V T α}{f g:α->List V->Rn T->Res V T β}(h:Rl lim x y)(hx:(rnOf x).st<=lim)(hf:∀a l r,r.st<=lim->Rl lim (f a l r) (g a l r))(hg:∀a l r,Gr lim' r (g a l r)):Rl lim (x.bind f) (y.bind g):=by
 rcases h with rfl|⟨r,rfl,h1,h2,h3⟩
 ·match x with
  | .inl e=>exact .inl rfl
  | .inr (.inl e)=>exact .inl rfl
  | .inr (.inr (a,l,r))=>exact hf a l r hx
 ·refine .inr ⟨r,rfl,h1,?_⟩
  match y with
  | .inl (e,c,r')=>exact⟨h2,h3⟩
  | .inr (.inl (v,r'))=>exact⟨h2,h3⟩
  | .inr (.inr (a,l,r')) =>
   obtain⟨g1,g2,_⟩:=hg a l r'
   exact⟨Nat.le_trans h2 g1,h3.trans g2⟩
theorem Rl.tick{lim:Nat}(hl:lim<=lim'){r:Rn T}(hr:r.st<=lim){l:List V}{f g:List V->Rn T->Res V T α}(hf:∀l r,r.st<=lim->Rl lim (f l r) (g l r))(hg:∀l r,Gr lim' r (g l r)):Rl lim (tick lim l r f) (tick lim' l r g):=by
 by_cases h:r.st=lim
 ·obtain⟨g1,g2,_⟩:=Gr.tick (lim:=lim') (r:=r) (l:=l) hg
  exact .inr ⟨r,by unfold Go.Proofs.YtfbpdbndejefdaaGreatDoor.V.tick;rw[if_pos h],h,g1,g2⟩
 ·unfold Go.Proofs.YtfbpdbndejefdaaGreatDoor.V.tick
  rw[if_neg h,if_neg (by omega)]
  exact hf _ _ (by show r.st+1<=lim;omega)
theorem Rl.need{lim:Nat}{r:Rn T}{x y:Res V T α}(h:Rl lim x y):Rl lim (need c r x) (need c r y):=by
 unfold Go.Proofs.YtfbpdbndejefdaaGreatDoor.V.need
 by_cases hc:c=0
 ·rw[if_pos hc,if_pos hc];exact h
 ·rw[if_neg hc,if_neg hc];exact .inl rfl
theorem Rl.ite{lim:Nat}{c:Prop}[Decidable c]{x y x' y':Res V T α}(h:Rl lim x x')(h':Rl lim y y'):Rl lim (if c then x else y) (if c then x' else y'):=by
 by_cases hc:c
 ·rw[if_pos hc,if_pos hc];exact h
 ·rw[if_neg hc,if_neg hc];exact h'
structure Two (lim lim':Nat) (g g':Pt->List V->Rn T->Res V T β):Prop where
 rl:∀p l r,r.st<=lim->Rl lim (g p l r) (g' p l r)
 gr:∀p l r,Gr lim r (g p l r)
 gr':∀p l r,Gr lim' r (g' p l r)
theorem Two.all{lim:Nat}{g g':Pt->List V->Rn T->Res V T β}(h:Two lim lim' g g'):∀(z:List Pt) (l:List V) (r:Rn T),r.st<=lim->Rl lim (allX g z l r) (allX g' z l r)
 | [],_,_,_=>.inl rfl
 | p::z,l,r,hr=>(h.rl p l r hr).bind (lim':=lim') ((h.gr p l r).2.2 hr) (fun _ l r hr=>(h.all z l r hr).bind (lim':=lim') ((Gr.all h.gr z l r).2.2 hr) (fun _ _ _ _=>.inl rfl) (fun _ _ _=>Gr.ok rfl (List.prefix_refl _))) (fun _ l r=>(Gr.all h.gr' z l r).bind fun _ _ _=>Gr.ok rfl (List.prefix_refl _))
theorem Two.ex{lim:Nat}{E E':Pt->List V->Rn T->Res V T V}(h:Two lim lim' E E')(q:Option Pt)(l:List V)(r:Rn T)(hr:r.st<=lim):Rl lim (exX E q l r) (exX E' q l r):=by
 cases q
 ·exact .inl rfl
 ·exact h.rl _ l r hr
theorem Two.block{lim:Nat}{S S':Pt->List V->Rn T->Res V T V}(h:Two lim lim' S S')(q:Option Pt)(l:List V)(r:Rn T)(hr:r.st<=lim):Rl lim (blockX S q l r) (blockX S' q l r):=by
 cases q
 ·exact .inl rfl
 ·exact h.all _ l r hr
theorem Rl.back{lim:Nat}{O:Vals V T}{l:List V}{x y:Res V T α}(h:Rl lim x y):Rl lim (a3c O l x) (a3c O l y):=by
 rcases h with rfl|⟨r,rfl,h1,h2,h3⟩
 ·exact .inl rfl
 ·refine .inr ⟨r,rfl,h1,?_⟩
  match y with
  | .inl (e,c,r')=>exact⟨h2,h3⟩
  | .inr (.inl (v,r'))=>exact⟨h2,h3⟩
  | .inr (.inr (a,l,r'))=>exact⟨h2,h3⟩
theorem d0h{lim:Nat}{E E':Pt->List V->Rn T->Res V T V}(h:Two lim lim' E E'){q:Option Pt}{l:List V}{r:Rn T}(hr:r.st<=lim){f g:V->List V->Rn T->Res V T β}(hf:∀a l r,r.st<=lim->Rl lim (f a l r) (g a l r))(hg:∀a l r,Gr lim' r (g a l r)):Rl lim ((exX E q l r).bind f) ((exX E' q l r).bind g) :=
 (h.ex q l r hr).bind (lim':=lim') ((Gr.ex h.gr q l r).2.2 hr) hf hg
theorem b8h{lim:Nat}{S S':Pt->List V->Rn T->Res V T V}(h:Two lim lim' S S'){q:Option Pt}{l:List V}{r:Rn T}(hr:r.st<=lim){f g:List V->List V->Rn T->Res V T β}(hf:∀a l r,r.st<=lim->Rl lim (f a l r) (g a l r))(hg:∀a l r,Gr lim' r (g a l r)):Rl lim ((blockX S q l r).bind f) ((blockX S' q l r).bind g) :=
 (h.block q l r hr).bind (lim':=lim') ((Gr.block h.gr q l r).2.2 hr) hf hg
theorem c5g{lim:Nat}{E E':Pt->List V->Rn T->Res V T V}(h:Two lim lim' E E'){ps:List Pt}{l:List V}{r:Rn T}(hr:r.st<=lim){f g:List V->List V->Rn T->Res V T β}(hf:∀a l r,r.st<=lim->Rl lim (f a l r) (g a l r))(hg:∀a l r,Gr lim' r (g a l r)):Rl lim ((allX E ps l r).bind f) ((allX E' ps l r).bind g) :=
 (h.all ps l r hr).bind (lim':=lim') ((Gr.all h.gr ps l r).2.2 hr) hf hg
theorem Rl.y{lim:Nat}(hl:lim<=lim'){O:Vals V T}{prog:List Pt}{E S W E' S' W':Pt->List V->Rn T->Res V T V}{C C':Pt->Int->Int->List V->Rn T->Res V T V}(hE:Two lim lim' E E')(hS:Two lim lim' S S')(hW:Two lim lim' W W')(hC:∀p i j l r,r.st<=lim->Rl lim (C p i j l r) (C' p i j l r))(hC':∀p i j l r,Gr lim' r (C' p i j l r))(tag:Nat)(p:Pt)(i j:Int)(l:List V)(r:Rn T)(hr:r.st<=lim):Rl lim (Y O prog lim E S W C tag p i j l r) (Y O prog lim' E' S' W' C' tag p i j l r):=by
 unfold Y a1q
 repeat' (first
  | with_reducible exact Rl.refl _
  | with_reducible exact Gr.ok rfl (List.prefix_refl _)
  | with_reducible exact Gr.ret
  | with_reducible exact hW.rl _ _ _ (by assumption)
  | with_reducible exact hW.gr' _ _ _
  | with_reducible exact hC _ _ _ _ _ (by assumption)
  | with_reducible exact hC' _ _ _ _ _
  | with_reducible exact hE.ex _ _ _ (by assumption)
  | with_reducible exact Gr.ex hE.gr' _ _ _
  | with_reducible exact Gr.block hS.gr' _ _ _
  | with_reducible exact Gr.all hE.gr' _ _ _
  | with_reducible exact Gr.ok rfl (List.prefix_append _ _)
  | with_reducible refine Rl.tick hl (by assumption) (fun l r hr=>?_) (fun l r=>?_)
  | with_reducible refine d0h hE (by assumption) (fun _ l r hr=>?_) (fun _ l r=>?_)
  | with_reducible refine b8h hS (by assumption) (fun _ l r hr=>?_) (fun _ l r=>?_)
  | with_reducible refine c5g hE (by assumption) (fun _ l r hr=>?_) (fun _ l r=>?_)
  | with_reducible refine Rl.need ?_
  | with_reducible refine Rl.ite ?_ ?_
  | with_reducible refine Gr.bind ?_ (fun _ l r=>?_)
  | with_reducible refine Gr.need ?_
  | with_reducible refine Gr.ite ?_ ?_
  | (refine Rl.back (hS.block _ _ _ ?_);assumption)
  | (refine Gr.back ?_ ?_ (Gr.block hS.gr' _ _ _) <;> rfl)
  | split)
theorem longer{lim lim':Nat}(hl:lim<=lim'){O:Vals V T}{prog:List Pt} : ∀(f z:Nat) (p:Pt) (i j:Int) (l:List V) (r:Rn T),r.st<=lim->Rl lim (X O prog lim f z p i j l r) (X O prog lim' f z p i j l r)
 | 0,_,_,_,_,_,r,hr=>.inr ⟨_,rfl,Nat.max_eq_right hr,by show max r.st lim<=max r.st lim';omega,List.prefix_refl _⟩
 | f+1,z,p,i,j,l,r,hr =>
  have v (t:Nat):Two lim lim' (fun q=>X O prog lim f t q 0 0) (fun q=>X O prog lim' f t q 0 0):=⟨fun q l r hr=>longer hl f t q 0 0 l r hr,fun q l r=>grow f t q 0 0 l r,fun q l r=>grow f t q 0 0 l r⟩
  Rl.y hl (v 0) (v 1) (v 2) (fun q i j l r hr=>longer hl f 3 q i j l r hr) (fun q i j l r=>grow f 3 q i j l r) z p i j l r hr
end
end Go.Proofs.YtfbpdbndejefdaaGreatDoor.V
