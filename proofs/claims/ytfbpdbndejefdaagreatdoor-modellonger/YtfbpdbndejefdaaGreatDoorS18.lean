/- Of programs that may be, in plain words: what each name is, or the first fault. -/
import Derived.Test.YtfbpdbndejefdaaGreatDoorS12
namespace Go.Proofs.YtfbpdbndejefdaaGreatDoor
open Go
set_option maxRecDepth 100000
set_option maxHeartbeats 8000000
set_option linter.all false
variable {s t:List UInt8} {fx:Bool} {a:Nat} {fs:List (List UInt8)} {k:Int} {ks:List Nd}
structure Lc where
 nm:List UInt8
 fx:Bool
structure Cs where
 sl:List Int
 bl:List (List Lc)
abbrev CR:Type:=Except (Int×Nat) Cs
def sumL (bl:List (List Lc)):Nat:=(bl.map List.length).sum
def Cs.live (c:Cs):Nat:=sumL c.bl
def Cs.enter (c:Cs):Cs:={ c with sl:=c.sl++[-1] }
def Cs.begin (c:Cs):Cs:={ c with bl:=[]::c.bl }
def Cs.close (c:Cs):Cs:={ c with bl:=c.bl.tail }
def Cs.put (c:Cs) (a:Nat) (v:Int):Cs:={ c with sl:=c.sl.set a v }
def findL (s:List UInt8):List (List Lc)->Option (Nat×Bool)
 | []=>none
 | b::r=>match b.findIdx? (fun x=>x.nm == s) with
  | some i=>some (sumL r+i,(b[i]?.map Lc.fx).getD false)
  | none=>findL s r
def funI (fs:List (List UInt8)) (s:List UInt8):Option Nat:=fs.findIdx? (fun x=>x == s)
def declareC (s:List UInt8) (fx:Bool) (a:Nat) (c:Cs):CR :=
 match c.bl with
 | []=>.ok c
 | b::r=>if b.any (fun x=>x.nm == s) then .error (5,a) else if 30<=c.live then .error (1,a) else .ok ⟨c.sl.set a c.live,(b++[⟨s,fx⟩])::r⟩
def a6n (fs:List (List UInt8)) (s:List UInt8) (a:Nat) (c:Cs):CR :=
 match findL s c.bl with
 | some p=>.ok (c.put a p.1)
 | none=>match funI fs s with
  | some j=>.ok (c.put a (30+j))
  | none=>.error (4,a)
def setB (p:Option Nd) (c:Cs):Bool :=
 match p with
 | none=>true
 | some x=>if x.k=18 then (match findL x.t c.bl with|some q=>!q.2|none=>false) else true
def actC (fs:List (List UInt8)) (k:Int) (t:List UInt8) (ks:List Nd) (a:Nat) (c:Cs):CR :=
 if k=3\/k=5 then declareC t false a c
 else if k=18 then a6n fs t a c
 else if k=6 then (if setB ks.head? c then .ok c else .error (3,a))
 else if k=21 then (if 6<ks.length then .error (1,a) else .ok c)
 else .ok c
def visC (fs:List (List UInt8)):Bool->Nd->Cs->CR
 | f,⟨k,t,_,ks⟩,c =>
  if k=4 then (if f then go k t 0 0 ks c.enter else (go k t 0 0 ks c.begin.enter).map Cs.close)
  else (go k t c.sl.length 0 ks c.enter).bind fun c'=>if k=10 then .ok c' else actC fs k t ks c.sl.length c'
where go (k:Int) (t:List UInt8) (a:Nat):Nat->List Nd->Cs->CR
 | _,[],c=>.ok c
 | i,x::l,c=>(if k=10/\i=2 then (declareC t true a c.begin).bind fun c'=>(visC fs true x c').map Cs.close else visC fs false x c).bind (go k t a (i+1) l)
def a6f (fs:List (List UInt8)):List Nd->Cs->CR
 | [],c=>.ok c
 | [z],c=>visC fs true z c
 | x::y::l,c=>(visC fs false x c).bind (a6f fs (y::l))
def c1w (fs:List (List UInt8)) (i:Nat) (s:List UInt8):Bool:=match funI fs s with|some j=>decide (j<i)|none=>false
def funC (fs:List (List UInt8)) (i:Nat) (n:Nd) (c:Cs):CR :=
 if c1w fs i n.t then .error (5,c.sl.length)
 else if 12<=i\/6<n.kids.length then .error (1,c.sl.length)
 else (a6f fs n.kids c.enter.begin).map Cs.close
def a5m (fs:List (List UInt8)):Nat->List Nd->Cs->CR
 | _,[],c=>.ok c
 | i,x::l,c=>(funC fs i x c).bind (a5m fs (i+1) l)
abbrev W.main_:List UInt8:=[109,97,105,110]
def b1b (x:Option Nd):Bool:=match x with|some x=>decide (1<x.kids.length)|none=>false
def a7k (n:Nd):Except (Int×Nat) (List Int) :=
 let fs:=n.kids.map Nd.t
 match a5m fs 0 n.kids ⟨[-1],[]⟩ with
 | .error e=>.error e
 | .ok c=>match funI fs W.main_ with
  | none=>.error (4,0)
  | some j=>if b1b n.kids[j]? then .error (6,0) else .ok c.sl
theorem a1o(b:List Lc)(r:List (List Lc)):sumL (b::r)=b.length+sumL r:=by simp[sumL]
theorem a4w{c c':Cs}(h:declareC s fx a c=.ok c'):c'.sl.length=c.sl.length/\c'.bl.length=c.bl.length/\c'.bl.tail=c.bl.tail:=by
 unfold declareC at h
 split at h
 ·cases h;simp
 ·rename_i b r e
  split at h
  ·cases h
  ·split at h
   ·cases h
   ·cases h;simp[e]
theorem a9a{c c':Cs}(h:a6n fs s a c=.ok c'):c'.sl.length=c.sl.length/\c'.bl=c.bl:=by
 unfold a6n at h
 split at h
 ·cases h;simp[Cs.put]
 ·split at h
  ·cases h;simp[Cs.put]
  ·cases h
theorem d1g{c c':Cs}(h:actC fs k t ks a c=.ok c'):c'.sl.length=c.sl.length/\c'.bl.length=c.bl.length/\c'.bl.tail=c.bl.tail:=by
 unfold actC at h
 split at h
 ·exact a4w h
 split at h
 ·have:=a9a h;simp[this]
 split at h
 ·split at h
  ·cases h;simp
  ·cases h
 split at h
 ·split at h
  ·cases h
  ·cases h;simp
 ·cases h;simp
def NB (bl:List (List Lc)):Prop:=∀b∈bl,(b.map Lc.nm).Nodup
theorem NB.declare{c c':Cs}(hN:NB c.bl)(h:declareC s fx a c=.ok c'):NB c'.bl:=by
 unfold declareC at h
 split at h
 ·cases h;exact hN
 ·rename_i b r e
  split at h
  ·cases h
  ·rename_i hany
   split at h
   ·cases h
   ·cases h
    intro d hd
    simp only[List.mem_cons]at hd
    rcases hd with rfl|hd
    ·rw[List.map_append]
     have p:=hN b (by rw[e];simp)
     rw[List.nodup_append]
     refine⟨p,by simp,fun x q y v=>?_⟩
     simp at v
     subst v
     intro o
     obtain⟨z,u,rfl⟩:=List.mem_map.1 q
     exact hany (List.any_eq_true.2 ⟨z,u,by simpa using o⟩)
    ·exact hN d (by rw[e];simp[hd])
theorem NB.begin{c:Cs}(hN:NB c.bl):NB c.begin.bl:=fun b z=>by
 simp only[Cs.begin,List.mem_cons]at z
 rcases z with rfl|z
 ·simp
 ·exact hN b z
structure Kp (c c':Cs):Prop where
 len:c'.bl.length=c.bl.length
 tail:c'.bl.tail=c.bl.tail
 sl:c.sl.length<=c'.sl.length
 nb:NB c.bl->NB c'.bl
theorem Kp.refl(c:Cs):Kp c c:=⟨rfl,rfl,Nat.le_refl _,id⟩
theorem Kp.trans{a b c:Cs}(h:Kp a b)(k:Kp b c):Kp a c:=⟨k.len.trans h.len,k.tail.trans h.tail,Nat.le_trans h.sl k.sl,fun x=>k.nb (h.nb x)⟩
theorem Kp.enter(c:Cs):Kp c c.enter:=⟨rfl,rfl,by simp[Cs.enter],id⟩
theorem Kp.block{c d:Cs}(h:Kp c.begin d):Kp c d.close/\d.close.bl=c.bl:=by
 have e:d.close.bl=c.bl:=by
  have:=h.tail
  simpa[Cs.begin,Cs.close]using this
 exact⟨⟨by rw[e],by rw[e],by have:=h.sl;simpa[Cs.begin,Cs.close]using this,fun hn=>by rw[e];exact hn⟩,e⟩
theorem Kp.declare{c c':Cs}(h:declareC s fx a c=.ok c'):Kp c c':=by
 obtain⟨h1,h2,h3⟩:=a4w h
 exact⟨h2,h3,by omega,fun hn=>NB.declare hn h⟩
theorem Kp.name{c c':Cs}(h:a6n fs s a c=.ok c'):Kp c c':=by
 obtain⟨h1,h2⟩:=a9a h
 exact⟨by rw[h2],by rw[h2],by omega,fun hn=>by rw[h2];exact hn⟩
theorem Kp.act{c c':Cs}(h:actC fs k t ks a c=.ok c'):Kp c c':=by
 unfold actC at h
 split at h
 ·exact Kp.declare h
 split at h
 ·exact Kp.name h
 split at h
 ·split at h
  ·cases h;exact Kp.refl _
  ·cases h
 split at h
 ·split at h
  ·cases h
  ·cases h;exact Kp.refl _
 ·cases h;exact Kp.refl _
theorem a1h{x:CR}{f:Cs->CR}{c:Cs}(h:x.bind f=.ok c):∃d,x=.ok d/\f d=.ok c:=by
 cases x with
 | error e=>cases h
 | ok d=>exact⟨d,rfl,h⟩
theorem a5n{x:CR}{f:Cs->Cs}{c:Cs}(h:x.map f=.ok c):∃d,x=.ok d/\f d=c:=by
 cases x with
 | error e=>cases h
 | ok d=>exact⟨d,rfl,by simpa[Except.map]using h⟩
theorem a4d(fs:List (List UInt8))(n:Nd):∀(f:Bool) (c z:Cs),visC fs f n c=.ok z->Kp c z:=by
 refine a6j (m:=fun n=>∀(f:Bool) (c z:Cs),visC fs f n c=.ok z->Kp c z) (fun k t o ks q f c z h=>?_) n
 have v:∀(k:Int) (t:List UInt8) (a:Nat) (l:List Nd),(∀y∈l,y∈ks)->∀(i:Nat) (c z:Cs),visC.go fs k t a i l c=.ok z->Kp c z:=by
  intro k t a l
  induction l with
  | nil=>intro _ i c z h;rw[visC.go]at h;cases h;exact Kp.refl _
  | cons x l ihl =>
   intro s i c z h
   rw[visC.go]at h
   obtain⟨d,h1,h2⟩:=a1h h
   have u:=q x (s x (by simp))
   have h3:=ihl (fun y p=>s y (by simp[p])) _ d z h2
   split at h1
   ·obtain⟨e,h4,h5⟩:=a1h h1
    obtain⟨g,j,rfl⟩:=a5n h5
    exact(((Kp.declare h4).trans (u _ _ _ j)).block.1).trans h3
   ·exact(u _ _ _ h1).trans h3
 rw[visC]at h
 split at h
 ·split at h
  ·exact(Kp.enter c).trans (v _ _ _ ks (fun _ h=>h) _ _ _ h)
  ·obtain⟨d,h1,rfl⟩:=a5n h
   exact(((Kp.enter c.begin).trans (v _ _ _ ks (fun _ h=>h) _ _ _ h1)).block).1
 ·obtain⟨d,h1,h2⟩:=a1h h
  have h3:=(Kp.enter c).trans (v _ _ _ ks (fun _ h=>h) _ _ _ h1)
  split at h2
  ·cases h2;exact h3
  ·exact h3.trans (Kp.act h2)
theorem b3q(fs:List (List UInt8)):∀(l:List Nd) (c v:Cs),a6f fs l c=.ok v->Kp c v
 | [],c,v,h=>by rw[a6f]at h;cases h;exact Kp.refl _
 | [z],c,v,h=>by rw[a6f]at h;exact a4d fs z _ _ _ h
 | x::y::l,c,v,h=>by
  rw[a6f]at h
  obtain⟨d,h1,h2⟩:=a1h h
  exact(a4d fs x _ _ _ h1).trans (b3q fs (y::l) d v h2)
theorem b6u(fs:List (List UInt8))(i:Nat)(n:Nd)(c c':Cs)(h:funC fs i n c=.ok c'):Kp c c':=by
 unfold funC at h
 split at h
 ·cases h
 split at h
 ·cases h
 ·obtain⟨d,h1,rfl⟩:=a5n h
  exact(Kp.enter c).trans ((b3q fs _ _ _ h1).block.1)
theorem b3r(fs:List (List UInt8))(t:List UInt8)(o:Int)(ks:List Nd)(c:Cs):visC fs false ⟨4,t,o,ks⟩ c=(visC fs true ⟨4,t,o,ks⟩ c.begin).map Cs.close:=by
 rw[visC,visC]
 rfl
def Lv (c:Cs):Prop:=c.live<=30
theorem Lv.declare{c c':Cs}(h:declareC s fx a c=.ok c')(hc:Lv c):Lv c':=by
 unfold declareC at h
 split at h
 ·cases h;exact hc
 ·rename_i b r e
  split at h
  ·cases h
  ·split at h
   ·cases h
   ·cases h
    unfold Lv Cs.live at *
    rw[e,a1o]at *
    simp
    omega
def endC (n:Nd) (R:CR):Except (Int×Nat) (List Int) :=
 match R with
 | .error e=>.error e
 | .ok c=>match funI (n.kids.map Nd.t) W.main_ with
  | none=>.error (4,0)
  | some j=>if b1b n.kids[j]? then .error (6,0) else .ok c.sl
theorem c6h(n:Nd):a7k n=endC n (a5m (n.kids.map Nd.t) 0 n.kids ⟨[-1],[]⟩):=rfl
theorem c1x(n:Nd)(c:Cs)(h:funI (n.kids.map Nd.t) W.main_=none):endC n (.ok c)=.error (4,0):=by simp only[endC,h]
theorem c1y(n:Nd)(c:Cs)(j:Nat)(h:funI (n.kids.map Nd.t) W.main_=some j):endC n (.ok c)=if b1b n.kids[j]? then .error (6,0) else .ok c.sl:=by simp only[endC,h]
def Ec (x:CR):Prop:=∀e,x=.error e->e.1≠0
theorem Ec.ok(c:Cs):Ec (.ok c):=fun e h=>by cases h
theorem Ec.er(h:k≠0):Ec (.error (k,a)):=fun e z=>by cases z;exact h
theorem Ec.bind{x:CR}{f:Cs->CR}(hx:Ec x)(hf:∀c,Ec (f c)):Ec (x.bind f):=by
 cases x with
 | error e=>exact fun z h=>hx z h
 | ok c=>exact hf c
theorem Ec.map{x:CR}{f:Cs->Cs}(hx:Ec x):Ec (x.map f):=by
 cases x with
 | error e =>
  intro z h
  simp only[Except.map]at h
  cases h
  exact hx e rfl
 | ok c=>intro z h;simp only[Except.map]at h;cases h
theorem b1c(s:List UInt8)(fx:Bool)(a:Nat)(c:Cs):Ec (declareC s fx a c):=by
 unfold declareC
 split
 ·exact Ec.ok _
 ·split
  ·exact Ec.er (by decide)
  ·split
   ·exact Ec.er (by decide)
   ·exact Ec.ok _
theorem d5v(fs:List (List UInt8))(k:Int)(t:List UInt8)(ks:List Nd)(a:Nat)(c:Cs):Ec (actC fs k t ks a c):=by
 unfold actC
 split
 ·exact b1c _ _ _ _
 split
 ·unfold a6n
  split
  ·exact Ec.ok _
  ·split
   ·exact Ec.ok _
   ·exact Ec.er (by decide)
 split
 ·split
  ·exact Ec.ok _
  ·exact Ec.er (by decide)
 split
 ·split
  ·exact Ec.er (by decide)
  ·exact Ec.ok _
 ·exact Ec.ok _
theorem c9m(fs:List (List UInt8))(n:Nd):∀(f:Bool) (c:Cs),Ec (visC fs f n c):=by
 refine a6j (m:=fun n=>∀(f:Bool) (c:Cs),Ec (visC fs f n c)) (fun k t o ks u f c=>?_) n
 have z:∀(k:Int) (t:List UInt8) (a:Nat) (l:List Nd),(∀y∈l,y∈ks)->∀(i:Nat) (c:Cs),Ec (visC.go fs k t a i l c):=by
  intro k t a l
  induction l with
  | nil=>intro _ i c;rw[visC.go];exact Ec.ok _
  | cons x l ihl =>
   intro v i c
   rw[visC.go]
   refine Ec.bind ?_ (fun d=>ihl (fun y s=>v y (by simp[s])) _ d)
   split
   ·exact Ec.bind (b1c _ _ _ _) (fun d=>(u x (v x (by simp)) _ _).map)
   ·exact u x (v x (by simp)) _ _
 rw[visC]
 split
 ·split
  ·exact z _ _ _ ks (fun _ h=>h) _ _
  ·exact(z _ _ _ ks (fun _ h=>h) _ _).map
 ·refine Ec.bind (z _ _ _ ks (fun _ h=>h) _ _) (fun d=>?_)
  split
  ·exact Ec.ok _
  ·exact d5v _ _ _ _ _ _
theorem c1z(fs:List (List UInt8)):∀(l:List Nd) (c:Cs),Ec (a6f fs l c)
 | [],c=>by rw[a6f];exact Ec.ok _
 | [z],c=>by rw[a6f];exact c9m fs z _ _
 | x::y::l,c=>by rw[a6f];exact Ec.bind (c9m fs x _ _) (fun d=>c1z fs (y::l) d)
theorem d5w(fs:List (List UInt8))(i:Nat)(n:Nd)(c:Cs):Ec (funC fs i n c):=by
 unfold funC
 split
 ·exact Ec.er (by decide)
 split
 ·exact Ec.er (by decide)
 ·exact(c1z fs _ _).map
theorem c2a(fs:List (List UInt8)):∀(l:List Nd) (i:Nat) (c:Cs),Ec (a5m fs i l c)
 | [],i,c=>by rw[a5m];exact Ec.ok _
 | x::l,i,c=>by rw[a5m];exact Ec.bind (d5w fs i x c) (fun d=>c2a fs l (i+1) d)
theorem b3s{n:Nd}{cd:Int}(h:a7k n=.error (cd,a)):cd≠0:=by
 unfold a7k at h
 simp only at h
 split at h
 ·rename_i e he
  cases h
  exact c2a _ _ _ _ _ he
 ·split at h
  ·cases h;decide
  ·split at h
   ·cases h;decide
   ·cases h
def a5f (p:(Int×Nat)⊕Nd):(Int×Nat)⊕(Nd×List Int) :=
 match p with
 | .inl x=>.inl x
 | .inr n=>match a7k n with
  | .error e=>.inl e
  | .ok sl=>.inr (n,sl)
end Go.Proofs.YtfbpdbndejefdaaGreatDoor
