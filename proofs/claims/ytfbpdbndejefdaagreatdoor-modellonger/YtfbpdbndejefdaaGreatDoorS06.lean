/- What programs mean, in plain words: how much is enough. -/
import Derived.Test.YtfbpdbndejefdaaGreatDoorS01
import Derived.Test.YtfbpdbndejefdaaGreatDoorS02
namespace Go.Proofs.YtfbpdbndejefdaaGreatDoor.V
set_option maxRecDepth 100000
set_option maxHeartbeats 8000000
set_option linter.all false
variable {s lim k:Nat} {c b e:Int} {q:Option Pt} {prog:List Pt} {p:Pt}
section
variable {V T α β:Type}
theorem a9m{r:Rn T}{x x':Res V T α}{f g:α->List V->Rn T->Res V T β}(h:x=x')(hx:Gr lim r x)(h1:s<=r.st)(h2:r.st<=lim)(hf:∀a l z,s<=z.st->z.st<=lim->f a l z=g a l z):x.bind f=x'.bind g:=by
 subst h
 obtain⟨g1,_,y⟩:=hx
 match x with
 | .inl e=>rfl
 | .inr (.inl e)=>rfl
 | .inr (.inr (a,l,z))=>exact hf a l z (Nat.le_trans h1 g1) (y h2)
structure Ag (s lim:Nat) (g g':Pt->List V->Rn T->Res V T β):Prop where
 eq:∀p l r,s<=r.st->r.st<=lim->g p l r=g' p l r
 gr:∀p l r,Gr lim r (g p l r)
theorem Ag.all{g g':Pt->List V->Rn T->Res V T β}(h:Ag s lim g g'):∀(z:List Pt) (l:List V) (r:Rn T),s<=r.st->r.st<=lim->allX g z l r=allX g' z l r
 | [],_,_,_,_=>rfl
 | p::z,l,r,h1,h2=>a9m (h.eq p l r h1 h2) (h.gr p l r) h1 h2 fun _ l r h1 h2=>a9m (h.all z l r h1 h2) (Gr.all h.gr z l r) h1 h2 fun _ _ _ _ _=>rfl
theorem Ag.ex{E E':Pt->List V->Rn T->Res V T V}(h:Ag s lim E E')(q:Option Pt)(l:List V)(r:Rn T)(h1:s<=r.st)(h2:r.st<=lim):exX E q l r=exX E' q l r:=by
 cases q
 ·rfl
 ·exact h.eq _ l r h1 h2
theorem Ag.block{S S':Pt->List V->Rn T->Res V T V}(h:Ag s lim S S')(q:Option Pt)(l:List V)(r:Rn T)(h1:s<=r.st)(h2:r.st<=lim):blockX S q l r=blockX S' q l r:=by
 cases q
 ·rfl
 ·exact h.all _ l r h1 h2
theorem d0i{r:Rn T}(hr:r.st<=lim){l:List V}{f g:List V->Rn T->Res V T α}(hf:∀l z,r.st+1<=z.st->z.st<=lim->f l z=g l z):tick lim l r f=tick lim l r g:=by
 unfold tick
 by_cases h:r.st=lim
 ·rw[if_pos h,if_pos h]
 ·rw[if_neg h,if_neg h]
  exact hf _ _ (Nat.le_refl _) (by show r.st+1<=lim;omega)
theorem d0j{r:Rn T}{x y:Res V T α}(h:x=y):need c r x=need c r y:=by rw[h]
theorem c9d{c:Prop}[Decidable c]{x y x' y':Res V T α}(h:x=x')(h':y=y'):(if c then x else y)=if c then x' else y':=by rw[h,h']
theorem d9b{E E':Pt->List V->Rn T->Res V T V}(h:Ag s lim E E'){l:List V}{r:Rn T}(h1:s<=r.st)(h2:r.st<=lim){f g:V->List V->Rn T->Res V T β}(hf:∀a l z,s<=z.st->z.st<=lim->f a l z=g a l z):(exX E q l r).bind f=(exX E' q l r).bind g:=a9m (h.ex q l r h1 h2) (Gr.ex h.gr q l r) h1 h2 hf
theorem b6m{S S':Pt->List V->Rn T->Res V T V}(h:Ag s lim S S'){l:List V}{r:Rn T}(h1:s<=r.st)(h2:r.st<=lim){f g:List V->List V->Rn T->Res V T β}(hf:∀a l z,s<=z.st->z.st<=lim->f a l z=g a l z):(blockX S q l r).bind f=(blockX S' q l r).bind g:=a9m (h.block q l r h1 h2) (Gr.block h.gr q l r) h1 h2 hf
theorem d5d{E E':Pt->List V->Rn T->Res V T V}(h:Ag s lim E E'){ps:List Pt}{l:List V}{r:Rn T}(h1:s<=r.st)(h2:r.st<=lim){f g:List V->List V->Rn T->Res V T β}(hf:∀a l z,s<=z.st->z.st<=lim->f a l z=g a l z):(allX E ps l r).bind f=(allX E' ps l r).bind g:=a9m (h.all ps l r h1 h2) (Gr.all h.gr ps l r) h1 h2 hf
theorem d0k{O:Vals V T}{l:List V}{x y:Res V T α}(h:x=y):a3c O l x=a3c O l y:=by rw[h]
theorem y_eq{O:Vals V T}{E S W E' S' W':Pt->List V->Rn T->Res V T V}{C C':Pt->Int->Int->List V->Rn T->Res V T V}{tag:Nat}{i j:Int}{l:List V}{r:Rn T}(hr:r.st<=lim)(ht:tag≠2)(hE:Ag (r.st+1) lim E E')(hS:Ag (r.st+1) lim S S')(hW:∀p l z,r.st+1<=z.st->z.st<=lim->W p l z=W' p l z)(hC:∀p i j l z,r.st+1<=z.st->z.st<=lim->C p i j l z=C' p i j l z):Y O prog lim E S W C tag p i j l r=Y O prog lim E' S' W' C' tag p i j l r:=by
 unfold Y a1q
 rw[if_neg ht,if_neg ht]
 repeat' (first
  | with_reducible rfl
  | with_reducible exact hW _ _ _ (by assumption) (by assumption)
  | with_reducible exact hC _ _ _ _ _ (by assumption) (by assumption)
  | with_reducible exact hE.ex _ _ _ (by assumption) (by assumption)
  | with_reducible refine d0i hr (fun l r h1 h2=>?_)
  | with_reducible refine d9b hE (by assumption) (by assumption) (fun _ l r h1 h2=>?_)
  | with_reducible refine b6m hS (by assumption) (by assumption) (fun _ l r h1 h2=>?_)
  | with_reducible refine d5d hE (by assumption) (by assumption) (fun _ l r h1 h2=>?_)
  | with_reducible refine d0j ?_
  | with_reducible refine c9d ?_ ?_
  | (refine d0k (hS.block _ _ _ ?_ ?_) <;> assumption)
  | split)
theorem d5e{O:Vals V T}{E S W:Pt->List V->Rn T->Res V T V}{C:Pt->Int->Int->List V->Rn T->Res V T V}(hE:∀p l r,Gr lim r (E p l r))(hS:∀p l r,Gr lim r (S p l r))(p:Pt)(i j:Int)(l:List V)(r:Rn T):∃F:List V->Rn T->Res V T V,Y O prog lim E S W C 0 p i j l r=tick lim l r F/\∀l r,Gr lim r (F l r):=by
 unfold Y a1q
 refine⟨_,if_pos rfl,fun l r=>?_⟩
 repeat' (first
  | with_reducible exact Gr.ok rfl (List.prefix_refl _)
  | with_reducible exact Gr.ex hE _ _ _
  | with_reducible exact Gr.block hS _ _ _
  | with_reducible exact Gr.all hE _ _ _
  | with_reducible refine Gr.bind ?_ (fun _ l r=>?_)
  | with_reducible refine Gr.need ?_
  | (refine Gr.back ?_ ?_ (Gr.block hS _ _ _) <;> rfl)
  | with_reducible refine Gr.ite ?_ ?_
  | split)
theorem c0k{f:Nat}{O:Vals V T}{l:List V}{r:Rn T}{a:V}{l':List V}{r':Rn T}(h:X O prog lim f 0 p 0 0 l r=Res.ok a l' r'):r.st+1<=r'.st:=by
 cases f with
 | zero=>cases h
 | succ f =>
  obtain⟨F,y,z⟩:=d5e (O:=O) (prog:=prog) (W:=fun q=>X O prog lim f 2 q 0 0) (C:=fun q=>X O prog lim f 3 q) (fun q l r=>grow f 0 q 0 0 l r) (fun q l r=>grow f 1 q 0 0 l r) p 0 0 l r
  rw[show X O prog lim (f+1) 0 p 0 0 l r=_ from y]at h
  unfold tick at h
  by_cases hs:r.st=lim
  ·rw[if_pos hs]at h;cases h
  ·rw[if_neg hs]at h
   have:=(z l { r with st:=r.st+1 }).1
   rw[h]at this
   exact this
theorem b3d{lim:Nat}{O:Vals V T}{prog:List Pt} : ∀(f z:Nat) (p:Pt) (i j:Int) (l:List V) (r:Rn T),r.st<=lim->2*(lim-r.st)+(if z=2 then 2 else 1)<=f->X O prog lim f z p i j l r=X O prog lim (f+1) z p i j l r
 | 0,z,_,_,_,_,_,_,hf=>by split at hf <;> omega
 | f+1,z,p,i,j,l,r,hr,hf=>by
  have v (t s:Nat) (h:∀k,s<=k->k<=lim->2*(lim-k)+(if t=2 then 2 else 1)<=f):Ag s lim (fun q=>X O prog lim f t q 0 0) (fun q=>X O prog lim (f+1) t q 0 0):=⟨fun q l r h1 h2=>b3d f t q 0 0 l r h2 (h _ h1 h2),fun q l r=>grow f t q 0 0 l r⟩
  show Y O prog lim _ _ _ _ z p i j l r=Y O prog lim _ _ _ _ z p i j l r
  by_cases ht:z=2
  ·subst ht
   rw[if_pos rfl]at hf
   have n:=v 0 r.st (fun k h1 h2=>by rw[if_neg (by decide)];omega)
   have o:=v 1 (r.st+1) (fun k h1 h2=>by rw[if_neg (by decide)];omega)
   have u:=v 2 (r.st+1) (fun k h1 h2=>by rw[if_pos rfl];omega)
   unfold Y
   rw[if_neg (by decide),if_neg (by decide),if_pos rfl,if_neg (by decide),if_neg (by decide),if_pos rfl]
   rw[<- n.ex p.kids[0]? l r (Nat.le_refl _) hr]
   match hx:exX (fun q=>X O prog lim f 0 q 0 0) p.kids[0]? l r with
   | .inl e=>rfl
   | .inr (.inl e)=>rfl
   | .inr (.inr (c,l',y)) =>
    have h1:r.st+1<=y.st:=by
     match hk:p.kids[0]? with
     | none=>rw[hk]at hx;cases hx
     | some q=>rw[hk]at hx;exact c0k hx
    have h2:y.st<=lim:=by have:=(Gr.ex (fun q l r=>grow (O:=O) (prog:=prog) (lim:=lim) f 0 q 0 0 l r) p.kids[0]? l r).2.2 hr;rw[hx]at this;exact this
    show(if O.truth c=true then _ else _)=if O.truth c=true then _ else _
    exact c9d (b6m o h1 h2 fun _ l r h1 h2=>u.eq p l r h1 h2) rfl
  ·rw[if_neg ht]at hf
   refine y_eq hr ht (v 0 _ fun k h1 h2=>?_) (v 1 _ fun k h1 h2=>?_) (fun q l y h1 h2=>b3d f 2 q 0 0 l y h2 ?_) (fun q i j l y h1 h2=>b3d f 3 q i j l y h2 ?_)
   ·rw[if_neg (by decide)];omega
   ·rw[if_neg (by decide)];omega
   ·rw[if_pos rfl];omega
   ·rw[if_neg (by decide)];omega
end
open Go.RowKit (wrap64)
theorem b3e(x:Int):wrap64 (wrap64 x-1)=wrap64 (x-1):=by unfold wrap64;omega
theorem c0l{a:Int}(z:b≠0)(h:a.tmod b=0):a.tdiv b=a.fdiv b:=by
 have e:=Int.tmod_add_mul_tdiv a b
 rcases Int.lt_or_gt_of_ne z with z|z
 ·exact((Int.fdiv_fmod_unique' z).2 ⟨by rw[h]at e;exact e,by omega,by omega⟩).1.symm
 ·exact((Int.fdiv_fmod_unique z).2 ⟨by rw[h]at e;exact e,by omega,by omega⟩).1.symm
theorem b6n(a:Int)(z:b≠0)(h:0<=a):a.tmod b<b.natAbs:=by
 obtain⟨m,rfl⟩:=Int.eq_ofNat_of_zero_le h
 rcases Int.lt_or_gt_of_ne z with z|z
 ·have:=Int.tmod_lt_of_pos (m:Int) (show 0 < -b by omega)
  rw[Int.tmod_neg]at this
  omega
 ·have:=Int.tmod_lt_of_pos (m:Int) z
  omega
theorem a9n(a:Int)(hb:b≠0):(0<=a->0<=a.tmod b/\a.tmod b<b.natAbs)/\(a<0->a.tmod b<=0/\-(b.natAbs:Int)<a.tmod b):=by
 constructor
 ·intro h
  exact⟨Int.tmod_nonneg b h,b6n a hb h⟩
 ·intro h
  have h1:=Int.tmod_nonneg b (show 0<=-a by omega)
  have h2:=b6n (-a) hb (by omega)
  rw[Int.neg_tmod]at h1 h2
  omega
theorem b3f{a:Int}(z:b≠0)(h:(a<0)↔(b<0)):a.tdiv b=a.fdiv b:=by
 have e:=Int.tmod_add_mul_tdiv a b
 obtain⟨h1,h2⟩:=a9n a z
 rcases Int.lt_or_gt_of_ne z with z|z
 ·have:=h2 (by omega)
  exact((Int.fdiv_fmod_unique' z).2 ⟨e,by omega,by omega⟩).1.symm
 ·have:=h1 (by omega)
  exact((Int.fdiv_fmod_unique z).2 ⟨e,by omega,by omega⟩).1.symm
theorem b3g{a:Int}(z:b≠0)(hm:a.tmod b≠0)(h:¬((a<0)↔(b<0))):a.tdiv b-1=a.fdiv b:=by
 have e:=Int.tmod_add_mul_tdiv a b
 obtain⟨h1,h2⟩:=a9n a z
 have y:(a.tmod b+b)+b*(a.tdiv b-1)=a:=by rw[Int.mul_sub];omega
 rcases Int.lt_or_gt_of_ne z with z|z
 ·have:=h1 (by omega)
  exact((Int.fdiv_fmod_unique' z).2 ⟨y,by omega,by omega⟩).1.symm
 ·have:=h2 (by omega)
  exact((Int.fdiv_fmod_unique z).2 ⟨y,by omega,by omega⟩).1.symm
def divV (a b:Int):Int:=wrap64 (a.fdiv b)
def modV (a b:Int):Int:=wrap64 (a-wrap64 (divV a b*b))
section
variable {V T α β:Type}
def Ou (k:Nat) (r:Rn T) (x:Res V T α):Prop:=(rnOf x).out.length+r.st<=(rnOf x).st+r.out.length+k
theorem Ou.mono{r:Rn T}{x:Res V T α}(h:Ou 0 r x):Ou k r x:=Nat.le_trans h (Nat.le_add_right _ _)
theorem Ou.stop{r:Rn T} : Ou k r (Res.stop e c r:Res V T α):=by unfold Ou;simp only[rnOf];omega
theorem Ou.ret{r:Rn T}{v:V} : Ou k r (Res.ret v r:Res V T α):=by unfold Ou;simp only[rnOf];omega
theorem Ou.ok{r r':Rn T}{a:α}{l:List V}(h1:r'.st=r.st)(h2:r'.out.length<=r.out.length+k):Ou k r (Res.ok a l r'):=by unfold Ou;simp only[rnOf];omega
theorem Ou.bind{r:Rn T}{x:Res V T α}{f:α->List V->Rn T->Res V T β}(h:Ou 0 r x)(hf:∀a l z,Ou k z (f a l z)):Ou k r (x.bind f):=by
 unfold Ou at h
 match x with
 | .inl (e,c,z)=>unfold Ou;simp only[rnOf]at h;simp only[Res.bind,rnOf];omega
 | .inr (.inl (v,z))=>unfold Ou;simp only[rnOf]at h;simp only[Res.bind,rnOf];omega
 | .inr (.inr (a,l,z)) =>
  have:=hf a l z
  unfold Ou at this⊢
  simp only[rnOf]at h
  show(rnOf (f a l z)).out.length+_<=(rnOf (f a l z)).st+_+_
  omega
theorem Ou.tick{r:Rn T}{l:List V}{f:List V->Rn T->Res V T α}(hf:∀l z,Ou 1 z (f l z)):Ou 0 r (tick lim l r f):=by
 unfold Go.Proofs.YtfbpdbndejefdaaGreatDoor.V.tick
 by_cases h:r.st=lim
 ·rw[if_pos h];exact Ou.stop
 ·rw[if_neg h]
  have:=hf l { r with st:=r.st+1 }
  unfold Ou at this⊢
  simp only at this
  omega
theorem Ou.need{r:Rn T}{x:Res V T α}(h:Ou k r x):Ou k r (need c r x):=by
 unfold Go.Proofs.YtfbpdbndejefdaaGreatDoor.V.need
 by_cases hc:c=0
 ·rw[if_pos hc];exact h
 ·rw[if_neg hc];exact Ou.stop
theorem Ou.ite{r:Rn T}{c:Prop}[Decidable c]{x y:Res V T α}(hx:Ou k r x)(hy:Ou k r y):Ou k r (if c then x else y):=by
 by_cases h:c
 ·rw[if_pos h];exact hx
 ·rw[if_neg h];exact hy
theorem Ou.all{g:Pt->List V->Rn T->Res V T β}(hg:∀p l r,Ou 0 r (g p l r)):∀(z:List Pt) (l:List V) (r:Rn T),Ou 0 r (allX g z l r)
 | [],_,_=>Ou.ok rfl (Nat.le_refl _)
 | p::z,l,r=>(hg p l r).bind fun _ l r=>(Ou.all hg z l r).bind fun _ _ _=>Ou.ok rfl (Nat.le_refl _)
theorem Ou.ex{E:Pt->List V->Rn T->Res V T V}(hE:∀p l r,Ou 0 r (E p l r))(q:Option Pt)(l:List V)(r:Rn T):Ou k r (exX E q l r):=by
 cases q
 ·exact Ou.stop
 ·exact(hE _ l r).mono
theorem Ou.block{S:Pt->List V->Rn T->Res V T V}(hS:∀p l r,Ou 0 r (S p l r))(q:Option Pt)(l:List V)(r:Rn T):Ou k r (blockX S q l r):=by
 cases q
 ·exact Ou.ok rfl (Nat.le_add_right _ _)
 ·exact(Ou.all hS _ l r).mono
theorem Ou.back{O:Vals V T}{l:List V}{r r0:Rn T}{x:Res V T α}(h1:r0.st=r.st)(h2:r0.out=r.out)(h:Ou k r0 x):Ou k r (a3c O l x):=by
 unfold Ou at h⊢
 rw[h1,h2]at h
 match x with
 | .inl (e,c,r')=>exact h
 | .inr (.inl (v,r'))=>exact h
 | .inr (.inr (a,l,r'))=>exact h
theorem Ou.y{O:Vals V T}{E S W:Pt->List V->Rn T->Res V T V}{C:Pt->Int->Int->List V->Rn T->Res V T V}(hE:∀p l r,Ou 0 r (E p l r))(hS:∀p l r,Ou 0 r (S p l r))(hW:∀p l r,Ou 0 r (W p l r))(hC:∀p i j l r,Ou 0 r (C p i j l r))(tag:Nat)(p:Pt)(i j:Int)(l:List V)(r:Rn T):Ou 0 r (Y O prog lim E S W C tag p i j l r):=by
 unfold Y a1q
 repeat' (first
  | with_reducible exact Ou.ok rfl (Nat.le_add_right _ _)
  | with_reducible exact Ou.ret
  | with_reducible exact(hW _ _ _).mono
  | with_reducible exact(hC _ _ _ _ _).mono
  | with_reducible exact Ou.ex hE _ _ _
  | with_reducible exact Ou.block hS _ _ _
  | with_reducible exact Ou.all hE _ _ _
  | with_reducible exact Ou.ok rfl (by simp)
  | with_reducible refine Ou.tick (fun l r=>?_)
  | with_reducible refine Ou.bind ?_ (fun _ l r=>?_)
  | with_reducible refine Ou.need ?_
  | (refine Ou.back ?_ ?_ (Ou.block hS _ _ _) <;> rfl)
  | with_reducible refine Ou.ite ?_ ?_
  | split)
theorem oul{lim:Nat}{O:Vals V T}{prog:List Pt} : ∀(f z:Nat) (p:Pt) (i j:Int) (l:List V) (r:Rn T),Ou 0 r (X O prog lim f z p i j l r)
 | 0,_,_,_,_,_,r=>by show r.out.length+r.st<=max r.st lim+r.out.length+0;omega
 | f+1,z,p,i,j,l,r=>Ou.y (fun q l r=>oul f 0 q 0 0 l r) (fun q l r=>oul f 1 q 0 0 l r) (fun q l r=>oul f 2 q 0 0 l r) (fun q i j l r=>oul f 3 q i j l r) z p i j l r
def Ca (r:Rn T) (x:Res V T α):Prop:=match x with
 | .inl _=>True
 | .inr (.inl (_,r'))=>r'.calls=r.calls
 | .inr (.inr (_,_,r'))=>r'.calls=r.calls
theorem Ca.ret{r:Rn T}{v:V} : Ca r (Res.ret v r:Res V T α):=rfl
theorem Ca.ok{r r':Rn T}{a:α}{l:List V}(h:r'.calls=r.calls):Ca r (Res.ok a l r'):=h
theorem Ca.bind{r:Rn T}{x:Res V T α}{f:α->List V->Rn T->Res V T β}(h:Ca r x)(hf:∀a l z,z.calls=r.calls->Ca r (f a l z)):Ca r (x.bind f):=by
 match x with
 | .inl (e,c,z)=>exact trivial
 | .inr (.inl (v,z))=>exact h
 | .inr (.inr (a,l,z))=>exact hf a l z h
theorem Ca.re{r r':Rn T}{x:Res V T α}(h:Ca r x)(e:r.calls=r'.calls):Ca r' x:=by
 match x with
 | .inl (e,c,r')=>exact trivial
 | .inr (.inl (v,r'))=>exact Eq.trans h e
 | .inr (.inr (a,l,r'))=>exact Eq.trans h e
theorem Ca.tick{r:Rn T}{l:List V}{f:List V->Rn T->Res V T α}(hf:∀l z,z.calls=r.calls->Ca r (f l z)):Ca r (tick lim l r f):=by
 unfold Go.Proofs.YtfbpdbndejefdaaGreatDoor.V.tick
 by_cases h:r.st=lim
 ·rw[if_pos h];exact trivial
 ·rw[if_neg h];exact hf _ _ rfl
theorem Ca.need{r r':Rn T}{x:Res V T α}(h:Ca r x):Ca r (need c r' x):=by
 unfold Go.Proofs.YtfbpdbndejefdaaGreatDoor.V.need
 by_cases hc:c=0
 ·rw[if_pos hc];exact h
 ·rw[if_neg hc];exact trivial
theorem Ca.ite{r:Rn T}{c:Prop}[Decidable c]{x y:Res V T α}(hx:Ca r x)(hy:Ca r y):Ca r (if c then x else y):=by
 by_cases h:c
 ·rw[if_pos h];exact hx
 ·rw[if_neg h];exact hy
theorem Ca.all{g:Pt->List V->Rn T->Res V T β}(hg:∀p l r,Ca r (g p l r)):∀(z:List Pt) (l:List V) (r:Rn T),Ca r (allX g z l r)
 | [],_,_=>Ca.ok rfl
 | p::z,l,r=>(hg p l r).bind fun _ l y e=>((Ca.all hg z l y).re e).bind fun _ _ _ e=>Ca.ok e
theorem Ca.ex{E:Pt->List V->Rn T->Res V T V}(hE:∀p l r,Ca r (E p l r))(q:Option Pt)(l:List V)(r:Rn T):Ca r (exX E q l r):=by
 cases q
 ·exact trivial
 ·exact hE _ l r
theorem Ca.block{S:Pt->List V->Rn T->Res V T V}(hS:∀p l r,Ca r (S p l r))(q:Option Pt)(l:List V)(r:Rn T):Ca r (blockX S q l r):=by
 cases q
 ·exact Ca.ok rfl
 ·exact Ca.all hS _ l r
theorem Ca.back{O:Vals V T}{l:List V}{r r0:Rn T}{x:Res V T α}(h1:r0.calls=r.calls+1)(h:Ca r0 x):Ca r (a3c O l x):=by
 match x with
 | .inl (e,c,r')=>exact trivial
 | .inr (.inl (v,r'))=>show r'.calls-1=r.calls;have:r'.calls=r0.calls:=h;omega
 | .inr (.inr (a,l,r'))=>show r'.calls-1=r.calls;have:r'.calls=r0.calls:=h;omega
theorem Ca.y{O:Vals V T}{E S W:Pt->List V->Rn T->Res V T V}{C:Pt->Int->Int->List V->Rn T->Res V T V}(hE:∀p l r,Ca r (E p l r))(hS:∀p l r,Ca r (S p l r))(hW:∀p l r,Ca r (W p l r))(hC:∀p i j l r,Ca r (C p i j l r))(tag:Nat)(p:Pt)(i j:Int)(l:List V)(r:Rn T):Ca r (Y O prog lim E S W C tag p i j l r):=by
 unfold Y a1q
 repeat' (first
  | with_reducible exact trivial
  | with_reducible assumption
  | with_reducible exact Ca.ok (by assumption)
  | with_reducible exact Ca.ok rfl
  | (refine Ca.re ?_ (by assumption);exact Ca.ret)
  | (refine Ca.re (hW _ _ _) ?_;first|assumption|rfl)
  | (refine Ca.re (hC _ _ _ _ _) ?_;first|assumption|rfl)
  | (refine Ca.re (Ca.ex hE _ _ _) ?_;first|assumption|rfl)
  | (refine Ca.re (Ca.block hS _ _ _) ?_;first|assumption|rfl)
  | (refine Ca.re (Ca.all hE _ _ _) ?_;first|assumption|rfl)
  | with_reducible refine Ca.tick (fun l r h=>?_)
  | with_reducible refine Ca.bind ?_ (fun _ l r h=>?_)
  | with_reducible refine Ca.need ?_
  | (refine Ca.back ?_ (Ca.block hS _ _ _);show _+1=_+1;congr 1)
  | with_reducible refine Ca.ite ?_ ?_
  | split)
theorem a5k{lim:Nat}{O:Vals V T}{prog:List Pt} : ∀(f z:Nat) (p:Pt) (i j:Int) (l:List V) (r:Rn T),Ca r (X O prog lim f z p i j l r)
 | 0,_,_,_,_,_,_=>trivial
 | f+1,z,p,i,j,l,r=>Ca.y (fun q l r=>a5k f 0 q 0 0 l r) (fun q l r=>a5k f 1 q 0 0 l r) (fun q l r=>a5k f 2 q 0 0 l r) (fun q i j l r=>a5k f 3 q i j l r) z p i j l r
def Tl (r:Rn T) (x:Res V T α):Prop:=r.tb.length<=(rnOf x).tb.length
theorem Tl.stop{r:Rn T} : Tl r (Res.stop e c r:Res V T α):=Nat.le_refl _
theorem Tl.ret{r:Rn T}{v:V} : Tl r (Res.ret v r:Res V T α):=Nat.le_refl _
theorem Tl.ok{r r':Rn T}{a:α}{l:List V}(h:r.tb.length<=r'.tb.length):Tl r (Res.ok a l r'):=h
theorem Tl.bind{r:Rn T}{x:Res V T α}{f:α->List V->Rn T->Res V T β}(h:Tl r x)(hf:∀a l z,Tl z (f a l z)):Tl r (x.bind f):=by
 match x with
 | .inl (e,c,z)=>exact h
 | .inr (.inl (v,z))=>exact h
 | .inr (.inr (a,l,z))=>exact Nat.le_trans h (hf a l z)
theorem Tl.tick{r:Rn T}{l:List V}{f:List V->Rn T->Res V T α}(hf:∀l z,Tl z (f l z)):Tl r (tick lim l r f):=by
 unfold Go.Proofs.YtfbpdbndejefdaaGreatDoor.V.tick
 by_cases h:r.st=lim
 ·rw[if_pos h];exact Tl.stop
 ·rw[if_neg h];exact hf l { r with st:=r.st+1 }
theorem Tl.need{r:Rn T}{x:Res V T α}(h:Tl r x):Tl r (need c r x):=by
 unfold Go.Proofs.YtfbpdbndejefdaaGreatDoor.V.need
 by_cases hc:c=0
 ·rw[if_pos hc];exact h
 ·rw[if_neg hc];exact Tl.stop
theorem Tl.ite{r:Rn T}{c:Prop}[Decidable c]{x y:Res V T α}(hx:Tl r x)(hy:Tl r y):Tl r (if c then x else y):=by
 by_cases h:c
 ·rw[if_pos h];exact hx
 ·rw[if_neg h];exact hy
theorem Tl.all{g:Pt->List V->Rn T->Res V T β}(hg:∀p l r,Tl r (g p l r)):∀(z:List Pt) (l:List V) (r:Rn T),Tl r (allX g z l r)
 | [],_,_=>Nat.le_refl _
 | p::z,l,r=>(hg p l r).bind fun _ l r=>(Tl.all hg z l r).bind fun _ _ _=>Nat.le_refl _
theorem Tl.ex{E:Pt->List V->Rn T->Res V T V}(hE:∀p l r,Tl r (E p l r))(q:Option Pt)(l:List V)(r:Rn T):Tl r (exX E q l r):=by
 cases q
 ·exact Tl.stop
 ·exact hE _ l r
theorem Tl.block{S:Pt->List V->Rn T->Res V T V}(hS:∀p l r,Tl r (S p l r))(q:Option Pt)(l:List V)(r:Rn T):Tl r (blockX S q l r):=by
 cases q
 ·exact Nat.le_refl _
 ·exact Tl.all hS _ l r
theorem Tl.back{O:Vals V T}{l:List V}{r r0:Rn T}{x:Res V T α}(h1:r0.tb=r.tb)(h:Tl r0 x):Tl r (a3c O l x):=by
 unfold Tl at h⊢
 rw[h1]at h
 match x with
 | .inl (e,c,r')=>exact h
 | .inr (.inl (v,r'))=>exact h
 | .inr (.inr (a,l,r'))=>exact h
theorem Tl.y{O:Vals V T}{E S W:Pt->List V->Rn T->Res V T V}{C:Pt->Int->Int->List V->Rn T->Res V T V}(hE:∀p l r,Tl r (E p l r))(hS:∀p l r,Tl r (S p l r))(hW:∀p l r,Tl r (W p l r))(hC:∀p i j l r,Tl r (C p i j l r))(tag:Nat)(p:Pt)(i j:Int)(l:List V)(r:Rn T):Tl r (Y O prog lim E S W C tag p i j l r):=by
 unfold Y a1q
 repeat' (first
  | with_reducible exact Tl.ok (Nat.le_refl _)
  | with_reducible exact Tl.ret
  | with_reducible exact hW _ _ _
  | with_reducible exact hC _ _ _ _ _
  | with_reducible exact Tl.ex hE _ _ _
  | with_reducible exact Tl.block hS _ _ _
  | with_reducible exact Tl.all hE _ _ _
  | with_reducible refine Tl.tick (fun l r=>?_)
  | with_reducible refine Tl.bind ?_ (fun _ l r=>?_)
  | with_reducible refine Tl.need ?_
  | (refine Tl.back ?_ (Tl.block hS _ _ _);rfl)
  | with_reducible exact Tl.ok (by simp)
  | with_reducible refine Tl.ite ?_ ?_
  | split)
theorem a7e{lim:Nat}{O:Vals V T}{prog:List Pt} : ∀(f z:Nat) (p:Pt) (i j:Int) (l:List V) (r:Rn T),Tl r (X O prog lim f z p i j l r)
 | 0,_,_,_,_,_,_=>Nat.le_refl _
 | f+1,z,p,i,j,l,r=>Tl.y (fun q l r=>a7e f 0 q 0 0 l r) (fun q l r=>a7e f 1 q 0 0 l r) (fun q l r=>a7e f 2 q 0 0 l r) (fun q i j l r=>a7e f 3 q i j l r) z p i j l r
def Zl (lim:Nat) (r:Rn T) (x:Res V T α):Prop:=r.st<=lim->match x with
 | .inl (c,_,r')=>c=0->r'.st=lim
 | .inr (.inl (_,r'))=>r'.st<=lim
 | .inr (.inr (_,_,r'))=>r'.st<=lim
theorem Zl.stop{r:Rn T}(h:e≠0):Zl lim r (Res.stop e c r:Res V T α):=fun _ z=>absurd z h
theorem Zl.ret{r:Rn T}{v:V} : Zl lim r (Res.ret v r:Res V T α):=fun h=>h
theorem Zl.ok{r r':Rn T}{a:α}{l:List V}(h:r'.st=r.st):Zl lim r (Res.ok a l r'):=fun z=>by show r'.st<=lim;omega
theorem Zl.bind{r:Rn T}{x:Res V T α}{f:α->List V->Rn T->Res V T β}(h:Zl lim r x)(hf:∀a l z,Zl lim z (f a l z)):Zl lim r (x.bind f):=fun hr=>by
 have h:=h hr
 match x with
 | .inl (e,c,z)=>exact h
 | .inr (.inl (v,z))=>exact h
 | .inr (.inr (a,l,z))=>exact hf a l z h
theorem Zl.tick{r:Rn T}{l:List V}{f:List V->Rn T->Res V T α}(hf:∀l z,Zl lim z (f l z)):Zl lim r (tick lim l r f):=fun hr=>by
 unfold Go.Proofs.YtfbpdbndejefdaaGreatDoor.V.tick
 by_cases h:r.st=lim
 ·rw[if_pos h];exact fun _=>h
 ·rw[if_neg h];exact hf l { r with st:=r.st+1 } (by show r.st+1<=lim;omega)
theorem Zl.need{r:Rn T}{x:Res V T α}(h:Zl lim r x):Zl lim r (need c r x):=by
 unfold Go.Proofs.YtfbpdbndejefdaaGreatDoor.V.need
 by_cases hc:c=0
 ·rw[if_pos hc];exact h
 ·rw[if_neg hc];exact Zl.stop (by decide)
theorem Zl.ite{r:Rn T}{c:Prop}[Decidable c]{x y:Res V T α}(hx:Zl lim r x)(hy:Zl lim r y):Zl lim r (if c then x else y):=by
 by_cases h:c
 ·rw[if_pos h];exact hx
 ·rw[if_neg h];exact hy
theorem Zl.all{lim:Nat}{g:Pt->List V->Rn T->Res V T β}(hg:∀p l r,Zl lim r (g p l r)):∀(z:List Pt) (l:List V) (r:Rn T),Zl lim r (allX g z l r)
 | [],_,_=>Zl.ok rfl
 | p::z,l,r=>(hg p l r).bind fun _ l r=>(Zl.all hg z l r).bind fun _ _ _=>Zl.ok rfl
theorem Zl.ex{E:Pt->List V->Rn T->Res V T V}(hE:∀p l r,Zl lim r (E p l r))(q:Option Pt)(l:List V)(r:Rn T):Zl lim r (exX E q l r):=by
 cases q
 ·exact Zl.stop (by decide)
 ·exact hE _ l r
theorem Zl.block{S:Pt->List V->Rn T->Res V T V}(hS:∀p l r,Zl lim r (S p l r))(q:Option Pt)(l:List V)(r:Rn T):Zl lim r (blockX S q l r):=by
 cases q
 ·exact Zl.ok rfl
 ·exact Zl.all hS _ l r
theorem Zl.back{O:Vals V T}{l:List V}{r r0:Rn T}{x:Res V T α}(h1:r0.st=r.st)(h:Zl lim r0 x):Zl lim r (a3c O l x):=fun hr=>by
 have h:=h (by omega)
 match x with
 | .inl (e,c,r')=>exact h
 | .inr (.inl (v,r'))=>exact h
 | .inr (.inr (a,l,r'))=>exact h
theorem Zl.y{O:Vals V T}{E S W:Pt->List V->Rn T->Res V T V}{C:Pt->Int->Int->List V->Rn T->Res V T V}(hE:∀p l r,Zl lim r (E p l r))(hS:∀p l r,Zl lim r (S p l r))(hW:∀p l r,Zl lim r (W p l r))(hC:∀p i j l r,Zl lim r (C p i j l r))(tag:Nat)(p:Pt)(i j:Int)(l:List V)(r:Rn T):Zl lim r (Y O prog lim E S W C tag p i j l r):=by
 unfold Y a1q
 repeat' (first
  | with_reducible exact Zl.ok rfl
  | with_reducible exact Zl.ret
  | with_reducible exact hW _ _ _
  | with_reducible exact hC _ _ _ _ _
  | with_reducible exact Zl.ex hE _ _ _
  | with_reducible exact Zl.block hS _ _ _
  | with_reducible exact Zl.all hE _ _ _
  | with_reducible refine Zl.tick (fun l r=>?_)
  | with_reducible refine Zl.bind ?_ (fun _ l r=>?_)
  | with_reducible refine Zl.need ?_
  | (refine Zl.back ?_ (Zl.block hS _ _ _);rfl)
  | with_reducible refine Zl.ite ?_ ?_
  | split)
theorem zl{lim:Nat}{O:Vals V T}{prog:List Pt} : ∀(f z:Nat) (p:Pt) (i j:Int) (l:List V) (r:Rn T),Zl lim r (X O prog lim f z p i j l r)
 | 0,_,_,_,_,_,_=>fun h _=>Nat.max_eq_right h
 | f+1,z,p,i,j,l,r=>Zl.y (fun q l r=>zl f 0 q 0 0 l r) (fun q l r=>zl f 1 q 0 0 l r) (fun q l r=>zl f 2 q 0 0 l r) (fun q i j l r=>zl f 3 q i j l r) z p i j l r
theorem b0y{lim:Nat}{O:Vals V T}{prog:List Pt}(f:Nat)(p:Pt)(l:List V)(r:Rn T)(h:r.st<=lim)(hf:2*lim+3<=f):∀k,X O prog lim f 1 p 0 0 l r=X O prog lim (f+k) 1 p 0 0 l r
 | 0=>rfl
 | k+1=>(b0y f p l r h hf k).trans (b3d (f+k) 1 p 0 0 l r h (by rw[if_neg (by decide)];omega))
end
end Go.Proofs.YtfbpdbndejefdaaGreatDoor.V
