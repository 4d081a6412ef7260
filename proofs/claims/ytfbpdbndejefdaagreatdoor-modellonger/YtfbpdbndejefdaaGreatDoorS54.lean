/- A run of the model: what a call begins with, and how it ends, ag far ag memory goes. -/
import Derived.Test.YtfbpdbndejefdaaGreatDoorS45
import Derived.Shelf.Spec.SlicesInsert
import Derived.Test.YtfbpdbndejefdaaGreatDoorS52
import Derived.Test.YtfbpdbndejefdaaGreatDoorS50
namespace Go.Proofs.YtfbpdbndejefdaaGreatDoor.V
open Go.RowKit Go
set_option maxRecDepth 100000
set_option maxHeartbeats 8000000
set_option linter.all false
variable {P:Program} {g off n B lim lim':Nat} {ag:List Vl} {w w':World} {sv a b d:Value} {r9:Rn Tb} {v:Vl} {R:Ending->World->Prop} {z:Int} {tm:Array Value} {Q:Prop} {out:List ByteArray}
section
variable [DecidableEq Vl]
section
variable {F:Int->Vl->Vl->Vl×Int} {e:En} {D:Nat->Prop} {C:Nat} {l:List Vl} {r:Rn Tb} {W:World}
theorem params_any(a b c d:Value)(g off m cap L:Nat)(hL:L=m+1)(hc:m+1<=cap)(hmm:cap<=maxLen)(W:World):Calls Tryz.prog 19 #[.agg #[a,b,c,d,.slice (some ⟨g,off,none⟩) L cap]] W fun en W'=>en=.returned (.slice (some ⟨g,off,none⟩) m cap)/\Below W.heap.size W W':=by
 obtain⟨w0,z⟩:=exq (W.alloc (.cells #[a,b,c,d,.slice (some ⟨g,off,none⟩) L cap] 34))
 have s:Below W.heap.size W w0:=by rw[<- z];exact ext_alloc (Below.refl _ _) _
 have g1:w0.heap[W.heap.size]?=some (.cells #[a,b,c,d,.slice (some ⟨g,off,none⟩) L cap] 34):=by rw[<- z];exact new1 _ _
 obtain⟨_,_,_,_,q,_,_,_,_,_⟩:=in5 g1
 have y:IntKind.i64.wrap ((L:Int)-1)=(m:Int):=by unfold maxLen at hmm;rw[IntKind.wrap_i64];omega
 have u:(0:Int)<=(m:Int):=by omega
 have v:(m:Int)<=(cap:Int):=by omega
 clear g1 hL hc
 go_enter Tryz.func19,Tryz.ntmps19
 go_wp2
 go_ret
 refine⟨?_,s⟩
 rfl
theorem d0f:(Tryz.prog.info? 52).map (·.size)=some 3:=by kernel_rfl
theorem c4v(w:World)(dT sT ty elem:TypeId)(g o dLen dCap:Nat)(a:Addr)(sLen sCap n:Nat)(cur:Array Value)(t:TypeId)(cs:List Value)(hu:P.underlying dT=some (.slice elem))(hs:(P.info? elem).map (·.size)=some 3)(hg:w.heap[g]?=some (.cells cur t (0,0)))(hm:Nat.min sLen dLen=n)(hn:cs.length=n*3)(hsrc:∀j v,cs[j]?=some v->w.cell? (a.add j)=some v)(hfit:o+cs.length<=cur.size)(h1:∀v∈cs,v.oneCell'=true) :
  (Builtin.copy_ #[dT,sT] ty #[.slice (some ⟨g,o,none⟩) dLen dCap,.slice (some a) sLen sCap]).run P w =
   .ok (goInt n) (w.setRow g (cur.toList.take o++cs++cur.toList.drop (o+cs.length)).toArray):=by
 have y:=run_loadCells_list (P:=P) w a cs hsrc
 have z:=run_storeCells_at P g o t cs 0 cur w hg (by simpa using hfit) h1
 rw[hn]at y
 cases hq:P.info? elem with
 | none=>simp[hq]at hs
 | some i =>
  have u:i.size=3:=by simpa[hq]using hs
  simp[Builtin.copy_,run_underlying hu,Builtin.lenOf,Builtin.firstCells,sizeOf,typeInfo,hq,u,hm,y,z]
theorem c4w(w:World)(dT sT ty elem:TypeId)(a:Addr)(dLen dCap sCap:Nat)(sa:Option Addr)(hu:P.underlying dT=some (.slice elem))(hs:(P.info? elem).map (·.size)=some 3) :
  (Builtin.copy_ #[dT,sT] ty #[.slice (some a) dLen dCap,.slice sa 0 sCap]).run P w=.ok (goInt 0) w:=by
 cases hq:P.info? elem with
 | none=>simp[hq]at hs
 | some i =>
  have z:Nat.min 0 dLen=0:=Nat.min_eq_left (Nat.zero_le _)
  cases sa with
  | none=>simp[Builtin.copy_,run_underlying hu,Builtin.lenOf,Builtin.firstCells,sizeOf,typeInfo,hq,z,storeCells]
  | some sa =>
   have y:=run_loadCells_list (P:=P) w sa [] (by simp)
   have:(loadCells sa 0).run P w=.ok #[] w:=by simpa using y
   simp[Builtin.copy_,run_underlying hu,Builtin.lenOf,Builtin.firstCells,sizeOf,typeInfo,hq,z,this,storeCells]
theorem a6w(xs:List Vl):(flat xs).length=xs.length*3:=by
 induction xs with
 | nil=>rfl
 | cons x xs ih=>simp[flat]at ih⊢;omega
theorem c4x(xs:List Vl)(n:Nat):(flat xs).drop (n*3)=flat (xs.drop n):=by
 induction xs generalizing n with
 | nil=>simp[flat]
 | cons x xs ih =>
  cases n with
  | zero=>simp
  | succ n =>
   have e:flat (x::xs)=.int .i64 x.k :: .int .i64 x.n :: .string x.s::flat xs:=by simp[flat]
   rw[e,show(n+1)*3=n*3+1+1+1 by omega]
   simp only[List.drop_succ_cons]
   exact ih n
theorem c4y{W:World}(hn:n<=ag.length)(h:∀j x,ag[j]?=some x->a3d W g (off+j*3) x):∀j v,(flat (ag.take n))[j]?=some v->W.cell? ((⟨g,off,none⟩:Addr).add j)=some v:=fun j v hv=>by
 have p:(ag.take n).length=n:=by rw[List.length_take];omega
 have o:=(List.getElem?_eq_some_iff.1 hv).1
 rw[a6w,p]at o
 have y:j / 3<ag.length:=by omega
 have s:ag[j / 3]?=some ag[j / 3]:=List.getElem?_eq_getElem y
 have u:(ag.take n)[j / 3]?=some ag[j / 3]:=by rw[List.getElem?_take_of_lt (by omega)];exact s
 obtain⟨e0,i,m⟩:=c4h u
 obtain⟨t0,t1,q⟩:=h _ _ s
 have z:(⟨g,off,none⟩:Addr).add j=⟨g,off+j,none⟩:=by unfold Addr.add;split <;> simp_all
 rw[z]
 have h3:j % 3=0\/j % 3=1\/j % 3=2:=by omega
 rcases h3 with h3|h3|h3
 ·rw[show j=j / 3*3 by omega]at hv⊢
  rw[e0]at hv;cases hv
  exact t0
 ·rw[show j=j / 3*3+1 by omega]at hv⊢
  rw[i]at hv;cases hv
  exact t1
 ·rw[show j=j / 3*3+2 by omega]at hv⊢
  rw[m]at hv;cases hv
  exact q
theorem c0h(x:Value)(Z cs:List Value):(x::Z).take 1++cs++(x::Z).drop (1+cs.length)=x::(cs++Z.drop cs.length):=by
 rw[Nat.add_comm]
 simp
abbrev locZ (ag:List Vl) (np:Nat):List Vl:=ag.take np++List.replicate (30-(ag.take np).length) nilV
theorem c4z{np C dc:Nat}{ty:TypeId}{O:Nat->Prop}(hnp:np<=30)(hC:w.heap[C]?=some (lcb e (List.replicate 30 nilV)))(hs:Rw w tt O sv ag):∃v s,(Builtin.copy_ #[61,61] ty #[.slice (some ⟨C,1,none⟩) np dc,sv]).run Tryz.prog w=.ok v s/\s.heap[C]?=some (lcb e (locZ ag np))/\a0b (fun q=>q=C) w s:=by
 obtain⟨a,cap,rfl,d,u⟩:=hs
 by_cases hne:ag=[]
 ·subst hne
  refine⟨goInt 0,w,c4w w 61 61 ty 52 _ _ _ _ _ Tryz.underlying61 d0f,?_,a0b.refl _ _⟩
  simpa[locZ]using hC
 ·obtain⟨g,p,rfl,_,_,m,i⟩:=u hne
  obtain⟨n,hn⟩:=exq (Nat.min ag.length np)
  have o:n=min ag.length np:=hn.symm
  have y:(ag.take n).length=n:=by rw[List.length_take];omega
  have j:n<=30:=by omega
  have f:ag.take np=ag.take n:=by
   by_cases h:np<=ag.length
   ·rw[show n=np by omega]
   ·rw[show n=ag.length by omega,List.take_of_length_le (by omega),List.take_of_length_le (Nat.le_refl _)]
  have z:(flat (ag.take n)).length=n*3:=by rw[a6w,y]
  have hr:=c4v (P:=Tryz.prog) w 61 61 ty 52 C 1 np dc ⟨g,p,none⟩ ag.length cap n _ 68 (flat (ag.take n)) Tryz.underlying61 d0f hC hn z (c4y (by omega) i) (by rw[z];simp[a6w];omega) (fun v hv=>by
   obtain⟨x,_,u⟩:=List.mem_flatMap.1 hv
   simp at u
   rcases u with rfl|rfl|rfl <;> rfl)
  refine⟨_,_,hr,?_,?_⟩
  ·refine(setRow_heap w C _ _ 68 (0,0) hC).trans ?_
   congr 2
   show(_:Array Value)=(pR e::flat (locZ ag np)).toArray
   congr 1
   rw[locZ,f,y]
   refine(c0h _ _ _).trans ?_
   rw[z,c4x,List.drop_replicate]
   simp only[flat,List.flatMap_append]
  ·exact⟨rfl,rfl,rfl,Nat.le_of_eq (size_setRow _ _ _).symm,fun k _ hn=>setRow_other w C k _ hn⟩
theorem Ca.blk{g:Pt->List Vl->Rn Tb->Res Vl Tb Vl}(hg:∀p l r,Ca r (g p l r)):∀(z:List Pt) (l:List Vl) (r:Rn Tb),Ca r (blkX g z l r)
 | [],_,_=>Ca.ok rfl
 | p::z,l,r=>(hg p l r).bind fun _ l y e=>(Ca.blk hg z l y).re e
theorem Tl.blk{g:Pt->List Vl->Rn Tb->Res Vl Tb Vl}(hg:∀p l r,Tl r (g p l r)):∀(z:List Pt) (l:List Vl) (r:Rn Tb),Tl r (blkX g z l r)
 | [],_,_=>Nat.le_refl _
 | p::z,l,r=>(hg p l r).bind fun _ l y=>Tl.blk hg z l y
theorem d8o(F:Int->Vl->Vl->Vl×Int)(e:En)(ps:List Pt)(l:List Vl)(r:Rn Tb):Ca r (blkX (zS F e) ps l r):=Ca.blk (fun p l r=>a5k (O:=Oz F) (prog:=e.u.kids) (lim:=e.lim) (2*e.lim+3) 1 p 0 0 l r) ps l r
theorem d8p(F:Int->Vl->Vl->Vl×Int)(e:En)(ps:List Pt)(l:List Vl)(r:Rn Tb):Tl r (blkX (zS F e) ps l r):=Tl.blk (fun p l r=>a7e (O:=Oz F) (prog:=e.u.kids) (lim:=e.lim) (2*e.lim+3) 1 p 0 0 l r) ps l r
theorem CK.into{X D D1 D2:Nat->Prop}{W W1 W2:World}(h:CK Go.Proofs.YtfbpdbndejefdaaGreatDoor.V.ff D W D1 W1)(k:CK X D1 W1 D2 W2)(hX:∀q,X q->W.heap.size<=q):CK Go.Proofs.YtfbpdbndejefdaaGreatDoor.V.ff D W D2 W2:=by
 refine⟨h.k.then k.k (fun j z h1=>?_),fun j z=>?_⟩
 ·rcases h1 with h1|h1
  ·rcases h.o j h1 with h2|h2
   ·exact .inl h2
   ·omega
  ·have:=hX j h1;omega
 ·rcases k.o j z with h2|h2
  ·exact h.o j h2
  ·exact .inr (Nat.le_trans h.k.size h2)
structure CB (e:En) (D0:Nat->Prop) (W:World) (B0 B2 C:Nat) (D:Nat->Prop) (V:World):Prop where
 g0:V.heap[B0]?=some (.cells #[pR e] 37)
 g2:V.heap[B2]?=some (bx nilV)
 n0:¬D B0/\B0≠C
 n2:¬D B2/\B2≠C
 ck:CK ff D0 W D V
 w0:W.heap.size<=B0
 w2:W.heap.size<=B2
 wC:W.heap.size<=C
section
variable {D0 D':Nat->Prop} {B0 B2:Nat} {V V':World} {nt c:Nat}
theorem CB.step(h:CB e D0 W B0 B2 C D V)(k:CK (fun q=>q=C) D V D' V'):CB e D0 W B0 B2 C D' V':=by
 obtain⟨a1,a2⟩:=k.box h.g0 h.n0.1 h.n0.2
 obtain⟨b1,b2⟩:=k.box h.g2 h.n2.1 h.n2.2
 exact⟨a1,b1,⟨a2,h.n0.2⟩,⟨b2,h.n2.2⟩,h.ck.into k (fun q hq=>hq▸h.wC),h.w0,h.w2,h.wC⟩
theorem Rq.c11(h:Rq e D r W):W.cell? ⟨e.R,11,none⟩=some (.int .i64 (r.calls:Int))/\W.frozen? ⟨e.R,11,none⟩=false:=by
 obtain⟨s,u,v,y,z⟩:=h.cells
 exact⟨cell_block z rfl,frozen_block z⟩
theorem d4t{l9:List Vl}(h:CB e D0 W B0 B2 C D V)(h0:e.w1.heap.size<=W.heap.size)(hS:Rq e D r9 V)(hc:r9.calls=c+1)(hn:nt<=r9.tb.length):(put3 V B2 nilV).cell? ⟨B0,0,none⟩=some (pR e)/\(put3 V B2 nilV).cell? ⟨e.R,11,none⟩=some (.int .i64 ((c:Int)+1))/\(put3 V B2 nilV).frozen? ⟨e.R,11,none⟩=false/\c<=40/\((put3 V B2 nilV).setCell ⟨e.R,11,none⟩ (.int .i64 (c:Int))).heap[B2]?=some (bx nilV)/\RQ (gV e) e D0 W nt (a3c (Oz F) l (Res.ok () l9 r9)) (.returned nilV.v) ((put3 V B2 nilV).setCell ⟨e.R,11,none⟩ (.int .i64 (c:Int))):=by
 have y:B2≠e.R:=fun s=>h.n2.1 (s▸hS.dr)
 have hq:=hS.wrote (a0r V B2 nilV) h.n2.1 (Nat.le_trans h0 h.w2)
 obtain⟨c1,c2⟩:=hq.c11
 have z:c<=40:=by have:=hS.gd.ca;omega
 have u:=hq.setCalls c z
 have g2:=put3_same nilV h.g2
 have g0:(put3 V B2 nilV).cell? ⟨B0,0,none⟩=some (pR e):=by
  by_cases hb:B0=B2
  ·exfalso
   have:=h.g0
   rw[hb,h.g2]at this
   cases this
  ·exact cell_block ((a0l V (B:=B2) (C:=B0) nilV hb).trans h.g0) rfl
 refine⟨g0,by rw[c1,hc];simp,c2,z,(set1_other _ _ y).trans g2,.inr ⟨nilV,l,{ r9 with calls:=c },D,nilV.v,?_,rfl,u,?_,hn,rfl,VG.nil _ _⟩⟩
 ·show Res.ok nilV l { r9 with calls:=r9.calls-1 }=_
  rw[hc];rfl
 ·exact(h.ck.wrote (a0r V B2 nilV) (.inl h.w2)).trans (CK.run hq)
theorem c8r(h:CB e D0 W B0 B2 C D V)(h0:e.w1.heap.size<=W.heap.size)(hS:Rq e D r9 V)(hc:r9.calls=c+1)(hn:nt<=r9.tb.length)(hv:VG r9.tb.length (nf e) v):V.cell? ⟨B0,0,none⟩=some (pR e)/\V.cell? ⟨e.R,11,none⟩=some (.int .i64 ((c:Int)+1))/\V.frozen? ⟨e.R,11,none⟩=false/\c<=40/\B2≠e.R/\((put3 (V.setCell ⟨e.R,11,none⟩ (.int .i64 (c:Int))) B2 v).alloc (.cells #[.int .i64 v.k,.int .i64 v.n,.string v.s] 64)).heap[B2]?=some (bx v)/\RQ (gV e) e D0 W nt (a3c (α:=Unit) (Oz F) l (Res.ret v r9)) (.returned v.v) ((put3 (V.setCell ⟨e.R,11,none⟩ (.int .i64 (c:Int))) B2 v).alloc (.cells #[.int .i64 v.k,.int .i64 v.n,.string v.s] 64)):=by
 have y:B2≠e.R:=fun p=>h.n2.1 (p▸hS.dr)
 obtain⟨c1,c2⟩:=hS.c11
 have z:c<=40:=by have:=hS.gd.ca;omega
 have q:=hS.setCalls c z
 have hq:=q.wrote (a0r _ B2 v) h.n2.1 (Nat.le_trans h0 h.w2)
 have u:=ext_alloc (Below.refl _ (put3 (V.setCell ⟨e.R,11,none⟩ (.int .i64 (c:Int))) B2 v)) (.cells #[.int .i64 v.k,.int .i64 v.n,.string v.s] 64)
 refine⟨cell_block h.g0 rfl,by rw[c1,hc];simp,c2,z,y,block_below u (put3_same v ((set1_other _ _ y).trans h.g2)),.inr ⟨v,l,{ r9 with calls:=c },D,v.v,?_,rfl,hq.below u,?_,hn,rfl,hv⟩⟩
 ·show Res.ok v l { r9 with calls:=r9.calls-1 }=_
  rw[hc];rfl
 ·exact(((h.ck.trans (CK.run hS)).wrote (a0r _ B2 v) (.inl h.w2))).trans (CK.below u)
theorem b4p{W:World}{R i:Nat}{cs:Array Value}{t:TypeId}{z:Nat×Nat}(h:W.heap[R]?=some (.cells cs t z))(k:Nat):((W.setCell ⟨R,i,none⟩ a).setCell ⟨R,i,none⟩ b).heap[k]?=(W.setCell ⟨R,i,none⟩ b).heap[k]?:=by
 by_cases hk:k=R
 ·subst hk
  rw[set_block b (set_block a h),set_block b h]
  simp
 ·rw[set1_other _ _ hk,set1_other _ _ hk,set1_other _ _ hk]
theorem c5a{a b:Int}(h:CB e D0 W B0 B2 C D V)(hz:V.cell? ⟨e.R,11,none⟩=some (.int .i64 z))(hS:Rq e D { r9 with calls:=0 } (V.setCell ⟨e.R,11,none⟩ (.int .i64 ((0:Nat):Int)))):V.cell? ⟨B0,0,none⟩=some (pR e)/\V.frozen? ⟨e.R,11,none⟩=false/\∀(y:Int) (pv:List PanicEntry),Ch (endV a b) pv->RQ (gV e) e D0 W nt (a3c (α:=Unit) (Oz F) l (Res.stop a b r9)) (.panicked pv) (V.setCell ⟨e.R,11,none⟩ (.int .i64 y)):=by
 have p:e.R<V.heap.size:=World.block_lt_of_cell? _ _ hz
 obtain⟨cs,t,s,u⟩:∃cs t s,V.heap[e.R]?=some (.cells cs t s):=by
  have hk:=Array.getElem?_eq_getElem p
  cases ho:V.heap[e.R] with
  | cells cs t s=>exact⟨cs,t,s,by rw[hk,ho]⟩
  | _=>simp[World.cell?,hk,ho]at hz
 have q:s=(0,0):=by
  obtain⟨g,j,m,n,v⟩:=hS.cells
  rw[set_block _ u]at v
  simp[rnb]at v
  exact v.2.2
 subst q
 refine⟨cell_block h.g0 rfl,frozen_block u,fun y pv o=>.inl ⟨pv,rfl,D,?_,.inl ⟨a,b,r9,y,rfl,o,?_,?_⟩⟩⟩
 ·refine h.ck.trans ⟨(a1e _ _ _ _).mono (fun _ _ ee=>.inl (ee▸hS.dr)),fun _ h=>.inl h⟩
 ·have d:=set_block (i:=11) (.int .i64 y) u
  have f:11<cs.size:=by
   obtain⟨g,j,m,n,v⟩:=hS.cells
   rw[set_block _ u]at v
   simp[rnb]at v
   have:=congrArg Array.size v.1
   simp at this
   omega
  exact cell_block d (by simp[f])
 ·refine hS.on (fun k _=>b4p u k) (by simp) ?_
  exact⟨hS.bl.os,hS.bl.tape,hS.bl.output,Nat.le_trans hS.bl.size (by simp),fun k hk=>(b4p u k).trans (hS.bl.block k hk)⟩
end
end
section
variable {F:Int->Vl->Vl->Vl×Int} {e:En} {D:Nat->Prop} {C:Nat} {l:List Vl} {r:Rn Tb} {W:World}
theorem a5d{P:Program}{fn:Func}{tmps tmps':Array Value}{R:Ending->World->Prop}(h:∀w,(results fn tmps).run P w=(results fn tmps').run P w):∀(z:List Deferred) (u:FrameMode) (w:World),Leaves P fn tmps R z u w->Leaves P fn tmps' R z u w
 | [],.returning,w,hl=>by obtain⟨v,h1,h2⟩:=hl;exact⟨v,(h w).symm.trans h1,h2⟩
 | [],.panicking _,_,hl=>hl
 | [],.run,_,hl=>hl.elim
 | d::z,u,w,⟨h1,fv,cap,f,args,h2,h3,h4⟩=>⟨h1,fv,cap,f,args,h2,h3,h4.mono fun en q s y=>by
  cases en with
  | returned v=>exact a5d h z _ _ y
  | panicked c=>exact a5d h z _ _ y
  | outgrown=>exact y⟩
theorem c0i{d:Nat}{v:Value}{c:List PanicEntry}{a:Act}(h:bodyPostD Tryz.prog Tryz.f11 R (.panic c) (a.put (some d) v) w)(hd:(d != 6)=true):bodyPostD Tryz.prog Tryz.f11 R (.panic c) a w:=by
 have hd:d≠6:=by simpa using hd
 refine a5d (fun w=>?_) _ _ _ (show Leaves Tryz.prog Tryz.f11 (a.put (some d) v).tmps R a.defers (.panicking c) w from h)
 have:(a.put (some d) v).tmps[6]?=a.tmps[6]?:=by simp[Act.put,hd]
 simp[results,Tryz.results11,this]
theorem b8f(z:List PanicEntry)(h:∀x∈z,x.goexit=false):z.dropWhile (!·.goexit)=[]:=by
 induction z with
 | nil=>rfl
 | cons x xs ih=>simp[List.dropWhile,h x (by simp),ih (fun y v=>h y (by simp[v]))]
theorem d8q{W:World}{x:Vl}(h:tm[6]?.getD undef=Po B 0)(hx:W.heap[B]?=some (bx x)):(results Tryz.f11 tm).run Tryz.prog W=.ok x.v W:=by
 obtain⟨c0,c1,c2,_,_,_⟩:=in3 hx
 simp[results,Tryz.results11,go_sem,h,c0,c1,c2]
theorem c8s(h:Rq e D r W)(k n:Int)(s:ByteArray)(sv:Value)(hk:(k != 5)=true)(gq:World->(Nat->Prop)->Nat->Vl->Value->Prop)(nt:Nat):Cl 11 #[pR e,.agg #[vi k,vi n,.string s],sv] W (RQ gq e D W nt (Res.stop 2 3 r)):=by
 have hmf:∀(fn:Fn) (y cap:Array Value) (w:World),(Instr.makeFunc fn y cap).run Tryz.prog w=.ok (.func fn y cap) w:=fun _ _ _ _=>rfl
 obtain⟨U,q⟩:=exq (((W.alloc (.cells #[pR e] 37)).alloc (.cells #[vi k,vi n,.string s] 52)).alloc (.cells #[vi 0,vi 0,.string ⟨#[]⟩] 52))
 have v:Bw W U:=by rw[<- q];exact ext_alloc (ext_alloc (ext_alloc (Below.refl _ _) _) _) _
 have m:U.heap[W.heap.size]?=some (.cells #[pR e] 37):=by rw[<- q];exact block_alloc _ (block_alloc _ (new1 _ _))
 have o:U.heap[W.heap.size+1]?=some (.cells #[vi k,vi n,.string s] 52):=by rw[<- q];exact block_alloc _ (new2 _ _ _)
 have j:U.heap[W.heap.size+1+1]?=some (bx nilV):=by rw[<- q];exact new3 _ _ _ _
 have u:=h.below v
 have z:RQ gq e D W nt (Res.stop 2 3 r) (.panicked (pan (endV 2 3))) U:=.inl ⟨_,rfl,Bd.stop u (CK.below v)⟩
 have c0:Ce U W.heap.size 0 (pR e):=cell_block m rfl
 have c1:Ce U (W.heap.size+1) 0 (vi k):=cell_block o rfl
 replace z:Hid _:=z
 clear h v m o j u
 go_enter_defers Tryz.func11,Tryz.ntmps11
 go_wp2_with (go_at_call 17;refine(refuse_no _ 3 _ rfl).mono ?_;rintro en i ⟨rfl,p⟩;rw[p];exact z.out)
theorem c5b(h:Rq e D r W)(hc:r.calls=40)(n:Int)(s:ByteArray)(sv:Value)(gq:World->(Nat->Prop)->Nat->Vl->Value->Prop)(nt:Nat):Cl 11 #[pR e,.agg #[vi 5,vi n,.string s],sv] W (RQ gq e D W nt (Res.stop 2 1 r)):=by
 have hmf:∀(fn:Fn) (y cap:Array Value) (w:World),(Instr.makeFunc fn y cap).run Tryz.prog w=.ok (.func fn y cap) w:=fun _ _ _ _=>rfl
 obtain⟨U,m⟩:=exq (((W.alloc (.cells #[pR e] 37)).alloc (.cells #[vi 5,vi n,.string s] 52)).alloc (.cells #[vi 0,vi 0,.string ⟨#[]⟩] 52))
 have q:Bw W U:=by rw[<- m];exact ext_alloc (ext_alloc (ext_alloc (Below.refl _ _) _) _) _
 have j:U.heap[W.heap.size]?=some (.cells #[pR e] 37):=by rw[<- m];exact block_alloc _ (block_alloc _ (new1 _ _))
 have g:U.heap[W.heap.size+1]?=some (.cells #[vi 5,vi n,.string s] 52):=by rw[<- m];exact block_alloc _ (new2 _ _ _)
 have d:U.heap[W.heap.size+1+1]?=some (bx nilV):=by rw[<- m];exact new3 _ _ _ _
 have p:=h.below q
 have z:RQ gq e D W nt (Res.stop 2 1 r) (.panicked (pan (endV 2 1))) U.drew:=.inl ⟨_,rfl,Bd.stop (p.below (Below.refl _ _).drew) ((CK.below q).trans (CK.below (Below.refl _ _).drew))⟩
 have c0:Ce U W.heap.size 0 (pR e):=cell_block j rfl
 have c1:Ce U (W.heap.size+1) 0 (vi 5):=cell_block g rfl
 obtain⟨c,u⟩:∃c:Nat,c=40:=⟨_,rfl⟩
 have a:((c:Int) == 40)=true:=by rw[u];rfl
 have i:(fun V=>Ce V W.heap.size 0 (pR e)/\Ce V e.R 11 (vi (c:Nat))) U.drew:=by
  refine⟨cell_block (W:=U.drew) j rfl,?_⟩
  rw[u,<- hc]
  exact(p.below (Below.refl _ _).drew).c11.1
 replace z:Hid _:=z
 clear h q j g d p u hc
 go_enter_defers Tryz.func11,Tryz.ntmps11
 go_wp2_with (go_at_call 17;refine(a4t _ 3 _).mono ?_;rintro en f ⟨rfl,v⟩;rw[v];clear v;refine Hid.out ?_)
 clear m
 refine Lib.hid ?_
 go_wp2
 refine wp_region_held_drew (S:=fun V=>Ce V W.heap.size 0 (pR e)/\Ce V e.R 11 (vi (c:Nat))) (by kernel_rfl) i (fun o=>?_)
 change wpAnyH _ _ _ _ _ 7 _ _ _
 iterate 6 (refine tkH 0 (by simp only[nx,gq1,gq2,gq3];rfl) (by kernel_rfl) (by rfl) o ⟨_,by intro w ⟨_,_⟩;go_simp;try with_reducible rfl,by exact fun _ _ _ h=>c0i h rfl,?_⟩;try simp only[Act.put,sq1,sq2,sq3])
 refine wpAnyH_ready (rs:=[6]) (by kernel_rfl) (by simp) ?_
 refine AllReadyH.cons rfl (fun K hK=>?_) .nil
 go_simp
 go_at_call 17
 refine(refuse_no _ 1 _ rfl).mono ?_
 rintro en f ⟨rfl,v⟩
 rw[v]
 exact z.out
theorem c8t(hg:Pg e)(hB:BK F e n)(hn:e.lim<n+r.st)(i m:Nat)(s:ByteArray)(p body:Pt)(hp:e.u.kids[i]?=some p)(hm:p.kids.length=m+1)(hm30:m<=30)(hy:p.kids[m]?=some body)(hwb:Wf (nf e) body)(hkb:body.k=4)(ag:List Vl)(sv:Value)(has:gL e W D r.tb.length ag sv)(h:Rq e D r W)(hc40:r.calls<40)(l:List Vl):Cl 11 #[pR e,.agg #[vi 5,vi (i:Nat),.string s],sv] W (RQ (gV e) e D W r.tb.length (a3c (Oz F) l (blkX (zS F e) body.kids (locZ ag m) { r with calls:=r.calls+1 }))):=by
 have h0:=h.bl.size
 obtain⟨nt,s9⟩:=exq (r.tb.length)
 rw[s9]
 obtain⟨c,s8⟩:=exq (r.calls)
 rw[s8]at hc40⊢
 obtain⟨r1,x5⟩:∃r1:Rn Tb,{ r with calls:=c+1 }=r1:=⟨_,rfl⟩
 obtain⟨R,hR⟩:=exq (blkX (zS F e) body.kids (locZ ag m) r1)
 rw[x5,hR]
 obtain⟨g,y9,bp,cp,q8,t0,t9⟩:=PK.kid hg.pk hp
 obtain⟨g',o,bb,cb,rfl,r4,t8⟩:=PK.kid t0 hy
 have x8:=t0.1
 rw[hm]at x8
 have hmf:∀(fn:Fn) (v0 cap:Array Value) (w:World),(Instr.makeFunc fn v0 cap).run Tryz.prog w=.ok (.func fn v0 cap) w:=fun _ _ _ _=>rfl
 obtain⟨U,hU⟩:=exq (((W.alloc (.cells #[pR e] 37)).alloc (.cells #[vi 5,vi (i:Nat),.string s] 52)).alloc (.cells #[vi 0,vi 0,.string ⟨#[]⟩] 52))
 have s3:Bw W U:=by rw[<- hU];exact ext_alloc (ext_alloc (ext_alloc (Below.refl _ _) _) _) _
 have q0:U.heap[W.heap.size]?=some (.cells #[pR e] 37):=by rw[<- hU];exact block_alloc _ (block_alloc _ (new1 _ _))
 have q1:U.heap[W.heap.size+1]?=some (.cells #[vi 5,vi (i:Nat),.string s] 52):=by rw[<- hU];exact block_alloc _ (new2 _ _ _)
 have q2:U.heap[W.heap.size+1+1]?=some (bx nilV):=by rw[<- hU];exact new3 _ _ _ _
 have o6:=h.below s3
 obtain⟨U1,x6⟩:=exq (U.drew)
 have s4:Bw W U1:=by rw[<- x6];exact s3.drew
 have w3:Rq e D r U1:=h.below s4
 have c0:Ce U W.heap.size 0 (pR e):=cell_block q0 rfl
 have c1:Ce U (W.heap.size+1) 0 (vi 5):=cell_block q1 rfl
 have x0:U1.heap[W.heap.size]?=some (.cells #[pR e] 37):=by rw[<- x6];exact q0
 have x1:U1.heap[W.heap.size+1]?=some (.cells #[vi 5,vi (i:Nat),.string s] 52):=by rw[<- x6];exact q1
 have x2:U1.heap[W.heap.size+1+1]?=some (bx nilV):=by rw[<- x6];exact q2
 have d0:Ce U1 W.heap.size 0 (pR e):=cell_block x0 rfl
 obtain⟨s1,n7⟩:=w3.c11
 rw[s8]at s1
 have p9:(fun V=>Ce V W.heap.size 0 (pR e)/\Ce V e.R 11 (vi (c:Nat))) U1:=⟨d0,s1⟩
 have y4:=w3.setCalls (c+1) (by omega)
 rw[x5,show((c+1:Nat):Int)=(c:Int)+1 by omega]at y4
 have n4:IntKind.i64.wrap ((c:Int)+1)=(c:Int)+1:=by rw[IntKind.wrap_i64];omega
 have m9:((c:Int) == 40)=false:=by simp;omega
 have u2:∀q,W.heap.size<=q->q≠e.R:=fun q hq ee=>by have:=h.lt;omega
 obtain⟨V,hV⟩:=exq (U1.setCell (Ad e.R 11) (vi ((c:Int)+1)))
 have y0:V.heap[W.heap.size]?=some (.cells #[pR e] 37):=by rw[<- hV];exact(set1_other _ _ (u2 _ (by omega))).trans x0
 have y1:V.heap[W.heap.size+1]?=some (.cells #[vi 5,vi (i:Nat),.string s] 52):=by rw[<- hV];exact(set1_other _ _ (u2 _ (by omega))).trans x1
 have y2:V.heap[W.heap.size+1+1]?=some (bx nilV):=by rw[<- hV];exact(set1_other _ _ (u2 _ (by omega))).trans x2
 have u0:CK ff D W D V:=by rw[<- hV];exact(CK.below s4).trans (CK.run w3)
 rw[hV]at y4
 obtain⟨d,w2⟩:=exq (V.drew)
 have u4:Bw V d:=by rw[<- w2];exact(Below.refl _ _).drew
 obtain⟨N,hN⟩:=exq (e.u.kids.length)
 have o8:i<N:=by rw[<- hN];exact(List.getElem?_eq_some_iff.1 hp).1
 have o5:N<=e.cap:=by rw[<- hN];exact hg.pk.1.1
 have u3:∀X,Bw V X->(fun V=>Ce V W.heap.size 0 (pR e)/\Ce V (W.heap.size+1) 1 (vi (i:Nat))/\Ce V e.R 9 (.slice (some (Ad g y9)) N e.cap)/\Ce V g (y9+i*5) (vi p.k)/\Ce V g (y9+i*5+1) (.string p.t)/\Ce V g (y9+i*5+2) (vi p.n)/\Ce V g (y9+i*5+3) (vi p.sl)/\Ce V g (y9+i*5+4) (.slice (some (Ad g' o)) (m+1) cp)) X:=fun X hX=>by
  have hq:=y4.below hX
  obtain⟨ta,tc,ua,uc,hc⟩:=hq.cells
  obtain⟨_,k0,k1,k2,k3,k4⟩:=t9 X hq.bl
  rw[hm]at k4
  refine⟨cell_block (block_below hX y0) rfl,cell_block (block_below hX y1) rfl,?_,k0,k1,k2,k3,k4⟩
  have:=cell_block (i:=9) hc rfl
  rw[q8,hN]at this
  exact this
 have v3:=u3 d u4
 obtain⟨V2,x7⟩:=exq (d.alloc (.cells #[vi 0,.string ⟨#[]⟩,vi 0,vi 0,.slice none 0 0] 34))
 have s5:Bw V V2:=by rw[<- x7];exact ext_alloc u4 _
 have y5:=u3 V2 s5
 have z3:V2.heap[d.heap.size]?=some zpx:=by rw[<- x7];exact new1 _ _
 obtain⟨z0,z1,z2,p5,z4,n8,n9,o0,o1,o2⟩:=in5 z3
 have n6:=u4.size
 obtain⟨V3,y6⟩:=exq (put5 V2 d.heap.size (vi p.k) (.string p.t) (vi p.n) (vi p.sl) (.slice (some (Ad g' o)) (m+1) cp))
 have u5:Bw V V3:=by rw[<- y6];exact(((a0b.of_below (S:=fun _=>False) s5).then (put5_self V2 d.heap.size _ _ _ _ _) (fun j hj ee=>by omega))).below (Nat.le_refl _) (fun _ _=>id)
 have z5:V3.heap[d.heap.size]?=some (.cells #[vi p.k,.string p.t,vi p.n,vi p.sl,.slice (some (Ad g' o)) (m+1) cp] 34):=by rw[<- y6];exact put5_same _ _ _ _ _ z3
 have y8:=u3 V3 u5
 replace y6:((((V2.setCell (Ad d.heap.size 0) (vi p.k)).setCell (Ad d.heap.size 1) (.string p.t)).setCell (Ad d.heap.size 2) (vi p.n)).setCell (Ad d.heap.size 3) (vi p.sl)).setCell (Ad d.heap.size 4) (.slice (some (Ad g' o)) (m+1) cp)=V3:=y6
 have e0:Ce V3 W.heap.size 0 (pR e):=y8.1
 obtain⟨V4,y7⟩:=exq (V3.alloc (lcb e (List.replicate 30 nilV)))
 have q7:Bw V V4:=by rw[<- y7];exact ext_alloc u5 _
 have p6:V4.heap[V3.heap.size]?=some (lcb e (List.replicate 30 nilV)):=by rw[<- y7];exact new1 _ _
 have z6:V4.heap[d.heap.size]?=some (.cells #[vi p.k,.string p.t,vi p.n,vi p.sl,.slice (some (Ad g' o)) (m+1) cp] 34):=by rw[<- y7];exact block_alloc _ z5
 replace y7:V3.alloc (.cells (Tryz.zeroCells68.setIfInBounds 0 (pR e)) 68)=V4:=y7
 obtain⟨V5,x3⟩:=exq (V4.drew)
 have v5:Bw V V5:=by rw[<- x3];exact q7.drew
 have p7:V5.heap[V3.heap.size]?=some (lcb e (List.replicate 30 nilV)):=by rw[<- x3];exact p6
 have z7:V5.heap[d.heap.size]?=some (.cells #[vi p.k,.string p.t,vi p.n,vi p.sl,.slice (some (Ad g' o)) (m+1) cp] 34):=by rw[<- x3];exact z6
 have q6:W.heap.size<=V.heap.size:=u0.k.size
 have q5:=u5.size
 have o3:d.heap.size<V3.heap.size:=block_lt z5
 have w8:=params_any (vi p.k) (.string p.t) (vi p.n) (vi p.sl) g' o m cp (m+1) rfl x8.1 x8.2
 have w4:(fun V=>Ce V d.heap.size 0 (vi p.k)/\Ce V d.heap.size 1 (.string p.t)/\Ce V d.heap.size 2 (vi p.n)/\Ce V d.heap.size 3 (vi p.sl)/\Ce V d.heap.size 4 (.slice (some (Ad g' o)) (m+1) cp)) V5:=by obtain⟨a0,a1,a2,a3,a4,_,_,_,_,_⟩:=in5 z7;exact⟨a0,a1,a2,a3,a4⟩
 have t5:=has.1
 have r0:∀q,D q->q<V.heap.size:=fun q hq=>(y4.lo q hq).2
 have u7:∀V6,Bw V5 V6->(fun V=>Ce V d.heap.size 0 (vi p.k)/\Ce V d.heap.size 1 (.string p.t)/\Ce V d.heap.size 2 (vi p.n)/\Ce V d.heap.size 3 (vi p.sl)/\Ce V d.heap.size 4 (.slice (some (Ad g' o)) (m+1) cp)) V6/\∃cv V7,(∀ty,(Builtin.copy_ #[61,61] ty #[.slice (some (Ad V3.heap.size 1)) m 30,sv]).run Tryz.prog V6=.ok cv V7)/\(fun V=>Ce V d.heap.size 0 (vi p.k)/\Ce V d.heap.size 1 (.string p.t)/\Ce V d.heap.size 2 (vi p.n)/\Ce V d.heap.size 3 (vi p.sl)/\Ce V d.heap.size 4 (.slice (some (Ad g' o)) (m+1) cp)) V7/\CB e D W W.heap.size (W.heap.size+1+1) V3.heap.size D V7/\St e D V3.heap.size (locZ ag m) r1 V7:=fun V6 s6=>by
  have x4:Bw V V6:=ext_trans v5 s6
  have w7:=block_below s6 z7
  have wC:=block_below s6 p7
  have r6:Rw V6 tt D sv ag:=t5.re fun k _ hk r3=>by
   have o9:k<V.heap.size:=Nat.lt_of_lt_of_le r3 q6
   exact⟨trivial,hk,(x4.block k o9).trans (u0.k.block k r3 (fun ee=>ee.elim hk id))⟩
  obtain⟨cv,V7,hr,o4,v7⟩:=c4z (ty:=0) hm30 wC r6
  have p2:∀ty,(Builtin.copy_ #[61,61] ty #[.slice (some (Ad V3.heap.size 1)) m 30,sv]).run Tryz.prog V6=.ok cv V7:=fun ty=>hr
  have p1:d.heap.size≠V3.heap.size:=by omega
  obtain⟨a0,a1,a2,a3,a4,_,_,_,_,_⟩:=in5 w7
  have p4:=(v7.block _ (block_lt w7) p1).trans w7
  obtain⟨b0,b1,b2,b3,b4,_,_,_,_,_⟩:=in5 p4
  have p8:¬D V3.heap.size:=fun hd=>by have:=r0 _ hd;omega
  have u9:∀q,q<V.heap.size->q≠V3.heap.size:=fun q hq=>by omega
  refine⟨⟨a0,a1,a2,a3,a4⟩,cv,V7,p2,⟨b0,b1,b2,b3,b4⟩,⟨?_,?_,⟨?_,?_⟩,⟨?_,?_⟩,?_,Nat.le_refl _,by omega,by omega⟩,⟨?_,o4,?_,?_,p8,by omega⟩⟩
  ·have:=block_lt y0;exact(v7.block _ (by have:=x4.size;omega) (u9 _ this)).trans (block_below x4 y0)
  ·have:=block_lt y2;exact(v7.block _ (by have:=x4.size;omega) (u9 _ this)).trans (block_below x4 y2)
  ·exact fun hd=>by have:=(h.lo _ hd).2;omega
  ·exact u9 _ (block_lt y0)
  ·exact fun hd=>by have:=(h.lo _ hd).2;omega
  ·exact u9 _ (block_lt y2)
  ·exact(u0.trans (CK.below x4)).wrote v7 (.inl (by omega))
  ·exact(y4.below x4).wrote v7 p8 (by omega)
  ·simp[locZ];omega
  ·intro v hv
   rcases List.mem_append.1 hv with hv|hv
   ·rw[<- x5];exact has.2 v (List.mem_of_mem_take hv)
   ·rw[(List.mem_replicate.1 hv).2];exact VG.nil _ _
 have u6:∀V7 V8,CB e D W W.heap.size (W.heap.size+1+1) V3.heap.size D V7->St e D V3.heap.size (locZ ag m) r1 V7->Bw V7 V8->Cl 20 #[pC V3.heap.size,.agg #[vi body.k,.string body.t,vi body.n,vi body.sl,.slice bb body.kids.length cb]] V8 (XQ g0 e D V3.heap.size V8 r1.tb.length R)/\CB e D W W.heap.size (W.heap.size+1+1) V3.heap.size D V8:=fun V7 V8 v1 hS hb=>by
  have:=hB body bb cb V3.heap.size (locZ ag m) r1 D V8 (by rw[<- x5];exact hn) hwb hkb r4 (hS.on hb)
  rw[hR]at this
  exact⟨this,v1.step (CK.below hb)⟩
 have x9:∀V7,St e D V3.heap.size (locZ ag m) r1 V7->Cl 21 #[.agg #[vi p.k,.string p.t,vi p.n,vi p.sl,.slice (some (Ad g' o)) (m+1) cp]] V7 fun en W'=>en=.returned (.agg #[vi body.k,.string body.t,vi body.n,vi body.sl,.slice bb body.kids.length cb])/\Bw V7 W':=fun V7 hS=>by
  have r2:=t8 V7 hS.rq.bl
  have:=body_any (e:=e) p g' o cp m hm (by have:=x8.2;unfold maxLen at this;omega) body bb cb V7 r2 (Nat.lt_of_lt_of_le r2.lt hS.rq.bl.size)
  show Cl 21 #[.agg #[vi p.k,.string p.t,vi p.n,vi p.sl,.slice (some (Ad g' o)) (m+1) cp]] V7 _
  rw[<- hm]
  exact this
 have z9:Ca r1 R:=by rw[<- hR];exact d8o F e _ _ _
 have v9:Tl r1 R:=by rw[<- hR];exact d8p F e _ _ _
 have s7:r1.calls=c+1:=by rw[<- x5]
 have t1:nt=r1.tb.length:=by rw[<- x5];exact s9.symm
 have u8:∀l9 r9 D9 V8 w9,CB e D W W.heap.size (W.heap.size+1+1) V3.heap.size D V8->R=Res.ok () l9 r9->St e D9 V3.heap.size l9 r9 w9->CK (fun q=>q=V3.heap.size) D V8 D9 w9->(∃x,w9.heap[W.heap.size+1+1]?=some (bx x))/\Ce (put3 w9 (W.heap.size+1+1) nilV) W.heap.size 0 (pR e)/\Ce (put3 w9 (W.heap.size+1+1) nilV) e.R 11 (vi ((c:Int)+1))/\(put3 w9 (W.heap.size+1+1) nilV).frozen? (Ad e.R 11)=false/\c<=40/\((put3 w9 (W.heap.size+1+1) nilV).setCell (Ad e.R 11) (vi (c:Int))).heap[W.heap.size+1+1]?=some (bx nilV)/\RQ (gV e) e D W nt (a3c (Oz F) l R) (.returned nilV.v) ((put3 w9 (W.heap.size+1+1) nilV).setCell (Ad e.R 11) (vi (c:Int))):=fun l9 r9 D9 V8 w9 v1 hx hS hK=>by
  have y3:=v1.step hK
  rw[hx]at z9 v9⊢
  exact⟨⟨nilV,y3.g2⟩,d4t y3 h0 hS.rq (Eq.trans z9 s7) (t1▸v9)⟩
 have w5:∀V8 w9 pv tm,tm[6]?.getD undef=Po (W.heap.size+1+1) 0->CB e D W W.heap.size (W.heap.size+1+1) V3.heap.size D V8->Bd (fun q=>q=V3.heap.size) e D V8 R pv w9->Leaves Tryz.prog Tryz.f11 tm (RQ (gV e) e D W nt (a3c (Oz F) l R)) [{ target:=.fn (.func 18) #[Po W.heap.size 0,Po (W.heap.size+1+1) 0],args:=#[] }] (.panicking pv) w9:=fun V8 w9 pv tm p3 v1 v6=>by
  refine leaves_cons (f:=18) (args:=#[Po W.heap.size 0,Po (W.heap.size+1+1) 0]) (by simp) (by simp[go_sem]) ?_
  obtain⟨D9,u1,v6⟩:=v6
  have y3:=v1.step u1
  rcases v6 with⟨cc,aa,r',z,hx,⟨z8,rfl,v8⟩,hz,hS⟩|⟨v,r',hx,⟨z8,rfl,v8⟩,hS,hv⟩
  ·obtain⟨f1,f2,f3⟩:=c5a (F:=F) (l:=l) (nt:=nt) (a:=cc) (b:=aa) y3 hz hS
   refine(c8e e.R _ (W.heap.size+1+1) z _ cc aa z8 w9 f1 hz f2 rfl).mono ?_
   rintro en u' s0 ⟨rfl,rfl,rfl⟩
   rw[hx]
   exact f3 _ _ ⟨_,rfl,fun x t2=>by rcases List.mem_cons.1 t2 with rfl|t2;rfl;exact v8 x t2⟩
  ·rw[hx]at z9 v9⊢
   obtain⟨f1,f2,f3,f4,f5,f6,f7⟩:=c8r (F:=F) (l:=l) (nt:=nt) y3 h0 hS (Eq.trans z9 s7) (t1▸v9) hv
   refine(c8f e.R _ (W.heap.size+1+1) c v nilV z8 w9 f1 f2 f3 f4 y3.g2 f5).mono ?_
   rintro en u' s0 ⟨rfl,rfl,rfl⟩
   have r7:settle (.panicking ({ v:=retV v,recovered:=true } :: z8))=.returning:=by
    have:z8.dropWhile (!·.goexit)=[]:=b8f z8 v8
    simp[settle,this]
   show Leaves _ _ _ _ [] (settle _) _
   rw[r7]
   exact⟨_,d8q p3 f6,f7⟩
 have n2:(0:Int)<=(m:Int):=by omega
 have n3:(m:Int)<=30:=by omega
 have n0:(0:Int)<=(i:Int):=by omega
 have n1:(i:Int)<(N:Int):=by omega
 have n5:(N:Int)<=(e.cap:Int):=by omega
 replace w8:Hid _:=w8
 replace u7:Hid _:=u7
 replace u6:Hid _:=u6
 replace x9:Hid _:=x9
 replace u8:Hid _:=u8
 replace w5:Hid _:=w5
 replace x3:Hid _:=x3
 replace w2:Hid _:=w2
 replace x7:Hid _:=x7
 replace y6:Hid _:=y6
 replace y7:Hid _:=y7
 replace v3:Hid _:=v3
 replace y5:Hid _:=y5
 replace y8:Hid _:=y8
 replace w4:Hid _:=w4
 replace e0:Hid _:=e0
 replace x6:Hid _:=x6
 clear u3 hB hn hp hm hy hwb hkb has h hc40 s8 x5 hR q8 t0 t9 r4 t8 x8 s3 q0 q1 q2 o6 s4 w3 x0 x1 x2 y4 u2 y0 y1 y2 u0 u4 hN o8 o5 s5 z3 u5 z5 q7 p6 z6 v5 p7 z7 q6 q5 o3 t5 r0 z9 v9 s7 t1 s9 h0 hm30 hg
 go_enter_defers Tryz.func11,Tryz.ntmps11
 go_wp2_with (go_at_call 17;refine(a4t _ 3 _).mono ?_;rintro en w' ⟨rfl,w0⟩;rw[w0];clear w0;refine Hid.out ?_)
 clear hU c0 c1
 refine Lib.hid ?_
 go_wp2
 refine wp_region_held_drew (S:=fun V=>Ce V W.heap.size 0 (pR e)/\Ce V e.R 11 (vi (c:Nat))) (by kernel_rfl) (by rw[x6.out];exact p9) (fun y=>?_)
 change wpAnyH _ _ _ _ _ 7 _ _ _
 rw[x6.out]at y⊢
 iterate 6 (refine tkH 0 (by simp only[nx,gq1,gq2,gq3];rfl) (by kernel_rfl) (by rfl) y ⟨_,by intro w ⟨_,_⟩;go_simp;try with_reducible rfl,by exact fun _ _ _ h=>c0i h rfl,?_⟩;try simp only[Act.put,sq1,sq2,sq3])
 refine wpAnyH_ready (rs:=[6]) (by kernel_rfl) (by simp) ?_
 refine AllReadyH.cons rfl (fun K hK=>?_) .nil
 go_simp
 go_at_call 17
 refine(a4t _ 1 _).mono ?_
 rintro en w' ⟨rfl,w0⟩
 rw[w0]
 clear w0
 refine hK.out _ _ y (fun _=>?_)
 clear hK K
 try simp only[Act.put,sq1,sq2,sq3]
 refine wpAnyH_done (by kernel_rfl) ?_ _
 refine Hid.out ?_
 clear y p9
 refine Lib.hid ?_
 go_wp2
 refine wp_region_held_drew (S:=fun V=>Ce V W.heap.size 0 (pR e)/\Ce V (W.heap.size+1) 1 (vi (i:Nat))/\Ce V e.R 9 (.slice (some (Ad g y9)) N e.cap)/\Ce V g (y9+i*5) (vi p.k)/\Ce V g (y9+i*5+1) (.string p.t)/\Ce V g (y9+i*5+2) (vi p.n)/\Ce V g (y9+i*5+3) (vi p.sl)/\Ce V g (y9+i*5+4) (.slice (some (Ad g' o)) (m+1) cp)) (by kernel_rfl) (by rw[w2.out];exact v3.out) (fun y=>?_)
 change wpAnyH _ _ _ _ _ 11 _ _ _
 rw[w2.out]at y⊢
 replace x7:=x7.out
 replace y6:=y6.out
 replace y5:=y5.out
 replace y8:=y8.out
 iterate 9 (refine tkH 0 (by simp only[nx,gq1,gq2,gq3];rfl) (by kernel_rfl) (by rfl) y ⟨_,by intro w ⟨_,_,_,_,_,_,_,_⟩;go_simp;try with_reducible rfl,by exact fun _ _ _ h=>c0i h rfl,?_⟩;try simp only[Act.put,sq1,sq2,sq3])
 refine wpAnyH_ready (rs:=[9]) (by kernel_rfl) (by simp) ?_
 refine AllReadyH.cons rfl (fun K hK=>?_) .nil
 go_simp
 try rw[x7]
 refine hK.out _ _ y5 (fun _=>?_)
 clear hK K
 try simp only[Act.put,sq1,sq2,sq3]
 refine wpAnyH_ready (rs:=[10]) (by kernel_rfl) (by simp) ?_
 refine AllReadyH.cons rfl (fun K hK=>?_) .nil
 go_simp
 try rw[y6]
 refine hK.out _ _ y8 (fun _=>?_)
 clear hK K
 try simp only[Act.put,sq1,sq2,sq3]
 refine wpAnyH_done (by kernel_rfl) ?_ _
 refine Hid.out ?_
 clear y y5 y8 x7 y6 z0 z1 z2 p5 z4 n8 n9 o0 o1 o2 d0 s1 n7 hV w2
 replace y7:=y7.out
 replace e0:=e0.out
 refine Lib.hid ?_
 go_wp2
 clear y7 e0
 refine wp_region_held_drew (S:=fun V=>Ce V d.heap.size 0 (vi p.k)/\Ce V d.heap.size 1 (.string p.t)/\Ce V d.heap.size 2 (vi p.n)/\Ce V d.heap.size 3 (vi p.sl)/\Ce V d.heap.size 4 (.slice (some (Ad g' o)) (m+1) cp)) (by kernel_rfl) (by rw[x3.out];exact w4.out) (fun y=>?_)
 change wpAnyH _ _ _ _ _ 9 _ _ _
 rw[x3.out]at y⊢
 iterate 4 (refine tkH 0 (by simp only[nx,gq1,gq2,gq3];rfl) (by kernel_rfl) (by rfl) y ⟨_,by intro w ⟨_,_,_,_,_⟩;go_simp;try with_reducible rfl,by exact fun _ _ _ h=>c0i h rfl,?_⟩;try simp only[Act.put,sq1,sq2,sq3])
 iterate 1 (refine tkH 3 (by simp only[nx,gq1,gq2,gq3];rfl) (by kernel_rfl) (by rfl) y ⟨_,by intro w ⟨_,_,_,_,_⟩;go_simp;try with_reducible rfl,by exact fun _ _ _ h=>c0i h rfl,?_⟩;try simp only[Act.put,sq1,sq2,sq3])
 refine wpAnyH_ready (rs:=[4]) (by kernel_rfl) (by simp) ?_
 refine AllReadyH.cons rfl (fun K hK=>?_) .nil
 go_simp
 go_at_call 19
 refine(w8.out _).mono ?_
 rintro en V6 ⟨rfl,v5⟩
 obtain⟨s2,cv,V7,r5,q3,q9⟩:=u7.out V6 v5
 refine hK.out _ _ s2 (fun _=>?_)
 clear hK K
 try simp only[Act.put,sq1,sq2,sq3]
 iterate 2 (refine tkH 0 (by simp only[nx,gq1,gq2,gq3];rfl) (by kernel_rfl) (by rfl) s2 ⟨_,by intro w ⟨_,_,_,_,_⟩;go_simp;try with_reducible rfl,by exact fun _ _ _ h=>c0i h rfl,?_⟩;try simp only[Act.put,sq1,sq2,sq3])
 refine wpAnyH_ready (rs:=[8]) (by kernel_rfl) (by simp) ?_
 refine AllReadyH.cons rfl (fun K hK=>?_) .nil
 refine step_copy_runI (by rfl) _ _ _ _ (by rfl) (.slice (some (Ad V3.heap.size 1)) m 30) sv (by rfl) (by rfl) (r5 _) ?_
 refine hK.out _ _ q3 (fun _=>?_)
 clear hK K
 try simp only[Act.put,sq1,sq2,sq3]
 refine wpAnyH_done (by kernel_rfl) ?_ _
 refine Hid.out ?_
 obtain⟨t4,v4⟩:=q9
 have t6:=x9.out V7 v4
 have w6:=fun V8 hb=>u6.out V7 V8 t4 v4 hb
 obtain⟨j0,j1,j2,j3,j4⟩:=q3
 replace w6:Hid _:=w6
 clear y s2 r5 v5 t4 v4 w8 u7 u6 x9 w4
 refine Lib.hid ?_
 go_wp2_with (go_at_call 21;refine t6.mono ?_;rintro en V8 ⟨rfl,o7⟩;obtain⟨t7,v2⟩:=w6.out V8 o7;refine Hid.out ?_)
 refine Lib.hid ?_
 go_wp2_with (go_at_call 20;refine t7.mono ?_;intro en w9 hq;rcases hq.par with⟨pv,rfl,v6⟩|⟨a,l9,r9,D9,vv,r8,rfl,q4,u1,p0,rfl⟩;(exact w5.out _ _ _ _ rfl v2 v6);refine Hid.out ?_)
 obtain⟨⟨x,gx⟩,f1,f2,f3,f4,f5,f6⟩:=u8.out _ _ _ _ _ v2 r8 q4 u1
 obtain⟨b0,b1,b2,b3,b4,b5⟩:=in3 gx
 obtain⟨t3,w1⟩:=exq (put3 w9 (W.heap.size+1+1) nilV)
 rw[w1]at f1 f2 f3 f5 f6
 replace w1:((w9.setCell (Ad (W.heap.size+1+1) 0) (vi 0)).setCell (Ad (W.heap.size+1+1) 1) (vi 0)).setCell (Ad (W.heap.size+1+1) 2) (.string ⟨#[]⟩)=t3:=w1
 clear t6 w6 t7 r8 q4 u1 p0 gx v2 w5 u8 j0 j1 j2 j3 j4
 refine Lib.hid ?_
 go_wp2
 refine leaves_cons (f:=18) (args:=#[Po W.heap.size 0,Po (W.heap.size+1+1) 0]) (by simp) (by simp[go_sem]) ?_
 refine(c8d e.R _ (W.heap.size+1+1) c _ f1 f2 f3 f4).mono ?_
 rintro en u' s0 ⟨rfl,rfl,rfl⟩
 exact⟨_,d8q rfl f5,f6⟩
end
section
variable {F:Int->Vl->Vl->Vl×Int} {e:En} {D:Nat->Prop} {C:Nat} {l:List Vl} {r:Rn Tb} {W:World}
def a6i (F:Int->Vl->Vl->Vl×Int) (e:En) (a:Vl) (ag:List Vl) (l:List Vl) (r:Rn Tb):Res Vl Tb Vl:=need (if a.k=5 then 0 else 3) r (need (if r.calls=40 then 1 else 0) r (a3c (Oz F) l (blockX (zS F e) ((e.u.kids[a.n.toNat]?).bind fun g=>g.kids.getLast?) (b4r (Oz F) (e.u.kids[a.n.toNat]?) ag) { r with calls:=r.calls+1 })))
theorem b8g(hg:Pg e)(hB:BK F e n)(hn:e.lim<n+r.st)(a:Vl)(ag:List Vl)(sv:Value)(l:List Vl)(ha:VG r.tb.length (nf e) a)(has:gL e W D r.tb.length ag sv)(h:Rq e D r W):Cl 11 #[pR e,a.v,sv] W (RQ (gV e) e D W r.tb.length (a6i F e a ag l r)):=by
 obtain⟨k,y,s,q1,q2,d⟩:=a
 by_cases hk:k=5
 ·subst hk
  by_cases hc:r.calls=40
  ·have o:a6i F e ⟨5,y,s,q1,q2,d⟩ ag l r=Res.stop 2 1 r:=by unfold a6i;rw[if_pos rfl,if_pos hc];rfl
   rw[o]
   exact c5b h hc y s sv _ _
  ·have h0:0<=y:=ha.n0 (.inr rfl)
   have h1:y<nf e:=ha.f rfl
   obtain⟨i,rfl⟩:∃i:Nat,y=i:=⟨y.toNat,by omega⟩
   have hi:i<e.u.kids.length:=by simp only[nf]at h1;omega
   obtain⟨p,hp⟩:∃p,e.u.kids[i]?=some p:=⟨_,List.getElem?_eq_getElem hi⟩
   have j:=hg.wu.wf p (List.mem_of_getElem? hp)
   obtain⟨m,g⟩:∃m,p.kids.length=m+1:=⟨p.kids.length-1,by have:=j.l1;omega⟩
   have z8:m<=30:=by have:=j.l6;omega
   obtain⟨z,hb⟩:∃z,p.kids[m]?=some z:=⟨_,List.getElem?_eq_getElem (by omega)⟩
   obtain⟨hf,z9⟩:=j.wf.kid hb
   have z7:z.k=4:=by
    unfold a0z at hf
    rw[j.k,g]at hf
    simpa using hf
   have q:p.kids.getLast?=some z:=by rw[List.getLast?_eq_getElem?,g];exact hb
   have o:a6i F e ⟨5,(i:Nat),s,q1,q2,d⟩ ag l r=a3c (Oz F) l (blkX (zS F e) z.kids (locZ ag m) { r with calls:=r.calls+1 }):=by
    unfold a6i
    rw[if_pos rfl,if_neg hc]
    show a3c _ _ (blockX _ ((e.u.kids[((i:Nat):Int).toNat]?).bind _) (b4r _ (e.u.kids[((i:Nat):Int).toNat]?) ag) _)=_
    rw[Int.toNat_natCast,hp,<- c8j]
    show a3c _ _ (blockX _ p.kids.getLast? _ _)=_
    rw[q]
    show a3c _ _ (allX _ z.kids (b4r _ (some p) ag) _)=_
    have:b4r (Oz F) (some p) ag=locZ ag m:=by
     unfold b4r locZ
     simp only[Option.map_some,Option.getD_some,g,Nat.add_sub_cancel]
     rfl
    rw[this]
   rw[o]
   exact c8t hg hB hn i m s p z hp g z8 hb z9 z7 ag sv has h (by have:=h.gd.ca;omega) l
 ·have o:a6i F e ⟨k,y,s,q1,q2,d⟩ ag l r=Res.stop 2 3 r:=by unfold a6i;rw[if_neg hk];rfl
  rw[o]
  exact c8s h k y s sv (by simpa using hk) _ _
theorem b6h{a:Vl}{l l2:List Vl}{r r2:Rn Tb}(h:a6i F e a ag l r=Res.ok v l2 r2):l2=l:=by
 unfold a6i at h
 by_cases hk:a.k=5
 ·rw[if_pos hk]at h
  by_cases hc:r.calls=40
  ·rw[if_pos hc]at h;cases h
  ·rw[if_neg hc]at h
   generalize blockX (zS F e) _ _ _=x at h
   replace h:a3c (Oz F) l x=Res.ok v l2 r2:=h
   match x,h with
   | .inl _,h=>cases h
   | .inr (.inl (_,_)),h=>cases h;rfl
   | .inr (.inr (_,_,_)),h=>cases h;rfl
 ·rw[if_neg hk]at h;cases h
structure d8r (P:Prop):Prop where
 out:P
theorem via{α β γ δ:Type}{T B:α->β->γ->δ->Prop}(h:d8r (∀a b c d,T a b c d->B a b c d)->Q)(p:∀a b c d,T a b c d->B a b c d):Q:=h ⟨p⟩
structure T21 (e:En) (C:Nat) (D:Nat->Prop) (W:World) (nt:Nat) (R:Res Vl Tb Vl) (a:Vl) (sv:Value) (t:Nat) (w4:World):Prop where
 p:w4.cell? (Ad C 0)=some (pR e)
 b:w4.heap[t]?=some (bx a)
 c:∀V,Bw w4 V->Cl 11 #[pR e,.agg #[vi a.k,vi a.n,.string a.s],sv] V fun en V'=>(∃pv,en=.panicked pv/\XQ (gV e) e D C W nt R (.panicked pv) V')\/∃v:Vl,en=.returned v.v/\(V'.cell? (Ad C 0)=some (pR e)/\V'.heap[t]?=some (bx a))/\V'.heap[W.heap.size+1]?=some (bx nilV)/\((put3 V' (W.heap.size+1) v).cell? (Ad C 0)=some (pR e)/\(put3 V' (W.heap.size+1) v).heap[t]?=some (bx a))/\XQ (gV e) e D C W nt R (.returned v.v) (put3 V' (W.heap.size+1) v)
theorem t21(hg:Pg e)(hB:BK F e n){D3:Nat->Prop}{l3:List Vl}{r3:Rn Tb}{w4:World}{a:Vl}{t nt:Nat}{o:Obj}{R:Res Vl Tb Vl}(hA:Ac e C D W [(t,bx a),(W.heap.size+1,bx nilV),(W.heap.size,o)] D3 l3 r3 w4)(hrow:gL e w4 D3 r3.tb.length ag sv)(hR:a6i F e a ag l3 r3=R)(hva:VG r3.tb.length (nf e) a)(hn:e.lim<n+r3.st)(hnt:nt<=r3.tb.length)(h0:e.w1.heap.size<=W.heap.size)(ht:t≠W.heap.size+1):T21 e C D W nt R a sv t w4:=by
 refine⟨hA.st.ptr,hA.at 0 rfl,fun V hb=>?_⟩
 have s:=hA.below hb
 have u:gL e V D3 r3.tb.length ag sv:=⟨hrow.1.re fun k _ hk f=>⟨trivial,hk,hb.block k f⟩,hrow.2⟩
 refine(b8g (F:=F) hg hB hn a ag sv l3 hva u s.st.rq).mono ?_
 rintro en V' (⟨pv,rfl,d⟩|⟨v,l',r',D',vv,hx,rfl,hq,hK,m,rfl,h⟩)
 ·exact .inl ⟨pv,rfl,.inl ⟨pv,rfl,(s.bad (d.mono fun _ _ x=>x.elim)).eq hR.symm⟩⟩
 ·have hl:=b6h hx
  subst hl
  have y:=s.re hq hK m
  have z:=y.put (i:=1) v h0 rfl (fun j p q g=>by
   match j,q with
   | 0,q=>cases q;exact ht
   | 1,q=>exact absurd rfl g
   | 2,q=>cases q;show W.heap.size≠_;omega)
  exact .inr ⟨v,rfl,⟨y.st.ptr,y.at 0 rfl⟩,y.at 1 rfl,⟨z.st.ptr,z.at 0 rfl⟩,.inr ⟨v,l',r',D',_,hR.symm.trans hx,rfl,z.st,z.ck,Nat.le_trans hnt m,rfl,h⟩⟩
theorem PK.tail{ks:List Pt}{cap:Nat}(h:PK tt e.w1 ks (some (Ad g off)) cap)(h0:ks≠[]):PK tt e.w1 ks.tail (if cap=1 then some (Ad g off) else some (Ad g (off+5))) (cap-1):=by
 obtain⟨h1,h2⟩:=h
 have q:0<ks.length:=List.length_pos_iff.2 h0
 refine⟨by simp;omega,?_⟩
 by_cases hc:cap=1
 ·refine .inl ?_
  have:ks.tail.length=0:=by simp;omega
  exact List.length_eq_zero_iff.1 this
 ·rw[if_neg hc]
  rcases h2 with h2|⟨p,z,s,u,h2⟩
  ·exact absurd h2 h0
  ·cases s
   refine .inr ⟨g,off+5,rfl,u,fun j y v=>?_⟩
   have:=h2 (j+1) y (by rw[List.getElem?_tail]at v;exact v)
   rw[show off+(j+1)*5=off+5+j*5 by omega]at this
   exact this
theorem e0i(t:ByteArray)(nn sl:Int)(ks:List Pt)(l:List Vl)(r:Rn Tb)(h:r.st<=e.lim):ZX F e 0 ⟨21,t,nn,sl,ks⟩ 0 0 l r=tick e.lim l r fun l r=>(exX (zE F e) ks[0]? l r).bind fun a l r=>(allX (zE F e) ks.tail l r).bind fun z l r=>a6i F e a z l r:=(a3r F e 0 _ 0 0 l r h).trans rfl
theorem d4u(hg:Pg e)(hE:EC F e n)(hB:BK F e n)(hn:e.lim<(n+1)+r.st)(t:ByteArray)(nn sl:Int)(ks:List Pt)(b:Option Addr)(cap:Nat)(hw:Wf (nf e) ⟨21,t,nn,sl,ks⟩)(hk:PK tt e.w1 ks b cap)(h:St e D C l r W):Cl 49 #[pC C,ptv ⟨21,t,nn,sl,ks⟩ b cap] W (XQ (gV e) e D C W r.tb.length (ZX F e 0 ⟨21,t,nn,sl,ks⟩ 0 0 l r)):=by
 obtain⟨s0,w0,q2,s8,y6⟩:=a6u (.cells #[vi 21,.string t,vi nn,vi sl,.slice b ks.length cap] 34) h (e0i t nn sl ks l r h.rq.gd.st)
 generalize ZX F e 0 ⟨21,t,nn,sl,ks⟩ 0 0 l r=R at y6⊢
 generalize r.tb.length=nt at y6⊢
 show Cl 49 #[pC C,.agg #[vi 21,.string t,vi nn,vi sl,.slice b ks.length cap]] W _
 clear h
 go_enter Tryz.func49,Tryz.ntmps49
 go_wp2_with (go_at_call 48;refine y6.mono ?_;rintro en w1 (⟨rfl,hx⟩|⟨rfl,r1,r0,q1,q0,hR,x6⟩);(exact⟨rfl,hx⟩);refine Hid.out ?_)
 try dsimp only at hR
 obtain⟨p0,p1,p2,p3,p4,_,_,_,_,_⟩:=in5 (x6.at 1 rfl)
 obtain⟨d0,d1,d2,f0,f1,f2⟩:=in3 (x6.at 0 rfl)
 have u2:=x6.st.ptr
 clear y6 s8 r0
 have v8:1<=ks.length/\ks.length<=6:=by
  have u9:=hw
  rw[Wf]at u9
  have h1:=u9.1
  have h2:=u9.2.2.2.2.2.2.1 rfl
  clear u9
  unfold a0w at h1
  omega
 have v7:∀(j:Nat) (y:Pt),ks[j]?=some y->a2s y.k/\Wf (nf e) y:=fun j y hy=>by
  have k0:=hw.kid hy
  refine⟨?_,k0.2⟩
  have k1:=k0.1
  unfold a0z at k1
  simp only at k1
  rw[if_neg (by omega),if_neg (by omega),if_neg (by omega),if_neg (by omega),if_neg (by omega)]at k1
  exact k1
 obtain⟨y0,v0⟩:∃y0,ks[0]?=some y0:=⟨_,List.getElem?_eq_getElem (by omega)⟩
 obtain⟨r9,s9⟩:=v7 0 y0 v0
 obtain⟨g,o,b0,w9,rfl,s6,r8⟩:=PK.kid hk v0
 have q7:=hk.1
 have u1:=hk.tail (by intro ee;rw[ee]at v8;simp at v8)
 have u4:ks.tail.length=ks.length-1:=by simp
 obtain⟨L,t8⟩:=exq (ks.length)
 rw[t8]at v8 q7 p4 u4
 have p7:0<L:=by omega
 have p5:(0:Int)<(L:Int):=by omega
 have p6:(1:Int)<=(L:Int):=by omega
 have p9:(L:Int)<=(cap:Int):=by omega
 rw[v0]at hR
 replace hR:((ZX F e 0 y0 0 0 l r1).bind fun a l r=>(allX (zE F e) ks.tail l r).bind fun ag l r=>a6i F e a ag l r)=R:=hR
 have z5:∀V,Bw w1 V->Cl 49 #[pC C,.agg #[vi y0.k,.string y0.t,vi y0.n,vi y0.sl,.slice b0 y0.kids.length w9]] V (XQ (gV e) e D C V r1.tb.length (ZX F e 0 y0 0 0 l r1)):=fun V hb=>hE y0 b0 w9 C l r1 D V (by omega) s9 r9 s6 (x6.below hb).st
 have y3:∀V V' pv,Bw w1 V->Bd (fun q=>q=C) e D V (ZX F e 0 y0 0 0 l r1) pv V'->XQ (gV e) e D C W nt R (.panicked pv) V':=fun V V' pv hb z8=>.inl ⟨pv,rfl,(((x6.below hb).bad z8).bind _).eq hR.symm⟩
 obtain⟨bt,q8⟩:∃bt:Option Addr,(if cap=1 then some (Ad g o) else some (Ad g (o+5)))=bt:=⟨_,rfl⟩
 rw[q8]at u1
 have y7:∀a l2 r2 D2 V,St e D2 C l2 r2 V->ZX F e 0 y0 0 0 l r1=Res.ok a l2 r2->Cl 79 #[pC C,.slice bt (L-1) (cap-1)] V (XQ (gM e V) e D2 C V r2.tb.length (allX (zE F e) ks.tail l2 r2)):=fun a l2 r2 D2 V hS hx=>by
  have p8:=a5b hx
  have:=d4m hE ks.tail bt (cap-1) (by omega) (by omega) (fun j y hy=>v7 (j+1) y (by rw[List.getElem?_tail]at hy;exact hy)) u1 hS
  rw[u4]at this
  exact this
 have z7:∀a l2 r2 V' pv,ZX F e 0 y0 0 0 l r1=Res.ok a l2 r2->Bd (fun q=>q=C) e D W (allX (zE F e) ks.tail l2 r2) pv V'->XQ (gV e) e D C W nt R (.panicked pv) V':=fun a l2 r2 V' pv hx z8=>.inl ⟨pv,rfl,(z8.bind _).eq (by rw[<- hR,hx];rfl)⟩
 have m:∀os D2 l2 r2 V,Ac e C D W os D2 l2 r2 V->(W.heap.size,.cells #[vi 21,.string t,vi nn,vi sl,.slice (some (Ad g o)) ks.length cap] 34)∈os->(fun V=>Ce V W.heap.size 4 (.slice (some (Ad g o)) L cap)/\Ce V g o (vi y0.k)/\Ce V g (o+1) (.string y0.t)/\Ce V g (o+2) (vi y0.n)/\Ce V g (o+3) (vi y0.sl)/\Ce V g (o+4) (.slice b0 y0.kids.length w9)) V:=fun os D2 l2 r2 V hA hm=>by
  have k1:=in5 (hA.bo _ hm).1
  have k3:=r8 V hA.st.rq.bl
  simp only[Nat.zero_mul,Nat.add_zero]at k3
  exact⟨by rw[<- t8];exact k1.c4,k3.c0,k3.c1,k3.c2,k3.c3,k3.c4⟩
 have y8:∀a l2 r2 ag l3 r3 D3 (wS w3 w4:World) sv t',ZX F e 0 y0 0 0 l r1=Res.ok a l2 r2->allX (zE F e) ks.tail l2 r2=Res.ok ag l3 r3->VG r2.tb.length (nf e) a->r1.tb.length<=r2.tb.length->r2.tb.length<=r3.tb.length->Ac e C D W [(t',bx nilV),(W.heap.size+1,bx nilV),(W.heap.size,.cells #[vi 21,.string t,vi nn,vi sl,.slice (some (Ad g o)) ks.length cap] 34)] D3 l3 r3 w4->gM e wS w3 D3 r3.tb.length ag sv->Bw w3 w4->(t'<wS.heap.size\/w3.heap.size<=t')->W.heap.size+1<t'->Ac e C D W [(t',bx a),(W.heap.size+1,bx nilV),(W.heap.size,.cells #[vi 21,.string t,vi nn,vi sl,.slice (some (Ad g o)) ks.length cap] 34)] D3 l3 r3 (put3 w4 t' a)/\T21 e C D W nt R a sv t' (put3 w4 t' a):=fun a l2 r2 ag l3 r3 D3 wS w3 w4 sv t' z9 y4 w8 v9 x8 hA z6 r6 ht s5=>by
  have r5:=hA.put (i:=0) a s0 rfl (fun j p hj q9=>by
   match j,hj with
   | 0,hj=>exact absurd rfl q9
   | 1,hj=>cases hj;show W.heap.size+1≠_;omega
   | 2,hj=>cases hj;show W.heap.size≠_;omega)
  have u3:gL e (put3 w4 t' a) D3 r3.tb.length ag sv:=⟨z6.1.re fun k _ hk s5=>⟨trivial,fun hh=>hk (.inl hh),(a0l _ _ (fun ee=>by rcases ht with ht|ht;exact hk (.inr (by omega));omega)).trans (r6.block k s5)⟩,z6.2⟩
  have g2:=a5b z9
  have g3:r2.st<=r3.st:=by
   have:=(Gr.all (fun p l r=>grow (O:=Oz F) (prog:=e.u.kids) (lim:=e.lim) (2*e.lim+3) 0 p 0 0 l r) ks.tail l2 r2).1
   rw[show allX (fun p=>X (Oz F) e.u.kids e.lim (2*e.lim+3) 0 p 0 0) ks.tail l2 r2=Res.ok ag l3 r3 from y4]at this
   exact this
  exact⟨r5,t21 hg hB r5 u3 (by rw[<- hR,z9];show _=(allX _ _ _ _).bind _;rw[y4];rfl) (w8.mono x8) (by omega) (by omega) s0 (by omega)⟩
 have w7:Bw w1 w1.drew:=(Below.refl _ _).drew
 have z1:=x6.below w7
 have t3:W.heap.size+1<w1.drew.heap.size:=block_lt (z1.at 0 rfl)
 have u7:=m _ _ _ _ _ z1 (by simp)
 have s7:w1.drew.cell? (Ad C 0)=some (pR e):=z1.st.ptr
 replace z5:Hid _:=z5
 replace y3:Hid _:=y3
 replace z7:Hid _:=z7
 replace y7:Hid _:=y7
 replace y8:Hid _:=y8
 replace m:Hid _:=m
 clear x6 hR hE hB hk hw t8 r8 v0 hg s6 r9 s9 v7 u1 u4
 refine Lib.hid ?_
 go_wp2
 clear d0 d1 d2 f0 f1 f2 p0 p1 p2 p3 p4 u2
 refine' via (T:=T21 e C D W nt R) ?_ ?_
 rotate_left
 ·intro tail
  refine wp_region_held_drew (S:=fun V=>Ce V W.heap.size 4 (.slice (some (Ad g o)) L cap)/\Ce V g o (vi y0.k)/\Ce V g (o+1) (.string y0.t)/\Ce V g (o+2) (vi y0.n)/\Ce V g (o+3) (vi y0.sl)/\Ce V g (o+4) (.slice b0 y0.kids.length w9)) (by kernel_rfl) u7 (fun z4=>?_)
  change wpAnyH _ _ _ _ _ 14 _ _ _
  obtain⟨x9,u8⟩:=exq (w1.drew)
  rw[u8]at z4 w7 z1 t3⊢
  clear u8
  iterate 5 (refine tkH 0 (by simp only[nx,gq1,gq2,gq3];rfl) (by kernel_rfl) (by rfl) z4 ⟨_,by intro w ⟨_,_,_,_,_,_⟩;go_simp;try with_reducible rfl,by exact fun _ _ _ h=>h,?_⟩;try simp only[Act.put,sq1,sq2,sq3])
  iterate 4 (refine tkH 1 (by simp only[nx,gq1,gq2,gq3];rfl) (by kernel_rfl) (by rfl) z4 ⟨_,by intro w ⟨_,_,_,_,_,_⟩;go_simp;try with_reducible rfl,by exact fun _ _ _ h=>h,?_⟩;try simp only[Act.put,sq1,sq2,sq3])
  refine wpAnyH_ready (rs:=[5,11]) (by kernel_rfl) (by simp) ?_
  refine AllReadyH.cons rfl (fun K z=>?_) ?_
  ·go_simp
   go_at_call 49
   refine(z5.out _ w7).mono ?_
   intro en w2 hq
   rcases hq.par with⟨pv,rfl,z8⟩|⟨a,l2,r2,D2,vv,z9,rfl,t9,v3,v9,rfl,w8⟩
   ·exact⟨rfl,y3.out _ _ _ w7 z8⟩
   have y9:=z1.step t9 v3
   have t4:=m.out _ _ _ _ _ y9 (by simp)
   have z2:=v3.k.size
   try simp only[World.size_alloc]at z2
   refine z.out _ _ t4 (fun _=>?_)
   clear z K
   try simp only[Act.put,sq1,sq2,sq3]
   refine wpAnyH_ready (rs:=[10,11]) (by kernel_rfl) (by simp) ?_
   refine AllReadyH.cons rfl (fun K z=>?_) ?_
   ·go_simp
    go_at_call 79
    refine(y7.out _ _ _ _ _ y9.st z9).mono ?_
    intro en w3 hq
    rcases hq.par with⟨pv,rfl,z8⟩|⟨ag,l3,r3,D3,sv,y4,rfl,v4,y2,x8,z6⟩
    ·exact⟨rfl,z7.out _ _ _ _ _ z9 (y9.bad z8)⟩
    have z0:=y9.step v4 y2
    have v2:=m.out _ _ _ _ _ z0 (by simp)
    have z3:=y2.k.size
    try simp only[World.size_alloc]at z3
    refine z.out _ _ v2 (fun _=>?_)
    clear z K
    try simp only[Act.put,sq1,sq2,sq3]
    refine wpAnyH_ready (rs:=[11]) (by kernel_rfl) (by simp) ?_
    refine AllReadyH.cons rfl (fun K z=>?_) .nil
    obtain⟨w6,x5⟩:=exq (w3.alloc (.cells #[vi 0,vi 0,.string ⟨#[]⟩] 52))
    have v6:Bw w3 w6:=by rw[<- x5];exact ext_alloc (Below.refl _ _) _
    have q5:w6.heap.size=w3.heap.size+1:=by rw[<- x5,World.size_alloc]
    have x7:=z0.add v6 (Nat.le_refl _) (show w6.heap[w3.heap.size]?=some (bx nilV) by rw[<- x5];exact new1 _ _)
    have t7:=m.out _ _ _ _ _ x7 (by simp)
    go_simp
    try rw[x5]
    refine z.out _ _ t7 (fun _=>?_)
    clear z K
    try simp only[Act.put,sq1,sq2,sq3]
    refine wpAnyH_ready (rs:=[12]) (by kernel_rfl) (by simp) ?_
    refine AllReadyH.cons rfl (fun K z=>?_) .nil
    have gT:=x7.at 0 rfl
    obtain⟨t0,t1,t2,k0,k1,k2⟩:=in3 gT
    have hT:=y8.out _ _ _ _ _ _ _ _ _ _ _ _ z9 y4 w8 v9 x8 x7 z6 v6 (by first|exact .inr (Nat.le_refl _)|exact .inl (by omega)) (by omega)
    have y1:=m.out _ _ _ _ _ hT.1 (by simp)
    go_simp
    refine z.out _ _ y1 (fun _=>?_)
    clear z K
    try simp only[Act.put,sq1,sq2,sq3]
    iterate 1 (refine tkH 0 (by simp only[nx,gq1,gq2,gq3];rfl) (by kernel_rfl) (by rfl) y1 ⟨_,by intro w ⟨_,_,_,_,_,_⟩;go_simp;try with_reducible rfl,by exact fun _ _ _ h=>h,?_⟩;try simp only[Act.put,sq1,sq2,sq3])
    refine wpAnyH_done (by kernel_rfl) ?_ _
    replace hT:=hT.2
    obtain⟨f,w5⟩:=exq (w3.heap.size)
    rw[w5]at hT⊢
    obtain⟨wz,d⟩:=exq (put3 w6 f a)
    rw[d]at hT
    replace d:((w6.setCell (Ad f 0) (vi a.k)).setCell (Ad f 1) (vi a.n)).setCell (Ad f 2) (.string a.s)=wz:=d
    rw[d]
    exact tail.out a sv f wz hT
   refine AllReadyH.cons rfl (fun K z=>?_) .nil
   obtain⟨u6,x4⟩:=exq (w2.alloc (.cells #[vi 0,vi 0,.string ⟨#[]⟩] 52))
   have u0:Bw w2 u6:=by rw[<- x4];exact ext_alloc (Below.refl _ _) _
   have q4:u6.heap.size=w2.heap.size+1:=by rw[<- x4,World.size_alloc]
   have y5:=y9.add u0 (Nat.le_refl _) (show u6.heap[w2.heap.size]?=some (bx nilV) by rw[<- x4];exact new1 _ _)
   have t6:=m.out _ _ _ _ _ y5 (by simp)
   go_simp
   try rw[x4]
   refine z.out _ _ t6 (fun _=>?_)
   clear z K
   try simp only[Act.put,sq1,sq2,sq3]
   refine wpAnyH_ready (rs:=[10]) (by kernel_rfl) (by simp) ?_
   refine AllReadyH.cons rfl (fun K z=>?_) .nil
   go_simp
   go_at_call 79
   refine(y7.out _ _ _ _ _ y5.st z9).mono ?_
   intro en w3 hq
   rcases hq.par with⟨pv,rfl,z8⟩|⟨ag,l3,r3,D3,sv,y4,rfl,v4,y2,x8,z6⟩
   ·exact⟨rfl,z7.out _ _ _ _ _ z9 (y5.bad z8)⟩
   have z0:=y5.step v4 y2
   have v2:=m.out _ _ _ _ _ z0 (by simp)
   have z3:=y2.k.size
   try simp only[World.size_alloc]at z3
   refine z.out _ _ v2 (fun _=>?_)
   clear z K
   try simp only[Act.put,sq1,sq2,sq3]
   refine wpAnyH_ready (rs:=[12]) (by kernel_rfl) (by simp) ?_
   refine AllReadyH.cons rfl (fun K z=>?_) .nil
   have gT:=z0.at 0 rfl
   obtain⟨t0,t1,t2,k0,k1,k2⟩:=in3 gT
   have hT:=y8.out _ _ _ _ _ _ _ _ _ _ _ _ z9 y4 w8 v9 x8 z0 z6 (Below.refl _ _) (by first|exact .inr (Nat.le_refl _)|exact .inl (by omega)) (by omega)
   have y1:=m.out _ _ _ _ _ hT.1 (by simp)
   go_simp
   refine z.out _ _ y1 (fun _=>?_)
   clear z K
   try simp only[Act.put,sq1,sq2,sq3]
   iterate 1 (refine tkH 0 (by simp only[nx,gq1,gq2,gq3];rfl) (by kernel_rfl) (by rfl) y1 ⟨_,by intro w ⟨_,_,_,_,_,_⟩;go_simp;try with_reducible rfl,by exact fun _ _ _ h=>h,?_⟩;try simp only[Act.put,sq1,sq2,sq3])
   refine wpAnyH_done (by kernel_rfl) ?_ _
   replace hT:=hT.2
   obtain⟨f,w5⟩:=exq (w2.heap.size)
   rw[w5]at hT⊢
   obtain⟨wz,d⟩:=exq (put3 w3 f a)
   rw[d]at hT
   replace d:((w3.setCell (Ad f 0) (vi a.k)).setCell (Ad f 1) (vi a.n)).setCell (Ad f 2) (.string a.s)=wz:=d
   rw[d]
   exact tail.out a sv f wz hT
  refine AllReadyH.cons rfl (fun K z=>?_) .nil
  obtain⟨u5,x3⟩:=exq (x9.alloc (.cells #[vi 0,vi 0,.string ⟨#[]⟩] 52))
  have v5:Bw x9 u5:=by rw[<- x3];exact ext_alloc (Below.refl _ _) _
  have q3:u5.heap.size=x9.heap.size+1:=by rw[<- x3,World.size_alloc]
  have v1:=z1.add v5 (Nat.le_refl _) (show u5.heap[x9.heap.size]?=some (bx nilV) by rw[<- x3];exact new1 _ _)
  have t5:=m.out _ _ _ _ _ v1 (by simp)
  have r7:=ext_trans w7 v5
  go_simp
  try rw[x3]
  refine z.out _ _ t5 (fun _=>?_)
  clear z K
  try simp only[Act.put,sq1,sq2,sq3]
  refine wpAnyH_ready (rs:=[5]) (by kernel_rfl) (by simp) ?_
  refine AllReadyH.cons rfl (fun K z=>?_) .nil
  go_simp
  go_at_call 49
  refine(z5.out _ r7).mono ?_
  intro en w2 hq
  rcases hq.par with⟨pv,rfl,z8⟩|⟨a,l2,r2,D2,vv,z9,rfl,t9,v3,v9,rfl,w8⟩
  ·exact⟨rfl,y3.out _ _ _ r7 z8⟩
  have y9:=v1.step t9 v3
  have t4:=m.out _ _ _ _ _ y9 (by simp)
  have z2:=v3.k.size
  try simp only[World.size_alloc]at z2
  refine z.out _ _ t4 (fun _=>?_)
  clear z K
  try simp only[Act.put,sq1,sq2,sq3]
  refine wpAnyH_ready (rs:=[10]) (by kernel_rfl) (by simp) ?_
  refine AllReadyH.cons rfl (fun K z=>?_) .nil
  go_simp
  go_at_call 79
  refine(y7.out _ _ _ _ _ y9.st z9).mono ?_
  intro en w3 hq
  rcases hq.par with⟨pv,rfl,z8⟩|⟨ag,l3,r3,D3,sv,y4,rfl,v4,y2,x8,z6⟩
  ·exact⟨rfl,z7.out _ _ _ _ _ z9 (y9.bad z8)⟩
  have z0:=y9.step v4 y2
  have v2:=m.out _ _ _ _ _ z0 (by simp)
  have z3:=y2.k.size
  try simp only[World.size_alloc]at z3
  refine z.out _ _ v2 (fun _=>?_)
  clear z K
  try simp only[Act.put,sq1,sq2,sq3]
  refine wpAnyH_ready (rs:=[12]) (by kernel_rfl) (by simp) ?_
  refine AllReadyH.cons rfl (fun K z=>?_) .nil
  have gT:=z0.at 0 rfl
  obtain⟨t0,t1,t2,k0,k1,k2⟩:=in3 gT
  have hT:=y8.out _ _ _ _ _ _ _ _ _ _ _ _ z9 y4 w8 v9 x8 z0 z6 (Below.refl _ _) (by first|exact .inr (Nat.le_refl _)|exact .inl (by omega)) (by omega)
  have y1:=m.out _ _ _ _ _ hT.1 (by simp)
  go_simp
  refine z.out _ _ y1 (fun _=>?_)
  clear z K
  try simp only[Act.put,sq1,sq2,sq3]
  iterate 1 (refine tkH 0 (by simp only[nx,gq1,gq2,gq3];rfl) (by kernel_rfl) (by rfl) y1 ⟨_,by intro w ⟨_,_,_,_,_,_⟩;go_simp;try with_reducible rfl,by exact fun _ _ _ h=>h,?_⟩;try simp only[Act.put,sq1,sq2,sq3])
  refine wpAnyH_done (by kernel_rfl) ?_ _
  replace hT:=hT.2
  obtain⟨f,w5⟩:=exq (x9.heap.size)
  rw[w5]at hT⊢
  obtain⟨wz,d⟩:=exq (put3 w3 f a)
  rw[d]at hT
  replace d:((w3.setCell (Ad f 0) (vi a.k)).setCell (Ad f 1) (vi a.n)).setCell (Ad f 2) (.string a.s)=wz:=d
  rw[d]
  exact tail.out a sv f wz hT
 ·intro a sv f wz hT
  clear z5 y3 z7 y7 y8 m w7 z1 u7 s7
  have q6:Bw wz wz.drew:=(Below.refl _ _).drew
  have r4:(fun V=>Ce V C 0 (pR e)/\Ce V f 0 (vi a.k)/\Ce V f 1 (vi a.n)/\Ce V f 2 (.string a.s)) wz.drew:=by
   obtain⟨x0,x1,x2,_,_,_⟩:=in3 hT.b
   exact⟨hT.p,x0,x1,x2⟩
  replace hT:Hid _:=hT
  refine Lib.hid ?_
  go_wp2
  refine wp_region_held_drew (S:=fun V=>Ce V C 0 (pR e)/\Ce V f 0 (vi a.k)/\Ce V f 1 (vi a.n)/\Ce V f 2 (.string a.s)) (by kernel_rfl) r4 (fun z4=>?_)
  change wpAnyH _ _ _ _ _ 8 _ _ _
  iterate 6 (refine tkH 0 (by simp only[nx,gq1,gq2,gq3];rfl) (by kernel_rfl) (by rfl) z4 ⟨_,by intro w ⟨_,_,_,_⟩;go_simp;try with_reducible rfl,by exact fun _ _ _ h=>h,?_⟩;try simp only[Act.put,sq1,sq2,sq3])
  refine wpAnyH_ready (rs:=[6]) (by kernel_rfl) (by simp) ?_
  refine AllReadyH.cons rfl (fun K z=>?_) .nil
  go_simp
  go_at_call 11
  refine(hT.out.c _ q6).mono ?_
  rintro en V' (⟨pv,rfl,hq⟩|⟨v,rfl,⟨s1,s2⟩,gR,⟨s3,s4⟩,hf⟩)
  ·exact⟨rfl,hq⟩
  obtain⟨m0,m1,m2,_,_,_⟩:=in3 s2
  obtain⟨o0,o1,o2,_,_,_⟩:=in3 s4
  obtain⟨t0,t1,t2,k0,k1,k2⟩:=in3 gR
  refine z.out _ _ ⟨s1,m0,m1,m2⟩ (fun _=>?_)
  clear z K
  try simp only[Act.put,sq1,sq2,sq3]
  refine wpAnyH_ready (rs:=[7]) (by kernel_rfl) (by simp) ?_
  refine AllReadyH.cons rfl (fun K z=>?_) .nil
  go_simp
  refine z.out _ _ ⟨s3,o0,o1,o2⟩ (fun _=>?_)
  clear z K
  try simp only[Act.put,sq1,sq2,sq3]
  refine wpAnyH_done (by kernel_rfl) ?_ _
  go_wp2
  exact bodyPost_ret (res49 (B:=W.heap.size+1) rfl (put3_same _ gR)) rfl hf
end
section
variable {F:Int->Vl->Vl->Vl×Int} {e:En}
theorem expr_of(hF:OpF F)(hg:Pg e)(hE:EC F e n)(hB:BK F e n):EC F e (n+1):=by
 intro q b cap C l r D W hn y hk hp h
 obtain⟨k,t,z,sl,ks⟩:=q
 have v:13<=k/\k<=26:=hk
 have u:k=13\/k=14\/k=15\/k=16\/k=17\/k=18\/k=19\/k=20\/k=21\/k=22\/k=23\/k=24\/k=25\/k=26:=by omega
 rcases u with rfl|rfl|rfl|rfl|rfl|rfl|rfl|rfl|rfl|rfl|rfl|rfl|rfl|rfl
 ·exact d3z t z sl ks b cap y hp h
 ·exact d4a t z sl ks b cap y hp h
 ·exact d4b t z sl ks b cap y hp h
 ·exact d4c t z sl ks b cap y hp h
 ·exact d4d t z sl ks b cap y hp h
 ·exact d4e hg.wu.l t z sl ks b cap y hp h
 ·exact d4f t z sl ks b cap y hp h
 ·exact d4h hE hn t z sl ks b cap y hp h
 ·exact d4u hg hE hB hn t z sl ks b cap y hp h
 ·by_cases h2:z=20\/z=21
  ·exact c8n hE hn t z sl ks b cap h2 y hp h
  ·exact c8o hF hg hE hn t z sl ks b cap h2 y hp h
 ·exact d4o hF hg hE hn t z sl ks b cap y hp h
 ·exact d4p hF hg hE hn t z sl ks b cap y hp h
 ·exact d4j hE hn t z sl ks b cap y hp h
 ·exact d4g hE hn t z sl ks b cap y hp h
theorem stat_of(hg:Pg e)(hE:EC F e n)(hB:BK F e n):SC F e (n+1):=by
 intro q b cap C l r D W hn y hk hp h
 obtain⟨k,t,z,sl,ks⟩:=q
 have v:5<=k/\k<=12:=hk
 have u:k=5\/k=6\/k=7\/k=8\/k=9\/k=10\/k=11\/k=12:=by omega
 rcases u with rfl|rfl|rfl|rfl|rfl|rfl|rfl|rfl
 ·exact stat_5 hE hn t z sl ks b cap y hp h
 ·exact stat_6 hE hn t z sl ks b cap y hp h
 ·exact d8l hE hn t z sl ks b cap y hp h
 ·exact d8m hE hB hn t z sl ks b cap y hp h
 ·exact d8n hE hB hn t z sl ks b cap y hp h
 ·exact d4s hE hB hn t z sl ks b cap y hp h
 ·exact d4q hE hn t z sl ks b cap y hp h
 ·exact d4n hg hE hn t z sl ks b cap y hp h
theorem c5c(hF:OpF F)(hg:Pg e):∀n,EC F e n/\SC F e n
 | 0=>⟨fun q b cap C l r D W hn _ _ _ h=>by have:=h.rq.gd.st;omega,fun q b cap C l r D W hn _ _ _ h=>by have:=h.rq.gd.st;omega⟩
 | n+1 =>
  have z:=c5c hF hg n
  ⟨expr_of hF hg z.1 (block_of z.2),stat_of hg z.1 (block_of z.2)⟩
theorem c5d(hF:OpF F)(hg:Pg e)(n:Nat):BK F e n:=block_of (c5c hF hg n).2
end
section
variable {F:Int->Vl->Vl->Vl×Int} {e:En} {D:Nat->Prop} {r:Rn Tb} {W:World}
structure Sh where
 en:Int
 er:Int
 last:ByteArray
 out:List ByteArray
 st:Nat
def shX (x:Res Vl Tb Vl):Sh:=match x with
 | .inl (c,a,r)=>⟨c,a,⟨#[]⟩,r.out,r.st⟩
 | .inr (.inl (_,r))=>⟨0,0,⟨#[]⟩,r.out,r.st⟩
 | .inr (.inr (v,_,r))=>⟨1,0,tx v,r.out,r.st⟩
structure ShA (e:En) (s:Sh) (W:World):Prop where
 mem:∃ua uc,W.cell? ⟨e.R,0,none⟩=some (.int .i64 s.en)/\W.cell? ⟨e.R,1,none⟩=some (.int .i64 s.er)/\W.cell? ⟨e.R,2,none⟩=some (.string s.last)/\W.cell? ⟨e.R,3,none⟩=some (.slice ua s.out.length uc)/\W.cell? ⟨e.R,4,none⟩=some (.int .i64 (s.st:Nat))/\W.ownsRow e.w1.heap.size 9 1 (.slice ua s.out.length uc) s.out.length (s.out.map Value.string)
 bl:Below e.w1.heap.size e.w1 W
 lim:s.st<=e.lim/\s.out.length<=1000
theorem d8s{V:World}{en er:Int}{last:ByteArray}(h:Rq e D r V)(h0:W.cell? ⟨e.R,0,none⟩=some (.int .i64 en))(h1:W.cell? ⟨e.R,1,none⟩=some (.int .i64 er))(h2:W.cell? ⟨e.R,2,none⟩=some (.string last))(h3:W.cell? ⟨e.R,3,none⟩=V.cell? ⟨e.R,3,none⟩)(h4:W.cell? ⟨e.R,4,none⟩=V.cell? ⟨e.R,4,none⟩)(hb:∀b,D b->b≠e.R->W.heap[b]?=V.heap[b]?)(hl:Below e.w1.heap.size e.w1 W):ShA e ⟨en,er,last,r.out,r.st⟩ W:=by
 obtain⟨o,p,u,v,q,a1,a2,s,j,y,m,n⟩:=h.mem
 refine⟨⟨u,v,h0,h1,h2,h3.trans (cell_block a1 rfl),h4.trans (cell_block a1 rfl),a2r s fun b z=>hb b (y b z).1 (y b z).2.1⟩,hl,h.gd.st,?_⟩
 have:=h.gd.ou
 have:=h.gd.st
 have:=h.gd.l1
 show r.out.length<=1000
 omega
theorem put7{d:Option Nat}{v:Value}{c:List PanicEntry}{a:Act}(h:bodyPostD Tryz.prog Tryz.f7 R (.panic c) (a.put d v) w):bodyPostD Tryz.prog Tryz.f7 R (.panic c) a w:=by
 have hd:(a.put d v).defers=a.defers:=by cases d <;> rfl
 have z:Leaves Tryz.prog Tryz.f7 (a.put d v).tmps R (a.put d v).defers (.panicking c) w:=h
 rw[hd]at z
 exact a5d (fun w=>by simp[results,Tryz.results7]) _ _ _ z
theorem e0j(tm:Array Value)(w:World):(results Tryz.f7 tm).run Tryz.prog w=.ok (.tuple #[]) w:=by simp[results,Tryz.results7]
theorem b6i{a:Vl}{l:List Vl}{r':Rn Tb} : a6i F e a ag l r≠Res.ret v r':=by
 intro h
 unfold a6i at h
 by_cases hk:a.k=5
 ·rw[if_pos hk]at h
  by_cases hc:r.calls=40
  ·rw[if_pos hc]at h;cases h
  ·rw[if_neg hc]at h
   generalize blockX (zS F e) _ _ _=x at h
   replace h:a3c (Oz F) l x=Res.ret v r':=h
   match x,h with
   | .inl _,h=>cases h
   | .inr (.inl (_,_)),h=>cases h
   | .inr (.inr (_,_,_)),h=>cases h
 ·rw[if_neg hk]at h;cases h
structure T7 (e:En) (x:Res Vl Tb Vl) (v:Vl) (tz Br:Nat) (wz:World):Prop where
 b:wz.heap[tz]?=some (bx v)
 br:wz.heap[Br]?=some (.cells #[pR e] 37)
 m:mayB v.k v.n v.s=true
 lo:e.w1.heap.size<=wz.heap.size
 bl:Below e.w1.heap.size e.w1 wz
 c0:∃y,wz.cell? ⟨e.R,0,none⟩=some y
 c2:∃y,wz.cell? ⟨e.R,2,none⟩=some y
 f0:wz.frozen? ⟨e.R,0,none⟩=false
 f2:wz.frozen? ⟨e.R,2,none⟩=false
 n1:Br≠e.R
 n2:tz≠e.R
 fin:∀V t,Below wz.heap.size wz V->t=tx v->ShA e (shX x) ((V.setCell ⟨e.R,0,none⟩ (.int .i64 1)).setCell ⟨e.R,2,none⟩ (.string t))
theorem t7{x:Res Vl Tb Vl}{l:List Vl}{tz Br:Nat}{wz:World}(hq:Rq e D r wz)(hx:x=Res.ok v l r)(hv:VG r.tb.length (nf e) v)(n:wz.heap[tz]?=some (bx v))(hr:wz.heap[Br]?=some (.cells #[pR e] 37))(n1:¬D Br)(n2:¬D tz):T7 e x v tz Br wz:=by
 obtain⟨ta,tc,ua,a,p⟩:=hq.cells
 refine⟨n,hr,hv.m,hq.bl.size,hq.bl,⟨_,cell_block p rfl⟩,⟨_,cell_block p rfl⟩,frozen_block p,frozen_block p,fun q=>n1 (q▸hq.dr),fun q=>n2 (q▸hq.dr),fun V t hV ht=>?_⟩
 have z:=hq.below hV
 obtain⟨ta,tc,ua,a,s⟩:=z.cells
 subst hx ht
 have d:V.cell? ⟨e.R,0,none⟩=some (.int .i64 0):=cell_block s rfl
 have f:V.cell? ⟨e.R,1,none⟩=some (.int .i64 0):=cell_block s rfl
 have g:V.cell? ⟨e.R,2,none⟩=some (.string ⟨#[]⟩):=cell_block s rfl
 have o:∀(i j:Nat) (u:World) (y:Value),i≠j->(u.setCell ⟨e.R,i,none⟩ y).cell? ⟨e.R,j,none⟩=u.cell? ⟨e.R,j,none⟩:=fun i j u y h=>World.cell?_setCell_other _ _ _ _ (fun q=>h (by cases q;rfl))
 refine d8s z ?_ ?_ ?_ ?_ ?_ (fun b _ n=>(set1_other _ _ n).trans (set1_other _ _ n)) ?_
 ·rw[o 2 0 _ _ (by omega)];exact World.cell?_setCell_same _ _ _ d
 ·rw[o 2 1 _ _ (by omega),o 0 1 _ _ (by omega)];exact f
 ·exact World.cell?_setCell_same _ _ _ ((o 0 2 _ _ (by omega)).trans g)
 ·rw[o 2 3 _ _ (by omega),o 0 3 _ _ (by omega)]
 ·rw[o 2 4 _ _ (by omega),o 0 4 _ _ (by omega)]
 ·exact a7r (a7r z.bl (a1e V e.R 0 _) (hq.lo _ hq.dr).1) (a1e _ e.R 2 _) (hq.lo _ hq.dr).1
theorem d4v{x:Res Vl Tb Vl}{c a:Int}{w9:World}(hx:x=Res.stop c a r9)(hz:w9.cell? ⟨e.R,11,none⟩=some (.int .i64 z))(hS:Rq e D { r9 with calls:=0 } (w9.setCell ⟨e.R,11,none⟩ (.int .i64 ((0:Nat):Int)))):(∃y0 y1,w9.cell? ⟨e.R,0,none⟩=some y0/\w9.cell? ⟨e.R,1,none⟩=some y1/\w9.frozen? ⟨e.R,0,none⟩=false/\w9.frozen? ⟨e.R,1,none⟩=false)/\ShA e (shX x) (((w9.alloc (.cells #[.int .i64 c,.int .i64 a] 50)).setCell ⟨e.R,0,none⟩ (.int .i64 c)).setCell ⟨e.R,1,none⟩ (.int .i64 a)).drew:=by
 obtain⟨ta,tc,ua,uc,n⟩:=hS.cells
 have o:∀(i j:Nat) (u:World) (y:Value),i≠j->(u.setCell ⟨e.R,i,none⟩ y).cell? ⟨e.R,j,none⟩=u.cell? ⟨e.R,j,none⟩:=fun i j u y d=>World.cell?_setCell_other _ _ _ _ (fun ee=>d (by cases ee;rfl))
 have h:e.R<w9.heap.size:=World.block_lt_of_cell? _ _ hz
 have k0:w9.cell? ⟨e.R,0,none⟩=some (.int .i64 0):=(o 11 0 w9 _ (by omega)).symm.trans (cell_block n rfl)
 have k1:w9.cell? ⟨e.R,1,none⟩=some (.int .i64 0):=(o 11 1 w9 _ (by omega)).symm.trans (cell_block n rfl)
 have k2:w9.cell? ⟨e.R,2,none⟩=some (.string ⟨#[]⟩):=(o 11 2 w9 _ (by omega)).symm.trans (cell_block n rfl)
 obtain⟨cs,t,m,hV⟩:∃cs t m,w9.heap[e.R]?=some (.cells cs t m):=by
  have hk:=Array.getElem?_eq_getElem h
  cases ho:w9.heap[e.R] with
  | cells cs t m=>exact⟨cs,t,m,by rw[hk,ho]⟩
  | _=>simp[World.cell?,hk,ho]at hz
 have f:m=(0,0):=by
  rw[set_block _ hV]at n
  simp[rnb]at n
  exact n.2.2
 subst f
 have q:=ext_alloc (Below.refl w9.heap.size w9) (.cells #[.int .i64 c,.int .i64 a] 50)
 obtain⟨V,z9⟩:=exq (w9.alloc (.cells #[.int .i64 c,.int .i64 a] 50))
 rw[z9]at q⊢
 have v:∀i,V.cell? ⟨e.R,i,none⟩=w9.cell? ⟨e.R,i,none⟩:=fun i=>q.cell (p:=⟨e.R,i,none⟩) h
 refine⟨⟨_,_,k0,k1,frozen_block hV,frozen_block hV⟩,?_⟩
 subst hx
 have hD:∀b,D b->b≠e.R->b<w9.heap.size:=fun b hb _=>by have:=(hS.lo b hb).2;simpa using this
 refine d8s (r:={ r9 with calls:=0 }) (W:=(((V.setCell ⟨e.R,0,none⟩ (.int .i64 c)).setCell ⟨e.R,1,none⟩ (.int .i64 a)).drew)) hS ?_ ?_ ?_ ?_ ?_ (fun b hb s=>?_) ?_
 ·show(((V.setCell ⟨e.R,0,none⟩ (.int .i64 c)).setCell ⟨e.R,1,none⟩ (.int .i64 a))).cell? ⟨e.R,0,none⟩=_
  rw[o 1 0 _ _ (by omega)];exact World.cell?_setCell_same _ _ _ ((v 0).trans k0)
 ·exact World.cell?_setCell_same (V.setCell ⟨e.R,0,none⟩ (.int .i64 c)) _ _ ((o 0 1 _ _ (by omega)).trans ((v 1).trans k1))
 ·show(((V.setCell ⟨e.R,0,none⟩ (.int .i64 c)).setCell ⟨e.R,1,none⟩ (.int .i64 a))).cell? ⟨e.R,2,none⟩=_
  rw[o 1 2 _ _ (by omega),o 0 2 _ _ (by omega)];exact(v 2).trans k2
 ·show(((V.setCell ⟨e.R,0,none⟩ (.int .i64 c)).setCell ⟨e.R,1,none⟩ (.int .i64 a))).cell? ⟨e.R,3,none⟩=_
  rw[o 1 3 _ _ (by omega),o 0 3 _ _ (by omega),o 11 3 _ _ (by omega)];exact v 3
 ·show(((V.setCell ⟨e.R,0,none⟩ (.int .i64 c)).setCell ⟨e.R,1,none⟩ (.int .i64 a))).cell? ⟨e.R,4,none⟩=_
  rw[o 1 4 _ _ (by omega),o 0 4 _ _ (by omega),o 11 4 _ _ (by omega)];exact v 4
 ·show(((V.setCell ⟨e.R,0,none⟩ (.int .i64 c)).setCell ⟨e.R,1,none⟩ (.int .i64 a))).heap[b]?=_
  rw[set1_other _ _ s,set1_other _ _ s,set1_other _ _ s];exact q.block b (hD b hb s)
 ·have g:=(hS.lo _ hS.dr).1
  have h9:Below e.w1.heap.size e.w1 w9:=⟨hS.bl.os,hS.bl.tape,hS.bl.output,Nat.le_trans hS.bl.size (by simp),fun k hk=>(set1_other w9 (B:=e.R) (i:=11) (.int .i64 ((0:Nat):Int)) (by omega)).symm.trans (hS.bl.block k hk)⟩
  exact(a7r (a7r (ext_trans h9 q) (a1e V e.R 0 _) g) (a1e _ e.R 1 _) g).drew
theorem via3{α β γ:Type}{T B:α->β->γ->Prop}(h:d8r (∀a b c,T a b c->B a b c)->Q)(p:∀a b c,T a b c->B a b c):Q:=h ⟨p⟩
theorem begin_any(hF:OpF F)(hg:Pg e)(j:Nat)(q:Pt)(hj:e.u.kids[j]?=some q)(hq:q.t=b4o)(v9:∀i y,i<j->e.u.kids[i]?=some y->y.t≠b4o)(r0:Rn Tb)(h:Rq e D r0 W):Calls Tryz.prog 7 #[pR e] W fun en W'=>en=.returned (.tuple #[])/\ShA e (shX (a6i F e (fnV j) [] [] r0)) W':=by
 have hmf:∀(fn:Fn) (u6 cap:Array Value) (w:World),(Instr.makeFunc fn u6 cap).run Tryz.prog w=.ok (.func fn u6 cap) w:=fun _ _ _ _=>rfl
 obtain⟨x,u5⟩:=exq (a6i F e (fnV j) [] [] r0)
 rw[u5]
 have r6:j<12:=by have:=(List.getElem?_eq_some_iff.1 hj).1;have:=hg.wu.l;omega
 have ek:fnV (j:Nat)=⟨5,j,E0,by decide,WalkArith.wf_i64 (by omega),by decide⟩:=by unfold fnV;rw[dif_pos (by omega)]
 have s0:VG r0.tb.length (nf e) (fnV j):=by
  refine⟨?_,fun hh=>?_,fun _=>?_⟩
  ·rw[ek];simp[mayB,E0];omega
  ·rw[ek]at hh;exact absurd (show(5:Int)=4 from hh) (by decide)
  ·rw[ek];show(j:Int)<_;have:=(List.getElem?_eq_some_iff.1 hj).1;simp only[nf];omega
 obtain⟨U,hU⟩:=exq (W.alloc (.cells #[pR e] 37))
 have r4:Below W.heap.size W U:=by rw[<- hU];exact ext_alloc (Below.refl _ _) _
 obtain⟨Ud,x8⟩:=exq (U.drew)
 have r5:Below W.heap.size W Ud:=by rw[<- x8];exact r4.drew
 have v3:Rq e D r0 Ud:=h.below r5
 have v5:Ud.heap[W.heap.size]?=some (.cells #[pR e] 37):=by rw[<- x8,<- hU];exact new1 _ _
 have v1:¬D W.heap.size:=h.newN (Nat.le_refl _)
 obtain⟨L,hL⟩:=exq (e.u.kids.length)
 have z4:∀D' r' X,Rq e D' r' X->X.heap[W.heap.size]?=some (.cells #[pR e] 37)->(fun V=>V.cell? ⟨W.heap.size,0,none⟩=some (pR e)/\V.cell? ⟨e.R,5,none⟩=some (.int .i64 e.u.k)/\V.cell? ⟨e.R,6,none⟩=some (.string e.u.t)/\V.cell? ⟨e.R,7,none⟩=some (.int .i64 e.u.n)/\V.cell? ⟨e.R,8,none⟩=some (.int .i64 e.u.sl)/\V.cell? ⟨e.R,9,none⟩=some (.slice e.b L e.cap)) X:=fun D' r' X hq p8=>by
  obtain⟨ta,tc,ua,uc,hc⟩:=hq.cells
  have c9:X.cell? ⟨e.R,9,none⟩=some (.slice e.b e.u.kids.length e.cap):=cell_block hc rfl
  rw[hL]at c9
  exact⟨cell_block p8 rfl,cell_block hc rfl,cell_block hc rfl,cell_block hc rfl,cell_block hc rfl,c9⟩
 have hS:∀X,Below Ud.heap.size Ud X->(fun V=>V.cell? ⟨W.heap.size,0,none⟩=some (pR e)/\V.cell? ⟨e.R,5,none⟩=some (.int .i64 e.u.k)/\V.cell? ⟨e.R,6,none⟩=some (.string e.u.t)/\V.cell? ⟨e.R,7,none⟩=some (.int .i64 e.u.n)/\V.cell? ⟨e.R,8,none⟩=some (.int .i64 e.u.sl)/\V.cell? ⟨e.R,9,none⟩=some (.slice e.b L e.cap)) X:=fun X hX=>z4 D r0 X (v3.below hX) (block_below hX v5)
 have y6:∀X,Below Ud.heap.size Ud X->Calls Tryz.prog 13 #[.agg #[.int .i64 e.u.k,.string e.u.t,.int .i64 e.u.n,.int .i64 e.u.sl,.slice e.b L e.cap]] X fun en X'=>en=.returned (.int .i64 (j:Nat))/\Below X.heap.size X X':=fun X hX=>by
  rw[<- hL]
  exact c8i (e:=e) e.u e.b e.cap j q X (v3.below hX).bl hg.pk hj hq v9
 have x9:∀X,Calls Tryz.prog 12 #[.int .i64 (j:Nat)] X fun en X'=>en=.returned (.agg #[.int .i64 5,.int .i64 (j:Nat),.string ⟨#[]⟩])/\Below X.heap.size X X':=fun X=>(a8q (j:Nat) (by omega) (by omega) X).mono fun en X' ⟨a,b⟩=>⟨by rw[a,ek],b⟩
 have u4:∀X,gL e X D r0.tb.length [] (.slice none 0 0):=fun X=>⟨⟨none,0,rfl,Nat.zero_le _,fun hh=>absurd rfl hh⟩,fun v hv=>by cases hv⟩
 have z8:∀X,Below Ud.heap.size Ud X->Calls Tryz.prog 11 #[pR e,.agg #[.int .i64 5,.int .i64 (j:Nat),.string ⟨#[]⟩],.slice none 0 0] X fun en X'=>(∃pv,en=.panicked pv/\∀tm,Leaves Tryz.prog Tryz.f7 tm (fun en W'=>en=.returned (.tuple #[])/\ShA e (shX x) W') [{ target:=.fn (.func 10) #[.pointer (some ⟨W.heap.size,0,none⟩)],args:=#[] }] (.panicking pv) X')\/∃v l9 r9 D9,x=Res.ok v l9 r9/\en=.returned (v:Vl).v/\Rq e D9 r9 X'/\CK ff D X D9 X'/\VG r9.tb.length (nf e) v:=fun X hX=>by
  have q0:=v3.below hX
  have hc:=b8g (F:=F) hg (c5d hF hg (e.lim+1)) (by omega) (fnV j) [] (.slice none 0 0) [] s0 (u4 X) q0
  rw[u5,ek]at hc
  refine Calls.mono (show Calls Tryz.prog 11 #[pR e,.agg #[.int .i64 5,.int .i64 (j:Nat),.string ⟨#[]⟩],.slice none 0 0] X _ from hc) ?_
  rintro en X' (⟨pv,rfl,s9⟩|⟨v,l',r',D',vv,hx,rfl,p9,g,p3,rfl,q8⟩)
  ·refine .inl ⟨pv,rfl,fun tm=>?_⟩
   refine leaves_cons (f:=10) (args:=#[.pointer (some ⟨W.heap.size,0,none⟩)]) (by simp) (by simp[go_sem]) ?_
   obtain⟨D9,p5,s9⟩:=s9
   rcases s9 with⟨cc,aa,r',z,hx,⟨w8,rfl,r7⟩,hz,p6⟩|⟨v,r',hx,_⟩
   ·obtain⟨⟨y0,y1,a0,a1,f0,f1⟩,q4⟩:=d4v hx hz p6
    obtain⟨br,_⟩:=p5.box (block_below hX v5) v1 id
    refine(c4p e.R W.heap.size cc aa y0 y1 w8 X' (cell_block br rfl) a0 a1 f0 f1).mono ?_
    rintro en u' r1 ⟨rfl,rfl,rfl⟩
    have r8:settle (.panicking ({ v:=endV cc aa,recovered:=true } :: w8))=.returning:=by
     have:=b8f w8 r7
     simp[settle,this]
    show Leaves _ _ _ _ [] (settle _) _
    rw[r8]
    exact⟨_,by simp[results,Tryz.results7],rfl,q4⟩
   ·exact absurd (u5.trans hx) b6i
  ·exact .inr ⟨v,l',r',D',hx,rfl,p9,g,q8⟩
 have v2:∀k,D k->k<Ud.heap.size:=fun k hk=>(v3.lo k hk).2
 have x4:e.w1.heap.size<=Ud.heap.size/\W.heap.size<Ud.heap.size:=⟨v3.bl.size,block_lt v5⟩
 have t4:∀X,Below e.w1.heap.size e.w1 X->PTab X:=fun X hX=>hg.pt.on hX
 have v0:=Below.refl Ud.heap.size Ud
 have p7:=hS Ud v0
 have p2:=x4.2
 replace hS:Hid _:=hS
 replace z4:Hid _:=z4
 replace y6:Hid _:=y6
 replace x9:Hid _:=x9
 replace z8:Hid _:=z8
 replace v2:Hid _:=v2
 replace x4:Hid _:=x4
 replace t4:Hid _:=t4
 replace x8:Hid _:=x8
 clear hF hg hj hq v9 h u5 ek s0 r4 r5 v3 u4 hL r6
 go_enter_defers Tryz.func7,Tryz.ntmps7
 go_wp2
 clear hU
 refine' via3 (T:=fun(v:Vl) (d:Nat) (wz:World)=>T7 e x v d W.heap.size wz) ?_ ?_
 rotate_left
 ·intro tail
  refine wp_region_held_drew (S:=fun V=>V.cell? ⟨W.heap.size,0,none⟩=some (pR e)/\V.cell? ⟨e.R,5,none⟩=some (.int .i64 e.u.k)/\V.cell? ⟨e.R,6,none⟩=some (.string e.u.t)/\V.cell? ⟨e.R,7,none⟩=some (.int .i64 e.u.n)/\V.cell? ⟨e.R,8,none⟩=some (.int .i64 e.u.sl)/\V.cell? ⟨e.R,9,none⟩=some (.slice e.b L e.cap)) (by kernel_rfl) (by rw[x8.out];exact p7) (fun x5=>?_)
  change wpAnyH _ _ _ _ _ 10 _ _ _
  rw[x8.out]at x5⊢
  iterate 5 (refine tkH 0 (by simp only[nx,gq1,gq2,gq3];rfl) (by kernel_rfl) (by rfl) x5 ⟨_,by intro w ⟨_,_,_,_,_,_⟩;go_simp;try with_reducible rfl,by exact fun _ _ _ h=>put7 h,?_⟩;try simp only[Act.put,sq1,sq2,sq3])
  refine wpAnyH_ready (rs:=[5,8]) (by kernel_rfl) (by simp) ?_
  refine AllReadyH.cons rfl (fun K g=>?_) ?_
  ·go_simp
   go_at_call 13
   refine(y6.out _ v0).mono ?_
   rintro en w2 ⟨rfl,s7⟩
   have w9:=ext_trans v0 s7
   have s6:=hS.out _ w9
   refine g.out _ _ s6 (fun _=>?_)
   clear g K
   try simp only[Act.put,sq1,sq2,sq3]
   refine wpAnyH_ready (rs:=[6,8]) (by kernel_rfl) (by simp) ?_
   refine AllReadyH.cons rfl (fun K g=>?_) ?_
   ·go_simp
    go_at_call 12
    refine(x9.out _).mono ?_
    rintro en w3 ⟨rfl,v4⟩
    have y9:=ext_trans w9 v4
    have u8:=hS.out _ y9
    refine g.out _ _ u8 (fun _=>?_)
    clear g K
    try simp only[Act.put,sq1,sq2,sq3]
    refine wpAnyH_ready (rs:=[7,8]) (by kernel_rfl) (by simp) ?_
    refine AllReadyH.cons rfl (fun K g=>?_) ?_
    ·go_simp
     go_at_call 11
     refine(z8.out _ y9).mono ?_
     rintro en w4 (⟨pv,rfl,hl⟩|⟨v,l9,r9,D9,hx,rfl,hq,z6,w7⟩)
     ·exact hl _
     obtain⟨s2,nb⟩:=z6.box (block_below y9 v5) v1 id
     have y4:=z4.out _ _ _ hq s2
     have u2:=Nat.le_trans y9.size z6.k.size
     refine g.out _ _ y4 (fun _=>?_)
     clear g K
     try simp only[Act.put,sq1,sq2,sq3]
     refine wpAnyH_ready (rs:=[8]) (by kernel_rfl) (by simp) ?_
     refine AllReadyH.cons rfl (fun K g=>?_) .nil
     obtain⟨w5,u1⟩:=exq (w4.alloc (.cells #[.int .i64 0,.int .i64 0,.string ⟨#[]⟩] 52))
     have s8:Below w4.heap.size w4 w5:=by rw[<- u1];exact ext_alloc (Below.refl _ _) _
     have z7:w5.heap[w4.heap.size]?=some (bx nilV):=by rw[<- u1];exact new1 _ _
     have t5:=hq.below s8
     have v7:=z4.out _ _ _ t5 (block_below s8 s2)
     have y3:=block_below s8 s2
     have y8:¬D9 w4.heap.size:=hq.newN (Nat.le_refl _)
     go_simp
     try rw[u1]
     refine g.out _ _ v7 (fun _=>?_)
     clear g K
     try simp only[Act.put,sq1,sq2,sq3]
     refine wpAnyH_ready (rs:=[9]) (by kernel_rfl) (by simp) ?_
     refine AllReadyH.cons rfl (fun K g=>?_) .nil
     obtain⟨t0,t1,t2,k0,k1,k2⟩:=in3 z7
     have y7:=t5.wrote (a0r w5 (w4.heap.size) v) y8 (by have:=t5.bl.size;have:=block_lt z7;have:=x4.out;omega)
     have w0:W.heap.size≠w4.heap.size:=by omega
     have y5:=(a0l w5 (B:=w4.heap.size) (C:=W.heap.size) v w0).trans y3
     have v6:=put3_same v z7
     have v8:=z4.out _ _ _ y7 y5
     have hT:=t7 y7 hx w7 v6 y5 nb y8
     go_simp
     refine g.out _ _ v8 (fun _=>?_)
     clear g K
     try simp only[Act.put,sq1,sq2,sq3]
     refine wpAnyH_done (by kernel_rfl) ?_ _
     obtain⟨d,w6⟩:=exq (w4.heap.size)
     rw[w6]at hT⊢
     obtain⟨wz,z9⟩:=exq (put3 w5 d v)
     rw[z9]at hT
     replace z9:((w5.setCell ⟨d,0,none⟩ (.int .i64 v.k)).setCell ⟨d,1,none⟩ (.int .i64 v.n)).setCell ⟨d,2,none⟩ (.string v.s)=wz:=z9
     rw[z9]
     exact tail.out v d wz hT
    refine AllReadyH.cons rfl (fun K g=>?_) .nil
    obtain⟨w4,u0⟩:=exq (w3.alloc (.cells #[.int .i64 0,.int .i64 0,.string ⟨#[]⟩] 52))
    have x6:Below w3.heap.size w3 w4:=by rw[<- u0];exact ext_alloc (Below.refl _ _) _
    have u7:w4.heap[w3.heap.size]?=some (bx nilV):=by rw[<- u0];exact new1 _ _
    have z5:=ext_trans y9 x6
    have y4:=hS.out _ z5
    have q7:Ud.heap.size<=w3.heap.size:=y9.size
    go_simp
    try rw[u0]
    refine g.out _ _ y4 (fun _=>?_)
    clear g K
    try simp only[Act.put,sq1,sq2,sq3]
    refine wpAnyH_ready (rs:=[7]) (by kernel_rfl) (by simp) ?_
    refine AllReadyH.cons rfl (fun K g=>?_) .nil
    go_simp
    go_at_call 11
    refine(z8.out _ z5).mono ?_
    rintro en w5 (⟨pv,rfl,hl⟩|⟨v,l9,r9,D9,hx,rfl,hq,z6,w7⟩)
    ·exact hl _
    obtain⟨y3,nb⟩:=z6.box (block_below z5 v5) v1 id
    have v7:=z4.out _ _ _ hq y3
    have u2:=Nat.le_trans z5.size z6.k.size
    obtain⟨z7,y8⟩:=z6.box u7 (fun hd=>by have:=v2.out _ hd;have:=q7;omega) id
    refine g.out _ _ v7 (fun _=>?_)
    clear g K
    try simp only[Act.put,sq1,sq2,sq3]
    refine wpAnyH_ready (rs:=[9]) (by kernel_rfl) (by simp) ?_
    refine AllReadyH.cons rfl (fun K g=>?_) .nil
    obtain⟨t0,t1,t2,k0,k1,k2⟩:=in3 z7
    have y7:=hq.wrote (a0r w5 (w3.heap.size) v) y8 (by have:=hq.bl.size;have:=block_lt z7;have:=x4.out;omega)
    have w0:W.heap.size≠w3.heap.size:=by omega
    have y5:=(a0l w5 (B:=w3.heap.size) (C:=W.heap.size) v w0).trans y3
    have v6:=put3_same v z7
    have v8:=z4.out _ _ _ y7 y5
    have hT:=t7 y7 hx w7 v6 y5 nb y8
    go_simp
    refine g.out _ _ v8 (fun _=>?_)
    clear g K
    try simp only[Act.put,sq1,sq2,sq3]
    refine wpAnyH_done (by kernel_rfl) ?_ _
    obtain⟨d,w6⟩:=exq (w3.heap.size)
    rw[w6]at hT⊢
    obtain⟨wz,z9⟩:=exq (put3 w5 d v)
    rw[z9]at hT
    replace z9:((w5.setCell ⟨d,0,none⟩ (.int .i64 v.k)).setCell ⟨d,1,none⟩ (.int .i64 v.n)).setCell ⟨d,2,none⟩ (.string v.s)=wz:=z9
    rw[z9]
    exact tail.out v d wz hT
   refine AllReadyH.cons rfl (fun K g=>?_) .nil
   obtain⟨w3,t9⟩:=exq (w2.alloc (.cells #[.int .i64 0,.int .i64 0,.string ⟨#[]⟩] 52))
   have v4:Below w2.heap.size w2 w3:=by rw[<- t9];exact ext_alloc (Below.refl _ _) _
   have s3:w3.heap[w2.heap.size]?=some (bx nilV):=by rw[<- t9];exact new1 _ _
   have y9:=ext_trans w9 v4
   have u8:=hS.out _ y9
   have q6:Ud.heap.size<=w2.heap.size:=w9.size
   go_simp
   try rw[t9]
   refine g.out _ _ u8 (fun _=>?_)
   clear g K
   try simp only[Act.put,sq1,sq2,sq3]
   refine wpAnyH_ready (rs:=[6]) (by kernel_rfl) (by simp) ?_
   refine AllReadyH.cons rfl (fun K g=>?_) .nil
   go_simp
   go_at_call 12
   refine(x9.out _).mono ?_
   rintro en w4 ⟨rfl,x6⟩
   have z5:=ext_trans y9 x6
   have y4:=hS.out _ z5
   have u7:=block_below x6 s3
   refine g.out _ _ y4 (fun _=>?_)
   clear g K
   try simp only[Act.put,sq1,sq2,sq3]
   refine wpAnyH_ready (rs:=[7]) (by kernel_rfl) (by simp) ?_
   refine AllReadyH.cons rfl (fun K g=>?_) .nil
   go_simp
   go_at_call 11
   refine(z8.out _ z5).mono ?_
   rintro en w5 (⟨pv,rfl,hl⟩|⟨v,l9,r9,D9,hx,rfl,hq,z6,w7⟩)
   ·exact hl _
   obtain⟨y3,nb⟩:=z6.box (block_below z5 v5) v1 id
   have v7:=z4.out _ _ _ hq y3
   have u2:=Nat.le_trans z5.size z6.k.size
   obtain⟨z7,y8⟩:=z6.box u7 (fun hd=>by have:=v2.out _ hd;have:=q6;omega) id
   refine g.out _ _ v7 (fun _=>?_)
   clear g K
   try simp only[Act.put,sq1,sq2,sq3]
   refine wpAnyH_ready (rs:=[9]) (by kernel_rfl) (by simp) ?_
   refine AllReadyH.cons rfl (fun K g=>?_) .nil
   obtain⟨t0,t1,t2,k0,k1,k2⟩:=in3 z7
   have y7:=hq.wrote (a0r w5 (w2.heap.size) v) y8 (by have:=hq.bl.size;have:=block_lt z7;have:=x4.out;omega)
   have w0:W.heap.size≠w2.heap.size:=by omega
   have y5:=(a0l w5 (B:=w2.heap.size) (C:=W.heap.size) v w0).trans y3
   have v6:=put3_same v z7
   have v8:=z4.out _ _ _ y7 y5
   have hT:=t7 y7 hx w7 v6 y5 nb y8
   go_simp
   refine g.out _ _ v8 (fun _=>?_)
   clear g K
   try simp only[Act.put,sq1,sq2,sq3]
   refine wpAnyH_done (by kernel_rfl) ?_ _
   obtain⟨d,w6⟩:=exq (w2.heap.size)
   rw[w6]at hT⊢
   obtain⟨wz,z9⟩:=exq (put3 w5 d v)
   rw[z9]at hT
   replace z9:((w5.setCell ⟨d,0,none⟩ (.int .i64 v.k)).setCell ⟨d,1,none⟩ (.int .i64 v.n)).setCell ⟨d,2,none⟩ (.string v.s)=wz:=z9
   rw[z9]
   exact tail.out v d wz hT
  refine AllReadyH.cons rfl (fun K g=>?_) .nil
  obtain⟨w2,t8⟩:=exq (Ud.alloc (.cells #[.int .i64 0,.int .i64 0,.string ⟨#[]⟩] 52))
  have s7:Below Ud.heap.size Ud w2:=by rw[<- t8];exact ext_alloc (Below.refl _ _) _
  have p4:w2.heap[Ud.heap.size]?=some (bx nilV):=by rw[<- t8];exact new1 _ _
  have w9:=ext_trans v0 s7
  have s6:=hS.out _ w9
  have q5:Ud.heap.size<=Ud.heap.size:=v0.size
  go_simp
  try rw[t8]
  refine g.out _ _ s6 (fun _=>?_)
  clear g K
  try simp only[Act.put,sq1,sq2,sq3]
  refine wpAnyH_ready (rs:=[5]) (by kernel_rfl) (by simp) ?_
  refine AllReadyH.cons rfl (fun K g=>?_) .nil
  go_simp
  go_at_call 13
  refine(y6.out _ w9).mono ?_
  rintro en w3 ⟨rfl,v4⟩
  have y9:=ext_trans w9 v4
  have u8:=hS.out _ y9
  have s3:=block_below v4 p4
  refine g.out _ _ u8 (fun _=>?_)
  clear g K
  try simp only[Act.put,sq1,sq2,sq3]
  refine wpAnyH_ready (rs:=[6]) (by kernel_rfl) (by simp) ?_
  refine AllReadyH.cons rfl (fun K g=>?_) .nil
  go_simp
  go_at_call 12
  refine(x9.out _).mono ?_
  rintro en w4 ⟨rfl,x6⟩
  have z5:=ext_trans y9 x6
  have y4:=hS.out _ z5
  have u7:=block_below x6 s3
  refine g.out _ _ y4 (fun _=>?_)
  clear g K
  try simp only[Act.put,sq1,sq2,sq3]
  refine wpAnyH_ready (rs:=[7]) (by kernel_rfl) (by simp) ?_
  refine AllReadyH.cons rfl (fun K g=>?_) .nil
  go_simp
  go_at_call 11
  refine(z8.out _ z5).mono ?_
  rintro en w5 (⟨pv,rfl,hl⟩|⟨v,l9,r9,D9,hx,rfl,hq,z6,w7⟩)
  ·exact hl _
  obtain⟨y3,nb⟩:=z6.box (block_below z5 v5) v1 id
  have v7:=z4.out _ _ _ hq y3
  have u2:=Nat.le_trans z5.size z6.k.size
  obtain⟨z7,y8⟩:=z6.box u7 (fun hd=>by have:=v2.out _ hd;have:=q5;omega) id
  refine g.out _ _ v7 (fun _=>?_)
  clear g K
  try simp only[Act.put,sq1,sq2,sq3]
  refine wpAnyH_ready (rs:=[9]) (by kernel_rfl) (by simp) ?_
  refine AllReadyH.cons rfl (fun K g=>?_) .nil
  obtain⟨t0,t1,t2,k0,k1,k2⟩:=in3 z7
  have y7:=hq.wrote (a0r w5 (Ud.heap.size) v) y8 (by have:=hq.bl.size;have:=block_lt z7;have:=x4.out;omega)
  have w0:W.heap.size≠Ud.heap.size:=by omega
  have y5:=(a0l w5 (B:=Ud.heap.size) (C:=W.heap.size) v w0).trans y3
  have v6:=put3_same v z7
  have v8:=z4.out _ _ _ y7 y5
  have hT:=t7 y7 hx w7 v6 y5 nb y8
  go_simp
  refine g.out _ _ v8 (fun _=>?_)
  clear g K
  try simp only[Act.put,sq1,sq2,sq3]
  refine wpAnyH_done (by kernel_rfl) ?_ _
  obtain⟨d,w6⟩:=exq (Ud.heap.size)
  rw[w6]at hT⊢
  obtain⟨wz,z9⟩:=exq (put3 w5 d v)
  rw[z9]at hT
  replace z9:((w5.setCell ⟨d,0,none⟩ (.int .i64 v.k)).setCell ⟨d,1,none⟩ (.int .i64 v.n)).setCell ⟨d,2,none⟩ (.string v.s)=wz:=z9
  rw[z9]
  exact tail.out v d wz hT
 ·intro v d wz hT
  clear y6 x9 z8 hS z4 v2 x4
  have r3:Below wz.heap.size wz wz.drew:=(Below.refl _ _).drew
  have x7:=b8c v hT.m wz.drew (t4.out _ (hT.bl.drew))
  replace x7:Calls Tryz.prog 14 #[.agg #[.int .i64 v.k,.int .i64 v.n,.string v.s]] wz.drew _:=x7
  obtain⟨u3,t6⟩:=exq (tx v)
  rw[t6]at x7
  have u9:∀X,Below wz.heap.size wz X->(fun V=>V.cell? ⟨W.heap.size,0,none⟩=some (pR e)/\V.cell? ⟨d,0,none⟩=some (.int .i64 v.k)/\V.cell? ⟨d,1,none⟩=some (.int .i64 v.n)/\V.cell? ⟨d,2,none⟩=some (.string v.s)) X:=fun X hX=>by
   obtain⟨x0,x1,x2,_,_,_⟩:=in3 (block_below hX hT.b)
   exact⟨cell_block (block_below hX hT.br) rfl,x0,x1,x2⟩
  have t3:∀X,Below wz.heap.size wz X->((∃y,X.cell? ⟨e.R,0,none⟩=some y)/\∃y,X.cell? ⟨e.R,2,none⟩=some y)/\X.frozen? ⟨e.R,0,none⟩=false/\X.frozen? ⟨e.R,2,none⟩=false/\ShA e (shX x) ((X.setCell ⟨e.R,0,none⟩ (.int .i64 1)).setCell ⟨e.R,2,none⟩ (.string u3))/\(fun V=>V.cell? ⟨W.heap.size,0,none⟩=some (pR e)/\V.cell? ⟨d,0,none⟩=some (.int .i64 v.k)/\V.cell? ⟨d,1,none⟩=some (.int .i64 v.n)/\V.cell? ⟨d,2,none⟩=some (.string v.s)) (X.setCell ⟨e.R,0,none⟩ (.int .i64 1))/\(fun V=>V.cell? ⟨W.heap.size,0,none⟩=some (pR e)/\V.cell? ⟨d,0,none⟩=some (.int .i64 v.k)/\V.cell? ⟨d,1,none⟩=some (.int .i64 v.n)/\V.cell? ⟨d,2,none⟩=some (.string v.s)) ((X.setCell ⟨e.R,0,none⟩ (.int .i64 1)).setCell ⟨e.R,2,none⟩ (.string u3)):=fun X hX=>by
   obtain⟨y0,s1⟩:=hT.c0
   obtain⟨y2,q9⟩:=hT.c2
   have v9:=World.block_lt_of_cell? _ _ s1
   obtain⟨x0,x1,x2,x3⟩:=u9 X hX
   have hk:∀(i:Nat) (u:World) (y:Value) (b o:Nat),b≠e.R->(u.setCell ⟨e.R,i,none⟩ y).cell? ⟨b,o,none⟩=u.cell? ⟨b,o,none⟩:=fun i u y b o hb=>World.cell?_setCell_other _ _ _ _ (fun ee=>hb (by cases ee;rfl))
   have q1:=hT.n1
   have q2:=hT.n2
   refine⟨⟨⟨y0,(hX.cell (p:=⟨e.R,0,none⟩) v9).trans s1⟩,⟨y2,(hX.cell (p:=⟨e.R,2,none⟩) v9).trans q9⟩⟩,(hX.frozen (p:=⟨e.R,0,none⟩) v9).trans hT.f0,(hX.frozen (p:=⟨e.R,2,none⟩) v9).trans hT.f2,hT.fin X u3 hX t6.symm,?_,?_⟩
   ·exact⟨(hk 0 _ _ _ _ q1).trans x0,(hk 0 _ _ _ _ q2).trans x1,(hk 0 _ _ _ _ q2).trans x2,(hk 0 _ _ _ _ q2).trans x3⟩
   ·exact⟨(hk 2 _ _ _ _ q1).trans ((hk 0 _ _ _ _ q1).trans x0),(hk 2 _ _ _ _ q2).trans ((hk 0 _ _ _ _ q2).trans x1),(hk 2 _ _ _ _ q2).trans ((hk 0 _ _ _ _ q2).trans x2),(hk 2 _ _ _ _ q2).trans ((hk 0 _ _ _ _ q2).trans x3)⟩
  have q3:=u9 _ r3
  replace u9:Hid _:=u9
  replace t3:Hid _:=t3
  clear hT t6
  refine Lib.hid ?_
  go_wp2
  refine wp_region_held_drew (S:=fun V=>V.cell? ⟨W.heap.size,0,none⟩=some (pR e)/\V.cell? ⟨d,0,none⟩=some (.int .i64 v.k)/\V.cell? ⟨d,1,none⟩=some (.int .i64 v.n)/\V.cell? ⟨d,2,none⟩=some (.string v.s)) (by kernel_rfl) q3 (fun x5=>?_)
  change wpAnyH _ _ _ _ _ 12 _ _ _
  iterate 3 (refine tkH 0 (by simp only[nx,gq1,gq2,gq3];rfl) (by kernel_rfl) (by rfl) x5 ⟨_,by intro w ⟨_,_,_,_⟩;go_simp;try with_reducible rfl,by exact fun _ _ _ h=>put7 h,?_⟩;try simp only[Act.put,sq1,sq2,sq3])
  refine wpAnyH_ready (rs:=[3]) (by kernel_rfl) (by simp) ?_
  refine AllReadyH.cons rfl (fun K g=>?_) .nil
  go_simp
  go_at_call 14
  refine x7.mono ?_
  rintro en V4 ⟨rfl,x6⟩
  have r2:=ext_trans r3 x6
  have y4:=u9.out _ r2
  obtain⟨⟨⟨y0,z0⟩,⟨y2,z1⟩⟩,z2,z3,hf,s4,s5⟩:=t3.out _ r2
  refine g.out _ _ y4 (fun _=>?_)
  clear g K
  try simp only[Act.put,sq1,sq2,sq3]
  iterate 3 (refine tkH 0 (by simp only[nx,gq1,gq2,gq3];rfl) (by kernel_rfl) (by rfl) y4 ⟨_,by intro w ⟨_,_,_,_⟩;go_simp;try with_reducible rfl,by exact fun _ _ _ h=>put7 h,?_⟩;try simp only[Act.put,sq1,sq2,sq3])
  refine wpAnyH_ready (rs:=[7]) (by kernel_rfl) (by simp) ?_
  refine AllReadyH.cons rfl (fun K g=>?_) .nil
  go_simp
  refine g.out _ _ s4 (fun _=>?_)
  clear g K
  try simp only[Act.put,sq1,sq2,sq3]
  iterate 3 (refine tkH 0 (by simp only[nx,gq1,gq2,gq3];rfl) (by kernel_rfl) (by rfl) s4 ⟨_,by intro w ⟨_,_,_,_⟩;go_simp;try with_reducible rfl,by exact fun _ _ _ h=>put7 h,?_⟩;try simp only[Act.put,sq1,sq2,sq3])
  refine wpAnyH_ready (rs:=[11]) (by kernel_rfl) (by simp) ?_
  refine AllReadyH.cons rfl (fun K g=>?_) .nil
  go_simp
  refine g.out _ _ s5 (fun _=>?_)
  clear g K
  try simp only[Act.put,sq1,sq2,sq3]
  refine wpAnyH_done (by kernel_rfl) ?_ _
  go_wp2
  refine leaves_cons (f:=10) (args:=#[.pointer (some ⟨W.heap.size,0,none⟩)]) (by simp) (by simp[go_sem]) ?_
  refine(c4o _ _).mono ?_
  rintro en u' r1 ⟨rfl,rfl,rfl⟩
  exact⟨_,e0j _ _,rfl,hf⟩
end
def b6j (F:Int->Vl->Vl->Vl×Int) (ks:List Pt) (lim:Nat) (a:Vl) (ag:List Vl) (l:List Vl) (r:Rn Tb):Res Vl Tb Vl:=need (if a.k=5 then 0 else 3) r (need (if r.calls=40 then 1 else 0) r (a3c (Oz F) l (blockX (fun q=>X (Oz F) ks lim (2*lim+3) 1 q 0 0) ((ks[a.n.toNat]?).bind fun g=>g.kids.getLast?) (b4r (Oz F) (ks[a.n.toNat]?) ag) { r with calls:=r.calls+1 })))
def runP (F:Int->Vl->Vl->Vl×Int) (ks:List Pt) (lim j:Nat):Res Vl Tb Vl:=b6j F ks lim (fnV j) [] [] ⟨0,[],0,[]⟩
def SRow (W:World) (v:Value) (out:List ByteArray):Prop:=∃a c,v=.slice a out.length c/\out.length<=c/\(out=[]\/∃g,a=some (Ad g 0)/\g<W.heap.size/\∀(j:Nat) (x:ByteArray),out[j]?=some x->W.cell? (Ad g j)=some (.string x))
theorem SRow.of{W:World}{base:Nat}{b:Option Addr}{c:Nat}(h:W.ownsRow base 9 1 (.slice b out.length c) out.length (out.map Value.string)):SRow W (.slice b out.length c) out:=by
 rcases h.2 with⟨e,h0⟩|⟨g,cap,s,e,y,v,z,_,_,ht⟩
 ·exact⟨b,c,rfl,by rw[h0];exact Nat.zero_le _,.inl (List.length_eq_zero_iff.1 h0)⟩
 ·cases e
  refine⟨_,_,rfl,z,.inr ⟨g,rfl,block_lt v,fun j x u=>?_⟩⟩
  have h1:(out.map Value.string)[j]?=some (.string x):=by simp[u]
  rw[<- ht]at h1
  rw[List.getElem?_take]at h1
  split at h1
  ·refine cell_block v ?_
   simpa using h1
  ·cases h1
theorem SRow.below{W W':World}{v:Value}(h:SRow W v out)(hb:Bw W W'):SRow W' v out:=by
 obtain⟨a,c,e,h1,h2⟩:=h
 refine⟨a,c,e,h1,?_⟩
 rcases h2 with h2|⟨g,y,h2,h3⟩
 ·exact .inl h2
 ·exact .inr ⟨g,y,Nat.lt_of_lt_of_le h2 hb.size,fun j x z=>(hb.cell (p:=(Ad g j)) h2).trans (h3 j x z)⟩
def RunO (w:World) (R:(Int×Nat)⊕Sh) (e:Ending) (w':World):Prop:=Bw w w'/\match R with
 | .inl (c,a)=>e=.returned (.tuple #[.agg #[vi 0,vi 0,.string ⟨#[]⟩,.slice none 0 0,vi 0],.agg #[vi c,vi (a:Nat)]])
 | .inr s=>s.out.length<=1000/\∃v,e=.returned (.tuple #[.agg #[vi s.en,vi s.er,.string s.last,v,vi (s.st:Nat)],.agg #[vi 0,vi 0]])/\SRow w' v s.out
abbrev zsx:Obj:=.cells #[vi 0,vi 0,.string ⟨#[]⟩,.slice none 0 0,vi 0] 25
structure InS (W:World) (B:Nat) (a b c d e:Value):Prop where
 c0:W.cell? (Ad B 0)=some a
 c1:W.cell? (Ad B 1)=some b
 c2:W.cell? (Ad B 2)=some c
 c3:W.cell? (Ad B 3)=some d
 c4:W.cell? (Ad B 4)=some e
 f0:W.frozen? (Ad B 0)=false
 f1:W.frozen? (Ad B 1)=false
 f2:W.frozen? (Ad B 2)=false
 f3:W.frozen? (Ad B 3)=false
 f4:W.frozen? (Ad B 4)=false
theorem inS{W:World}{c e:Value}(h:W.heap[B]?=some (.cells #[a,b,c,d,e] 25)):InS W B a b c d e:=⟨cell_block h rfl,cell_block h rfl,cell_block h rfl,cell_block h rfl,cell_block h rfl,frozen_block h,frozen_block h,frozen_block h,frozen_block h,frozen_block h⟩
theorem b0q{W:World}{c e:Value}(a' b' c' d' e':Value)(h:W.heap[B]?=some (.cells #[a,b,c,d,e] 25)):(put5 W B a' b' c' d' e').heap[B]?=some (.cells #[a',b',c',d',e'] 25):=set_block _ (set_block _ (set_block _ (set_block _ (set_block _ h))))
theorem c8u{W:World}{C:Nat}{c e x y:Value}(h:tm[4]?.getD undef=Po B 0)(h':tm[5]?.getD undef=Po C 0)(hx:W.heap[B]?=some (.cells #[a,b,c,d,e] 25))(hy:W.heap[C]?=some (.cells #[x,y] 27)):(results Tryz.f4 tm).run Tryz.prog W=.ok (.tuple #[.agg #[a,b,c,d,e],.agg #[x,y]]) W:=by
 obtain⟨c0,c1,c2,c3,c4,_,_,_,_,_⟩:=inS hx
 have v:Ce W C 0 x:=cell_block hy rfl
 have z:Ce W C 1 y:=cell_block hy rfl
 simp[results,Tryz.results4,go_sem,h,h',c0,c1,c2,c3,c4,v,z]
theorem d8t(V:World)(u:Pt)(pb:Option Addr)(pc lim:Nat)(hl:lim<=1000):Rq ⟨V,V.heap.size,u,pb,pc,lim⟩ (fun k=>k=V.heap.size) ⟨0,[],0,[]⟩ (V.alloc (rnb ⟨V,V.heap.size,u,pb,pc,lim⟩ 0 0 (.slice none 0 0) (.slice none 0 0))):=by
 refine⟨⟨none,0,none,0,[],new1 _ _,World.ownsRow_nil _ _ _ _,World.ownsRow_nil _ _ _ _,fun b z=>by simp[Value.ownBlock]at z,fun b z=>by simp[Value.ownBlock]at z,rfl,fun q hq=>by cases hq⟩,rfl,fun k hk=>?_,ext_alloc (Below.refl _ _) _,⟨Nat.zero_le _,hl,Nat.zero_le _,Nat.zero_le _,Nat.le_refl _,(fun t ht=>by cases ht),(fun t ht=>by cases ht)⟩⟩
 subst hk
 exact⟨Nat.le_refl _,by simp⟩
theorem b6k{V X:World}{k:Nat}(hb:Bw w V)(hX:a0b (fun q=>w.heap.size<=q/\q<k) V X):Bw w X:=((a0b.of_below (S:=fun q=>w.heap.size<=q) hb).then hX (fun j _ z=>z.1)).below (Nat.le_refl _) (fun q hq h=>by omega)
theorem b4q(s:ByteArray)(f:Int)(w:World)(hf:f<0\/1000<f):Cl 4 #[.string s,vi f] w (RunO w (.inl (6,0))):=by
 obtain⟨U,m⟩:=exq ((w.alloc (.cells #[vi 0,vi 0,.string ⟨#[]⟩,.slice none 0 0,vi 0] 25)).alloc (.cells #[vi 0,vi 0] 27))
 have q:Bw w U:=by rw[<- m];exact ext_alloc (ext_alloc (Below.refl _ _) _) _
 have g0:U.heap[w.heap.size]?=some zsx:=by rw[<- m];exact block_alloc _ (new1 _ _)
 have g1:U.heap[w.heap.size+1]?=some (.cells #[vi 0,vi 0] 27):=by rw[<- m];exact new2 _ _ _
 have v:=put5_self U w.heap.size (vi 0) (vi 0) (.string ⟨#[]⟩) (.slice none 0 0) (vi 0)
 have y:=a1g (put5 U w.heap.size (vi 0) (vi 0) (.string ⟨#[]⟩) (.slice none 0 0) (vi 0)) (w.heap.size+1) (vi 6) (vi 0)
 have o:=(a1a (W:=put5 U w.heap.size (vi 0) (vi 0) (.string ⟨#[]⟩) (.slice none 0 0) (vi 0)) (B:=w.heap.size+1) (C:=w.heap.size) (vi 6) (vi 0) (by omega)).trans (b0q (vi 0) (vi 0) (.string ⟨#[]⟩) (.slice none 0 0) (vi 0) g0)
 have p:=a1p (vi 6) (vi 0) ((v.block _ (block_lt g1) (by omega)).trans g1)
 obtain⟨X,n⟩:=exq (pu2 (put5 U w.heap.size (vi 0) (vi 0) (.string ⟨#[]⟩) (.slice none 0 0) (vi 0)) (w.heap.size+1) (vi 6) (vi 0))
 rw[n]at o p y
 have u:Bw w X:=b6k (k:=w.heap.size+2) q ((v.mono (fun _ _ h=>by omega)).trans (y.mono (fun _ _ h=>by omega)))
 replace n:((((((U.setCell (Ad w.heap.size 0) (vi 0)).setCell (Ad w.heap.size 1) (vi 0)).setCell (Ad w.heap.size 2) (.string ⟨#[]⟩)).setCell (Ad w.heap.size 3) (.slice none 0 0)).setCell (Ad w.heap.size 4) (vi 0)).setCell (Ad (w.heap.size+1) 0) (vi 6)).setCell (Ad (w.heap.size+1) 1) (vi 0)=X:=n
 obtain⟨u0,a,d,g,i,f0,f1,f2,f3,f4⟩:=inS g0
 have v0:Ce U (w.heap.size+1) 0 (vi 0):=cell_block g1 rfl
 have v1:Ce U (w.heap.size+1) 1 (vi 0):=cell_block g1 rfl
 have v2:U.frozen? (Ad (w.heap.size+1) 0)=false:=frozen_block g1
 have j:U.frozen? (Ad (w.heap.size+1) 1)=false:=frozen_block g1
 have z:RunO w (.inl (6,0)) (.returned (.tuple #[.agg #[vi 0,vi 0,.string ⟨#[]⟩,.slice none 0 0,vi 0],.agg #[vi 6,vi 0]])) X:=⟨u,rfl⟩
 replace z:Hid _:=z
 clear q g0 g1 v y u
 by_cases hn:f<0
 ·clear hf
  go_enter Tryz.func4,Tryz.ntmps4
  go_wp2
  exact bodyPost_ret (c8u rfl rfl o p) rfl z.out
 ·have hg:1000<f:=by omega
  clear hf
  go_enter Tryz.func4,Tryz.ntmps4
  go_wp2
  exact bodyPost_ret (c8u rfl rfl o p) rfl z.out
theorem d4w(s:ByteArray)(f:Nat)(hf:f<=1000)(w:World)(hE:ErrV w)(hsp:a4b w)(c:Int)(a:Nat)(hR:a5f (a2x s.data.toList)=.inl (c,a)):Cl 4 #[.string s,vi (f:Nat)] w (RunO w (.inl (c,a))):=by
 have hd:(c != 0)=true:=by simpa using a8i hR
 have z7:¬(f:Int)<0:=by omega
 have z8:¬1000<(f:Int):=by omega
 obtain⟨U,j⟩:=exq ((w.alloc (.cells #[vi 0,vi 0,.string ⟨#[]⟩,.slice none 0 0,vi 0] 25)).alloc (.cells #[vi 0,vi 0] 27))
 have u:Bw w U:=by rw[<- j];exact ext_alloc (ext_alloc (Below.refl _ _) _) _
 have g0:U.heap[w.heap.size]?=some zsx:=by rw[<- j];exact block_alloc _ (new1 _ _)
 have g1:U.heap[w.heap.size+1]?=some (.cells #[vi 0,vi 0] 27):=by rw[<- j];exact new2 _ _ _
 have hk:=d3y s U (hE.on u) (hsp.below u) c a hR
 clear hR hE hsp
 go_enter Tryz.func4,Tryz.ntmps4
 go_wp2_with (go_at_call 6;refine hk.mono ?_;rintro e w1 ⟨rfl,y⟩;refine Hid.out ?_)
 obtain⟨V,i⟩:=exq ((w1.alloc (.cells #[vi 0,.string ⟨#[]⟩,vi 0,vi 0,.slice none 0 0] 34)).alloc (.cells #[vi c,vi (a:Nat)] 27))
 have v:Bw w1 V:=by rw[<- i];exact ext_alloc (ext_alloc (Below.refl _ _) _) _
 have k0:=block_below v (block_below y g0)
 have k1:=block_below v (block_below y g1)
 have k2:V.heap[w1.heap.size+1]?=some (.cells #[vi c,vi (a:Nat)] 27):=by rw[<- i];exact new2 _ _ _
 obtain⟨u0,u1,u2,u3,u4,f0,f1,f2,f3,f4⟩:=inS k0
 have v0:Ce V (w.heap.size+1) 0 (vi 0):=cell_block k1 rfl
 have v1:Ce V (w.heap.size+1) 1 (vi 0):=cell_block k1 rfl
 have v2:V.frozen? (Ad (w.heap.size+1) 0)=false:=frozen_block k1
 have v3:V.frozen? (Ad (w.heap.size+1) 1)=false:=frozen_block k1
 have t0:Ce V (w1.heap.size+1) 0 (vi c):=cell_block k2 rfl
 have t1:Ce V (w1.heap.size+1) 1 (vi (a:Nat)):=cell_block k2 rfl
 have z6:=block_lt g1
 have z9:=y.size
 have n1:¬w1.heap.size+1=w.heap.size:=by omega
 have n2:¬w1.heap.size+1=w.heap.size+1:=by omega
 have n:=ext_trans (ext_trans u y) v
 have p:=put5_self V w.heap.size (vi 0) (vi 0) (.string ⟨#[]⟩) (.slice none 0 0) (vi 0)
 have q:=a1g (put5 V w.heap.size (vi 0) (vi 0) (.string ⟨#[]⟩) (.slice none 0 0) (vi 0)) (w.heap.size+1) (vi c) (vi (a:Nat))
 have d:=(a1a (W:=put5 V w.heap.size (vi 0) (vi 0) (.string ⟨#[]⟩) (.slice none 0 0) (vi 0)) (B:=w.heap.size+1) (C:=w.heap.size) (vi c) (vi (a:Nat)) (by omega)).trans (b0q (vi 0) (vi 0) (.string ⟨#[]⟩) (.slice none 0 0) (vi 0) k0)
 have g:=a1p (vi c) (vi (a:Nat)) ((p.block _ (block_lt k1) (by omega)).trans k1)
 obtain⟨X,o⟩:=exq (pu2 (put5 V w.heap.size (vi 0) (vi 0) (.string ⟨#[]⟩) (.slice none 0 0) (vi 0)) (w.heap.size+1) (vi c) (vi (a:Nat)))
 rw[o]at d g q
 have m:Bw w X:=b6k (k:=w.heap.size+2) n ((p.mono (fun _ _ h=>by omega)).trans (q.mono (fun _ _ h=>by omega)))
 replace o:((((((V.setCell (Ad w.heap.size 0) (vi 0)).setCell (Ad w.heap.size 1) (vi 0)).setCell (Ad w.heap.size 2) (.string ⟨#[]⟩)).setCell (Ad w.heap.size 3) (.slice none 0 0)).setCell (Ad w.heap.size 4) (vi 0)).setCell (Ad (w.heap.size+1) 0) (vi c)).setCell (Ad (w.heap.size+1) 1) (vi (a:Nat))=X:=o
 have z:=m.drew
 replace z:Hid _:=z
 replace o:Hid _:=o
 clear hk u y v g0 g1 k0 k1 k2 j p q m n
 refine Lib.hid ?_
 go_wp2
 clear i
 go_region
 all_goals
  go_wp2
  rw[o.out]
  exact bodyPost_ret (c8u (W:=X.drew) rfl rfl d g) rfl ⟨z.out,rfl⟩
theorem c8v{F:Int->Vl->Vl->Vl×Int}(hF:OpF F)(s:ByteArray)(f:Nat)(hf:f<=1000)(w:World)(hE:ErrV w)(hsp:a4b w)(hpt:PTab w)(n:Nd)(sl:List Int)(u:Pt)(hR:a5f (a2x s.data.toList)=.inr (n,sl))(hu:∀rest,layN n (sl++rest)=(u,rest))(hwu:WU u)(j:Nat)(q:Pt)(hj:u.kids[j]?=some q)(hq:q.t=b4o)(hlt:∀i y,i<j->u.kids[i]?=some y->y.t≠b4o):Cl 4 #[.string s,vi (f:Nat)] w (RunO w (.inr (shX (runP F u.kids f j)))):=by
 obtain⟨z,z6⟩:=exq (shX (runP F u.kids f j))
 rw[z6]
 replace z6:Hid _:=z6
 have x6:¬(f:Int)<0:=by omega
 have x7:¬1000<(f:Int):=by omega
 obtain⟨U,hU⟩:=exq ((w.alloc (.cells #[vi 0,vi 0,.string ⟨#[]⟩,.slice none 0 0,vi 0] 25)).alloc (.cells #[vi 0,vi 0] 27))
 have z7:Bw w U:=by rw[<- hU];exact ext_alloc (ext_alloc (Below.refl _ _) _) _
 have g0:U.heap[w.heap.size]?=some zsx:=by rw[<- hU];exact block_alloc _ (new1 _ _)
 have g1:U.heap[w.heap.size+1]?=some (.cells #[vi 0,vi 0] 27):=by rw[<- hU];exact new2 _ _ _
 have hk:=c8h s U (hE.on z7) (hsp.below z7) n sl u hR hu
 have z2:=hpt.on z7
 clear hR hE hsp hu
 go_enter Tryz.func4,Tryz.ntmps4
 go_wp2_with (go_at_call 6;refine hk.mono ?_;rintro e w1 ⟨pb,pc,rfl,y4,d⟩;refine Hid.out ?_)
 obtain⟨V0,a⟩:=exq ((w1.alloc (pbx u pb pc)).alloc (.cells #[vi 0,vi 0] 27))
 have z0:Bw w1 V0:=by rw[<- a];exact ext_alloc (ext_alloc (Below.refl _ _) _) _
 have r2:V0.heap[w1.heap.size+1]?=some (.cells #[vi 0,vi 0] 27):=by rw[<- a];exact new2 _ _ _
 have r3:V0.heap[w1.heap.size]?=some (pbx u pb pc):=by rw[<- a];exact block_alloc _ (new1 _ _)
 obtain⟨V,hV⟩:=exq (pu2 V0 (w1.heap.size+1) (vi 0) (vi 0))
 have o:Bw w1 V:=by rw[<- hV];exact((a0b.of_below (S:=fun _=>False) z0).then (a1g V0 (w1.heap.size+1) _ _) (fun j hj ee=>by omega)).below (Nat.le_refl _) (fun _ _=>id)
 have k0:=block_below o (block_below d g0)
 have k1:=block_below o (block_below d g1)
 have k2:V.heap[w1.heap.size+1]?=some (.cells #[vi 0,vi 0] 27):=by rw[<- hV];exact a1p _ _ r2
 have k3:V.heap[w1.heap.size]?=some (pbx u pb pc):=by rw[<- hV];exact(a1a _ _ (by omega)).trans r3
 have s0:Ce V0 (w1.heap.size+1) 0 (vi 0):=cell_block r2 rfl
 have s1:Ce V0 (w1.heap.size+1) 1 (vi 0):=cell_block r2 rfl
 have s2:V0.frozen? (Ad (w1.heap.size+1) 0)=false:=frozen_block r2
 have s3:V0.frozen? (Ad (w1.heap.size+1) 1)=false:=frozen_block r2
 replace a:(w1.alloc (.cells #[vi u.k,.string u.t,vi u.n,vi u.sl,.slice pb u.kids.length pc] 34)).alloc (.cells #[vi 0,vi 0] 27)=V0:=a
 replace hV:(V0.setCell (Ad (w1.heap.size+1) 0) (vi 0)).setCell (Ad (w1.heap.size+1) 1) (vi 0)=V:=hV
 obtain⟨m0,m1,m2,m3,m4,_,_,_,_,_⟩:=in5 k3
 have t0:Ce V (w1.heap.size+1) 0 (vi 0):=cell_block k2 rfl
 have z1:=d8t V u pb pc f hf
 have y5:Pg ⟨V,V.heap.size,u,pb,pc,f⟩:=⟨(y4.below o).weak (fun _ _ _=>trivial),hwu,(z2.on d).on o⟩
 have v:=begin_any hF y5 j q hj hq hlt _ z1
 replace v:Cl 7 #[Po V.heap.size 0] (V.alloc (rnb ⟨V,V.heap.size,u,pb,pc,f⟩ 0 0 (.slice none 0 0) (.slice none 0 0))) fun en W'=>en=.returned (.tuple #[])/\ShA ⟨V,V.heap.size,u,pb,pc,f⟩ (shX (runP F u.kids f j)) W':=v
 rw[z6.out]at v
 obtain⟨V5,z4⟩:=exq (V.alloc (rnb ⟨V,V.heap.size,u,pb,pc,f⟩ 0 0 (.slice none 0 0) (.slice none 0 0)))
 rw[z4]at v
 replace z4:V.alloc (.cells #[vi 0,vi 0,.string ⟨#[]⟩,.slice none 0 0,vi 0,vi u.k,.string u.t,vi u.n,vi u.sl,.slice pb u.kids.length pc,vi (f:Nat),vi 0,.slice none 0 0] 40)=V5:=z4
 have y6:=ext_trans (ext_trans z7 d) o
 have y1:=block_lt g1
 have x8:=d.size
 have x9:=o.size
 have x4:w.heap.size+1<V.heap.size:=block_lt k1
 clear hk z7 d o g0 g1 k2 k3 hU y4 z2 hwu hj hq hlt hpt z1 y5 z0 r2 r3 hF
 refine Lib.hid ?_
 go_wp2_with (go_at_call 7;refine v.mono ?_;rintro e w3 ⟨rfl,y2⟩;refine Hid.out ?_)
 obtain⟨⟨ua,uc,c0,c1,c2,c3,c4,m⟩,z8,_,z9⟩:=y2
 simp only at c0 c1 c2 c3 c4 m z8
 have z3:=SRow.of m
 have j0:=block_below z8 k0
 have j1:=block_below z8 k1
 obtain⟨u0,u1,u2,u3,u4,f0,f1,f2,f3,f4⟩:=inS j0
 have v0:Ce w3 (w.heap.size+1) 0 (vi 0):=cell_block j1 rfl
 have v1:Ce w3 (w.heap.size+1) 1 (vi 0):=cell_block j1 rfl
 have v2:w3.frozen? (Ad (w.heap.size+1) 0)=false:=frozen_block j1
 have v3:w3.frozen? (Ad (w.heap.size+1) 1)=false:=frozen_block j1
 have n1:¬V.heap.size=w.heap.size:=by omega
 have n2:¬V.heap.size=w.heap.size+1:=by omega
 have y8:=put5_self w3 w.heap.size (vi z.en) (vi z.er) (.string z.last) (.slice ua z.out.length uc) (vi (z.st:Nat))
 have y9:=a1g (put5 w3 w.heap.size (vi z.en) (vi z.er) (.string z.last) (.slice ua z.out.length uc) (vi (z.st:Nat))) (w.heap.size+1) (vi 0) (vi 0)
 have x1:=(a1a (W:=put5 w3 w.heap.size (vi z.en) (vi z.er) (.string z.last) (.slice ua z.out.length uc) (vi (z.st:Nat))) (B:=w.heap.size+1) (C:=w.heap.size) (vi 0) (vi 0) (by omega)).trans (b0q (vi z.en) (vi z.er) (.string z.last) (.slice ua z.out.length uc) (vi (z.st:Nat)) j0)
 have x2:=a1p (vi 0) (vi 0) ((y8.block _ (block_lt j1) (by omega)).trans j1)
 obtain⟨X,hX⟩:=exq (pu2 (put5 w3 w.heap.size (vi z.en) (vi z.er) (.string z.last) (.slice ua z.out.length uc) (vi (z.st:Nat))) (w.heap.size+1) (vi 0) (vi 0))
 rw[hX]at x1 x2 y9
 have z5:a0b (fun q=>w.heap.size<=q/\q<w.heap.size+2) w3 X:=(y8.mono (fun _ _ h=>by omega)).trans (y9.mono (fun _ _ h=>by omega))
 have y3:Bw w X:=b6k (k:=w.heap.size+2) (ext_trans y6 z8) z5
 have p:SRow X (.slice ua z.out.length uc) z.out:=by
  obtain⟨a',c',e',h1,h2⟩:=z3
  refine⟨a',c',e',h1,?_⟩
  rcases h2 with h2|⟨g,ea,h2,h3⟩
  ·exact .inl h2
  ·refine .inr ⟨g,ea,Nat.lt_of_lt_of_le h2 z5.size,fun jj x hx=>?_⟩
   have x5:V.heap.size<=g:=by
    cases e'
    rcases m.2 with⟨e2,h0⟩|⟨g2,y0,x3,e2,y7,_⟩
    ·rw[List.length_eq_zero_iff.1 h0]at hx;cases hx
    ·cases e2;cases ea;exact y7
   exact z5.cell (h3 jj x hx) (fun ee=>by omega)
 replace hX:((((((w3.setCell (Ad w.heap.size 0) (vi z.en)).setCell (Ad w.heap.size 1) (vi z.er)).setCell (Ad w.heap.size 2) (.string z.last)).setCell (Ad w.heap.size 3) (.slice ua z.out.length uc)).setCell (Ad w.heap.size 4) (vi (z.st:Nat))).setCell (Ad (w.heap.size+1) 0) (vi 0)).setCell (Ad (w.heap.size+1) 1) (vi 0)=X:=hX
 replace hX:Hid _:=hX
 replace p:Hid _:=p
 replace z9:Hid _:=z9
 clear v m z3 z8 j0 j1 y8 y9 z5 k0 k1 y6 m0 m1 m2 m3 m4 t0 a hV s0 s1 s2 s3 z4
 refine Lib.hid ?_
 go_wp2
 rw[hX.out]
 exact bodyPost_ret (c8u rfl rfl x1 x2) rfl ⟨y3,z9.out,_,rfl,p.out⟩
theorem c8w{id:Nat}{Q:Exit->Act->World->Prop}{a:Act}{l:List Oper}(C:World->Prop)(hm:P.follows .mixedOrders=true)(hB:Region.lexB .any l.toArray=true)(hC:C w.drew)(h:wpQuiet P l.toArray C (fun y=>∀z,C z->Q .normal y z) l a):(Code.region id l.toArray true).wp P Q a w :=
 wp_region_quiet (C:=C) hm hB hC (by simpa using h)
theorem c0j{ops:Array Oper}{C:World->Prop}{Q:Act->Prop}{a:Act}{o:Oper}{rest:List Oper}{v:Value}(hw:Region.wanted o (yielded ops a.tmps)=true)(hv:∀u,C u->o.quietAt P a C u v)(h:wpQuiet P ops C Q rest (a.put o.dst v)):wpQuiet P ops C Q (o::rest) a:=BigFrame.wpQuiet_want hw fun _ z=>⟨v,hv,z _ h⟩
theorem d4x(F:Int->Vl->Vl->Vl×Int)(ks:List Pt)(hl:lim<=lim')(a:Vl)(ag l:List Vl)(r:Rn Tb)(hr:r.st<=lim):Rl lim (b6j F ks lim a ag l r) (b6j F ks lim' a ag l r):=by
 unfold b6j
 refine Rl.need (Rl.need (Rl.back ?_))
 have z:Ag 0 lim (fun q=>X (Oz F) ks lim (2*lim+3) 1 q 0 0) (fun q=>X (Oz F) ks lim (2*lim'+3) 1 q 0 0):=⟨fun q l r _ h=>by
  have:=b0y (O:=Oz F) (prog:=ks) (2*lim+3) q l r h (Nat.le_refl _) (2*lim'-2*lim)
  rw[show 2*lim+3+(2*lim'-2*lim)=2*lim'+3 by omega]at this
  exact this,fun q l r=>grow _ 1 q 0 0 l r⟩
 rw[z.block _ _ { r with calls:=r.calls+1 } (Nat.zero_le _) hr]
 exact Two.block ⟨fun q l r h=>longer hl _ 1 q 0 0 l r h,fun q l r=>grow _ 1 q 0 0 l r,fun q l r=>grow _ 1 q 0 0 l r⟩ _ _ _ hr
theorem d4y(F:Int->Vl->Vl->Vl×Int)(ks:List Pt)(lim:Nat)(a:Vl)(ag l:List Vl)(r:Rn Tb):Zl lim r (b6j F ks lim a ag l r):=by
 unfold b6j
 exact Zl.need (Zl.need (Zl.back (r0:={ r with calls:=r.calls+1 }) rfl (Zl.block (fun q l r=>zl (2*lim+3) 1 q 0 0 l r) _ _ _)))
def d8u (few more:Int) (R1 R2:(Int×Nat)⊕Sh):Prop:=match R1,R2 with
 | .inl x,.inl y=>x.1≠0/\y.1≠0/\(x=y\/few<0\/1000<more)
 | .inl x,.inr _=>x.1≠0/\few<0
 | .inr _,.inl y=>y.1≠0/\1000<more
 | .inr s1,.inr s2=>(s1.en=0/\(s1.st:Int)=few/\few<=(s2.st:Int)/\s1.out <+: s2.out)\/(s1.en≠0/\s1=s2)
theorem d0g(F:Int->Vl->Vl->Vl×Int)(ks:List Pt)(lim j:Nat)(v:Vl)(r:Rn Tb):runP F ks lim j≠Res.ret v r:=by
 intro h
 unfold runP b6j need at h
 split at h
 ·split at h
  ·generalize blockX _ _ _ _=x at h
   match x,h with
   | .inl _,h=>cases h
   | .inr (.inl (_,_)),h=>cases h
   | .inr (.inr (_,_,_)),h=>cases h
  ·cases h
 ·cases h
theorem c8x(F:Int->Vl->Vl->Vl×Int)(ks:List Pt)(j:Nat)(hl:lim<=lim'):d8u (lim:Int) (lim':Int) (.inr (shX (runP F ks lim j))) (.inr (shX (runP F ks lim' j))):=by
 have h1:=d4x F ks hl (fnV j) [] [] ⟨0,[],0,[]⟩ (Nat.zero_le _)
 have h2:Zl lim (⟨0,[],0,[]⟩:Rn Tb) (runP F ks lim j):=d4y F ks lim (fnV j) [] [] ⟨0,[],0,[]⟩
 have h3:=d0g F ks lim j
 have h4:=d0g F ks lim' j
 change Rl lim (runP F ks lim j) (runP F ks lim' j)at h1
 generalize runP F ks lim j=x at h1 h2 h3⊢
 generalize runP F ks lim' j=y at h1 h4⊢
 show(_/\_/\_/\_)\/_
 rcases h1 with rfl|⟨r,rfl,s,u,z⟩
 ·match x,h2,h3 with
  | .inl (c,a,r),h2,_ =>
   by_cases hc:c=0
   ·have:r.st=lim:=h2 (Nat.zero_le _) hc
    exact .inl ⟨hc,by show(r.st:Int)=_;omega,by show _<=(r.st:Int);omega,List.prefix_refl _⟩
   ·exact .inr ⟨hc,rfl⟩
  | .inr (.inl (v,r)),_,h3=>exact absurd rfl (h3 v r)
  | .inr (.inr (v,l,r)),_,_=>exact .inr ⟨show(1:Int)≠0 by decide,rfl⟩
 ·refine .inl ⟨rfl,by show(r.st:Int)=_;omega,?_,?_⟩
  ·match y,u,h4 with
   | .inl (c,a,r'),u,_=>show(lim:Int)<=(r'.st:Int);have:r.st<=r'.st:=u;omega
   | .inr (.inl (v,r')),_,h4=>exact absurd rfl (h4 v r')
   | .inr (.inr (v,l,r')),u,_=>show(lim:Int)<=(r'.st:Int);have:r.st<=r'.st:=u;omega
  ·match y,z,h4 with
   | .inl (c,a,r'),z,_=>exact z
   | .inr (.inl (v,r')),_,h4=>exact absurd rfl (h4 v r')
   | .inr (.inr (v,l,r')),z,_=>exact z
structure RunX (s:ByteArray) (Rf:Int->(Int×Nat)⊕Sh):Prop where
 c:∀(f:Int) (w:World),ErrV w->a4b w->PTab w->Cl 4 #[.string s,vi f] w (RunO w (Rf f))
 l:∀few more:Int,few<=more->d8u few more (Rf few) (Rf more)
theorem d8v(s:ByteArray):∃Rf,RunX s Rf:=by
 obtain⟨F,hF⟩:=d7h
 cases hR:a5f (a2x s.data.toList) with
 | inl x =>
  obtain⟨c,a⟩:=x
  have g:=a8i hR
  refine⟨fun f=>if 0<=f/\f<=1000 then .inl (c,a) else .inl (6,0),fun f w hE p _=>?_,fun v z h=>?_⟩
  ·by_cases hf:0<=f/\f<=1000
   ·rw[if_pos hf]
    obtain⟨n,rfl⟩:∃n:Nat,f=n:=⟨f.toNat,by omega⟩
    exact d4w s n (by omega) w hE p c a hR
   ·rw[if_neg hf]
    exact b4q s f w (by omega)
  ·by_cases h1:0<=v/\v<=1000
   ·rw[if_pos h1]
    by_cases h2:0<=z/\z<=1000
    ·rw[if_pos h2];exact⟨g,g,.inl rfl⟩
    ·rw[if_neg h2];exact⟨g,by decide,.inr (.inr (by omega))⟩
   ·rw[if_neg h1]
    by_cases h2:0<=z/\z<=1000
    ·rw[if_pos h2];exact⟨by decide,g,.inr (.inl (by omega))⟩
    ·rw[if_neg h2];exact⟨by decide,by decide,.inl rfl⟩
 | inr x =>
  obtain⟨n,sl⟩:=x
  obtain⟨hN,z7,h6,d⟩:=b8d hR
  obtain⟨u,hu,o⟩:=c7a hN z7 d
  obtain⟨j,_,⟨q,hj,hq,_⟩,z8⟩:=o.main
  refine⟨fun f=>if 0<=f/\f<=1000 then .inr (shX (runP F u.kids f.toNat j)) else .inl (6,0),fun f w hE p z9=>?_,fun v z h=>?_⟩
  ·by_cases hf:0<=f/\f<=1000
   ·rw[if_pos hf]
    obtain⟨m,rfl⟩:∃m:Nat,f=m:=⟨f.toNat,by omega⟩
    exact c8v hF s m (by omega) w hE p z9 n sl u hR hu o j q hj hq (fun i y hi hy=>z8 i y hi hy)
   ·rw[if_neg hf]
    exact b4q s f w (by omega)
  ·by_cases h1:0<=v/\v<=1000
   ·rw[if_pos h1]
    by_cases h2:0<=z/\z<=1000
    ·rw[if_pos h2]
     have:=c8x F u.kids j (lim:=v.toNat) (lim':=z.toNat) (by omega)
     rw[Int.toNat_of_nonneg h1.1,Int.toNat_of_nonneg h2.1]at this
     exact this
    ·rw[if_neg h2];exact⟨by decide,by omega⟩
   ·rw[if_neg h1]
    by_cases h2:0<=z/\z<=1000
    ·rw[if_pos h2];exact⟨by decide,by omega⟩
    ·rw[if_neg h2];exact⟨by decide,by decide,.inl rfl⟩
theorem a8k(sv sv':Value)(xs ys:List ByteArray)(W:World)(h:SRow W sv ys)(h':SRow W sv' xs)(hp:xs <+: ys)(hl:ys.length<=1000) :
  Cl 5 #[sv,sv'] W fun r w'=>r=.returned (.bool true)/\Bw W w':=by
 obtain⟨a,cap,rfl,hc1,hrow⟩:=h
 obtain⟨a',cap',rfl,hc2,hrow'⟩:=h'
 have hle:xs.length<=ys.length:=hp.length_le
 obtain⟨n,hn⟩:=exq (xs.length)
 obtain⟨k,hk⟩:=exq (ys.length)
 have hx:∀m,m<n->∃b b' x,a=some (Ad b 0)/\a'=some (Ad b' 0)/\∀u,Bw W u->Ce u b m (.string x)/\Ce u b' m (.string x):=fun m hm=>by
  obtain⟨x,hxm⟩:∃x,xs[m]?=some x:=⟨_,List.getElem?_eq_getElem (by omega)⟩
  have hym:ys[m]?=some x:=by
   obtain⟨t,ht⟩:=hp
   rw[<- ht,List.getElem?_append_left (by omega)]
   exact hxm
  rcases hrow with e|⟨b,e,hb,hc⟩
  ·rw[e]at hym;cases hym
  rcases hrow' with e'|⟨b',e',hb',hc'⟩
  ·rw[e']at hxm;cases hxm
  exact⟨b,b',_,e,e',fun u hu=>⟨(hu.cell (p:=(Ad b m)) hb).trans (hc m _ hym),(hu.cell (p:=(Ad b' m)) hb').trans (hc' m _ hxm)⟩⟩
 rw[hn]at hle hc2⊢
 rw[hk]at hle hc1 hl⊢
 have hle':¬(k:Int)<(n:Int):=by omega
 have hkc:(k:Int)<=(cap:Int):=by omega
 have hnc:(n:Int)<=(cap':Int):=by omega
 clear hrow hrow' hn hk hp
 replace hx:Hid _:=hx
 go_enter Tryz.func5,Tryz.ntmps5
 go_wp2
 go_loopw [5] (fun i wr=>∃m:Nat,m<=n/\i=vi m/\Bw W wr) (fun i _=>n-(intOf i).toNat)
 case atStart=>exact⟨0,Nat.zero_le _,rfl,Below.refl _ _⟩
 case round =>
  obtain⟨m,hm,rfl,hb⟩:=hrel
  by_cases hlt:m<n
  ·obtain⟨b,b',x,rfl,rfl,hT⟩:=hx.out m hlt
   have hmk:m<k:=by omega
   replace hT:Hid _:=hT
   go_wp2
   refine c8w (Below W.heap.size W) (by kernel_rfl) (by kernel_rfl) (a1x hb) ?_
   repeat(first
    | go_big_quiet_skip
    | (
     apply c0j
     ·kernel_rfl
     ·intro u hu
      obtain⟨_,_⟩:=hT.out u hu
      go_simp
      first|with_reducible rfl|skip
     simp only[Act.put,List.setIfInBounds_toArray,List.set_cons_zero,List.set_cons_succ]))
   refine wpQuiet_nil (fun w2 hb2=>?_)
   go_wp2
   go_roundw
   case rel=>exact⟨m+1,hlt,by simp,hb2⟩
   case measure=>simp[intOf];omega
  ·obtain rfl:m=n:=by omega
   go_wp2
   go_ret
   exact⟨rfl,hb⟩
abbrev shv (e1 r1:Int) (l1:ByteArray) (oa:Option Addr) (on oc:Nat) (t1:Int):Value:=.agg #[vi e1,vi r1,.string l1,.slice oa on oc,vi t1]
def RF (w:World) (c a:Int) (e:Ending) (w':World):Prop:=∃(e1 r1:Int) (l1:ByteArray) (oa:Option Addr) (on oc:Nat) (t1:Int),e=.returned (.tuple #[shv e1 r1 l1 oa on oc t1,.agg #[vi c,vi a]])/\Bw w w'
def RS (w:World) (s:Sh) (e:Ending) (w':World):Prop:=∃(oa:Option Addr) (oc:Nat),e=.returned (.tuple #[shv s.en s.er s.last oa s.out.length oc (s.st:Nat),.agg #[vi 0,vi 0]])/\Bw w w'/\SRow w' (.slice oa s.out.length oc) s.out/\s.out.length<=1000
theorem RunO.rs{s:Sh}{e:Ending}(h:RunO w (.inr s) e w'):RS w s e w':=by
 obtain⟨h1,h2,v,rfl,hr⟩:=h
 obtain⟨a,c,rfl,h3,h4⟩:=hr
 exact⟨a,c,rfl,h1,⟨a,c,rfl,h3,h4⟩,h2⟩
theorem RS.rf{s:Sh}{e:Ending}(h:RS w s e w'):RF w 0 0 e w':=by
 obtain⟨a,c,rfl,h1,_⟩:=h
 exact⟨_,_,_,_,_,_,_,rfl,h1⟩
theorem RunO.rf{x:Int×Nat}{e:Ending}(h:RunO w (.inl x) e w'):RF w x.1 (x.2:Nat) e w':=by
 obtain⟨c,a⟩:=x
 obtain⟨h1,rfl⟩:=h
 exact⟨_,_,_,_,_,_,_,rfl,h1⟩
theorem c8y(s:ByteArray)(few more:Int)(w:World)(h:more<few):Cl 3 #[.string s,vi few,vi more] w fun e z=>e=.returned (.bool true)/\Bw w z:=by
 go_enter Tryz.func3,Tryz.ntmps3
 go_wp2
 go_ret
 exact⟨rfl,Below.refl _ _⟩
theorem b0r(s:ByteArray)(few more c1 a1 c2 a2:Int)(w:World)(h:few<=more)(hc:(c1 != 0)=true\/(c1=0/\(c2 != 0)=true))(ht:(c1=c2/\a1=a2)\/(few<0\/1000<more))(h1:Cl 4 #[.string s,vi few] w (RF w c1 a1))(h2:∀V,Bw w V->Cl 4 #[.string s,vi more] V (RF V c2 a2)):Cl 3 #[.string s,vi few,vi more] w fun e w'=>e=.returned (.bool true)/\Bw w w':=by
 have z9:¬more<few:=by omega
 go_enter Tryz.func3,Tryz.ntmps3
 go_wp2_with (go_at_call 4;refine h1.mono ?_;rintro e w1 ⟨e1,r1,l1,oa,on,oc,t1,rfl,g⟩;refine Hid.out ?_)
 have y:Bw w ((w1.alloc (.cells #[vi e1,vi r1,.string l1,.slice oa on oc,vi t1] 25)).alloc (.cells #[vi c1,vi a1] 27)):=ext_alloc (ext_alloc g _) _
 have j:=h2 _ y
 replace y:Hid _:=y
 clear h1 h2
 refine Lib.hid ?_
 go_wp2_with (go_at_call 4;refine j.mono ?_;rintro e w2 ⟨e2,a,l2,q,v,u,d,rfl,o⟩;refine Hid.out ?_)
 have q1:=block_below o (new2 w1 (.cells #[vi e1,vi r1,.string l1,.slice oa on oc,vi t1] 25) (.cells #[vi c1,vi a1] 27))
 have i:=ext_trans y.out o
 have hE:=ext_alloc (ext_alloc (Below.refl w2.heap.size w2) (.cells #[vi e2,vi a,.string l2,.slice q v u,vi d] 25)) (.cells #[vi c2,vi a2] 27)
 have q2:=block_below hE q1
 have d0:Ce ((w2.alloc (.cells #[vi e2,vi a,.string l2,.slice q v u,vi d] 25)).alloc (.cells #[vi c2,vi a2] 27)) (w1.heap.size+1) 0 (vi c1):=cell_block q2 rfl
 have d1:Ce ((w2.alloc (.cells #[vi e2,vi a,.string l2,.slice q v u,vi d] 25)).alloc (.cells #[vi c2,vi a2] 27)) (w1.heap.size+1) 1 (vi a1):=cell_block q2 rfl
 have z:=ext_trans i hE
 clear j y o q1 q2 i hE g
 by_cases he:c1=c2/\a1=a2
 ·obtain⟨rfl,rfl⟩:=he
  have n:(c1 != 0)=true:=by rcases hc with h|⟨h,f⟩;exact h;rw[h]at f;cases f
  clear hc ht
  refine Lib.hid ?_
  go_wp2
  go_ret
  exact⟨rfl,z⟩
 ·have ht:few<0\/1000<more:=by rcases ht with ht|ht;exact absurd ht he;exact ht
  clear h
  have p:c1=c2->¬a1=a2:=fun ee ea=>he ⟨ee,ea⟩
  by_cases n:c1=c2
  ·subst n
   have m:(c1 != 0)=true:=by rcases hc with h|⟨h,f⟩;exact h;rw[h]at f;cases f
   have z8:=p rfl
   clear hc he p
   by_cases hf:few<0
   ·clear ht
    refine Lib.hid ?_
    go_wp2
    go_ret
    exact⟨rfl,z⟩
   ·have hm:1000<more:=by omega
    clear ht
    refine Lib.hid ?_
    go_wp2
    go_ret
    exact⟨rfl,z⟩
  ·clear he p
   rcases hc with m|⟨rfl,m⟩
   ·by_cases hf:few<0
    ·clear ht
     refine Lib.hid ?_
     go_wp2
     go_ret
     exact⟨rfl,z⟩
    ·have hm:1000<more:=by omega
     clear ht
     refine Lib.hid ?_
     go_wp2
     go_ret
     exact⟨rfl,z⟩
   ·by_cases hf:few<0
    ·clear ht
     refine Lib.hid ?_
     go_wp2
     go_ret
     exact⟨rfl,z⟩
    ·have hm:1000<more:=by omega
     clear ht
     refine Lib.hid ?_
     go_wp2
     go_ret
     exact⟨rfl,z⟩
theorem c8z(s:ByteArray)(few more:Int)(s1 s2:Sh)(w:World)(h:few<=more)(he:s1.en=0)(hst:(s1.st:Int)=few)(hs2:few<=(s2.st:Int))(hp:s1.out <+: s2.out)(h1:Cl 4 #[.string s,vi few] w (RS w s1))(h2:∀V,Bw w V->Cl 4 #[.string s,vi more] V (RS V s2)):Cl 3 #[.string s,vi few,vi more] w fun e w'=>e=.returned (.bool true)/\Bw w w':=by
 have z0:¬more<few:=by omega
 obtain⟨e1,r1,l1,o1,t1⟩:=s1
 obtain⟨f,o,l2,n,p⟩:=s2
 simp only at he hst hs2 hp
 subst he hst
 go_enter Tryz.func3,Tryz.ntmps3
 go_wp2_with (go_at_call 4;refine h1.mono ?_;rintro e w1 ⟨oa,a,rfl,z4,j,z7⟩;simp only at j z7;refine Hid.out ?_)
 have g:=ext_alloc (ext_alloc (Below.refl w1.heap.size w1) (.cells #[vi 0,vi r1,.string l1,.slice oa o1.length a,vi (t1:Nat)] 25)) (.cells #[vi 0,vi 0] 27)
 have u:Bw w ((w1.alloc (.cells #[vi 0,vi r1,.string l1,.slice oa o1.length a,vi (t1:Nat)] 25)).alloc (.cells #[vi 0,vi 0] 27)):=ext_trans z4 g
 have z6:=h2 _ u
 have v:=j.below g
 replace u:Hid _:=u
 replace v:Hid _:=v
 clear h1 h2 j g
 refine Lib.hid ?_
 go_wp2_with (go_at_call 4;refine z6.mono ?_;rintro e w2 ⟨y,z,rfl,q,m,i⟩;simp only at m i;refine Hid.out ?_)
 have q0:=block_below q (block_alloc (.cells #[vi 0,vi 0] 27) (new1 w1 (.cells #[vi 0,vi r1,.string l1,.slice oa o1.length a,vi (t1:Nat)] 25)))
 have q1:=block_below q (new2 w1 (.cells #[vi 0,vi r1,.string l1,.slice oa o1.length a,vi (t1:Nat)] 25) (.cells #[vi 0,vi 0] 27))
 have z5:=ext_trans u.out q
 have d:=ext_alloc (ext_alloc (Below.refl w2.heap.size w2) (.cells #[vi f,vi o,.string l2,.slice y n.length z,vi (p:Nat)] 25)) (.cells #[vi 0,vi 0] 27)
 have k0:=block_below d q0
 have k1:=block_below d q1
 have z2:=ext_trans z5 d
 have z8:=SRow.below (SRow.below v.out q) d
 have z9:=m.below d
 have d0:Ce ((w2.alloc (.cells #[vi f,vi o,.string l2,.slice y n.length z,vi (p:Nat)] 25)).alloc (.cells #[vi 0,vi 0] 27)) w1.heap.size 0 (vi 0):=cell_block k0 rfl
 have d1:Ce ((w2.alloc (.cells #[vi f,vi o,.string l2,.slice y n.length z,vi (p:Nat)] 25)).alloc (.cells #[vi 0,vi 0] 27)) w1.heap.size 1 (vi r1):=cell_block k0 rfl
 have d2:Ce ((w2.alloc (.cells #[vi f,vi o,.string l2,.slice y n.length z,vi (p:Nat)] 25)).alloc (.cells #[vi 0,vi 0] 27)) w1.heap.size 2 (.string l1):=cell_block k0 rfl
 have d3:Ce ((w2.alloc (.cells #[vi f,vi o,.string l2,.slice y n.length z,vi (p:Nat)] 25)).alloc (.cells #[vi 0,vi 0] 27)) w1.heap.size 3 (.slice oa o1.length a):=cell_block k0 rfl
 have d4:Ce ((w2.alloc (.cells #[vi f,vi o,.string l2,.slice y n.length z,vi (p:Nat)] 25)).alloc (.cells #[vi 0,vi 0] 27)) w1.heap.size 4 (vi (t1:Nat)):=cell_block k0 rfl
 have x0:Ce ((w2.alloc (.cells #[vi f,vi o,.string l2,.slice y n.length z,vi (p:Nat)] 25)).alloc (.cells #[vi 0,vi 0] 27)) (w1.heap.size+1) 0 (vi 0):=cell_block k1 rfl
 have z3:=a8k _ _ _ _ _ z9 z8 hp i
 have y9:(t1:Int)<=(p:Int):=hs2
 clear z6 u q q0 q1 k0 k1 z5 d z4 z8 z9 v m z7 i hp hs2
 refine Lib.hid ?_
 go_wp2_with (go_at_call 5;refine z3.mono ?_;rintro e w5 ⟨rfl,z1⟩)
 go_ret
 exact⟨rfl,ext_trans z2 z1⟩
theorem c9a(s:ByteArray)(few more:Int)(s1:Sh)(w:World)(h:few<=more)(he:s1.en≠0)(h1:Cl 4 #[.string s,vi few] w (RS w s1))(h2:∀V,Bw w V->Cl 4 #[.string s,vi more] V (RS V s1)):Cl 3 #[.string s,vi few,vi more] w fun e w'=>e=.returned (.bool true)/\Bw w w':=by
 have y8:¬more<few:=by omega
 obtain⟨u,r1,l1,v,t1⟩:=s1
 simp only at he
 have y7:(u == 0)=false:=by simpa using he
 go_enter Tryz.func3,Tryz.ntmps3
 go_wp2_with (go_at_call 4;refine h1.mono ?_;rintro e w1 ⟨g,i,rfl,z2,z9,z6⟩;simp only at z9 z6;refine Hid.out ?_)
 have z8:=ext_alloc (ext_alloc (Below.refl w1.heap.size w1) (.cells #[vi u,vi r1,.string l1,.slice g v.length i,vi (t1:Nat)] 25)) (.cells #[vi 0,vi 0] 27)
 have o:Bw w ((w1.alloc (.cells #[vi u,vi r1,.string l1,.slice g v.length i,vi (t1:Nat)] 25)).alloc (.cells #[vi 0,vi 0] 27)):=ext_trans z2 z8
 have z5:=h2 _ o
 have q:=z9.below z8
 replace o:Hid _:=o
 replace q:Hid _:=q
 clear h1 h2 z9 z8
 refine Lib.hid ?_
 go_wp2_with (go_at_call 4;refine z5.mono ?_;rintro e w2 ⟨y,z,rfl,n,a,m⟩;simp only at a m;refine Hid.out ?_)
 have q0:=block_below n (block_alloc (.cells #[vi 0,vi 0] 27) (new1 w1 (.cells #[vi u,vi r1,.string l1,.slice g v.length i,vi (t1:Nat)] 25)))
 have q1:=block_below n (new2 w1 (.cells #[vi u,vi r1,.string l1,.slice g v.length i,vi (t1:Nat)] 25) (.cells #[vi 0,vi 0] 27))
 have z4:=ext_trans o.out n
 have hE:=ext_alloc (ext_alloc (Below.refl w2.heap.size w2) (.cells #[vi u,vi r1,.string l1,.slice y v.length z,vi (t1:Nat)] 25)) (.cells #[vi 0,vi 0] 27)
 have k0:=block_below hE q0
 have k1:=block_below hE q1
 have z0:=ext_trans z4 hE
 have d:=SRow.below (SRow.below q.out n) hE
 have f:=a.below hE
 have d0:Ce ((w2.alloc (.cells #[vi u,vi r1,.string l1,.slice y v.length z,vi (t1:Nat)] 25)).alloc (.cells #[vi 0,vi 0] 27)) w1.heap.size 0 (vi u):=cell_block k0 rfl
 have d1:Ce ((w2.alloc (.cells #[vi u,vi r1,.string l1,.slice y v.length z,vi (t1:Nat)] 25)).alloc (.cells #[vi 0,vi 0] 27)) w1.heap.size 1 (vi r1):=cell_block k0 rfl
 have d2:Ce ((w2.alloc (.cells #[vi u,vi r1,.string l1,.slice y v.length z,vi (t1:Nat)] 25)).alloc (.cells #[vi 0,vi 0] 27)) w1.heap.size 2 (.string l1):=cell_block k0 rfl
 have d3:Ce ((w2.alloc (.cells #[vi u,vi r1,.string l1,.slice y v.length z,vi (t1:Nat)] 25)).alloc (.cells #[vi 0,vi 0] 27)) w1.heap.size 3 (.slice g v.length i):=cell_block k0 rfl
 have d4:Ce ((w2.alloc (.cells #[vi u,vi r1,.string l1,.slice y v.length z,vi (t1:Nat)] 25)).alloc (.cells #[vi 0,vi 0] 27)) w1.heap.size 4 (vi (t1:Nat)):=cell_block k0 rfl
 have x0:Ce ((w2.alloc (.cells #[vi u,vi r1,.string l1,.slice y v.length z,vi (t1:Nat)] 25)).alloc (.cells #[vi 0,vi 0] 27)) (w1.heap.size+1) 0 (vi 0):=cell_block k1 rfl
 have z3:=a8k _ _ _ _ _ f d (List.prefix_refl _) m
 have p:∀V,Below ((w2.alloc (.cells #[vi u,vi r1,.string l1,.slice y v.length z,vi (t1:Nat)] 25)).alloc (.cells #[vi 0,vi 0] 27)).heap.size ((w2.alloc (.cells #[vi u,vi r1,.string l1,.slice y v.length z,vi (t1:Nat)] 25)).alloc (.cells #[vi 0,vi 0] 27)) V->Cl 5 #[.slice g v.length i,.slice y v.length z] V fun r w'=>r=.returned (.bool true)/\Bw V w':=fun V hV=>a8k _ _ _ _ _ (d.below hV) (f.below hV) (List.prefix_refl _) m
 have j:∀V,Below ((w2.alloc (.cells #[vi u,vi r1,.string l1,.slice y v.length z,vi (t1:Nat)] 25)).alloc (.cells #[vi 0,vi 0] 27)).heap.size ((w2.alloc (.cells #[vi u,vi r1,.string l1,.slice y v.length z,vi (t1:Nat)] 25)).alloc (.cells #[vi 0,vi 0] 27)) V->Ce V w1.heap.size 3 (.slice g v.length i)/\Ce V w2.heap.size 3 (.slice y v.length z):=fun V hV=>⟨cell_block (block_below hV k0) rfl,cell_block (block_below hV (block_alloc _ (new1 w2 (.cells #[vi u,vi r1,.string l1,.slice y v.length z,vi (t1:Nat)] 25)))) rfl⟩
 replace p:Hid _:=p
 replace j:Hid _:=j
 clear z5 o n q0 q1 k0 k1 z4 hE z2 d f q a z6 m
 refine Lib.hid ?_
 go_wp2_with (go_at_call 5;refine z3.mono ?_;rintro e w5 ⟨rfl,z7⟩;refine Hid.out ?_)
 have z1:=p.out _ z7
 obtain⟨y1,y2⟩:=j.out _ z7
 clear z3 p j
 refine Lib.hid ?_
 go_wp2_with (go_at_call 5;refine z1.mono ?_;rintro e w6 ⟨rfl,y9⟩)
 go_ret
 exact⟨rfl,ext_trans (ext_trans z0 z7) y9⟩
theorem longer_any(s:ByteArray)(few more:Int)(w:World)(hE:ErrV w)(hsp:a4b w)(hpt:PTab w):Cl 3 #[.string s,vi few,vi more] w fun e u=>e=.returned (.bool true)/\Bw w u:=by
 by_cases h:few<=more
 ·obtain⟨o,p⟩:=d8v s
  have q:=p.l few more h
  have h1:=p.c few w hE hsp hpt
  have h2:∀V,Bw w V->Cl 4 #[.string s,vi more] V (RunO V (o more)):=fun V v=>p.c more V (hE.on v) (hsp.below v) (hpt.on v)
  generalize o few=R1 at q h1
  generalize o more=R2 at q h2
  match R1,R2,q,h1,h2 with
  | .inl x,.inl y,⟨l1,l2,l3⟩,h1,h2 =>
   refine b0r s few more x.1 (x.2:Nat) y.1 (y.2:Nat) w h (.inl (by simpa using l1)) ?_ (h1.mono fun e u z=>z.rf) (fun V v=>(h2 V v).mono fun e u z=>z.rf)
   rcases l3 with rfl|l3
   ·exact .inl ⟨rfl,rfl⟩
   ·exact .inr l3
  | .inl x,.inr y,⟨l1,l2⟩,h1,h2=>exact b0r s few more x.1 (x.2:Nat) 0 0 w h (.inl (by simpa using l1)) (.inr (.inl l2)) (h1.mono fun e u z=>z.rf) (fun V v=>(h2 V v).mono fun e u z=>z.rs.rf)
  | .inr x,.inl y,⟨l1,l2⟩,h1,h2=>exact b0r s few more 0 0 y.1 (y.2:Nat) w h (.inr ⟨rfl,by simpa using l1⟩) (.inr (.inr l2)) (h1.mono fun e u z=>z.rs.rf) (fun V v=>(h2 V v).mono fun e u z=>z.rf)
  | .inr x,.inr y,q,h1,h2 =>
   rcases q with⟨l1,l2,l3,l4⟩|⟨l1,rfl⟩
   ·exact c8z s few more x y w h l1 l2 l3 l4 (h1.mono fun e u z=>z.rs) (fun V v=>(h2 V v).mono fun e u z=>z.rs)
   ·exact c9a s few more x w h l1 (h1.mono fun e u z=>z.rs) (fun V v=>(h2 V v).mono fun e u z=>z.rs)
 ·exact c8y s few more w (by omega)
end
end Go.Proofs.YtfbpdbndejefdaaGreatDoor.V
