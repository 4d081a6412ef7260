/- The program's reader: what its methods answer, by what is read. -/
import Derived.Test.YtfbpdbndejefdaaGreatDoorS17
import Derived.Test.YtfbpdbndejefdaaGreatDoorS18
namespace Go.Proofs.YtfbpdbndejefdaaGreatDoor
open Go.RowKit Go
set_option maxRecDepth 100000
set_option maxHeartbeats 8000000
set_option linter.all false
variable {B i j t cap cap1 g f n T base m:Nat} {a b c d v a0 a1 a2 a3:Value} {w u w2 W':World} {x y:Nd} {ts:List Tok} {s:List UInt8} {D:Nat->Prop} {b1:Option Addr} {o:Obj} {xs:List Value} {l l1:List PT} {tm:Array Value}
abbrev PRes:Type:=List PT⊕(Nd×List PT)
abbrev ndv (n:Nd) (b:Option Addr) (cap:Nat):Value:=.agg #[vi n.k,sk n.t,vi n.n,.slice b n.kids.length cap]
abbrev nbx (n:Nd) (b:Option Addr) (cap:Nat):Obj:=.cells #[vi n.k,sk n.t,vi n.n,.slice b n.kids.length cap] 43
abbrev zbx:Obj:=.cells #[vi 0,.string ⟨#[]⟩,vi 0,.slice none 0 0] 43
structure In4 (W:World) (B:Nat) (a b c d:Value):Prop where
 c0:W.cell? (Ad B 0)=some a
 c1:W.cell? (Ad B 1)=some b
 c2:W.cell? (Ad B 2)=some c
 c3:W.cell? (Ad B 3)=some d
 f0:W.frozen? (Ad B 0)=false
 f1:W.frozen? (Ad B 1)=false
 f2:W.frozen? (Ad B 2)=false
 f3:W.frozen? (Ad B 3)=false
theorem in4{W:World}(h:W.heap[B]?=some (.cells #[a,b,c,d] 43)):In4 W B a b c d:=⟨cell_block h rfl,cell_block h rfl,cell_block h rfl,cell_block h rfl,frozen_block h,frozen_block h,frozen_block h,frozen_block h⟩
structure In4A (W:World) (B:Nat) (a b c d:Value):Prop where
 c0:∀o,(W.alloc o).cell? (Ad B 0)=some a
 c1:∀o,(W.alloc o).cell? (Ad B 1)=some b
 c2:∀o,(W.alloc o).cell? (Ad B 2)=some c
 c3:∀o,(W.alloc o).cell? (Ad B 3)=some d
 f0:∀o,(W.alloc o).frozen? (Ad B 0)=false
 f1:∀o,(W.alloc o).frozen? (Ad B 1)=false
 f2:∀o,(W.alloc o).frozen? (Ad B 2)=false
 f3:∀o,(W.alloc o).frozen? (Ad B 3)=false
theorem in4a{W:World}(h:W.heap[B]?=some (.cells #[a,b,c,d] 43)):In4A W B a b c d :=
 ⟨fun o=>(in4 (block_alloc o h)).c0,fun o=>(in4 (block_alloc o h)).c1,fun o=>(in4 (block_alloc o h)).c2,fun o=>(in4 (block_alloc o h)).c3,fun o=>(in4 (block_alloc o h)).f0,fun o=>(in4 (block_alloc o h)).f1,fun o=>(in4 (block_alloc o h)).f2,fun o=>(in4 (block_alloc o h)).f3⟩
abbrev put4 (W:World) (B:Nat) (a b c d:Value):World:=(((W.setCell (Ad B 0) a).setCell (Ad B 1) b).setCell (Ad B 2) c).setCell (Ad B 3) d
theorem a0f{W:World}(a' b' c' d':Value)(h:W.heap[B]?=some (.cells #[a,b,c,d] 43)):(put4 W B a' b' c' d').heap[B]?=some (.cells #[a',b',c',d'] 43):=set_block _ (set_block _ (set_block _ (set_block _ h)))
theorem a1j{S:Nat->Prop}{W:World}(h:a0b S w W)(B:Nat)(a b c d:Value)(hB:w.heap.size<=B):a0b S w (put4 W B a b c d) :=
 (((h.set B 0 a (fun h=>by omega)).set B 1 b (fun h=>by omega)).set B 2 c (fun h=>by omega)).set B 3 d (fun h=>by omega)
theorem a2w{W:World}{C:Nat}(a b c d:Value)(h:C≠B):(put4 W B a b c d).heap[C]?=W.heap[C]?:=(set1_other _ _ h).trans ((set1_other _ _ h).trans ((set1_other _ _ h).trans (set1_other _ _ h)))
theorem a2g(W:World)(B:Nat)(a b c d:Value):a0b (fun k=>k=B) W (put4 W B a b c d) :=
 ((((a0b.refl (fun k=>k=B) W).set B 0 a (fun _=>rfl)).set B 1 b (fun _=>rfl)).set B 2 c (fun _=>rfl)).set B 3 d (fun _=>rfl)
theorem NdV.put4{S:Nat->Prop}{W:World}(h:NdV S W x v)(B:Nat)(a b c d:Value)(hB:∀g,S g->g≠B):NdV S (put4 W B a b c d) x v:=h.keep (a2g W B a b c d) (fun g z _=>hB g z)
theorem Rd.put4{W:World}(h:Rd W B ts i)(C:Nat)(a b c d:Value)(hC:B<C):Rd (put4 W C a b c d) B ts i:=h.keep (a2g W C a b c d) (fun g z=>by omega)
structure Ctx (w:World) (B:Nat) (ts:List Tok) (i:Nat):Prop where
 V:allV (ts.map pt)
 R:Rd w B ts i
theorem Ctx.below(h:Ctx w B ts i)(hb:Bw w u):Ctx u B ts i:=⟨h.V,h.R.below hb⟩
theorem Ctx.on(h:Ctx w B ts i)(hR:Rd u B ts j):Ctx u B ts j:=⟨h.V,hR⟩
theorem c2b(h:allV (ts.map pt))(i:Nat):allV (rest ts i):=fun p hp=>h p (by
 unfold rest at hp
 obtain⟨x,z,rfl⟩:=List.mem_map.1 hp
 exact List.mem_map.2 ⟨x,List.mem_of_mem_drop z,rfl⟩)
theorem c2c(ts:List Tok)(i:Nat):wd ts i=wdl (rest ts i):=by
 unfold wd
 cases h:ts[i]? with
 | none=>rw[a5w (List.getElem?_eq_none_iff.1 h)];rfl
 | some x=>rw[a9w h];rfl
theorem Ctx.is(h:Ctx w B ts i)(hs:a0y s):wd ts i=s↔tx (rest ts i)=s:=by
 rw[c2c]
 exact d5j (c2b h.V i) hs
theorem d1h(h:tx (rest ts i)=s)(hs:s≠[]):i<ts.length:=by
 rcases Nat.lt_or_ge i ts.length with z|z
 ·exact z
 ·rw[a5w z]at h
  exact absurd h.symm hs
theorem a0x(ts:List Tok)(i:Nat):(rest ts i).tail=rest ts (i+1):=by
 unfold rest
 rw[<- List.map_tail,List.tail_drop]
theorem b2a(h:a0y s):s≠[]:=by
 obtain⟨c,r,rfl,_⟩:=h
 simp
abbrev no:Nat->Prop:=fun _=>False
def PAns (S:Nat->Prop) (w:World) (B:Nat) (ts:List Tok) (r:PRes) (e:Ending) (w':World):Prop :=
 match r with
 | .inl l=>∃i,rest ts i=l/\i<=ts.length/\e=.panicked (pan (gv ts i))/\a0b (fun k=>k=B) w w'
 | .inr (n,l)=>∃i b cap,rest ts i=l/\e=.returned (ndv n b cap)/\NdV (fun g=>S g\/w.heap.size<=g) w' n (ndv n b cap)/\Rd w' B ts i/\a0b (fun k=>k=B) w w'
theorem b2b{b:Option Addr}(k n:Int)(hx:NdV D w2 x (ndv x b cap))(hy:NdV D w2 y (ndv y b1 cap1))(hD:∀g,D g->g≠t)(hnew:D w2.heap.size)(g:w2.heap[t]?=some (.cells #[a0,a1,a2,a3] 43)){W:World}(hW:put4 (w2.alloc (.cells #[vi x.k,sk x.t,vi x.n,.slice b x.kids.length cap,vi y.k,sk y.t,vi y.n,.slice b1 y.kids.length cap1] 43)) t (vi k) (sk []) (vi n) (.slice (some (Ad w2.heap.size 0)) 2 2)=W) :
  NdV D W ⟨k,[],n,[x,y]⟩ (ndv ⟨k,[],n,[x,y]⟩ (some (Ad w2.heap.size 0)) 2)/\W.heap[t]?=some (nbx ⟨k,[],n,[x,y]⟩ (some (Ad w2.heap.size 0)) 2)/\a0b (fun q=>q=t) w2 W:=by
 subst hW
 have u:=ext_alloc (Below.refl w2.heap.size w2) (.cells #[vi x.k,sk x.t,vi x.n,.slice b x.kids.length cap,vi y.k,sk y.t,vi y.n,.slice b1 y.kids.length cap1] 43)
 refine⟨?_,a0f _ _ _ _ (block_alloc _ g),(a0b.of_below u).trans (a2g _ _ _ _ _ _)⟩
 refine NdV.put4 ?_ _ _ _ _ _ hD
 refine(Row.two hnew ?_ ?_ (a0a w2 _)).node k [] n
 ·exact(hx.weak (S':=fun q=>D q/\q≠w2.heap.size) (fun g v z=>⟨v,by omega⟩)).below u
 ·exact(hy.weak (S':=fun q=>D q/\q≠w2.heap.size) (fun g v z=>⟨v,by omega⟩)).below u
theorem c2d{b:Option Addr}(k n:Int)(hx:NdV D w2 x (ndv x b cap))(hD:∀g,D g->g≠t)(hnew:D w2.heap.size)(g:w2.heap[t]?=some (.cells #[a0,a1,a2,a3] 43)){W:World}(hW:put4 (w2.alloc (nbx x b cap)) t (vi k) (sk []) (vi n) (.slice (some (Ad w2.heap.size 0)) 1 1)=W) :
  Row D W (.slice (some (Ad w2.heap.size 0)) 1 1) [x]/\W.heap[t]?=some (nbx ⟨k,[],n,[x]⟩ (some (Ad w2.heap.size 0)) 1)/\a0b (fun q=>q=t) w2 W:=by
 subst hW
 have y:=ext_alloc (Below.refl w2.heap.size w2) (nbx x b cap)
 refine⟨?_,a0f _ _ _ _ (block_alloc _ g),(a0b.of_below y).trans (a2g _ _ _ _ _ _)⟩
 refine Row.keep ?_ (a2g _ _ _ _ _ _) (fun g z _=>hD g z)
 exact Row.one hnew ((hx.weak (S':=fun q=>D q/\q≠w2.heap.size) (fun g z v=>⟨z,by omega⟩)).below y) (a0a w2 _)
theorem a0b.box{S:Nat->Prop}{W:World}(hk:a0b S W W')(g:W.heap[t]?=some o)(hn:¬S t):W'.heap[t]?=some o:=(hk.block t (block_lt g) hn).trans g
theorem a4x(y:Nd)(b:Option Addr)(cap:Nat){W:World}(h:W.heap[g]?=some (nbx y b cap)):∀j u,[vi y.k,sk y.t,vi y.n,.slice b y.kids.length cap][j]?=some u->W.cell? ((Ad g 0).add j)=some u:=World.news_of_block (cs:=#[vi y.k,sk y.t,vi y.n,.slice b y.kids.length cap]) h
theorem a4p{lo:Nat}{W w3:World}{A0 A1 A2:Value}{ks:List Nd}{b:Option Addr}{cap3:Nat}(ho:W.ownsRow 0 43 4 (.slice b ks.length cap) ks.length xs)(hs:∀q,Value.ownBlock (.slice b ks.length cap)=some q->D q)(hn:∀j y,ks[j]?=some y->NdAt (fun g=>D g/\some g≠Value.ownBlock (.slice b ks.length cap)) W y (fun i=>if i<4 then xs[j*4+i]? else none))(hy:NdV (fun q=>D q/\some q≠Value.ownBlock (.slice b ks.length cap)) W y (ndv y b1 cap1))(hD:∀q,D q->q≠t)(hnew:∀q,W.heap.size<=q->D q)(hlo:∀q,Value.ownBlock (.slice b ks.length cap)=some q->lo<=q)(hlo2:lo<=W.heap.size)(hb:W.heap[t]?=some (.cells #[A0,A1,A2,.slice b ks.length cap] 43))(hown:w3.ownsRow 0 43 4 (.slice (some (Ad g 0)) (ks.length+1) cap3) (ks.length+1) (xs++[vi y.k,sk y.t,vi y.n,.slice b1 y.kids.length cap1]))(hgrow:W.grownBy w3 (Value.ownBlock (.slice b ks.length cap)))(hat:Value.ownBlock (.slice b ks.length cap)=some g\/g=W.heap.size){W4:World}(hW4:w3.setCell (Ad t 3) (.slice (some (Ad g 0)) (ks.length+1) cap3)=W4) :
  Row D W4 (.slice (some (Ad g 0)) (ks++[y]).length cap3) (ks++[y])/\W4.heap[t]?=some (.cells #[A0,A1,A2,.slice (some (Ad g 0)) (ks++[y]).length cap3] 43)/\a0b (fun q=>q=t\/some q=Value.ownBlock (.slice b ks.length cap)) W W4/\(∀q,Value.ownBlock (.slice (some (Ad g 0)) (ks++[y]).length cap3)=some q->lo<=q):=by
 subst hW4
 have v:¬some t=Value.ownBlock (.slice b ks.length cap):=fun e=>hD t (hs t e.symm) rfl
 have z:a0b (fun q=>q=t) w3 (w3.setCell (Ad t 3) (.slice (some (Ad g 0)) (ks.length+1) cap3)):=(a0b.refl _ _).set t 3 _ (fun _=>rfl)
 have u:(ks++[y]).length=ks.length+1:=by simp
 rw[u]
 refine⟨?_,set_block _ ((hgrow.block t (block_lt hb) v).trans hb),?_,fun q e=>?_⟩
 ·exact(Row.snoc ho hs hn hy hown hgrow hat hnew).keep z (fun q hq _=>hD q hq)
 ·exact((a0b.grown hgrow).mono (fun q _ h=>.inr h)).then z (fun q _ h=>.inl h)
 ·have s:g=q:=by simpa[Value.ownBlock]using e
  subst s
  rcases hat with e|e
  ·exact hlo g e
  ·omega
theorem a0j{N:Nd}{b:Option Addr}{W:World}(hj:rest ts j=l)(hN:NdV (fun g=>(D g\/w.heap.size<=g)/\g≠t) W N (ndv N b cap))(hR:Rd W B ts j)(hk:a0b (fun k=>k=B) w W)(ht:w.heap.size<=t)(hB:B<w.heap.size) :
  PAns D w B ts (.inr (N,l)) (.returned (ndv N b cap)) (put4 W t (vi N.k) (sk N.t) (vi N.n) (.slice b N.kids.length cap)) :=
 ⟨j,b,cap,hj,rfl,(hN.put4 _ _ _ _ _ (fun g z=>z.2)).weak (fun g z _=>z.1),hR.put4 _ _ _ _ _ (by omega),a1j hk _ _ _ _ _ ht⟩
theorem a0d{W:World}(hj:rest ts j=l)(hle:j<=ts.length)(hk:a0b (fun k=>k=B) w W):PAns D w B ts (.inl l) (.panicked (pan (gv ts j))) W:=⟨j,hj,hle,rfl,hk⟩
theorem Ctx.takes_no(h:Ctx w B ts i)(hs:a0y s)(hc:¬tx (rest ts i)=s)(u:World)(hb:Bw w u):Cl 102 #[Po B 0,sk s] u fun e z=>e=.returned (.bool false)/\Bw u z :=
 YtfbpdbndejefdaaGreatDoor.takes_no B ts i s (fun c=>hc ((h.is hs).1 c)) u (h.R.below hb)
theorem Ctx.takes_yes(h:Ctx w B ts i)(hs:a0y s)(hc:tx (rest ts i)=s)(u:World)(hb:Bw w u):Cl 102 #[Po B 0,sk s] u fun e z=>e=.returned (.bool true)/\Rd z B ts (i+1)/\a0b (fun k=>k=B) u z :=
 YtfbpdbndejefdaaGreatDoor.takes_yes B ts i s ((h.is hs).2 hc) (d1h hc (b2a hs)) u (h.R.below hb)
theorem Ctx.wants_no(h:Ctx w B ts i)(hs:a0y s)(hc:¬tx (rest ts i)=s)(u:World)(hb:Bw w u):Cl 99 #[Po B 0,.slice (some (Ad u.heap.size 0)) 1 1] (u.alloc (.cells #[sk s] 9)) fun e y=>e=.panicked (pan (gv ts i))/\Bw u y:=by
 refine(YtfbpdbndejefdaaGreatDoor.wants_no B ts i s (fun c=>hc ((h.is hs).1 c)) u.heap.size 1 _ (h.R.below (ext_alloc hb _)) (a0a u _)).mono ?_
 rintro e w1 ⟨rfl,z⟩
 exact⟨rfl,ext_trans (ext_alloc (Below.refl _ _) _) z⟩
theorem Ctx.wants_yes(h:Ctx w B ts i)(hs:a0y s)(hc:tx (rest ts i)=s)(u:World)(hb:Bw w u):Cl 99 #[Po B 0,.slice (some (Ad u.heap.size 0)) 1 1] (u.alloc (.cells #[sk s] 9)) fun e z=>e=.returned (.tuple #[])/\Rd z B ts (i+1)/\a0b (fun k=>k=B) u z:=by
 refine(YtfbpdbndejefdaaGreatDoor.wants_yes B ts i s ((h.is hs).2 hc) (d1h hc (b2a hs)) u.heap.size 1 _ (h.R.below (ext_alloc hb _)) (a0a u _)).mono ?_
 rintro e w1 ⟨rfl,y,hk⟩
 exact⟨rfl,y,(a0b.of_below (ext_alloc (Below.refl _ _) _)).trans hk⟩
def RowC (f:Nat):Prop:=∀(a:Nat) (r:PRes) (B:Nat) (ts:List Tok) (i:Nat) (w:World),a<=6->Ctx w B ts i->P f 0 nil0 a (rest ts i)=some r->Cl 171 #[Po B 0,vi ((a+1:Nat):Int)] w (PAns no w B ts r)
def a6g (f:Nat):Prop:=∀(r:PRes) (B:Nat) (ts:List Tok) (i:Nat) (w:World),Ctx w B ts i->P f 0 nil0 0 (rest ts i)=some r->Cl 163 #[Po B 0] w (PAns no w B ts r)
theorem d5x{W:World}(h:tm[2]?.getD undef=Po B 0)(hx:W.heap[B]?=some (.cells #[a,b,c,d] 43)):(results Tryz.f163 tm).run Tryz.prog W=.ok (.agg #[a,b,c,d]) W:=by
 obtain⟨c0,c1,c2,c3,_,_,_,_⟩:=in4 hx
 simp[results,Tryz.results163,go_sem,h,c0,c1,c2,c3]
theorem expr_of(f:Nat)(hRow:RowC f):a6g f:=by
 intro r B ts i w u q
 have o:=hRow 0 r B ts i (w.alloc zbx) (by omega) (u.below (ext_alloc (Below.refl _ _) _)) q
 have h0:=a0a w zbx
 have s:B≠w.heap.size:=by have:=u.R.lt;omega
 clear hRow q
 cases r with
 | inl l =>
  go_enter Tryz.func163,Tryz.ntmps163
  go_wp2_with (go_at_call 171;refine o.mono ?_;rintro e w1 ⟨j,y,z,rfl,hk⟩)
  exact⟨rfl,j,y,z,rfl,(a0b.of_below (ext_alloc (Below.refl _ _) _)).trans hk⟩
 | inr p =>
  obtain⟨n,l⟩:=p
  go_enter Tryz.func163,Tryz.ntmps163
  go_wp2_with (go_at_call 171;refine o.mono ?_;rintro e w1 ⟨j,b,cap,y,rfl,h,m,hk⟩;have h1:=(hk.block _ (block_lt h0) (fun e=>s e.symm)).trans h0;obtain⟨c0,c1,c2,c3,f0,f1,f2,f3⟩:=in4 h1)
  refine bodyPost_ret (d5x rfl (a0f _ _ _ _ h1)) rfl ⟨j,b,cap,y,rfl,?_,m.put4 _ _ _ _ _ u.R.lt,a1j ((a0b.of_below (ext_alloc (Below.refl _ _) _)).trans hk) _ _ _ _ _ (Nat.le_refl _)⟩
  exact(h.put4 _ _ _ _ _ (fun g v=>by simp at v;omega)).weak (fun g v _=>by simp at v;exact .inr (by omega))
def SufC (f:Nat):Prop:=∀(x:Nd) (b:Option Addr) (cap:Nat) (D:Nat->Prop) (r:PRes) (B:Nat) (ts:List Tok) (i:Nat) (w:World),Ctx w B ts i->NdV D w x (ndv x b cap)->(∀g,D g->g≠B)->P f 5 x 0 (rest ts i)=some r->Cl 165 #[Po B 0,ndv x b cap] w (PAns D w B ts r)
theorem c9n{W:World}(h:tm[4]?.getD undef=Po B 0)(hx:W.heap[B]?=some (.cells #[a,b,c,d] 43)):(results Tryz.f165 tm).run Tryz.prog W=.ok (.agg #[a,b,c,d]) W:=by
 obtain⟨c0,c1,c2,c3,_,_,_,_⟩:=in4 hx
 simp[results,Tryz.results165,go_sem,h,c0,c1,c2,c3]
theorem c6i:a0y S.lb:=⟨_,_,rfl,rfl⟩
theorem d5y:a0y S.rb:=⟨_,_,rfl,rfl⟩
theorem b3t:a0y S.lp:=⟨_,_,rfl,rfl⟩
theorem b5i:a0y S.rp:=⟨_,_,rfl,rfl⟩
theorem b9e:a0y S.cm:=⟨_,_,rfl,rfl⟩
theorem b1d(w:World)(o1 o2:Obj):Bw w ((w.alloc o1).alloc o2):=ext_alloc (ext_alloc (Below.refl _ _) _) _
theorem new2(w:World)(o1 o2:Obj):((w.alloc o1).alloc o2).heap[w.heap.size]?=some o1/\((w.alloc o1).alloc o2).heap[w.heap.size+1]?=some o2:=⟨block_alloc _ (a0a w o1),by have:=a0a (w.alloc o1) o2;rwa [World.size_alloc]at this⟩
theorem a3o{x:PR}{g:Nd->List PT->PR}{r:PRes}(h:x.on g=some r):∃r0,x=some r0/\((∃l,r0=.inl l/\r=.inl l)\/∃n l,r0=.inr (n,l)/\g n l=some r):=by
 cases x with
 | none=>cases h
 | some r0 =>
  refine⟨r0,rfl,?_⟩
  rcases r0 with l|⟨n,l⟩
  ·exact .inl ⟨l,rfl,(Option.some.inj h).symm⟩
  ·exact .inr ⟨n,l,rfl,h⟩
theorem need_some{g:List PT->PR}{r:PRes}(h:need s l g=some r):(tx l=s/\g l.tail=some r)\/(¬tx l=s/\r=.inl l):=by
 unfold need at h
 split at h
 ·exact .inl ⟨by assumption,h⟩
 ·exact .inr ⟨by assumption,(Option.some.inj h).symm⟩
theorem c2e(f:Nat)(hE:a6g f)(x:Nd)(b:Option Addr)(cap:Nat)(D:Nat->Prop)(r:PRes)(B:Nat)(ts:List Tok)(i:Nat)(w:World)(hC:Ctx w B ts i)(hx:NdV D w x (ndv x b cap))(hS:∀g,D g->g≠B)(hlb:tx (rest ts i)=S.lb)(hP:(P f 0 nil0 0 (rest ts i).tail).on (fun y l=>need S.rb l fun l=>.ok (nd 20 [x,y]) l)=some r):Cl 165 #[Po B 0,ndv x b cap] w (PAns D w B ts r):=by
 obtain⟨h3,h4⟩:=new2 w (nbx x b cap) zbx
 have hT:=hC.takes_yes c6i hlb _ (b1d w (nbx x b cap) zbx)
 have x8:=hC.R.lt
 have z1:a0b (fun k=>k=B) w ((w.alloc (nbx x b cap)).alloc zbx):=a0b.of_below (b1d w (nbx x b cap) zbx)
 rw[a0x]at hP
 obtain⟨r0,z3,hr⟩:=a3o hP
 have y6:=fun u h=>hE r0 B ts (i+1) u h z3
 replace hr:Hid _:=hr
 clear hP z3
 go_enter Tryz.func165,Tryz.ntmps165
 go_wp2_with (go_at_call 102;refine hT.mono ?_;rintro e w1 ⟨rfl,y8,a⟩)
 have g3:=(a.block _ (block_lt h3) (by omega)).trans h3
 have g4:=(a.block _ (block_lt h4) (by omega)).trans h4
 obtain⟨c0,c1,c2,c3,f0,f1,f2,f3⟩:=in4 g3
 have v:=z1.trans a
 have x6:w.heap.size+1<w1.heap.size:=block_lt g4
 have y5:=hC.on y8
 have y4:=hx.keep v (fun g s _=>hS g s)
 clear hT z1 a h3 h4
 go_region_with ((go_at_call 163;refine(y6 _ (y5.below ((Below.refl _ _).drew))).mono ?_;intro e w2 hA;rcases r0 with l1|⟨n1,l1⟩;(obtain⟨j,hj,y2,rfl,z⟩:=hA;rcases hr.out with⟨l,q,e2⟩|⟨n,l,q,_⟩;(cases q;subst e2;exact⟨rfl,j,hj,y2,rfl,(v.drew).trans z⟩);cases q);obtain⟨j,b1,z8,hj,rfl,y7,y9,z⟩:=hA;have g3:=(z.block _ (block_lt g3) (by omega)).trans g3;have g4:=(z.block _ (block_lt g4) (by omega)).trans g4;obtain⟨c0,c1,c2,c3,f0,f1,f2,f3⟩:=in4 g3;obtain⟨d0,d1,d2,d3,e0,q,e2,e3⟩:=in4a g3))
 all_goals
  rcases hr.out with⟨l,q,_⟩|⟨n,l,q,o⟩
  ·cases q
  cases q
  clear hr c0 c1 c2 c3 f0 f1 f2 f3 d0 d1 d2 d3 e0 q e2 e3 y6 hE
  have z4:NdV (fun g=>(D g\/w.heap.size<=g)/\g≠w.heap.size/\g≠w.heap.size+1) w2 x (ndv x b cap):=((hx.weak (S':=fun g=>D g/\g<w.heap.size) (fun g s y3=>⟨s,y3⟩)).keep ((v.drew).trans z) (fun g s _=>hS g s.1)).weak (fun g s _=>⟨.inl s.1,by omega,by omega⟩)
  have z5:NdV (fun g=>(D g\/w.heap.size<=g)/\g≠w.heap.size/\g≠w.heap.size+1) w2 n1 (ndv n1 b1 z8):=y7.weak (fun g s _=>by simp at s;refine⟨.inr (by omega),by omega,by omega⟩)
  obtain⟨W3,z9⟩:∃W3,put4 (w2.alloc (.cells #[vi x.k,sk x.t,vi x.n,.slice b x.kids.length cap,vi n1.k,sk n1.t,vi n1.n,.slice b1 n1.kids.length z8] 43)) w.heap.size (vi 20) (sk []) (vi 0) (.slice (some (Ad w2.heap.size 0)) 2 2)=W3:=⟨_,rfl⟩
  have x7:w1.heap.size<=w2.heap.size:=z.size
  obtain⟨x9,q3,d⟩:=b2b 20 0 z4 z5 (fun g s=>s.2.1) ⟨.inr (by omega),by omega,by omega⟩ g3 z9
  have q4:=(d.block _ (block_lt g4) (by omega)).trans g4
  have z0:=y9.keep d (fun g s=>by omega)
  have z2:=((v.drew).trans z).then d (fun j hj e=>by omega)
  dsimp only[put4]at z9
  rw[z9]
  clear z9 z4 z5 d z v y4 g3 g4 y9 y7 y5 y8 hx
  have z6:=hC.on z0
  rw[<- hj]at o
  clear z0
  refine Lib.hid ?_
  rcases need_some o with⟨hy,p⟩|⟨hy,rfl⟩
  ·rw[a0x]at p
   have z7:=z6.wants_yes d5y hy W3 (Below.refl _ _)
   replace p:Hid _:=p
   clear o
   go_wp2_with (go_at_call 99;refine z7.mono ?_;rintro e w4 ⟨rfl,y0,m⟩;have p3:=(m.block _ (block_lt q3) (by omega)).trans q3;have p4:=(m.block _ (block_lt q4) (by omega)).trans q4;obtain⟨c0,c1,c2,c3,f0,f1,f2,f3⟩:=in4 p3;obtain⟨d0,d1,d2,d3,e0,q,e2,e3⟩:=in4 p4)
   refine bodyPost_ret (c9n rfl (a0f _ _ _ _ p4)) rfl ?_
   obtain rfl:=Option.some.inj p.out
   exact a0j rfl ((x9.keep m (fun g s _=>by rcases s.1 with h|h;exact hS g h;omega)).weak (fun g s _=>⟨s.1,s.2.2⟩)) y0 (z2.trans m) (by omega) x8
  ·have z7:=z6.wants_no d5y hy W3 (Below.refl _ _)
   clear o
   go_wp2_with (go_at_call 99;refine z7.mono ?_;rintro e w4 ⟨rfl,y1⟩)
   exact⟨rfl,a0d hj z6.R.le (z2.trans (a0b.of_below y1))⟩
theorem b1e:(Tryz.prog.info? 43).map (fun i=>(i.zero,i.size,i.bytes))=some (some (.agg #[vi 0,.string ⟨#[]⟩,vi 0,.slice none 0 0]),4,56):=by kernel_rfl
theorem Ctx.sees1(h:Ctx w B ts i)(hs:a0y s)(u:World)(hb:Bw w u):Cl 101 #[Po B 0,.slice (some (Ad u.heap.size 0)) 1 1] (u.alloc (.cells #[sk s] 9)) fun e y=>e=.returned (.bool (decide (tx (rest ts i)=s)))/\Bw u y:=by
 have:=a8z B ts i u.heap.size [⟨s.toArray⟩] (by simp) 1 _ (h.R.below (ext_alloc hb _)) (a0a u _)
 rw[contains1]at this
 rw[show decide (tx (rest ts i)=s)=decide (wd ts i=s) from decide_eq_decide.2 (h.is hs).symm]
 refine this.mono ?_
 rintro e w1 ⟨rfl,z⟩
 exact⟨rfl,ext_trans (ext_alloc (Below.refl _ _) _) z⟩
theorem Ctx.sees2(h:Ctx w B ts i){s2:List UInt8}(hs:a0y s)(hs2:a0y s2)(u:World)(hb:Bw w u):Cl 101 #[Po B 0,.slice (some (Ad u.heap.size 0)) 2 2] (u.alloc (.cells #[sk s,sk s2] 9)) fun e y=>e=.returned (.bool (decide (tx (rest ts i)=s\/tx (rest ts i)=s2)))/\Bw u y:=by
 have:=a8z B ts i u.heap.size [⟨s.toArray⟩,⟨s2.toArray⟩] (by simp) 2 _ (h.R.below (ext_alloc hb _)) (a0a u _)
 rw[contains2]at this
 rw[show decide (tx (rest ts i)=s\/tx (rest ts i)=s2)=decide (wd ts i=s\/wd ts i=s2) from decide_eq_decide.2 (by rw[h.is hs,h.is hs2])]
 refine this.mono ?_
 rintro e w1 ⟨rfl,z⟩
 exact⟨rfl,ext_trans (ext_alloc (Below.refl _ _) _) z⟩
theorem d5z{tag:Nat}{a:Nat}{n:Nd}(ht:tag<=12)(h:P f tag x a l=some (.inr (n,l1))):l1.length<room tag l:=by
 obtain⟨r,h1,h2⟩:=a3m (16*l.length+rank tag a) tag x a l ht (Nat.le_refl _)
 have:=d9c ⟨f,h⟩ ⟨_,h1⟩
 exact h2 n l1 this.symm
theorem d1i{a:Nat}{j2:Nat}{n:Nd}(h:Hid (P f 0 x a (rest ts j)=some (.inr (n,l1))))(hj:rest ts j2=l1):j<j2:=by
 have:=d5z (by omega) h.out
 rw[<- hj]at this
 simp only[room,a8y]at this
 omega
def ArgI (D:Nat->Prop) (f:Nat) (w:World) (B:Nat) (ts:List Tok) (r:PRes) (k:Nat) (m:Value) (wr:World):Prop :=
 ∃(more:Bool) (ks:List Nd) (j:Nat) (b:Option Addr) (cap:Nat),m=.bool more/\wr.heap[w.heap.size]?=some (nbx (nd 21 ks) b cap)/\wr.heap[w.heap.size+1]?=some zbx /\
  Row (fun g=>(D g\/w.heap.size<=g)/\g≠w.heap.size/\g≠w.heap.size+1) wr (.slice b ks.length cap) ks/\(∀q,Value.ownBlock (.slice b ks.length cap)=some q->w.heap.size<=q)/\Rd wr B ts j/\a0b (fun k=>k=B) w wr/\ks.length<=j /\
  (if more then k<=f/\P k 6 (nd 21 ks) 0 (rest ts j)=some r else need S.rp (rest ts j) (fun l=>.ok (nd 21 ks) l)=some r)
theorem c6j(f:Nat)(hE:∀g,g<=f->a6g g)(x:Nd)(b:Option Addr)(cap:Nat)(D:Nat->Prop)(r:PRes)(B:Nat)(ts:List Tok)(i:Nat)(w:World)(hC:Ctx w B ts i)(hx:NdV D w x (ndv x b cap))(hS:∀g,D g->g≠B)(hlb:¬tx (rest ts i)=S.lb)(hP:need S.lp (rest ts i) (fun l=>if tx l=S.rp then .ok (nd 21 [x]) l.tail else P f 6 (nd 21 [x]) 0 l)=some r):Cl 165 #[Po B 0,ndv x b cap] w (PAns D w B ts r):=by
 obtain⟨i0,hi0,hz0,hz1,hz2⟩:=info_parts b1e
 obtain⟨h3,h4⟩:=new2 w (nbx x b cap) zbx
 have hT:=hC.takes_no c6i hlb _ (b1d w (nbx x b cap) zbx)
 have hBw:=hC.R.lt
 have hb0:=b1d w (nbx x b cap) zbx
 rcases need_some hP with⟨hlp,hP2⟩|⟨hlp,rfl⟩
 ·rw[a0x]at hP2
  replace hP2:Hid _:=hP2
  clear hP
  go_enter Tryz.func165,Tryz.ntmps165
  go_wp2_with (first|(go_at_call 102;refine hT.mono ?_;rintro e w1 ⟨rfl,hb1⟩)|(go_at_call 99;refine((hC.below (ext_trans hb0 hb1)).wants_yes b3t hlp _ (Below.refl _ _)).mono ?_;rintro e w2 ⟨rfl,hR2,hk2⟩;refine Hid.out ?_))
  have hkw:a0b (fun k=>k=B) w w2:=(a0b.of_below (ext_trans hb0 hb1)).trans hk2
  have g3:=(hk2.box (block_below hb1 h3) (by omega))
  have g4:=(hk2.box (block_below hb1 h4) (by omega))
  have hz4:=block_lt g4
  have hx2:NdV (fun g=>(D g\/w.heap.size<=g)/\g≠w.heap.size/\g≠w.heap.size+1) w2 x (ndv x b cap):=((hx.weak (S':=fun g=>D g/\g<w.heap.size) (fun g hg hlt=>⟨hg,hlt⟩)).keep hkw (fun g hg _=>hS g hg.1)).weak (fun g hg _=>⟨.inl hg.1,by omega,by omega⟩)
  obtain⟨W3,hW3⟩:∃W3,put4 (w2.alloc (nbx x b cap)) w.heap.size (vi 21) (sk []) (vi 0) (.slice (some (Ad w2.heap.size 0)) 1 1)=W3:=⟨_,rfl⟩
  obtain⟨hRow3,q3,hk3⟩:=c2d 21 0 hx2 (fun g hg=>hg.2.1) ⟨.inr (by omega),by omega,by omega⟩ g3 hW3
  have q4:=hk3.box g4 (by omega)
  have hR3:=hR2.keep hk3 (fun g hg=>by omega)
  have hkw3:=hkw.then hk3 (fun j hj e=>by omega)
  have hC3:=hC.on hR3
  have hSee:=hC3.sees1 b5i W3 (Below.refl _ _)
  obtain⟨c0,c1,c2,c3,f0,f1,f2,f3⟩:=in4 g3
  obtain⟨d0,d1,d2,d3,e0,e1,e2,e3⟩:=in4a g3
  have hlen:∃more:Bool,decide (tx (rest ts (i+1))=S.rp)=!more/\(if more then f<=f/\P f 6 (nd 21 [x]) 0 (rest ts (i+1))=some r else need S.rp (rest ts (i+1)) (fun l=>.ok (nd 21 [x]) l)=some r):=by
   by_cases hy:tx (rest ts (i+1))=S.rp
   ·refine⟨false,by simp[hy],?_⟩
    have:=hP2.out
    rw[if_pos hy]at this
    rw[if_neg (by decide)]
    unfold need
    rw[if_pos hy]
    exact this
   ·refine⟨true,by simp[hy],?_⟩
    have:=hP2.out
    rw[if_neg hy]at this
    rw[if_pos rfl]
    exact⟨Nat.le_refl _,this⟩
  obtain⟨more,hm1,hm2⟩:=hlen
  rw[hm1]at hSee
  replace hm2:Hid _:=hm2
  clear hP2 hm1 h3 h4 hT hlb hlp hx2 hx
  refine Lib.hid ?_
  go_wp2_with (go_at_call 101;refine Hid.out ?_)
  clear hW3 c0 c1 c2 c3 f0 f1 f2 f3 d0 d1 d2 d3 e0 e1 e2 e3 g3 g4 hk3 hk2 hkw hR2
  refine Lib.hid ?_
  go_wp2_with (go_at_call 101;refine hSee.mono ?_;rintro e w4 ⟨rfl,hb4⟩)
  have q3':=block_below hb4 q3
  have q4':=block_below hb4 q4
  have hRow4:=hRow3.below hb4
  have hR4:=hR3.below hb4
  have hkw4:=hkw3.trans (a0b.of_below hb4)
  have hown4:∀q,Value.ownBlock (.slice (some (Ad w2.heap.size 0)) 1 1)=some q->w.heap.size<=q:=fun q e=>by
   have:w2.heap.size=q:=by simpa[Value.ownBlock]using e
   omega
  have hI:ArgI D f w B ts r f (.bool more) w4:=⟨more,[x],i+1,_,1,rfl,q3',q4',hRow4,hown4,hR4,hkw4,by simp,hm2.out⟩
  clear q3 q4 hRow3 hR3 hkw3 hC3 hSee hRow4 hR4 hkw4 hown4 hm2 q3' q4' hb4 hz4 hb1
  go_loopg [5] f (fun k m wr=>ArgI D f w B ts r k m wr)
  case atStart=>exact hI
  case round =>
   obtain⟨more1,ks,j,b',cap',rfl,p3,p4,hRow,hown,hR,hk,hkl,hr⟩:=hrel
   clear hI
   obtain⟨c0,c1,c2,c3,f0,f1,f2,f3⟩:=in4 p3
   have hCr:=hC.on hR
   have hz4:=block_lt p4
   cases more1 with
   | false =>
    rw[if_neg (by decide)]at hr
    rcases need_some hr with⟨hy,hr3⟩|⟨hy,rfl⟩
    ·rw[a0x]at hr3
     have hWt:=hCr.wants_yes b5i hy wr (Below.refl _ _)
     replace hr3:Hid _:=hr3
     have hN:=hRow.node 21 [] 0
     clear hr
     go_wp2_with (go_at_call 99;refine hWt.mono ?_;rintro e w4 ⟨rfl,hR4,hk4⟩;have p3:=hk4.box p3 (by omega);have p4:=hk4.box p4 (by omega);obtain⟨c0,c1,c2,c3,f0,f1,f2,f3⟩:=in4 p3;obtain⟨d0,d1,d2,d3,e0,e1,e2,e3⟩:=in4 p4)
     refine bodyPost_ret (c9n rfl (a0f _ _ _ _ p4)) rfl ?_
     obtain rfl:=Option.some.inj hr3.out
     exact a0j (N:=nd 21 ks) rfl ((hN.keep hk4 (fun g hg _=>by rcases hg.1 with h|h;exact hS g h;omega)).weak (fun g hg _=>⟨hg.1,hg.2.2⟩)) hR4 (hk.trans hk4) (by omega) hBw
    ·have hWt:=hCr.wants_no b5i hy wr (Below.refl _ _)
     clear hr
     go_wp2_with (go_at_call 99;refine hWt.mono ?_;rintro e w4 ⟨rfl,hb4⟩)
     exact⟨rfl,a0d rfl hR.le (hk.trans (a0b.of_below hb4))⟩
   | true =>
    rw[if_pos rfl]at hr
    obtain⟨hgf,hr⟩:=hr
    cases gk with
    | zero=>cases hr
    | succ g =>
     rw[P]at hr
     obtain⟨r0,hr0,hr1⟩:=a3o hr
     have hEE:=fun u h=>hE g (by omega) r0 B ts j u h hr0
     replace hr1:Hid _:=hr1
     have hjl:=hR.le
     have hsh:=hR.short
     have hn1:ks.length+1<=maxLen:=by unfold maxLen;omega
     have hb1:(ks.length+1)*56<=140737488355328:=by omega
     have hr0':Hid _:=hr0
     clear hr hr0 hE
     go_wp2
     go_region_law (first
      | (refine step_append_lies _ (by rfl) _ _ _ (by rfl) 0 43 i0 _ 4 56 Tryz.underlying41 hi0 hz0 hz1 hz2 rfl (by omega) (.slice b' ks.length cap') ks.length _ (by rfl) ho (Ad w2.heap.size 0) 1 1 _ (by rfl) (by rfl) (a4x n1 b1 cap1 (a0a w2 (nbx n1 b1 cap1))) (by simp[Value.oneCell']) (by omega) hn1 hb1 (Nat.zero_le _) _ rfl ?_;intro g3 cap3 w3 hown3 hgrow hat hlt3;have p3w:=(hgrow.block _ (block_lt p3) hne3).trans p3;obtain⟨c0,c1,c2,c3,f0,f1,f2,f3⟩:=in4 p3w)
      | (go_simp;go_at_call 163;refine(hEE _ (hCr.below ((Below.refl _ _).drew))).mono ?_;intro e w2 hA;rcases r0 with l1|⟨n1,l1⟩;(obtain⟨j2,hj2,hle,rfl,hk2⟩:=hA;rcases hr1.out with⟨l,e1,e2⟩|⟨n,l,e1,_⟩;(cases e1;subst e2;exact⟨rfl,a0d hj2 hle ((hk.drew).trans hk2)⟩);cases e1);obtain⟨j2,b1,cap1,hj2,rfl,hN1,hR2,hk2'⟩:=hA;have hk2:=((a0b.refl (fun k=>k=B) wr).drew).trans hk2';clear hk2';have pw3:=hk2.box p3 (by omega);have p3:=block_alloc (nbx n1 b1 cap1) pw3;have p4:=block_alloc (nbx n1 b1 cap1) (hk2.box p4 (by omega));obtain⟨c0,c1,c2,c3,f0,f1,f2,f3⟩:=in4 pw3;obtain⟨d0,d1,d2,d3,e0,e1,e2,e3⟩:=in4a pw3;obtain⟨xs,ho,hs,hn⟩:=((hRow.keep hk2 (fun g hg _=>by rcases hg.1 with h|h;exact hS g h;omega)).below (ext_alloc (Below.refl _ _) (nbx n1 b1 cap1))).own;have hne3:some w.heap.size≠Value.ownBlock (.slice b' ks.length cap'):=fun e=>(hs _ e.symm).2.1 rfl))
     all_goals
      rcases hr1.out with⟨l,e1,_⟩|⟨n,l,e1,hr2⟩
      ·cases e1
      cases e1
      clear hr1 c0 c1 c2 c3 f0 f1 f2 f3 d0 d1 d2 d3 e0 e1 e2 e3 hEE p3w pw3
      have hb2a:=ext_alloc (Below.refl w2.heap.size w2) (nbx n1 b1 cap1)
      obtain⟨_,_,_,hlt9⟩:=hRow.form
      have hy:NdV (fun q=>((D q\/w.heap.size<=q)/\q≠w.heap.size/\q≠w.heap.size+1)/\some q≠Value.ownBlock (.slice b' ks.length cap')) (w2.alloc (nbx n1 b1 cap1)) n1 (ndv n1 b1 cap1):=(hN1.weak (fun q hq _=>by simp at hq;exact⟨⟨.inr (by omega),by omega,by omega⟩,fun e=>by have:=(hlt9 q e.symm).2;omega⟩)).below hb2a
      obtain⟨W4,hW4⟩:∃W4,w3.setCell (Ad w.heap.size 3) (.slice (some (Ad g3 0)) (ks.length+1) cap3)=W4:=⟨_,rfl⟩
      have hz2:wr.heap.size<=w2.heap.size:=hk2.size
      obtain⟨hRow5,q3,hk5,hown5⟩:=a4p ho hs hn hy (fun q hq=>hq.2.1) (fun q hq=>by simp at hq;exact⟨.inr (by omega),by omega,by omega⟩) hown (by simp;omega) p3 hown3 hgrow hat hW4
      have q4:=hk5.box p4 (fun e=>by rcases e with e|e;omega;exact(hs _ e.symm).2.2 rfl)
      have hR5:=(hR2.below hb2a).keep hk5 (fun q hq e=>by rcases e with e|e;omega;have:=hown q e.symm;omega)
      have hkw5:=((hk.trans hk2).trans (a0b.of_below hb2a)).then hk5 (fun q hq e=>by rcases e with e|e;omega;have:=hown q e.symm;omega)
      have hjn:=d1i hr0' hj2
      rw[<- hj2]at hr2
      have hC5:=hC.on hR5
      clear hown3 hgrow hat hlt3 ho hs hn hy hk5 p3 p4 hRow hR2 hN1 hk2 hb2a hown
      refine Lib.hid ?_
      by_cases hcm:tx (rest ts j2)=S.cm
      ·rw[if_pos hcm,a0x]at hr2
       replace hr2:Hid _:=hr2
       have hT5:=hC5.takes_yes b9e hcm W4 (Below.refl _ _)
       go_wp2_with (go_at_call 102;refine hT5.mono ?_;rintro e w6 ⟨rfl,hR6,hk6⟩)
       go_roundg g
       case measure=>omega
       case rel=>exact⟨true,ks++[n1],j2+1,_,_,rfl,hk6.box q3 (by omega),hk6.box q4 (by omega),hRow5.keep hk6 (fun g hg _=>by rcases hg.1 with h|h;exact hS g h;omega),hown5,hR6,hkw5.trans hk6,by simp;omega,by rw[if_pos rfl];exact⟨by omega,hr2.out⟩⟩
      ·rw[if_neg hcm]at hr2
       replace hr2:Hid _:=hr2
       have hT5:=hC5.takes_no b9e hcm W4 (Below.refl _ _)
       go_wp2_with (go_at_call 102;refine hT5.mono ?_;rintro e w6 ⟨rfl,hb6⟩)
       go_roundg g
       case measure=>omega
       case rel=>exact⟨false,ks++[n1],j2,_,_,rfl,block_below hb6 q3,block_below hb6 q4,hRow5.below hb6,hown5,hR5.below hb6,hkw5.trans (a0b.of_below hb6),by simp;omega,by rw[if_neg (by decide)];exact hr2.out⟩
 ·have hWt:=fun u hb=>hC.wants_no b3t hlp u hb
  clear hP
  go_enter Tryz.func165,Tryz.ntmps165
  go_wp2_with (first|(go_at_call 102;refine hT.mono ?_;rintro e w1 ⟨rfl,hb1⟩)|(go_at_call 99;refine(hWt _ (ext_trans hb0 hb1)).mono ?_;rintro e w2 ⟨rfl,hb2⟩))
  exact⟨rfl,a0d rfl hC.R.le (a0b.of_below (ext_trans (ext_trans hb0 hb1) hb2))⟩
abbrev iv (n:Int):Value:=vi n
theorem d9g:(Tryz.prog.info? 3).map (fun i=>(i.zero,i.size,i.bytes))=some (some (vi 0),1,8):=by kernel_rfl
theorem b1f{W:World}{s:Nat}(h:W.ownsRow base T s v n xs)(hb:Bw W W'):W'.ownsRow base T s v n xs:=by
 obtain⟨h1,h2⟩:=h
 refine⟨h1,?_⟩
 rcases h2 with h2|⟨g,cap',y,e,z,u,h3⟩
 ·exact .inl h2
 ·exact .inr ⟨g,cap',y,e,z,block_below hb u,h3⟩
theorem a1z{W:World}{s:Nat}(h:W.ownsRow base T s v n xs)(hk:∀q,Value.ownBlock v=some q->q<W.heap.size->W'.heap[q]?=W.heap[q]?):W'.ownsRow base T s v n xs:=by
 obtain⟨h1,h2⟩:=h
 refine⟨h1,?_⟩
 rcases h2 with h2|⟨g,cap',y,e,z,u,h3⟩
 ·exact .inl h2
 ·exact .inr ⟨g,cap',y,e,z,(hk g (by rw[e];rfl) (block_lt u)).trans u,h3⟩
theorem a8n{W:World}{s:Nat}{q:Nat}(h:W.ownsRow base T s v n xs)(hq:Value.ownBlock v=some q):q<W.heap.size:=by
 rcases h.2 with⟨e,_⟩|⟨g,cap',u,e,z,y,h3⟩
 ·rw[e]at hq;simp[Value.ownBlock]at hq
 ·rw[e]at hq
  simp[Value.ownBlock]at hq
  subst hq
  exact block_lt y
theorem d6a(f:Nat)(hE:∀g,g<=f->a6g g):SufC (f+1):=by
 intro x b cap D r B ts i w u y v z
 rw[P]at z
 split at z
 ·rename_i h
  exact c2e f (hE f (Nat.le_refl _)) x b cap D r B ts i w u y v h z
 ·rename_i h
  exact c6j f hE x b cap D r B ts i w u y v h z
def SimC (f:Nat):Prop:=∀(r:PRes) (B:Nat) (ts:List Tok) (i:Nat) (w:World),Ctx w B ts i->P f 3 nil0 0 (rest ts i)=some r->Cl 177 #[Po B 0] w (PAns no w B ts r)
theorem d6b{W:World}(h:tm[2]?.getD undef=Po B 0)(hx:W.heap[B]?=some (.cells #[a,b,c,d] 43)):(results Tryz.f176 tm).run Tryz.prog W=.ok (.agg #[a,b,c,d]) W:=by
 obtain⟨c0,c1,c2,c3,_,_,_,_⟩:=in4 hx
 simp[results,Tryz.results176,go_sem,h,c0,c1,c2,c3]
def SufI (f t:Nat) (w:World) (B:Nat) (ts:List Tok) (r:PRes) (k:Nat) (wr:World):Prop :=
 ∃(n:Nd) (j:Nat) (b:Option Addr) (cap:Nat),wr.heap[t]?=some (nbx n b cap)/\wr.heap[w.heap.size]?=some zbx/\NdV (fun g=>w.heap.size<=g/\g≠w.heap.size/\g≠t) wr n (ndv n b cap)/\Rd wr B ts j/\a0b (fun k=>k=B) w wr/\k<=f/\P k 4 n 0 (rest ts j)=some r
theorem d1j(f:Nat)(hM:SimC f)(hF:∀g,g<f->SufC g)(r:PRes)(B:Nat)(ts:List Tok)(i:Nat)(w:World)(hC:Ctx w B ts i)(hP:(P f 3 nil0 0 (rest ts i)).on (fun n l=>P f 4 n 0 l)=some r):Cl 176 #[Po B 0] w (PAns no w B ts r):=by
 obtain⟨r0,hr0,hr1⟩:=a3o hP
 have hEE:=hM r0 B ts i _ (hC.below (ext_alloc (Below.refl _ _) zbx)) hr0
 have h2:=a0a w zbx
 have hBw:=hC.R.lt
 have hk0:a0b (fun k=>k=B) w (w.alloc zbx):=a0b.of_below (ext_alloc (Below.refl _ _) _)
 replace hr1:Hid _:=hr1
 clear hP hr0 hM
 go_enter Tryz.func176,Tryz.ntmps176
 go_wp2_with (go_at_call 177;refine hEE.mono ?_;intro e w1 hA;rcases r0 with l1|⟨n1,l1⟩;(obtain⟨j,hj,hle,rfl,hk1⟩:=hA;rcases hr1.out with⟨l,e1,e2⟩|⟨n,l,e1,_⟩;(cases e1;subst e2;exact⟨rfl,a0d hj hle (hk0.trans hk1)⟩);cases e1);obtain⟨j,b1,cap1,hj,rfl,hN1,hR1,hk1⟩:=hA)
 rcases hr1.out with⟨l,e1,_⟩|⟨n,l,e1,hr2⟩
 ·cases e1
 cases e1
 have g2:=hk1.box h2 (by omega)
 have hz:=block_lt g2
 have hb1:Bw w1 (w1.alloc (nbx n1 b1 cap1)):=ext_alloc (Below.refl _ _) _
 have hI:SufI f w1.heap.size w B ts r f (w1.alloc (nbx n1 b1 cap1)):=⟨n1,j,b1,cap1,a0a _ _,block_below hb1 g2,(hN1.weak (fun g hg hlt=>by simp at hg;exact⟨by omega,by omega,by omega⟩)).below hb1,hR1.below hb1,(hk0.trans hk1).trans (a0b.of_below hb1),Nat.le_refl _,by rw[hj];exact hr2⟩
 obtain⟨t,ht⟩:∃t,w1.heap.size=t:=⟨_,rfl⟩
 obtain⟨W1,hW1⟩:∃W1,w1.alloc (nbx n1 b1 cap1)=W1:=⟨_,rfl⟩
 rw[hW1]at hI
 dsimp only[nbx]at hW1
 rw[hW1]
 rw[ht]at hI hz⊢
 clear hW1 ht hr1 hr2 hN1 hR1 hk1 g2 h2 hk0 hb1 hEE
 go_loopg [8] f (fun k _ wr=>SufI f t w B ts r k wr)
 case atStart=>exact hI
 case round =>
  clear hI
  obtain⟨n,j,b,cap,g3,g2,hN,hR,hk,hgf,hr⟩:=hrel
  have hCr:=hC.on hR
  cases gk with
  | zero=>cases hr
  | succ g =>
   rw[P]at hr
   have hSee:=hCr.sees2 c6i b3t wr (Below.refl _ _)
   by_cases hy:tx (rest ts j)=S.lb\/tx (rest ts j)=S.lp
   ·rw[decide_eq_true hy]at hSee
    rw[if_pos hy]at hr
    obtain⟨r1,hr1,hr2⟩:=a3o hr
    have hFF:=fun u (hb:Bw wr u)=>hF g (by omega) n b cap _ r1 B ts j u (hCr.below hb) (hN.below hb) (fun g hg=>by omega) hr1
    replace hr2:Hid _:=hr2
    clear hr hr1 hF
    go_wp2_with (first|(go_at_call 101;refine hSee.mono ?_;rintro e w4 ⟨rfl,hb4⟩;have q3:=block_below hb4 g3;obtain⟨c0,c1,c2,c3,f0,f1,f2,f3⟩:=in4 q3)|(go_at_call 165;refine(hFF _ hb4).mono ?_;intro e w5 hA;rcases r1 with l1|⟨n2,l2⟩;(obtain⟨j2,hj2,hle,rfl,hk5⟩:=hA;rcases hr2.out with⟨l,e1,e2⟩|⟨n,l,e1,_⟩;(cases e1;subst e2;exact⟨rfl,a0d hj2 hle ((hk.trans (a0b.of_below hb4)).trans hk5)⟩);cases e1);obtain⟨j2,b2,cap2,hj2,rfl,hN5,hR5,hk5⟩:=hA;have q3:=hk5.box q3 (by omega);obtain⟨c0,c1,c2,c3,f0,f1,f2,f3⟩:=in4 q3))
    rcases hr2.out with⟨l,e1,_⟩|⟨n',l,e1,hr3⟩
    ·cases e1
    cases e1
    have hz5:=hb4.size
    have hzt:=block_lt g3
    go_roundg g
    case measure=>omega
    case rel=>exact⟨n2,j2,b2,cap2,a0f _ _ _ _ q3,(a2w _ _ _ _ (by omega)).trans (hk5.box (block_below hb4 g2) (by omega)),(hN5.weak (fun g hg hlt=>by rcases hg with hg|hg;exact hg;exact⟨by omega,by omega,by omega⟩)).put4 _ _ _ _ _ (fun g hg=>hg.2.2),hR5.put4 _ _ _ _ _ (by omega),a1j ((hk.trans (a0b.of_below hb4)).trans hk5) _ _ _ _ _ (by omega),by omega,by rw[hj2];exact hr3⟩
   ·rw[decide_eq_false hy]at hSee
    rw[if_neg hy]at hr
    replace hr:Hid _:=hr
    go_wp2_with (go_at_call 101;refine hSee.mono ?_;rintro e w4 ⟨rfl,hb4⟩;have q3:=block_below hb4 g3;have q2:=block_below hb4 g2;obtain⟨c0,c1,c2,c3,f0,f1,f2,f3⟩:=in4 q3;obtain⟨d0,d1,d2,d3,e0,e1,e2,e3⟩:=in4 q2)
    refine bodyPost_ret (d6b rfl (a0f _ _ _ _ q2)) rfl ?_
    obtain rfl:=Option.some.inj hr.out
    exact a0j rfl ((hN.below hb4).weak (fun g hg _=>⟨.inr hg.1,hg.2.1⟩)) (hR.below hb4) (hk.trans (a0b.of_below hb4)) (Nat.le_refl _) hBw
def LkM (m:Nat) (o:Obj) (u:World):Prop:=u.heap[m]?=some o
theorem LkM.alloc(u:World)(o':Obj)(h:LkM m o u):LkM m o (u.alloc o'):=block_alloc o' h
theorem LkM.drew(u:World)(h:LkM m o u):LkM m o u.drew:=h
theorem LkM.below{w':World}(h:LkM m o u)(hb:Bw u w'):LkM m o w':=block_below hb h
theorem a5y{kv:List (List UInt8×Value)}(hd:(kv.map (·.1)).Nodup)(h:LkM m (a0e sk kv) u)(s:List UInt8):(Instr.lookup 82 (.map (some m)) (sk s) true).run Tryz.prog u=.ok (.tuple #[(kv.lookup s).getD (ik 0),.bool (kv.lookup s).isSome]) u:=by
 have:=a4u (P:=Tryz.prog) (w:=u) (T:=82) (K:=9) (E:=3) (kf:=sk) (kv:=kv) (B:=m) Tryz.underlying82 Tryz.underlying9 a1b h hd (z:=ik 0) (by kernel_rfl) s true
 rw[if_pos rfl]at this
 exact this
def SgnC (f:Nat):Prop:=∀(r:PRes) (B:Nat) (ts:List Tok) (i:Nat) (w:World),Ctx w B ts i->P f 1 nil0 0 (rest ts i)=some r->Cl 175 #[Po B 0] w (PAns no w B ts r)
theorem c9o{W:World}(h:tm[2]?.getD undef=Po B 0)(hx:W.heap[B]?=some (.cells #[a,b,c,d] 43)):(results Tryz.f175 tm).run Tryz.prog W=.ok (.agg #[a,b,c,d]) W:=by
 obtain⟨c0,c1,c2,c3,_,_,_,_⟩:=in4 hx
 simp[results,Tryz.results175,go_sem,h,c0,c1,c2,c3]
theorem d6c:a0y S.mi:=⟨_,_,rfl,rfl⟩
theorem d6d:a0y S.hs:=⟨_,_,rfl,rfl⟩
theorem c9p:a0y W.not_:=⟨_,_,rfl,rfl⟩
theorem b3u{b:Option Addr}{W:World}(k:Int)(hj:rest ts j=l)(hN:NdV (fun g=>w.heap.size<=g/\g≠t) W x (ndv x b cap))(hR:Rd W B ts j)(hk:a0b (fun k=>k=B) w W)(ht:w.heap.size<=t)(hB:B<w.heap.size)(g:W.heap[t]?=some (.cells #[a0,a1,a2,a3] 43)) :
  PAns no w B ts (.inr (nd k [x],l)) (.returned (ndv (nd k [x]) (some (Ad W.heap.size 0)) 1)) (put4 (W.alloc (nbx x b cap)) t (vi k) (sk []) (vi 0) (.slice (some (Ad W.heap.size 0)) 1 1)):=by
 have v:=block_lt g
 have y:=hk.size
 obtain⟨h1,h2,h3⟩:=c2d (D:=fun g=>w.heap.size<=g/\g≠t) k 0 hN (fun g z=>z.2) ⟨y,by omega⟩ g rfl
 refine⟨j,_,1,hj,rfl,(h1.node k [] 0).weak (fun g z _=>.inr z.1),hR.keep h3 (fun g z=>by omega),hk.then h3 (fun q hq e=>by omega)⟩
theorem b2c(f:Nat)(s:List UInt8)(hs:a0y s)(k:Int)(hkv:a1i.lookup s=some (ik k))(hG:SgnC f)(r:PRes)(B:Nat)(ts:List Tok)(i:Nat)(w:World)(hC:Ctx w B ts i)(htx:tx (rest ts i)=s)(hP:(P f 1 nil0 0 (rest ts i).tail).on (fun x l=>.ok (nd k [x]) l)=some r):Cl 175 #[Po B 0] w (PAns no w B ts r):=by
 rw[a0x]at hP
 obtain⟨r0,z7,y⟩:=a3o hP
 have y9:=fun u h=>hG r0 B ts (i+1) u h z7
 have h2:=a0a w zbx
 have y8:=hC.R.lt
 have z3:=d1h htx (b2a hs)
 have y6:=hC.R.short
 have p:Bw w (w.alloc zbx):=ext_alloc (Below.refl _ _) _
 obtain⟨m1,m2,m3,m4,m5,b,cap,h1,_,hW,_⟩:=(hC.R.below p).box
 obtain⟨c0,c1,c2,c3,c4,c5,c6,f6⟩:=rdC h1
 have d:=fun u (hb:Bw w u)=>a4c B ts i u (hC.R.below hb)
 rw[(hC.is hs).2 htx]at d
 have q0:LkM m4 (a0e sk a1i) (w.alloc zbx):=hW.h4
 have hL:=fun u h=>a5y (u:=u) (m:=m4) (kv:=a1i) (by decide) h s
 rw[hkv]at hL
 simp only[Option.getD_some,Option.isSome_some]at hL
 replace y:Hid _:=y
 replace h1:Hid _:=h1
 clear hP z7 hG hkv hW
 go_enter Tryz.func175,Tryz.ntmps175
 go_wp2
 have q1:=LkM.drew (m:=m4) (o:=a0e sk a1i)
 go_region_with ((go_at_call 128;refine(d _ (p.drew)).mono ?_;rintro e w1 ⟨rfl,z⟩;have z9:=(hC.R.below (p.drew)).below z;have q3:=LkM.below (LkM.drew _ q0) z;have c3:=a2e (W:=(w.alloc zbx).drew) z c3))
 all_goals
  obtain⟨n1,n2,n3,n4,n5,b',cap',z5,_⟩:=z9.box
  obtain⟨d0,d1,d2,d3,d4,d5,d6,e6⟩:=rdC z5
  have g2:=block_below z (W:=(w.alloc zbx).drew) h2
  have q:a0b (fun k=>k=B) w (w1.setCell (Ad B 6) (vi ((i:Nat)+1))):=(a0b.of_below (ext_trans (p.drew) z)).set B 6 _ (fun _=>rfl)
  have a:=z9.go (j:=i+1) z3
  have z8:(w1.setCell (Ad B 6) (vi ((i:Nat)+1))).heap[w.heap.size]?=some zbx:=(set1_other _ _ (by omega)).trans g2
  obtain⟨W2,z6⟩:∃W2,w1.setCell (Ad B 6) (vi ((i:Nat)+1))=W2:=⟨_,rfl⟩
  rw[z6]at q z8
  have a:Rd W2 B ts (i+1):=z6▸a
  clear hL q0 q1 q3 c0 c1 c2 c3 c4 c5 c6 f6 z9 z5 g2 d
  go_wp2_with (go_at_call 175;refine(y9 _ (hC.on a)).mono ?_;intro e w3 hA;rcases r0 with l1|⟨n1,l1⟩;(obtain⟨j,hj,z2,rfl,v⟩:=hA;rcases y.out with⟨l,e1,e2⟩|⟨n,l,e1,_⟩;(cases e1;subst e2;exact⟨rfl,a0d hj z2 (q.trans v)⟩);cases e1);obtain⟨j,b1,y7,hj,rfl,z0,z1,v⟩:=hA;have g3:=v.box z8 (by omega);obtain⟨u0,u1,u2,u3,v0,v1,v2,v3⟩:=in4a g3)
  rcases y.out with⟨l,e1,_⟩|⟨n,l,e1,z4⟩
  ·cases e1
  cases e1
  obtain rfl:=Option.some.inj z4
  refine bodyPost_ret (c9o rfl (a0f _ _ _ _ (block_alloc _ g3))) rfl ?_
  exact b3u k hj (z0.weak (fun g hg _=>by have:=q.size;have:=block_lt z8;rcases hg with hg|hg;exact hg.elim;exact⟨by omega,by omega⟩)) z1 (q.trans v) (Nat.le_refl _) y8 g3
theorem c6k(r:PRes)(B:Nat)(ts:List Tok)(i:Nat)(w:World)(hC:Ctx w B ts i)(hn:a1i.lookup (wd ts i)=none)(hX:∀u,Ctx u B ts i->Cl 176 #[Po B 0] u (PAns no u B ts r)):Cl 175 #[Po B 0] w (PAns no w B ts r):=by
 have h2:=a0a w zbx
 have z6:=hC.R.lt
 have v:Bw w (w.alloc zbx):=ext_alloc (Below.refl _ _) _
 obtain⟨m1,m2,m3,m4,m5,b,cap,h1,_,hW,_⟩:=(hC.R.below v).box
 obtain⟨c0,c1,c2,c3,c4,c5,c6,f6⟩:=rdC h1
 have p:=fun u (hb:Bw w u)=>a4c B ts i u (hC.R.below hb)
 have q0:LkM m4 (a0e sk a1i) (w.alloc zbx):=hW.h4
 have f:=fun u h=>a5y (u:=u) (m:=m4) (kv:=a1i) (by decide) h (wd ts i)
 rw[hn]at f
 simp only[Option.getD_none,Option.isSome_none]at f
 obtain⟨s,hs⟩:∃s,wd ts i=s:=⟨_,rfl⟩
 rw[hs]at f p
 clear hW h1 hn hs
 go_enter Tryz.func175,Tryz.ntmps175
 go_wp2
 go_region_with ((go_at_call 128;refine(p _ (v.drew)).mono ?_;rintro e w1 ⟨rfl,z⟩;have z7:=hC.below (ext_trans (v.drew) z);have q3:=LkM.below (LkM.drew _ q0) z;have c3:=a2e (W:=(w.alloc zbx).drew) z c3))
 all_goals
  have o:=hX _ z7
  have g2:=block_below z (W:=(w.alloc zbx).drew) h2
  have q:a0b (fun k=>k=B) w w1:=a0b.of_below (ext_trans (v.drew) z)
  clear f q0 q3 c0 c1 c2 c3 c4 c5 c6 f6 p hX
  rcases r with l1|⟨n1,l1⟩
  ·go_wp2_with (go_at_call 176;refine o.mono ?_;rintro e w3 ⟨j,a,d,rfl,y⟩)
   exact⟨rfl,a0d a d (q.trans y)⟩
  ·go_wp2_with (go_at_call 176;refine o.mono ?_;rintro e w3 ⟨j,b1,z5,a,rfl,z8,z9,y⟩;have g3:=y.box g2 (by omega);obtain⟨u0,u1,u2,u3,v0,v1,v2,v3⟩:=in4 g3)
   refine bodyPost_ret (c9o rfl (a0f _ _ _ _ g3)) rfl ?_
   exact a0j a (z8.weak (fun g n _=>by have:=q.size;have:=block_lt g2;rcases n with n|n;exact n.elim;exact⟨.inr (by omega),by omega⟩)) z9 (q.trans y) (Nat.le_refl _) z6
theorem d6e(f:Nat)(hM:SimC f)(hF:∀g,g<f->SufC g)(hG:SgnC f):SgnC (f+1):=by
 intro r B ts i w y z
 rw[P]at z
 split at z
 ·rename_i h;exact b2c f _ d6c 24 rfl hG r B ts i w y h z
 split at z
 ·rename_i h;exact b2c f _ c9p 23 rfl hG r B ts i w y h z
 split at z
 ·rename_i h;exact b2c f _ d6d 25 rfl hG r B ts i w y h z
 rename_i a1 a2 a3
 refine c6k r B ts i w y (look_none ?_) (fun u h=>d1j f hM hF r B ts i u h z)
 intro p hp
 simp only[a1i,List.mem_cons,List.not_mem_nil,or_false]at hp
 rcases hp with rfl|rfl|rfl
 ·exact fun e=>a1 ((y.is d6c).1 e.symm)
 ·exact fun e=>a2 ((y.is c9p).1 e.symm)
 ·exact fun e=>a3 ((y.is d6d).1 e.symm)
theorem d1k(h:LkM m (a0e sk a0c) u)(s:List UInt8):(Instr.lookup 100 (.map (some m)) (sk s) false).run Tryz.prog u=.ok ((a0c.lookup s).getD (.agg #[vi 0,vi 0])) u:=by
 have:=a4u (P:=Tryz.prog) (w:=u) (T:=100) (K:=9) (E:=129) (kf:=sk) (kv:=a0c) (B:=m) Tryz.underlying100 Tryz.underlying9 a1b h (by decide) (z:=.agg #[vi 0,vi 0]) (by kernel_rfl) s false
 rw[if_neg (by decide)]at this
 exact this
theorem d1l(s:List UInt8):a0c.lookup s=(opAt s).map fun p=>.agg #[vi p.1,vi ((p.2+1:Nat):Int)]:=by
 unfold a0c opAt
 have e:∀l:List (List UInt8×Int×Nat),(l.map fun p=>(p.1,Value.agg #[vi p.2.1,vi ((p.2.2+1:Nat):Int)])).lookup s=((l.find? (fun p=>p.1 == s)).map (fun p=>p.2)).map fun p=>.agg #[vi p.1,vi ((p.2+1:Nat):Int)]:=fun l=>by
  induction l with
  | nil=>rfl
  | cons a l ih =>
   simp only[List.map_cons,List.lookup_cons,List.find?_cons]
   by_cases hs:a.1=s
   ·subst hs;simp
   ·have h1:(s == a.1)=false:=by simpa using fun e=>hs e.symm
    have h2:(a.1 == s)=false:=by simpa using hs
    rw[h1,h2]
    exact ih
 exact e opsL
theorem d1m(hC:Ctx w B ts i):opAt (wd ts i)=opAt (tx (rest ts i)):=by
 have z:∀p∈opsL,a0y p.1:=by
  intro p hp
  simp only[opsL,List.mem_cons,List.not_mem_nil,or_false]at hp
  rcases hp with rfl|rfl|rfl|rfl|rfl|rfl|rfl|rfl|rfl|rfl|rfl <;> exact⟨_,_,rfl,rfl⟩
 have e:∀l:List (List UInt8×Int×Nat),(∀p∈l,a0y p.1)->l.find? (fun p=>p.1 == wd ts i)=l.find? (fun p=>p.1 == tx (rest ts i)):=fun l=>by
  induction l with
  | nil=>intro _;rfl
  | cons a l ih =>
   intro h
   have h1:(a.1 == wd ts i)=(a.1 == tx (rest ts i)):=by
    have:=hC.is (h a (by simp))
    by_cases hs:wd ts i=a.1
    ·rw[hs,this.1 hs]
    ·have h2:¬tx (rest ts i)=a.1:=fun e=>hs (this.2 e)
     rw[beq_false_of_ne (fun e=>hs e.symm),beq_false_of_ne (fun e=>h2 e.symm)]
   simp only[List.find?_cons,h1]
   rw[ih (fun p hp=>h p (by simp[hp]))]
 unfold opAt
 rw[e opsL z]
theorem c2f{W:World}(h:tm[4]?.getD undef=Po B 0)(hx:W.heap[B]?=some (.cells #[a,b,c,d] 43)):(results Tryz.f171 tm).run Tryz.prog W=.ok (.agg #[a,b,c,d]) W:=by
 obtain⟨c0,c1,c2,c3,_,_,_,_⟩:=in4 hx
 simp[results,Tryz.results171,go_sem,h,c0,c1,c2,c3]
theorem c6l(f:Nat)(hG:SgnC f)(r:PRes)(B:Nat)(ts:List Tok)(i:Nat)(w:World)(hC:Ctx w B ts i)(hP:P f 1 nil0 0 (rest ts i)=some r):Cl 171 #[Po B 0,vi 7] w (PAns no w B ts r):=by
 have u:=hG r B ts i (w.alloc zbx) (hC.below (ext_alloc (Below.refl _ _) _)) hP
 have h0:=a0a w zbx
 have v:=hC.R.lt
 clear hG hP
 cases r with
 | inl l =>
  go_enter Tryz.func171,Tryz.ntmps171
  go_wp2_with (go_at_call 175;refine u.mono ?_;rintro e w1 ⟨j,y,z,rfl,hk⟩)
  exact⟨rfl,a0d y z ((a0b.of_below (ext_alloc (Below.refl _ _) _)).trans hk)⟩
 | inr p =>
  obtain⟨n,l⟩:=p
  go_enter Tryz.func171,Tryz.ntmps171
  go_wp2_with (go_at_call 175;refine u.mono ?_;rintro e w1 ⟨j,b,cap,y,rfl,o,q,hk⟩;have h1:=hk.box h0 (by omega);obtain⟨c0,c1,c2,c3,f0,f1,f2,f3⟩:=in4 h1)
  refine bodyPost_ret (c2f rfl (a0f _ _ _ _ h1)) rfl ?_
  exact a0j y (o.weak (fun g s _=>by simp at s;exact⟨.inr (by omega),by omega⟩)) q ((a0b.of_below (ext_alloc (Below.refl _ _) _)).trans hk) (Nat.le_refl _) v
end Go.Proofs.YtfbpdbndejefdaaGreatDoor
