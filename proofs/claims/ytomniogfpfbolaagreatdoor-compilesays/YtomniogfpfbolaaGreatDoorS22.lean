import Derived.Test.YtomniogfpfbolaaGreatDoorS16
import Derived.Test.YtomniogfpfbolaaGreatDoorS19
namespace Go.Proofs.YtomniogfpfbolaaGreatDoor
open Go.RowKit Go
set_option maxRecDepth 100000
set_option maxHeartbeats 8000000
set_option linter.all false
variable {W w w2 W' w0:World} {B i j t cap cap1 g f T base uc:Nat} {a b c d v a0 a1 a2 a3:Value} {x u y:Nd} {ts:List Tok} {s:List UInt8} {D:Nat->Prop} {b1 ub:Option Addr} {xs:List Value} {l l1:List PT} {tm:Array Value} {sl:List Int} {ls:List Ld} {st:Bool}
abbrev PRes:Type:=List PT⊕(Nd×List PT)
abbrev ndv (n:Nd) (b:Option Addr) (cap:Nat):Value:=.agg #[vi n.k,sk n.t,vi n.n,.slice b n.kids.length cap]
abbrev nbx (n:Nd) (b:Option Addr) (cap:Nat):Obj:=.cells #[vi n.k,sk n.t,vi n.n,.slice b n.kids.length cap] 34
abbrev zbx:Obj:=.cells #[vi 0,.string ⟨#[]⟩,vi 0,.slice none 0 0] 34
structure In4 (W:World) (B:Nat) (a b c d:Value):Prop where
 c0:W.cell? (Ad B 0)=some a
 c1:W.cell? (Ad B 1)=some b
 c2:W.cell? (Ad B 2)=some c
 c3:W.cell? (Ad B 3)=some d
 f0:W.frozen? (Ad B 0)=false
 f1:W.frozen? (Ad B 1)=false
 f2:W.frozen? (Ad B 2)=false
 f3:W.frozen? (Ad B 3)=false
theorem in4(h:W.heap[B]?=some (.cells #[a,b,c,d] 34)):In4 W B a b c d:=⟨q2z h rfl,q2z h rfl,q2z h rfl,q2z h rfl,q6z h,q6z h,q6z h,q6z h⟩
structure In4A (W:World) (B:Nat) (a b c d:Value):Prop where
 c0:∀o,(W.alloc o).cell? (Ad B 0)=some a
 c1:∀o,(W.alloc o).cell? (Ad B 1)=some b
 c2:∀o,(W.alloc o).cell? (Ad B 2)=some c
 c3:∀o,(W.alloc o).cell? (Ad B 3)=some d
 f0:∀o,(W.alloc o).frozen? (Ad B 0)=false
 f1:∀o,(W.alloc o).frozen? (Ad B 1)=false
 f2:∀o,(W.alloc o).frozen? (Ad B 2)=false
 f3:∀o,(W.alloc o).frozen? (Ad B 3)=false
theorem in4a(h:W.heap[B]?=some (.cells #[a,b,c,d] 34)):In4A W B a b c d :=
 ⟨fun o=>(in4 (q4z o h)).c0,fun o=>(in4 (q4z o h)).c1,fun o=>(in4 (q4z o h)).c2,fun o=>(in4 (q4z o h)).c3,fun o=>(in4 (q4z o h)).f0,fun o=>(in4 (q4z o h)).f1,fun o=>(in4 (q4z o h)).f2,fun o=>(in4 (q4z o h)).f3⟩
abbrev put4 (W:World) (B:Nat) (a b c d:Value):World:=(((W.setCell (Ad B 0) a).setCell (Ad B 1) b).setCell (Ad B 2) c).setCell (Ad B 3) d
theorem a0c(a' b' c' d':Value)(h:W.heap[B]?=some (.cells #[a,b,c,d] 34)):(put4 W B a' b' c' d').heap[B]?=some (.cells #[a',b',c',d'] 34):=q7z _ (q7z _ (q7z _ (q7z _ h)))
theorem a1f{S:Nat->Prop}(h:a0b S w W)(B:Nat)(a b c d:Value)(hB:w.heap.size<=B):a0b S w (put4 W B a b c d) :=
 (((h.set B 0 a (fun h=>by omega)).set B 1 b (fun h=>by omega)).set B 2 c (fun h=>by omega)).set B 3 d (fun h=>by omega)
theorem a2e{C:Nat}(a b c d:Value)(h:C≠B):(put4 W B a b c d).heap[C]?=W.heap[C]?:=(q8z _ _ h).trans ((q8z _ _ h).trans ((q8z _ _ h).trans (q8z _ _ h)))
theorem a1o(W:World)(B:Nat)(a b c d:Value):a0b (fun k=>k=B) W (put4 W B a b c d) :=
 ((((a0b.refl (fun k=>k=B) W).set B 0 a (fun _=>rfl)).set B 1 b (fun _=>rfl)).set B 2 c (fun _=>rfl)).set B 3 d (fun _=>rfl)
theorem NdV.put4{S:Nat->Prop}(h:NdV S W x v)(B:Nat)(a b c d:Value)(hB:∀g,S g->g≠B):NdV S (put4 W B a b c d) x v:=h.keep (a1o W B a b c d) (fun g z _=>hB g z)
theorem Rd.put4(h:Rd W B ts i)(C:Nat)(a b c d:Value)(hC:B<C):Rd (put4 W C a b c d) B ts i:=h.keep (a1o W C a b c d) (fun g z=>by omega)
structure Ctx (w:World) (B:Nat) (ts:List Tok) (i:Nat):Prop where
 V:allV (ts.map pt)
 R:Rd w B ts i
theorem Ctx.below{u:World}(h:Ctx w B ts i)(hb:Bw w u):Ctx u B ts i:=⟨h.V,h.R.below hb⟩
theorem Ctx.on{u:World}(h:Ctx w B ts i)(hR:Rd u B ts j):Ctx u B ts j:=⟨h.V,hR⟩
theorem c2x(h:allV (ts.map pt))(i:Nat):allV (rest ts i):=fun p z=>h p (by
 unfold rest at z
 obtain⟨x,y,rfl⟩:=List.mem_map.1 z
 exact List.mem_map.2 ⟨x,List.mem_of_mem_drop y,rfl⟩)
theorem c2y(ts:List Tok)(i:Nat):wd ts i=wdl (rest ts i):=by
 unfold wd
 cases h:ts[i]? with
 | none=>rw[a3v (List.getElem?_eq_none_iff.1 h)];rfl
 | some x=>rw[a6e h];rfl
theorem Ctx.is(h:Ctx w B ts i)(hs:a1h s):wd ts i=s↔tx (rest ts i)=s:=by
 rw[c2y]
 exact d4x (c2x h.V i) hs
theorem a5a(h:tx (rest ts i)=s)(hs:s≠[]):i<ts.length:=by
 rcases Nat.lt_or_ge i ts.length with z|z
 ·exact z
 ·rw[a3v z]at h
  exact absurd h.symm hs
theorem a0g(ts:List Tok)(i:Nat):(rest ts i).tail=rest ts (i+1):=by
 unfold rest
 rw[<- List.map_tail,List.tail_drop]
theorem b2g(h:a1h s):s≠[]:=by
 obtain⟨c,r,rfl,_⟩:=h
 simp
abbrev no:Nat->Prop:=fun _=>False
def PAns (S:Nat->Prop) (w:World) (B:Nat) (ts:List Tok) (r:PRes) (e:Ending) (w':World):Prop :=
 match r with
 | .inl l=>∃i,rest ts i=l/\i<=ts.length/\e=.panicked (pan (gv ts i))/\a0b (fun k=>k=B) w w'
 | .inr (n,l)=>∃i b cap,rest ts i=l/\e=.returned (ndv n b cap)/\NdV (fun g=>S g\/w.heap.size<=g) w' n (ndv n b cap)/\Rd w' B ts i/\a0b (fun k=>k=B) w w'
theorem a9f{b:Option Addr}(k n:Int)(hx:NdV D w2 x (ndv x b cap))(hy:NdV D w2 y (ndv y b1 cap1))(hD:∀g,D g->g≠t)(hnew:D w2.heap.size)(g:w2.heap[t]?=some (.cells #[a0,a1,a2,a3] 34))(hW:put4 (w2.alloc (.cells #[vi x.k,sk x.t,vi x.n,.slice b x.kids.length cap,vi y.k,sk y.t,vi y.n,.slice b1 y.kids.length cap1] 34)) t (vi k) (sk []) (vi n) (.slice (some (Ad w2.heap.size 0)) 2 2)=W) :
  NdV D W ⟨k,[],n,[x,y]⟩ (ndv ⟨k,[],n,[x,y]⟩ (some (Ad w2.heap.size 0)) 2)/\W.heap[t]?=some (nbx ⟨k,[],n,[x,y]⟩ (some (Ad w2.heap.size 0)) 2)/\a0b (fun q=>q=t) w2 W:=by
 subst hW
 have v:=q1z (Below.refl w2.heap.size w2) (.cells #[vi x.k,sk x.t,vi x.n,.slice b x.kids.length cap,vi y.k,sk y.t,vi y.n,.slice b1 y.kids.length cap1] 34)
 refine⟨?_,a0c _ _ _ _ (q4z _ g),(a0b.of_below v).trans (a1o _ _ _ _ _ _)⟩
 refine NdV.put4 ?_ _ _ _ _ _ hD
 refine(Row.two hnew ?_ ?_ (a0a w2 _)).node k [] n
 ·exact(hx.weak (S':=fun q=>D q/\q≠w2.heap.size) (fun g w z=>⟨w,by omega⟩)).below v
 ·exact(hy.weak (S':=fun q=>D q/\q≠w2.heap.size) (fun g w z=>⟨w,by omega⟩)).below v
theorem b0e{b:Option Addr}(k n:Int)(hx:NdV D w2 x (ndv x b cap))(hD:∀g,D g->g≠t)(hnew:D w2.heap.size)(g:w2.heap[t]?=some (.cells #[a0,a1,a2,a3] 34))(hW:put4 (w2.alloc (nbx x b cap)) t (vi k) (sk []) (vi n) (.slice (some (Ad w2.heap.size 0)) 1 1)=W) :
  Row D W (.slice (some (Ad w2.heap.size 0)) 1 1) [x]/\W.heap[t]?=some (nbx ⟨k,[],n,[x]⟩ (some (Ad w2.heap.size 0)) 1)/\a0b (fun q=>q=t) w2 W:=by
 subst hW
 have y:=q1z (Below.refl w2.heap.size w2) (nbx x b cap)
 refine⟨?_,a0c _ _ _ _ (q4z _ g),(a0b.of_below y).trans (a1o _ _ _ _ _ _)⟩
 refine Row.keep ?_ (a1o _ _ _ _ _ _) (fun g z _=>hD g z)
 exact Row.one hnew ((hx.weak (S':=fun q=>D q/\q≠w2.heap.size) (fun g z w=>⟨z,by omega⟩)).below y) (a0a w2 _)
theorem a0b.box{S:Nat->Prop}{o:Obj}(hk:a0b S W W')(g:W.heap[t]?=some o)(hn:¬S t):W'.heap[t]?=some o:=(hk.block t (q5z g) hn).trans g
theorem a2c(y:Nd)(b:Option Addr)(cap:Nat)(h:W.heap[g]?=some (nbx y b cap)):∀j u,[vi y.k,sk y.t,vi y.n,.slice b y.kids.length cap][j]?=some u->W.cell? ((Ad g 0).add j)=some u:=World.news_of_block (cs:=#[vi y.k,sk y.t,vi y.n,.slice b y.kids.length cap]) h
theorem a2y{lo:Nat}{w3:World}{A0 A1 A2:Value}{ks:List Nd}{b:Option Addr}{cap3:Nat}(ho:W.ownsRow 0 34 4 (.slice b ks.length cap) ks.length xs)(hs:∀q,Value.ownBlock (.slice b ks.length cap)=some q->D q)(hn:∀j y,ks[j]?=some y->NdAt (fun g=>D g/\some g≠Value.ownBlock (.slice b ks.length cap)) W y (fun i=>if i<4 then xs[j*4+i]? else none))(hy:NdV (fun q=>D q/\some q≠Value.ownBlock (.slice b ks.length cap)) W y (ndv y b1 cap1))(hD:∀q,D q->q≠t)(hnew:∀q,W.heap.size<=q->D q)(hlo:∀q,Value.ownBlock (.slice b ks.length cap)=some q->lo<=q)(hlo2:lo<=W.heap.size)(hb:W.heap[t]?=some (.cells #[A0,A1,A2,.slice b ks.length cap] 34))(hown:w3.ownsRow 0 34 4 (.slice (some (Ad g 0)) (ks.length+1) cap3) (ks.length+1) (xs++[vi y.k,sk y.t,vi y.n,.slice b1 y.kids.length cap1]))(hgrow:W.grownBy w3 (Value.ownBlock (.slice b ks.length cap)))(hat:Value.ownBlock (.slice b ks.length cap)=some g\/g=W.heap.size){W4:World}(hW4:w3.setCell (Ad t 3) (.slice (some (Ad g 0)) (ks.length+1) cap3)=W4) :
  Row D W4 (.slice (some (Ad g 0)) (ks++[y]).length cap3) (ks++[y])/\W4.heap[t]?=some (.cells #[A0,A1,A2,.slice (some (Ad g 0)) (ks++[y]).length cap3] 34)/\a0b (fun q=>q=t\/some q=Value.ownBlock (.slice b ks.length cap)) W W4/\(∀q,Value.ownBlock (.slice (some (Ad g 0)) (ks++[y]).length cap3)=some q->lo<=q):=by
 subst hW4
 have x:¬some t=Value.ownBlock (.slice b ks.length cap):=fun e=>hD t (hs t e.symm) rfl
 have z:a0b (fun q=>q=t) w3 (w3.setCell (Ad t 3) (.slice (some (Ad g 0)) (ks.length+1) cap3)):=(a0b.refl _ _).set t 3 _ (fun _=>rfl)
 have w:(ks++[y]).length=ks.length+1:=by simp
 rw[w]
 refine⟨?_,q7z _ ((hgrow.block t (q5z hb) x).trans hb),?_,fun q e=>?_⟩
 ·exact(Row.snoc ho hs hn hy hown hgrow hat hnew).keep z (fun q hq _=>hD q hq)
 ·exact((a0b.grown hgrow).mono (fun q _ h=>.inr h)).then z (fun q _ h=>.inl h)
 ·have v:g=q:=by simpa[Value.ownBlock]using e
  subst v
  rcases hat with e|e
  ·exact hlo g e
  ·omega
theorem a0m{N:Nd}{b:Option Addr}(hj:rest ts j=l)(hN:NdV (fun g=>(D g\/w.heap.size<=g)/\g≠t) W N (ndv N b cap))(hR:Rd W B ts j)(hk:a0b (fun k=>k=B) w W)(ht:w.heap.size<=t)(hB:B<w.heap.size) :
  PAns D w B ts (.inr (N,l)) (.returned (ndv N b cap)) (put4 W t (vi N.k) (sk N.t) (vi N.n) (.slice b N.kids.length cap)) :=
 ⟨j,b,cap,hj,rfl,(hN.put4 _ _ _ _ _ (fun g z=>z.2)).weak (fun g z _=>z.1),hR.put4 _ _ _ _ _ (by omega),a1f hk _ _ _ _ _ ht⟩
theorem a0e(hj:rest ts j=l)(hle:j<=ts.length)(hk:a0b (fun k=>k=B) w W):PAns D w B ts (.inl l) (.panicked (pan (gv ts j))) W:=⟨j,hj,hle,rfl,hk⟩
theorem Ctx.takes_no(h:Ctx w B ts i)(hs:a1h s)(hc:¬tx (rest ts i)=s)(u:World)(hb:Bw w u):Cl 130 #[Po B 0,sk s] u fun e z=>e=.returned (.bool false)/\Bw u z :=
 YtomniogfpfbolaaGreatDoor.takes_no B ts i s (fun c=>hc ((h.is hs).1 c)) u (h.R.below hb)
theorem Ctx.takes_yes(h:Ctx w B ts i)(hs:a1h s)(hc:tx (rest ts i)=s)(u:World)(hb:Bw w u):Cl 130 #[Po B 0,sk s] u fun e z=>e=.returned (.bool true)/\Rd z B ts (i+1)/\a0b (fun k=>k=B) u z :=
 YtomniogfpfbolaaGreatDoor.takes_yes B ts i s ((h.is hs).2 hc) (a5a hc (b2g hs)) u (h.R.below hb)
theorem Ctx.wants_no(h:Ctx w B ts i)(hs:a1h s)(hc:¬tx (rest ts i)=s)(u:World)(hb:Bw w u):Cl 127 #[Po B 0,.slice (some (Ad u.heap.size 0)) 1 1] (u.alloc (.cells #[sk s] 9)) fun e y=>e=.panicked (pan (gv ts i))/\Bw u y:=by
 refine(YtomniogfpfbolaaGreatDoor.wants_no B ts i s (fun c=>hc ((h.is hs).1 c)) u.heap.size 1 _ (h.R.below (q1z hb _)) (a0a u _)).mono ?_
 rintro e w1 ⟨rfl,z⟩
 exact⟨rfl,q3z (q1z bz0 _) z⟩
theorem Ctx.wants_yes(h:Ctx w B ts i)(hs:a1h s)(hc:tx (rest ts i)=s)(u:World)(hb:Bw w u):Cl 127 #[Po B 0,.slice (some (Ad u.heap.size 0)) 1 1] (u.alloc (.cells #[sk s] 9)) fun e z=>e=.returned (.tuple #[])/\Rd z B ts (i+1)/\a0b (fun k=>k=B) u z:=by
 refine(YtomniogfpfbolaaGreatDoor.wants_yes B ts i s ((h.is hs).2 hc) (a5a hc (b2g hs)) u.heap.size 1 _ (h.R.below (q1z hb _)) (a0a u _)).mono ?_
 rintro e w1 ⟨rfl,x,y⟩
 exact⟨rfl,x,(a0b.of_below (q1z bz0 _)).trans y⟩
def RowC (f:Nat):Prop:=∀(a:Nat) (r:PRes) (B:Nat) (ts:List Tok) (i:Nat) (w:World),a<=6->Ctx w B ts i->P f 0 nil0 a (rest ts i)=some r->Cl 178 #[Po B 0,vi ((a+1:Nat):Int)] w (PAns no w B ts r)
def a6z (f:Nat):Prop:=∀(r:PRes) (B:Nat) (ts:List Tok) (i:Nat) (w:World),Ctx w B ts i->P f 0 nil0 0 (rest ts i)=some r->Cl 173 #[Po B 0] w (PAns no w B ts r)
theorem d5d(h:tm[2]?.getD undef=Po B 0)(hx:W.heap[B]?=some (.cells #[a,b,c,d] 34)):(results Tryz.f173 tm).run Tryz.prog W=.ok (.agg #[a,b,c,d]) W:=by
 obtain⟨c0,c1,c2,c3,_,_,_,_⟩:=in4 hx
 simp[results,Tryz.results173,go_sem,h,c0,c1,c2,c3]
theorem d1j(f:Nat)(hRow:RowC f):a6z f:=by
 intro r B ts i w u s
 have q:=hRow 0 r B ts i (w.alloc zbx) (by omega) (u.below (q1z bz0 _)) s
 have o:=a0a w zbx
 have t:B≠w.heap.size:=by have:=u.R.lt;omega
 clear hRow s
 cases r with
 | inl l =>
  go_enter Tryz.func173,Tryz.ntmps173
  go_wp2_with (go_at_call 178;refine q.mono ?_;rintro e w1 ⟨j,x,y,rfl,z⟩)
  exact⟨rfl,j,x,y,rfl,(a0b.of_below (q1z bz0 _)).trans z⟩
 | inr p =>
  obtain⟨n,l⟩:=p
  go_enter Tryz.func173,Tryz.ntmps173
  go_wp2_with (go_at_call 178;refine q.mono ?_;rintro e w1 ⟨j,b,cap,x,rfl,d,h,z⟩;have h1:=(z.block _ (q5z o) (fun e=>t e.symm)).trans o;obtain⟨c0,c1,c2,c3,f0,f1,f2,f3⟩:=in4 h1)
  refine bodyPost_ret (d5d rfl (a0c _ _ _ _ h1)) rfl ⟨j,b,cap,x,rfl,?_,h.put4 _ _ _ _ _ u.R.lt,a1f ((a0b.of_below (q1z bz0 _)).trans z) _ _ _ _ _ (Nat.le_refl _)⟩
  exact(d.put4 _ _ _ _ _ (fun g v=>by simp at v;omega)).weak (fun g v _=>by simp at v;exact .inr (by omega))
def SufC (f:Nat):Prop:=∀(x:Nd) (b:Option Addr) (cap:Nat) (D:Nat->Prop) (r:PRes) (B:Nat) (ts:List Tok) (i:Nat) (w:World),Ctx w B ts i->NdV D w x (ndv x b cap)->(∀g,D g->g≠B)->P f 5 x 0 (rest ts i)=some r->Cl 175 #[Po B 0,ndv x b cap] w (PAns D w B ts r)
theorem d0c(h:tm[4]?.getD undef=Po B 0)(hx:W.heap[B]?=some (.cells #[a,b,c,d] 34)):(results Tryz.f175 tm).run Tryz.prog W=.ok (.agg #[a,b,c,d]) W:=by
 obtain⟨c0,c1,c2,c3,_,_,_,_⟩:=in4 hx
 simp[results,Tryz.results175,go_sem,h,c0,c1,c2,c3]
theorem c7d:a1h S.lb:=⟨_,_,rfl,rfl⟩
theorem d5e:a1h S.rb:=⟨_,_,rfl,rfl⟩
theorem b3u:a1h S.lp:=⟨_,_,rfl,rfl⟩
theorem b6b:a1h S.rp:=⟨_,_,rfl,rfl⟩
theorem b9l:a1h S.cm:=⟨_,_,rfl,rfl⟩
theorem a6g(w:World)(o1 o2:Obj):Bw w ((w.alloc o1).alloc o2):=q1z (q1z bz0 _) _
theorem new2(w:World)(o1 o2:Obj):((w.alloc o1).alloc o2).heap[w.heap.size]?=some o1/\((w.alloc o1).alloc o2).heap[w.heap.size+1]?=some o2:=⟨q4z _ (a0a w o1),by have:=a0a (w.alloc o1) o2;rwa [World.size_alloc]at this⟩
theorem a4d{x:PR}{g:Nd->List PT->PR}{r:PRes}(h:x.on g=some r):∃r0,x=some r0/\((∃l,r0=.inl l/\r=.inl l)\/∃n l,r0=.inr (n,l)/\g n l=some r):=by
 cases x with
 | none=>cases h
 | some r0 =>
  refine⟨r0,rfl,?_⟩
  rcases r0 with l|⟨n,l⟩
  ·exact .inl ⟨l,rfl,(Option.some.inj h).symm⟩
  ·exact .inr ⟨n,l,rfl,h⟩
theorem need_some{g:List PT->PR}{r:PRes}(h:need s l g=some r):(tx l=s/\g l.tail=some r)\/(¬tx l=s/\r=.inl l):=by
 unfold need at h
 split at h
 ·exact .inl ⟨by assumption,h⟩
 ·exact .inr ⟨by assumption,(Option.some.inj h).symm⟩
theorem c2z(f:Nat)(hE:a6z f)(x:Nd)(b:Option Addr)(cap:Nat)(D:Nat->Prop)(r:PRes)(B:Nat)(ts:List Tok)(i:Nat)(w:World)(hC:Ctx w B ts i)(hx:NdV D w x (ndv x b cap))(hS:∀g,D g->g≠B)(hlb:tx (rest ts i)=S.lb)(hP:(P f 0 nil0 0 (rest ts i).tail).on (fun y l=>need S.rb l fun l=>.ok (nd 20 [x,y]) l)=some r):Cl 175 #[Po B 0,ndv x b cap] w (PAns D w B ts r):=by
 obtain⟨h3,h4⟩:=new2 w (nbx x b cap) zbx
 have hT:=hC.takes_yes c7d hlb _ (a6g w (nbx x b cap) zbx)
 have x8:=hC.R.lt
 have z1:a0b (fun k=>k=B) w ((w.alloc (nbx x b cap)).alloc zbx):=a0b.of_below (a6g w (nbx x b cap) zbx)
 rw[a0g]at hP
 obtain⟨r0,z3,hr⟩:=a4d hP
 have y6:=fun u h=>hE r0 B ts (i+1) u h z3
 replace hr:Hid _:=hr
 clear hP z3
 go_enter Tryz.func175,Tryz.ntmps175
 go_wp2_with (go_at_call 130;refine hT.mono ?_;rintro e w1 ⟨rfl,y8,a⟩)
 have g3:=(a.block _ (q5z h3) (by omega)).trans h3
 have g4:=(a.block _ (q5z h4) (by omega)).trans h4
 obtain⟨c0,c1,c2,c3,f0,f1,f2,f3⟩:=in4 g3
 have v:=z1.trans a
 have x6:w.heap.size+1<w1.heap.size:=q5z g4
 have y5:=hC.on y8
 have y4:=hx.keep v (fun g s _=>hS g s)
 clear hT z1 a h3 h4
 go_region_with ((go_at_call 173;refine(y6 _ (y5.below (bz0.drew))).mono ?_;intro e w2 hA;rcases r0 with l1|⟨n1,l1⟩;(obtain⟨j,hj,y2,rfl,z⟩:=hA;rcases hr.out with⟨l,q,e2⟩|⟨n,l,q,_⟩;(cases q;subst e2;exact⟨rfl,j,hj,y2,rfl,(v.drew).trans z⟩);cases q);obtain⟨j,b1,z8,hj,rfl,y7,y9,z⟩:=hA;have g3:=(z.block _ (q5z g3) (by omega)).trans g3;have g4:=(z.block _ (q5z g4) (by omega)).trans g4;obtain⟨c0,c1,c2,c3,f0,f1,f2,f3⟩:=in4 g3;obtain⟨d0,d1,d2,d3,e0,q,e2,e3⟩:=in4a g3))
 all_goals
  rcases hr.out with⟨l,q,_⟩|⟨n,l,q,o⟩
  ·cases q
  cases q
  clear hr c0 c1 c2 c3 f0 f1 f2 f3 d0 d1 d2 d3 e0 q e2 e3 y6 hE
  have z4:NdV (fun g=>(D g\/w.heap.size<=g)/\g≠w.heap.size/\g≠w.heap.size+1) w2 x (ndv x b cap):=((hx.weak (S':=fun g=>D g/\g<w.heap.size) (fun g s y3=>⟨s,y3⟩)).keep ((v.drew).trans z) (fun g s _=>hS g s.1)).weak (fun g s _=>⟨.inl s.1,by omega,by omega⟩)
  have z5:NdV (fun g=>(D g\/w.heap.size<=g)/\g≠w.heap.size/\g≠w.heap.size+1) w2 n1 (ndv n1 b1 z8):=y7.weak (fun g s _=>by simp at s;refine⟨.inr (by omega),by omega,by omega⟩)
  obtain⟨W3,z9⟩:=exq (put4 (w2.alloc (.cells #[vi x.k,sk x.t,vi x.n,.slice b x.kids.length cap,vi n1.k,sk n1.t,vi n1.n,.slice b1 n1.kids.length z8] 34)) w.heap.size (vi 20) (sk []) (vi 0) (.slice (some (Ad w2.heap.size 0)) 2 2))
  have x7:w1.heap.size<=w2.heap.size:=z.size
  obtain⟨x9,q3,c⟩:=a9f 20 0 z4 z5 (fun g s=>s.2.1) ⟨.inr (by omega),by omega,by omega⟩ g3 z9
  have q4:=(c.block _ (q5z g4) (by omega)).trans g4
  have z0:=y9.keep c (fun g s=>by omega)
  have z2:=((v.drew).trans z).then c (fun j hj e=>by omega)
  dsimp only[put4]at z9
  rw[z9]
  clear z9 z4 z5 c z v y4 g3 g4 y9 y7 y5 y8 hx
  have z6:=hC.on z0
  rw[<- hj]at o
  clear z0
  refine Lib.hid ?_
  rcases need_some o with⟨hy,p⟩|⟨hy,rfl⟩
  ·rw[a0g]at p
   have z7:=z6.wants_yes d5e hy W3 bz0
   replace p:Hid _:=p
   clear o
   go_wp2_with (go_at_call 127;refine z7.mono ?_;rintro e w4 ⟨rfl,y0,d⟩;have p3:=(d.block _ (q5z q3) (by omega)).trans q3;have p4:=(d.block _ (q5z q4) (by omega)).trans q4;obtain⟨c0,c1,c2,c3,f0,f1,f2,f3⟩:=in4 p3;obtain⟨d0,d1,d2,d3,e0,q,e2,e3⟩:=in4 p4)
   refine bodyPost_ret (d0c rfl (a0c _ _ _ _ p4)) rfl ?_
   obtain rfl:=Option.some.inj p.out
   exact a0m rfl ((x9.keep d (fun g s _=>by rcases s.1 with h|h;exact hS g h;omega)).weak (fun g s _=>⟨s.1,s.2.2⟩)) y0 (z2.trans d) (by omega) x8
  ·have z7:=z6.wants_no d5e hy W3 bz0
   clear o
   go_wp2_with (go_at_call 127;refine z7.mono ?_;rintro e w4 ⟨rfl,y1⟩)
   exact⟨rfl,a0e hj z6.R.le (z2.trans (a0b.of_below y1))⟩
theorem a5w:(Tryz.prog.info? 34).map (fun i=>(i.zero,i.size,i.bytes))=some (some (.agg #[vi 0,.string ⟨#[]⟩,vi 0,.slice none 0 0]),4,56):=by kernel_rfl
theorem Ctx.sees1(h:Ctx w B ts i)(hs:a1h s)(u:World)(hb:Bw w u):Cl 129 #[Po B 0,.slice (some (Ad u.heap.size 0)) 1 1] (u.alloc (.cells #[sk s] 9)) fun e y=>e=.returned (.bool (decide (tx (rest ts i)=s)))/\Bw u y:=by
 have:=a9e B ts i u.heap.size [⟨s.toArray⟩] (by simp) 1 _ (h.R.below (q1z hb _)) (a0a u _)
 rw[a9y]at this
 rw[show decide (tx (rest ts i)=s)=decide (wd ts i=s) from decide_eq_decide.2 (h.is hs).symm]
 refine this.mono ?_
 rintro e w1 ⟨rfl,z⟩
 exact⟨rfl,q3z (q1z bz0 _) z⟩
theorem Ctx.sees2(h:Ctx w B ts i){s2:List UInt8}(hs:a1h s)(hs2:a1h s2)(u:World)(hb:Bw w u):Cl 129 #[Po B 0,.slice (some (Ad u.heap.size 0)) 2 2] (u.alloc (.cells #[sk s,sk s2] 9)) fun e y=>e=.returned (.bool (decide (tx (rest ts i)=s\/tx (rest ts i)=s2)))/\Bw u y:=by
 have:=a9e B ts i u.heap.size [⟨s.toArray⟩,⟨s2.toArray⟩] (by simp) 2 _ (h.R.below (q1z hb _)) (a0a u _)
 rw[c2h]at this
 rw[show decide (tx (rest ts i)=s\/tx (rest ts i)=s2)=decide (wd ts i=s\/wd ts i=s2) from decide_eq_decide.2 (by rw[h.is hs,h.is hs2])]
 refine this.mono ?_
 rintro e w1 ⟨rfl,z⟩
 exact⟨rfl,q3z (q1z bz0 _) z⟩
theorem d5f{tag:Nat}{a:Nat}{n:Nd}(ht:tag<=12)(h:P f tag x a l=some (.inr (n,l1))):l1.length<room tag l:=by
 obtain⟨r,h1,h2⟩:=a4c (16*l.length+rank tag a) tag x a l ht (Nat.le_refl _)
 have:=d7p ⟨f,h⟩ ⟨_,h1⟩
 exact h2 n l1 this.symm
theorem d1k{a:Nat}{j2:Nat}{n:Nd}(h:Hid (P f 0 x a (rest ts j)=some (.inr (n,l1))))(hj:rest ts j2=l1):j<j2:=by
 have:=d5f (by omega) h.out
 rw[<- hj]at this
 simp only[room,a6s]at this
 omega
def ArgI (D:Nat->Prop) (f:Nat) (w:World) (B:Nat) (ts:List Tok) (r:PRes) (k:Nat) (m:Value) (wr:World):Prop :=
 ∃(more:Bool) (ks:List Nd) (j:Nat) (b:Option Addr) (cap:Nat),m=.bool more/\wr.heap[w.heap.size]?=some (nbx (nd 21 ks) b cap)/\wr.heap[w.heap.size+1]?=some zbx /\
  Row (fun g=>(D g\/w.heap.size<=g)/\g≠w.heap.size/\g≠w.heap.size+1) wr (.slice b ks.length cap) ks/\(∀q,Value.ownBlock (.slice b ks.length cap)=some q->w.heap.size<=q)/\Rd wr B ts j/\a0b (fun k=>k=B) w wr/\ks.length<=j /\
  (if more then k<=f/\P k 6 (nd 21 ks) 0 (rest ts j)=some r else need S.rp (rest ts j) (fun l=>.ok (nd 21 ks) l)=some r)
theorem c7e(f:Nat)(hE:∀g,g<=f->a6z g)(x:Nd)(b:Option Addr)(cap:Nat)(D:Nat->Prop)(r:PRes)(B:Nat)(ts:List Tok)(i:Nat)(w:World)(hC:Ctx w B ts i)(hx:NdV D w x (ndv x b cap))(hS:∀g,D g->g≠B)(hlb:¬tx (rest ts i)=S.lb)(hP:need S.lp (rest ts i) (fun l=>if tx l=S.rp then .ok (nd 21 [x]) l.tail else P f 6 (nd 21 [x]) 0 l)=some r):Cl 175 #[Po B 0,ndv x b cap] w (PAns D w B ts r):=by
 obtain⟨i0,hi0,hz0,hz1,hz2⟩:=info_parts a5w
 obtain⟨h3,h4⟩:=new2 w (nbx x b cap) zbx
 have hT:=hC.takes_no c7d hlb _ (a6g w (nbx x b cap) zbx)
 have hBw:=hC.R.lt
 have hb0:=a6g w (nbx x b cap) zbx
 rcases need_some hP with⟨hlp,hP2⟩|⟨hlp,rfl⟩
 ·rw[a0g]at hP2
  replace hP2:Hid _:=hP2
  clear hP
  go_enter Tryz.func175,Tryz.ntmps175
  go_wp2_with (first|(go_at_call 130;refine hT.mono ?_;rintro e w1 ⟨rfl,hb1⟩)|(go_at_call 127;refine((hC.below (q3z hb0 hb1)).wants_yes b3u hlp _ bz0).mono ?_;rintro e w2 ⟨rfl,hR2,hk2⟩;refine Hid.out ?_))
  have hkw:a0b (fun k=>k=B) w w2:=(a0b.of_below (q3z hb0 hb1)).trans hk2
  have g3:=(hk2.box (q0z hb1 h3) (by omega))
  have g4:=(hk2.box (q0z hb1 h4) (by omega))
  have hz4:=q5z g4
  have hx2:NdV (fun g=>(D g\/w.heap.size<=g)/\g≠w.heap.size/\g≠w.heap.size+1) w2 x (ndv x b cap):=((hx.weak (S':=fun g=>D g/\g<w.heap.size) (fun g hg hlt=>⟨hg,hlt⟩)).keep hkw (fun g hg _=>hS g hg.1)).weak (fun g hg _=>⟨.inl hg.1,by omega,by omega⟩)
  obtain⟨W3,hW3⟩:=exq (put4 (w2.alloc (nbx x b cap)) w.heap.size (vi 21) (sk []) (vi 0) (.slice (some (Ad w2.heap.size 0)) 1 1))
  obtain⟨hRow3,q3,hk3⟩:=b0e 21 0 hx2 (fun g hg=>hg.2.1) ⟨.inr (by omega),by omega,by omega⟩ g3 hW3
  have q4:=hk3.box g4 (by omega)
  have hR3:=hR2.keep hk3 (fun g hg=>by omega)
  have hkw3:=hkw.then hk3 (fun j hj e=>by omega)
  have hC3:=hC.on hR3
  have hSee:=hC3.sees1 b6b W3 bz0
  obtain⟨c0,c1,c2,c3,f0,f1,f2,f3⟩:=in4 g3
  obtain⟨d0,d1,d2,d3,e0,e1,e2,e3⟩:=in4a g3
  have hlen:∃more:Bool,decide (tx (rest ts (i+1))=S.rp)=!more/\(if more then f<=f/\P f 6 (nd 21 [x]) 0 (rest ts (i+1))=some r else need S.rp (rest ts (i+1)) (fun l=>.ok (nd 21 [x]) l)=some r):=by
   by_cases hy:tx (rest ts (i+1))=S.rp
   ·refine⟨false,by simp[hy],?_⟩
    have:=hP2.out
    rw[if_pos hy]at this
    rw[if_neg (by decide)]
    unfold need
    rw[if_pos hy]
    exact this
   ·refine⟨true,by simp[hy],?_⟩
    have:=hP2.out
    rw[if_neg hy]at this
    rw[if_pos rfl]
    exact⟨Nat.le_refl _,this⟩
  obtain⟨more,hm1,hm2⟩:=hlen
  rw[hm1]at hSee
  replace hm2:Hid _:=hm2
  clear hP2 hm1 h3 h4 hT hlb hlp hx2 hx
  refine Lib.hid ?_
  go_wp2_with (go_at_call 129;refine Hid.out ?_)
  clear hW3 c0 c1 c2 c3 f0 f1 f2 f3 d0 d1 d2 d3 e0 e1 e2 e3 g3 g4 hk3 hk2 hkw hR2
  refine Lib.hid ?_
  go_wp2_with (go_at_call 129;refine hSee.mono ?_;rintro e w4 ⟨rfl,hb4⟩)
  have q3':=q0z hb4 q3
  have q4':=q0z hb4 q4
  have hRow4:=hRow3.below hb4
  have hR4:=hR3.below hb4
  have hkw4:=hkw3.trans (a0b.of_below hb4)
  have hown4:∀q,Value.ownBlock (.slice (some (Ad w2.heap.size 0)) 1 1)=some q->w.heap.size<=q:=fun q e=>by
   have:w2.heap.size=q:=by simpa[Value.ownBlock]using e
   omega
  have hI:ArgI D f w B ts r f (.bool more) w4:=⟨more,[x],i+1,_,1,rfl,q3',q4',hRow4,hown4,hR4,hkw4,by simp,hm2.out⟩
  clear q3 q4 hRow3 hR3 hkw3 hC3 hSee hRow4 hR4 hkw4 hown4 hm2 q3' q4' hb4 hz4 hb1
  go_loopg [5] f (fun k m wr=>ArgI D f w B ts r k m wr)
  case atStart=>exact hI
  case round =>
   obtain⟨more1,ks,j,b',cap',rfl,p3,p4,hRow,hown,hR,hk,hkl,hr⟩:=hrel
   clear hI
   obtain⟨c0,c1,c2,c3,f0,f1,f2,f3⟩:=in4 p3
   have hCr:=hC.on hR
   have hz4:=q5z p4
   cases more1 with
   | false =>
    rw[if_neg (by decide)]at hr
    rcases need_some hr with⟨hy,hr3⟩|⟨hy,rfl⟩
    ·rw[a0g]at hr3
     have hWt:=hCr.wants_yes b6b hy wr bz0
     replace hr3:Hid _:=hr3
     have hN:=hRow.node 21 [] 0
     clear hr
     go_wp2_with (go_at_call 127;refine hWt.mono ?_;rintro e w4 ⟨rfl,hR4,hk4⟩;have p3:=hk4.box p3 (by omega);have p4:=hk4.box p4 (by omega);obtain⟨c0,c1,c2,c3,f0,f1,f2,f3⟩:=in4 p3;obtain⟨d0,d1,d2,d3,e0,e1,e2,e3⟩:=in4 p4)
     refine bodyPost_ret (d0c rfl (a0c _ _ _ _ p4)) rfl ?_
     obtain rfl:=Option.some.inj hr3.out
     exact a0m (N:=nd 21 ks) rfl ((hN.keep hk4 (fun g hg _=>by rcases hg.1 with h|h;exact hS g h;omega)).weak (fun g hg _=>⟨hg.1,hg.2.2⟩)) hR4 (hk.trans hk4) (by omega) hBw
    ·have hWt:=hCr.wants_no b6b hy wr bz0
     clear hr
     go_wp2_with (go_at_call 127;refine hWt.mono ?_;rintro e w4 ⟨rfl,hb4⟩)
     exact⟨rfl,a0e rfl hR.le (hk.trans (a0b.of_below hb4))⟩
   | true =>
    rw[if_pos rfl]at hr
    obtain⟨hgf,hr⟩:=hr
    cases gk with
    | zero=>cases hr
    | succ g =>
     rw[P]at hr
     obtain⟨r0,hr0,hr1⟩:=a4d hr
     have hEE:=fun u h=>hE g (by omega) r0 B ts j u h hr0
     replace hr1:Hid _:=hr1
     have hjl:=hR.le
     have hsh:=hR.short
     have hn1:ks.length+1<=maxLen:=by unfold maxLen;omega
     have hb1:(ks.length+1)*56<=140737488355328:=by omega
     have hr0':Hid _:=hr0
     clear hr hr0 hE
     go_wp2
     go_region_law (first
      | (refine step_append_lies _ (by rfl) _ _ _ (by rfl) 0 34 i0 _ 4 56 Tryz.underlying32 hi0 hz0 hz1 hz2 rfl (by omega) (.slice b' ks.length cap') ks.length _ (by rfl) ho (Ad w2.heap.size 0) 1 1 _ (by rfl) (by rfl) (a2c n1 b1 cap1 (a0a w2 (nbx n1 b1 cap1))) (by simp[Value.oneCell']) (by omega) hn1 hb1 (Nat.zero_le _) _ rfl ?_;intro g3 cap3 w3 hown3 hgrow hat hlt3;have p3w:=(hgrow.block _ (q5z p3) hne3).trans p3;obtain⟨c0,c1,c2,c3,f0,f1,f2,f3⟩:=in4 p3w)
      | (go_simp;go_at_call 173;refine(hEE _ (hCr.below (bz0.drew))).mono ?_;intro e w2 hA;rcases r0 with l1|⟨n1,l1⟩;(obtain⟨j2,hj2,hle,rfl,hk2⟩:=hA;rcases hr1.out with⟨l,e1,e2⟩|⟨n,l,e1,_⟩;(cases e1;subst e2;exact⟨rfl,a0e hj2 hle ((hk.drew).trans hk2)⟩);cases e1);obtain⟨j2,b1,cap1,hj2,rfl,hN1,hR2,hk2'⟩:=hA;have hk2:=((a0b.refl (fun k=>k=B) wr).drew).trans hk2';clear hk2';have pw3:=hk2.box p3 (by omega);have p3:=q4z (nbx n1 b1 cap1) pw3;have p4:=q4z (nbx n1 b1 cap1) (hk2.box p4 (by omega));obtain⟨c0,c1,c2,c3,f0,f1,f2,f3⟩:=in4 pw3;obtain⟨d0,d1,d2,d3,e0,e1,e2,e3⟩:=in4a pw3;obtain⟨xs,ho,hs,hn⟩:=((hRow.keep hk2 (fun g hg _=>by rcases hg.1 with h|h;exact hS g h;omega)).below (q1z bz0 (nbx n1 b1 cap1))).own;have hne3:some w.heap.size≠Value.ownBlock (.slice b' ks.length cap'):=fun e=>(hs _ e.symm).2.1 rfl))
     all_goals
      rcases hr1.out with⟨l,e1,_⟩|⟨n,l,e1,hr2⟩
      ·cases e1
      cases e1
      clear hr1 c0 c1 c2 c3 f0 f1 f2 f3 d0 d1 d2 d3 e0 e1 e2 e3 hEE p3w pw3
      have hb2a:=q1z (Below.refl w2.heap.size w2) (nbx n1 b1 cap1)
      obtain⟨_,_,_,hlt9⟩:=hRow.form
      have hy:NdV (fun q=>((D q\/w.heap.size<=q)/\q≠w.heap.size/\q≠w.heap.size+1)/\some q≠Value.ownBlock (.slice b' ks.length cap')) (w2.alloc (nbx n1 b1 cap1)) n1 (ndv n1 b1 cap1):=(hN1.weak (fun q hq _=>by simp at hq;exact⟨⟨.inr (by omega),by omega,by omega⟩,fun e=>by have:=(hlt9 q e.symm).2;omega⟩)).below hb2a
      obtain⟨W4,hW4⟩:=exq (w3.setCell (Ad w.heap.size 3) (.slice (some (Ad g3 0)) (ks.length+1) cap3))
      have hz2:wr.heap.size<=w2.heap.size:=hk2.size
      obtain⟨hRow5,q3,hk5,hown5⟩:=a2y ho hs hn hy (fun q hq=>hq.2.1) (fun q hq=>by simp at hq;exact⟨.inr (by omega),by omega,by omega⟩) hown (by simp;omega) p3 hown3 hgrow hat hW4
      have q4:=hk5.box p4 (fun e=>by rcases e with e|e;omega;exact(hs _ e.symm).2.2 rfl)
      have hR5:=(hR2.below hb2a).keep hk5 (fun q hq e=>by rcases e with e|e;omega;have:=hown q e.symm;omega)
      have hkw5:=((hk.trans hk2).trans (a0b.of_below hb2a)).then hk5 (fun q hq e=>by rcases e with e|e;omega;have:=hown q e.symm;omega)
      have hjn:=d1k hr0' hj2
      rw[<- hj2]at hr2
      have hC5:=hC.on hR5
      clear hown3 hgrow hat hlt3 ho hs hn hy hk5 p3 p4 hRow hR2 hN1 hk2 hb2a hown
      refine Lib.hid ?_
      by_cases hcm:tx (rest ts j2)=S.cm
      ·rw[if_pos hcm,a0g]at hr2
       replace hr2:Hid _:=hr2
       have hT5:=hC5.takes_yes b9l hcm W4 bz0
       go_wp2_with (go_at_call 130;refine hT5.mono ?_;rintro e w6 ⟨rfl,hR6,hk6⟩)
       go_roundg g
       case measure=>omega
       case rel=>exact⟨true,ks++[n1],j2+1,_,_,rfl,hk6.box q3 (by omega),hk6.box q4 (by omega),hRow5.keep hk6 (fun g hg _=>by rcases hg.1 with h|h;exact hS g h;omega),hown5,hR6,hkw5.trans hk6,by simp;omega,by rw[if_pos rfl];exact⟨by omega,hr2.out⟩⟩
      ·rw[if_neg hcm]at hr2
       replace hr2:Hid _:=hr2
       have hT5:=hC5.takes_no b9l hcm W4 bz0
       go_wp2_with (go_at_call 130;refine hT5.mono ?_;rintro e w6 ⟨rfl,hb6⟩)
       go_roundg g
       case measure=>omega
       case rel=>exact⟨false,ks++[n1],j2,_,_,rfl,q0z hb6 q3,q0z hb6 q4,hRow5.below hb6,hown5,hR5.below hb6,hkw5.trans (a0b.of_below hb6),by simp;omega,by rw[if_neg (by decide)];exact hr2.out⟩
 ·have hWt:=fun u hb=>hC.wants_no b3u hlp u hb
  clear hP
  go_enter Tryz.func175,Tryz.ntmps175
  go_wp2_with (first|(go_at_call 130;refine hT.mono ?_;rintro e w1 ⟨rfl,hb1⟩)|(go_at_call 127;refine(hWt _ (q3z hb0 hb1)).mono ?_;rintro e w2 ⟨rfl,hb2⟩))
  exact⟨rfl,a0e rfl hC.R.le (a0b.of_below (q3z (q3z hb0 hb1) hb2))⟩
abbrev iv (n:Int):Value:=vi n
def a3k (x:Ld):List Value:=[sk x.nm,vi (x.dp:Nat),.bool x.lp]
def a5i (ls:List Ld):List Value:=ls.flatMap a3k
abbrev lkb (u:Nd) (ub:Option Addr) (uc:Nat) (sb:Option Addr) (sn sc:Nat) (lb:Option Addr) (ln lc:Nat) (c a:Int) (st:Bool):Obj:=.cells #[vi u.k,sk u.t,vi u.n,.slice ub u.kids.length uc,.slice sb sn sc,.slice lb ln lc,vi c,vi a,.bool st] 38
structure Lo (w0:World) (B:Nat) (u:Nd) (ub:Option Addr) (uc:Nat) (sl:List Int) (ls:List Ld) (c a:Int) (st:Bool) (W:World):Prop where
 box:∃sb sc lb lc,W.heap[B]?=some (lkb u ub uc sb sl.length sc lb ls.length lc c a st)/\W.ownsRow w0.heap.size 3 1 (.slice sb sl.length sc) sl.length (sl.map iv)/\W.ownsRow w0.heap.size 88 3 (.slice lb ls.length lc) ls.length (a5i ls) /\
  (∀q,Value.ownBlock (.slice sb sl.length sc)=some q->w0.heap.size<=q/\q≠B)/\(∀q,Value.ownBlock (.slice lb ls.length lc)=some q->w0.heap.size<=q/\q≠B/\Value.ownBlock (.slice sb sl.length sc)≠some q)
 bl:Bw w0 W
 hB:w0.heap.size<=B
theorem d5g:(Tryz.prog.info? 3).map (fun i=>(i.zero,i.size,i.bytes))=some (some (vi 0),1,8):=by kernel_rfl
theorem a6u{s:Nat}{n:Nat}(h:W.ownsRow base T s v n xs)(hb:Bw W W'):W'.ownsRow base T s v n xs:=by
 obtain⟨h1,h2⟩:=h
 refine⟨h1,?_⟩
 rcases h2 with h2|⟨g,cap',y,e,z,x,h3⟩
 ·exact .inl h2
 ·exact .inr ⟨g,cap',y,e,z,q0z hb x,h3⟩
theorem a1c{s:Nat}{n:Nat}(h:W.ownsRow base T s v n xs)(hk:∀q,Value.ownBlock v=some q->q<W.heap.size->W'.heap[q]?=W.heap[q]?):W'.ownsRow base T s v n xs:=by
 obtain⟨h1,h2⟩:=h
 refine⟨h1,?_⟩
 rcases h2 with h2|⟨g,cap',y,e,z,x,h3⟩
 ·exact .inl h2
 ·exact .inr ⟨g,cap',y,e,z,(hk g (by rw[e];rfl) (q5z x)).trans x,h3⟩
theorem a3g{s:Nat}{n:Nat}{q:Nat}(h:W.ownsRow base T s v n xs)(hq:Value.ownBlock v=some q):q<W.heap.size:=by
 rcases h.2 with⟨e,_⟩|⟨g,cap',x,e,z,y,h3⟩
 ·rw[e]at hq;simp[Value.ownBlock]at hq
 ·rw[e]at hq
  simp[Value.ownBlock]at hq
  subst hq
  exact q5z y
def ApL (B:Nat) (W:World) (t:Nat):Prop:=t≠B/\∀v0 v1 v2 v3 v4 v5 v6 v7 v8,W.heap[B]?=some (.cells #[v0,v1,v2,v3,v4,v5,v6,v7,v8] 38)->Value.ownBlock v4≠some t/\Value.ownBlock v5≠some t
def LK (B:Nat) (W W':World):Prop:=∀t o,ApL B W t->W.heap[t]?=some o->W'.heap[t]?=some o/\ApL B W' t
theorem LK.trans{V:World}(p:LK B W V)(q:LK B V W'):LK B W W':=fun t o y z=>by
 obtain⟨h1,h2⟩:=p t o y z
 exact q t o h2 h1
theorem Lo.on{c a:Int}(h:Lo w0 B u ub uc sl ls c a st W)(hb:Bw W W'):Lo w0 B u ub uc sl ls c a st W':=by
 obtain⟨⟨sb,z,lb,y,h1,h2,h3,h4,h5⟩,w,x⟩:=h
 exact⟨⟨sb,z,lb,y,q0z hb h1,a6u h2 hb,a6u h3 hb,h4,h5⟩,q3z w hb,x⟩
theorem Lo.lt{c a:Int}(h:Lo w0 B u ub uc sl ls c a st W):B<W.heap.size:=by
 obtain⟨⟨sb,z,lb,y,h1,_⟩,_⟩:=h
 exact q5z h1
theorem LK.below(hB:B<W.heap.size)(hb:Bw W W'):LK B W W':=fun _ _ z o =>
 ⟨q0z hb o,z.1,fun q r s t u v w x y p=>z.2 q r s t u v w x y ((hb.block B hB).symm.trans p)⟩
theorem number_any(w0:World)(B:Nat)(u:Nd)(ub:Option Addr)(uc:Nat)(sl:List Int)(ls:List Ld)(c a:Int)(st:Bool)(W:World)(h:Lo w0 B u ub uc sl ls c a st W)(hlen:sl.length<=100000):Cl 11 #[Po B 0] W fun e W'=>e=.returned (vi (sl.length:Nat))/\Lo w0 B u ub uc (sl++[-1]) ls c a st W'/\LK B W W':=by
 have hb:=q1z (Below.refl W.heap.size W) (.cells #[vi (-1)] 3)
 have gQ:=a0a W (.cells #[vi (-1)] 3)
 have z6:=LK.below h.lt hb
 have z9:=h.lt
 replace h:=h.on hb
 obtain⟨Q,hQ⟩:=exq (W.heap.size)
 obtain⟨V,hV⟩:=exq (W.alloc (.cells #[vi (-1)] 3))
 rw[hV]at h gQ z6
 rw[hQ]at gQ
 obtain⟨i0,z0,z3,z4,z5⟩:=info_parts d5g
 obtain⟨⟨sb,g,lb,lc,h1,h2,h3,h4,h5⟩,h6,h7⟩:=h
 have c4:Ce W B 4 (.slice sb sl.length g):=by
  have:=q2z (i:=4) h1 rfl
  rw[<- hV]at this
  rw[World.cell?_alloc_past _ _ _ z9]at this
  exact this
 have d4:Ce V B 4 (.slice sb sl.length g):=q2z h1 rfl
 have f4:V.frozen? (Ad B 4)=false:=q6z h1
 have b:some B≠Value.ownBlock (.slice sb sl.length g):=fun e=>(h4 B e.symm).2 rfl
 have l:∀j x,[iv (-1)][j]?=some x->V.cell? ((Ad Q 0).add j)=some x:=fun j x s=>by
  match j,s with
  | 0,s=>cases s;simpa[Addr.add]using q2z (i:=0) gQ rfl
  | j+1,s=>simp at s
 have d:∀x∈[iv (-1)],x.oneCell'=true:=fun x s=>by simp at s;subst s;rfl
 have y7:sl.length+1<=maxLen:=by unfold maxLen;omega
 have y8:(sl.length+1)*8<=140737488355328:=by omega
 have z2:=h6.size
 have y6:=h6
 replace hV:W.alloc (.cells #[vi (-1)] 3)=V:=hV
 go_enter Tryz.func11,Tryz.ntmps11
 go_wp2_with (at_builtin;refine wpList_append_lies _ (by rfl) _ _ _ (by rfl) w0.heap.size 3 i0 _ 1 8 Tryz.underlying35 z0 z3 z4 z5 rfl (by omega) (.slice sb sl.length g) sl.length _ (by rfl) h2 (Ad Q 0) 1 1 [iv (-1)] (by rfl) (by rfl) l d (by omega) y7 y8 z2 _ rfl ?_;intro r y w3 n z v y5;have p1:=(z.block _ (q5z h1) b).trans h1;have d4:Ce w3 B 4 (.slice sb sl.length g):=q2z p1 rfl;have f4:w3.frozen? (Ad B 4)=false:=q6z p1)
 have z8:r≠B:=by
  rcases v with e|e
  ·exact(h4 r e).2
  ·have:=q5z h1
   omega
 have y9:w0.heap.size<=r:=by
  rcases v with e|e
  ·exact(h4 r e).1
  ·omega
 have z1:Bw w0 (w3.setCell (Ad B 4) (.slice (some (Ad r 0)) (sl.length+1) y)):=(((a0b.of_below (S:=no) y6).then (a0b.grown z) (fun q hq e=>by have:=(h4 q e.symm).1;omega)).set B 4 _ (fun h=>by omega)).below (Nat.le_refl _) (fun _ _=>id)
 have z7:=q7z (i:=4) (.slice (some (Ad r 0)) (sl.length+1) y) p1
 have w:(sl++[-1]).length=sl.length+1:=by simp
 go_ret
 refine⟨rfl,⟨⟨some (Ad r 0),y,lb,lc,?_,?_,?_,?_,?_⟩,z1,h7⟩,z6.trans ?_⟩
 ·rw[w]
  exact z7
 ·rw[w,List.map_append]
  exact a1c n (fun q e _=>by simp[Value.ownBlock]at e;subst e;exact q8z _ _ z8)
 ·refine a1c h3 (fun q e hq=>?_)
  obtain⟨_,e2,e3⟩:=h5 q e
  exact(q8z _ _ e2).trans (z.block q hq (fun e4=>e3 e4.symm))
 ·rw[w]
  intro q e
  simp[Value.ownBlock]at e
  subst e
  exact⟨y9,z8⟩
 ·rw[w]
  intro q e
  obtain⟨e1,e2,e3⟩:=h5 q e
  refine⟨e1,e2,fun e4=>?_⟩
  simp[Value.ownBlock]at e4
  subst e4
  rcases v with e5|e5
  ·exact e3 e5
  ·have:=a3g h3 e
   omega
 ·intro t o ha ho
  have f:some t≠Value.ownBlock (.slice sb sl.length g):=fun e=>(ha.2 _ _ _ _ _ _ _ _ _ h1).1 e.symm
  refine⟨(q8z _ _ ha.1).trans ((z.block t (q5z ho) f).trans ho),ha.1,fun v0 v1 v2 v3 v4 v5 v6 v7 v8 hv=>?_⟩
  have p:=z7.symm.trans hv
  have ev:Value.slice (some (Ad r 0)) (sl.length+1) y=v4/\Value.slice lb ls.length lc=v5:=by
   simp at p
   exact⟨p.2.2.2.2.1,p.2.2.2.2.2.1⟩
  obtain⟨rfl,rfl⟩:=ev
  refine⟨fun e=>?_,(ha.2 _ _ _ _ _ _ _ _ _ h1).2⟩
  simp[Value.ownBlock]at e
  subst e
  rcases v with e|e
  ·exact f e.symm
  ·have:=q5z ho
   omega
def unl (is:Bool) (code at_:Int) (f:Int×Int×Bool):Int×Int×Bool:=if is||f.2.2 then f else (code,at_,true)
theorem Lo.cells{c a:Int}(h:Lo w0 B u ub uc sl ls c a st W):W.cell? (Ad B 8)=some (.bool st)/\W.frozen? (Ad B 8)=false/\W.cell? (Ad B 6)=some (vi c)/\W.frozen? (Ad B 6)=false/\W.cell? (Ad B 7)=some (vi a)/\W.frozen? (Ad B 7)=false:=by
 obtain⟨⟨sb,z,lb,y,h1,_⟩,_⟩:=h
 exact⟨q2z h1 rfl,q6z h1,q2z h1 rfl,q6z h1,q2z h1 rfl,q6z h1⟩
theorem b1j(B:Nat)(code a:Int)(W:World):Cl 14 #[Po B 0,.bool true,vi code,vi a] W fun e W'=>e=.returned (.tuple #[])/\W'=W:=by
 go_enter Tryz.func14,Tryz.ntmps14
 go_wp2
 go_end0
 exact⟨rfl,rfl⟩
theorem b3v(B:Nat)(code a:Int)(W:World)(c8:W.cell? (Ad B 8)=some (.bool true)):Cl 14 #[Po B 0,.bool false,vi code,vi a] W fun e W'=>e=.returned (.tuple #[])/\W'=W:=by
 go_enter Tryz.func14,Tryz.ntmps14
 go_wp2
 go_end0
 exact⟨rfl,rfl⟩
theorem b3w(B:Nat)(code a c0 a0:Int)(W:World)(c8:W.cell? (Ad B 8)=some (.bool false))(f8:W.frozen? (Ad B 8)=false)(c6:W.cell? (Ad B 6)=some (vi c0))(f6:W.frozen? (Ad B 6)=false)(c7:W.cell? (Ad B 7)=some (vi a0))(f7:W.frozen? (Ad B 7)=false):Cl 14 #[Po B 0,.bool false,vi code,vi a] W fun e W'=>e=.returned (.tuple #[])/\W'=((W.setCell (Ad B 8) (.bool true)).setCell (Ad B 6) (vi code)).setCell (Ad B 7) (vi a):=by
 go_enter Tryz.func14,Tryz.ntmps14
 go_wp2
 go_end0
 exact⟨rfl,rfl⟩
theorem a0q(w0:World)(B:Nat)(u:Nd)(ub:Option Addr)(uc:Nat)(sl:List Int)(ls:List Ld)(c a:Int)(st:Bool)(is:Bool)(code at_:Int)(W:World)(h:Lo w0 B u ub uc sl ls c a st W):Cl 14 #[Po B 0,.bool is,vi code,vi at_] W fun e W'=>e=.returned (.tuple #[])/\Lo w0 B u ub uc sl ls (unl is code at_ (c,a,st)).1 (unl is code at_ (c,a,st)).2.1 (unl is code at_ (c,a,st)).2.2 W'/\LK B W W':=by
 obtain⟨c8,f8,c6,f6,c7,f7⟩:=h.cells
 have w:LK B W W:=fun t o s x=>⟨x,s⟩
 cases is with
 | true=>exact(b1j B code at_ W).mono fun e W' ⟨v,y⟩=>⟨v,by rw[y];exact⟨h,w⟩⟩
 | false =>
  cases st with
  | true=>exact(b3v B code at_ W c8).mono fun e W' ⟨v,y⟩=>⟨v,by rw[y];exact⟨h,w⟩⟩
  | false =>
   refine(b3w B code at_ c a W c8 f8 c6 f6 c7 f7).mono fun e W' ⟨v,y⟩=>⟨v,?_⟩
   subst y
   obtain⟨⟨sb,l,lb,f,h1,h2,h3,h4,h5⟩,h6,r⟩:=h
   have g:=q7z (i:=7) (vi at_) (q7z (i:=6) (vi code) (q7z (i:=8) (.bool true) h1))
   have x:∀q,q≠B->(((W.setCell (Ad B 8) (.bool true)).setCell (Ad B 6) (vi code)).setCell (Ad B 7) (vi at_)).heap[q]?=W.heap[q]?:=fun q hq=>(q8z _ _ hq).trans ((q8z _ _ hq).trans (q8z _ _ hq))
   refine⟨⟨⟨sb,l,lb,f,g,a1c h2 (fun q e _=>x q (h4 q e).2),a1c h3 (fun q e _=>x q (h5 q e).2.1),h4,h5⟩,?_,r⟩,fun t o s n=>⟨(x t s.1).trans n,s.1,fun v0 v1 v2 v3 b d v6 v7 v8 hv=>?_⟩⟩
   ·exact((h6.setCell (p:=(Ad B 8)) r _).setCell (p:=(Ad B 6)) r _).setCell (p:=(Ad B 7)) r _
   ·have z:=g.symm.trans hv
    have ev:Value.slice sb sl.length l=b/\Value.slice lb ls.length f=d:=by
     simp at z
     exact⟨z.2.2.2.2.1,z.2.2.2.2.2.1⟩
    obtain⟨rfl,rfl⟩:=ev
    exact s.2 _ _ _ _ _ _ _ _ _ h1
theorem b3x:∀{ls:List Ld} {j:Nat} {x:Ld},ls[j]?=some x->∀i,i<3->(a5i ls)[j*3+i]?=(a3k x)[i]?
 | [],j,x,h,_,_=>by simp at h
 | y::ls,0,x,h,i,hi=>by
  simp at h
  subst h
  show(a3k y++a5i ls)[0*3+i]?=_
  rw[Nat.zero_mul,Nat.zero_add,List.getElem?_append_left (by simpa[a3k]using hi)]
 | y::ls,j+1,x,h,i,hi=>by
  have z:=b3x (ls:=ls) (j:=j) (x:=x) (by simpa using h) i hi
  show(a3k y++a5i ls)[(j+1)*3+i]?=_
  rw[List.getElem?_append_right (by simp[a3k];omega)]
  rw[show(j+1)*3+i-(a3k y).length=j*3+i by simp[a3k];omega]
  exact z
theorem b3y{b:Option Addr}{n d:Nat}(h:W.ownsRow base 88 3 (.slice b n d) ls.length (a5i ls)){x:Ld}(hx:ls[j]?=some x):∃g,b=some (Ad g 0)/\W.cell? (Ad g (j*3))=some (sk x.nm)/\W.cell? (Ad g (j*3+1))=some (vi (x.dp:Nat))/\W.cell? (Ad g (j*3+2))=some (.bool x.lp):=by
 rcases h.2 with⟨e,p⟩|⟨g,cap,y,e,_,q,w,_,_,t⟩
 ·have:ls=[]:=List.length_eq_zero_iff.1 p
  subst this
  simp at hx
 ·cases e
  have s:j<ls.length:=(List.getElem?_eq_some_iff.1 hx).1
  have key:∀i v,i<3->(a3k x)[i]?=some v->W.cell? (Ad g (j*3+i))=some v:=fun i v r u=>by
   have hf:=b3x hx i r
   rw[<- t,List.getElem?_take_of_lt (by omega)]at hf
   have z:y[j*3+i]?=(a3k x)[i]?:=by simpa using hf
   rw[u]at z
   simp[World.cell?,q,z]
  exact⟨g,rfl,key 0 _ (by omega) rfl,key 1 _ (by omega) rfl,key 2 _ (by omega) rfl⟩
def b6c (s:List UInt8):List Ld->Option Nat
 | []=>none
 | x::l=>match b6c s l with
  | some i=>some (i+1)
  | none=>if x.nm=s then some 0 else none
theorem a6v{s:List UInt8} : ∀{ls:List Ld},(∀x∈ls,x.nm≠s)->b6c s ls=none
 | [],_=>rfl
 | x::l,h=>by rw[b6c,a6v (fun y z=>h y (by simp[z]))];simp[h x (by simp)]
theorem a8q{s:List UInt8} : ∀{ls:List Ld} {i:Nat} {x:Ld},ls[i]?=some x->x.nm=s->(∀j y,i<j->ls[j]?=some y->y.nm≠s)->b6c s ls=some i
 | [],i,x,h,_,_=>by simp at h
 | y::l,0,x,h,hn,hj=>by
  simp at h
  subst h
  rw[b6c,a6v (fun z w=>by
   obtain⟨j,v⟩:=List.getElem?_of_mem w
   exact hj (j+1) z (by omega) (by simpa using v))]
  simp[hn]
 | y::l,i+1,x,h,hn,hj=>by
  rw[b6c,a8q (ls:=l) (i:=i) (x:=x) (by simpa using h) hn (fun j z u w=>hj (j+1) z (by omega) (by simpa using w))]
def b2h (s:List UInt8) (ls:List Ld):Int:=match b6c s ls with|some i=>(i:Nat)|none=>-1
theorem a7y(w0:World)(B:Nat)(u:Nd)(ub:Option Addr)(uc:Nat)(sl:List Int)(ls:List Ld)(c a:Int)(st:Bool)(s:List UInt8)(W:World)(h:Lo w0 B u ub uc sl ls c a st W)(hl:ls.length<=100000):Cl 32 #[Po B 0,sk s] W fun e W'=>e=.returned (vi (b2h s ls))/\W'=W:=by
 obtain⟨⟨sb,sc,lb,lc,h1,h2,h3,h4,h5⟩,h6,h7⟩:=h
 obtain⟨R,hR⟩:=exq (b2h s ls)
 rw[hR]
 obtain⟨L,hL⟩:=exq (ls.length)
 have c5:W.cell? (Ad B 5)=some (.slice lb L lc):=by rw[<- hL];exact q2z h1 rfl
 rw[hL]at hl
 replace hR:Hid _:=hR
 replace hL:Hid _:=hL
 replace h3:Hid _:=h3
 clear h1 h2 h4 h5 h6
 have hw0:wrap64 ((L:Int)-1)=(L:Int)-1:=by unfold wrap64;omega
 go_enter Tryz.func32,Tryz.ntmps32
 go_wp2
 go_loop [5] (fun i=>∃j:Nat,j<=L/\i=vi ((j:Int)-1)/\∀k x,j<=k->ls[k]?=some x->x.nm≠s) (fun i=>(intOf i+1).toNat)
 case atStart=>exact⟨L,Nat.le_refl _,rfl,fun k x hk hx=>by have:=(List.getElem?_eq_some_iff.1 hx).1;have:=hL.out;omega⟩
 case round =>
  obtain⟨j,hj,rfl,hno⟩:=hrel
  replace hno:Hid _:=hno
  by_cases hj0:j=0
  ·subst hj0
   have e:R=-1:=by
    rw[<- hR.out,b2h,a6v (fun x hx=>by obtain⟨k,hk⟩:=List.getElem?_of_mem hx;exact hno.out k x (by omega) hk)]
   subst e
   go_wp2
   go_ret
   exact⟨rfl,rfl⟩
  ·obtain⟨i,rfl⟩:∃i,j=i+1:=⟨j-1,by omega⟩
   obtain⟨x,hx⟩:∃x,ls[i]?=some x:=⟨_,List.getElem?_eq_getElem (show i<ls.length by have:=hL.out;omega)⟩
   obtain⟨g,rfl,v0,v1,v2⟩:=b3y h3.out hx
   have e0:((i+1:Nat):Int)-1=(i:Int):=by omega
   have hlt:(i:Int)<(L:Int):=by omega
   have hge:(0:Int)<=(i:Int):=by omega
   rw[e0]
   clear v1 v2
   by_cases hn:x.nm=s
   ·have e:R=(i:Nat):=by
     rw[<- hR.out,b2h,a8q hx hn (fun k y hk hy=>hno.out k y (by omega) hy)]
    subst e
    rw[hn]at v0
    clear hx hn
    go_wp2
    go_ret
    exact⟨rfl,rfl⟩
   ·have hnext:Hid (∀k y,i<=k->ls[k]?=some y->y.nm≠s):=fun k y hk hy=>by
     by_cases e:k=i
     ·subst e;rw[hx]at hy;cases hy;exact hn
     ·exact hno.out k y (by omega) hy
    have hneb:(x.nm == s)=false:=by simpa using hn
    obtain⟨xn,xd,xl⟩:=x
    simp only at v0 hneb
    clear hx hn
    go_wp2
    go_round
    case rel=>exact⟨i,by omega,by go_num,hnext.out⟩
    case measure=>simp[intOf]
end Go.Proofs.YtomniogfpfbolaaGreatDoor
