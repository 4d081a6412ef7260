/- The program's reader: what an expression is made of: the walk. -/
import Derived.Test.YtfbpdbndejefdaaGreatDoorS34
namespace Go.Proofs.YtfbpdbndejefdaaGreatDoor
open Go.RowKit Go
set_option maxRecDepth 100000
set_option maxHeartbeats 8000000
set_option linter.all false
theorem b4j{tm:Array Value}{W:World}{B:Nat}{a b c d:Value}(h:tm[2]?.getD undef=Po B 0)(hx:W.heap[B]?=some (.cells #[a,b,c,d] 43)):(results Tryz.f177 tm).run Tryz.prog W=.ok (.agg #[a,b,c,d]) W:=by
 obtain⟨c0,c1,c2,c3,_,_,_,_⟩:=in4 hx
 simp[results,Tryz.results177,go_sem,h,c0,c1,c2,c3]
theorem d3m(B:Nat)(ts:List Tok)(i:Nat)(k:Int)(t:List UInt8)(n:Int)(w:World)(hC:Ctx w B ts i)(hL:∀u,Ctx u B ts i->Cl 178 #[Po B 0] u (LU u B ts ⟨k,t,n,[]⟩ true (i+1))):Cl 177 #[Po B 0] w (PAns no w B ts (.inr (⟨k,t,n,[]⟩,rest ts (i+1)))):=by
 have p:=hC.R.lt
 have v:Bw w (w.alloc zbx):=ext_alloc (Below.refl _ _) _
 have h2:=a0a w zbx
 have s:a0b (fun k=>k=B) w (w.alloc zbx):=a0b.of_below v
 have o:=hL _ (hC.below v)
 clear hL
 go_enter Tryz.func177,Tryz.ntmps177
 go_wp2_with (go_at_call 178;refine o.mono ?_;rintro e w1 ⟨rfl,q,z⟩;have g2:=z.box h2 (by omega);obtain⟨x0,a,d,f,g,h,j,m⟩:=in4a g2;refine Hid.out ?_)
 refine Lib.hid ?_
 go_wp2
 have y:Bw w1 (w1.alloc (nbx ⟨k,t,n,[]⟩ none 0)):=ext_alloc (Below.refl _ _) _
 refine bodyPost_ret (b4j rfl (a0f _ _ _ _ (block_alloc _ g2))) rfl ?_
 exact a0j (N:=⟨k,t,n,[]⟩) rfl (a5u _ _ k t n) (q.below y) ((s.trans z).trans (a0b.of_below y)) (Nat.le_refl _) p
theorem d7r(q:Int)(r:PRes)(B:Nat)(ts:List Tok)(i:Nat)(w:World)(hC:Ctx w B ts i)(hL:∀u,Ctx u B ts i->Cl 178 #[Po B 0] u (LU u B ts ⟨q,[],0,[]⟩ false i))(hy:tx (rest ts i)=S.lc)(hP:need S.rc (rest ts (i+1)) (fun l=>.ok (nd 19 []) l)=some r):Cl 177 #[Po B 0] w (PAns no w B ts r):=by
 have z5:=hC.R.lt
 have z:Bw w (w.alloc zbx):=ext_alloc (Below.refl _ _) _
 have h2:=a0a w zbx
 have m:a0b (fun k=>k=B) w (w.alloc zbx):=a0b.of_below z
 have hc:=hL _ (hC.below z)
 clear hL
 go_enter Tryz.func177,Tryz.ntmps177
 go_wp2_with (first|(go_at_call 178;refine hc.mono ?_;rintro e w1 ⟨rfl,h,s⟩;have g2:=s.box h2 (by omega))|(go_at_call 102;refine Hid.out ?_))
 have v:Bw w1 (w1.alloc (nbx ⟨q,[],0,[]⟩ none 0)):=ext_alloc (Below.refl _ _) _
 have g:=hC.on (h.below v)
 have f:=block_below v g2
 have n:=(m.trans s).trans (a0b.of_below v)
 obtain⟨U,j⟩:∃U,w1.alloc (nbx ⟨q,[],0,[]⟩ none 0)=U:=⟨_,rfl⟩
 rw[j]at g f n
 replace j:w1.alloc (.cells #[vi q,.string ⟨#[]⟩,vi 0,.slice none 0 0] 43)=U:=j
 have a:=fun u hb=>g.takes_yes c7d hy u hb
 have z:=Below.refl U.heap.size U
 have z4:=block_lt f
 clear hc h s m g2 h2 v
 rw[j]
 clear j
 refine Lib.hid ?_
 go_wp2_with (first
  | (go_at_call_of 102 (Value.string ⟨#[123]⟩);refine(a _ z).mono ?_;rintro e wy ⟨rfl,z9,p⟩;have o:=(n.trans (a0b.of_below (S:=fun k=>k=B) z)).trans p;have g2:=p.box f (by omega);have z6:=hC.on z9)
  | (go_at_call 99;refine(z6.wantsU d9i hP _ (Below.refl _ _)).mono ?_;rintro e w3 (⟨rfl,d,rfl,y⟩|⟨z7,rfl,z8,y⟩);(exact⟨rfl,a0d rfl d (o.trans y)⟩);have q2:=y.box g2 (by omega);obtain⟨c0,c1,c2,c3,f0,f1,f2,f3⟩:=in4 q2))
 obtain rfl:=Option.some.inj z7
 refine bodyPost_ret (b4j rfl (a0f _ _ _ _ q2)) rfl ?_
 exact a0j (N:=nd 19 []) rfl (a5u _ _ 19 [] 0) z8 (o.trans y) (Nat.le_refl _) z5
theorem c7y(f:Nat)(q:Int)(r:PRes)(B:Nat)(ts:List Tok)(i:Nat)(w:World)(hC:Ctx w B ts i)(hL:∀u,Ctx u B ts i->Cl 178 #[Po B 0] u (LU u B ts ⟨q,[],0,[]⟩ false i))(hE:a6g f)(hn0:¬tx (rest ts i)=S.lc)(hy:tx (rest ts i)=W.next_)(hP:need S.lp (rest ts (i+1)) (fun l=>(P f 0 nil0 0 l).on fun x l=>need S.cm l fun l=>(P f 0 nil0 0 l).on fun y l=>need S.rp l fun l=>.ok (nd 26 [x,y]) l)=some r):Cl 177 #[Po B 0] w (PAns no w B ts r):=by
 have z2:=hC.R.lt
 have s:Bw w (w.alloc zbx):=ext_alloc (Below.refl _ _) _
 have h2:=a0a w zbx
 have z7:a0b (fun k=>k=B) w (w.alloc zbx):=a0b.of_below s
 have hc:=hL _ (hC.below s)
 clear hL
 go_enter Tryz.func177,Tryz.ntmps177
 go_wp2_with (first|(go_at_call 178;refine hc.mono ?_;rintro e w1 ⟨rfl,z4,d⟩;have g2:=d.box h2 (by omega))|(go_at_call 102;refine Hid.out ?_))
 have z:Bw w1 (w1.alloc (nbx ⟨q,[],0,[]⟩ none 0)):=ext_alloc (Below.refl _ _) _
 have z8:=hC.on (z4.below z)
 have z0:=block_below z g2
 have g:=(z7.trans d).trans (a0b.of_below z)
 obtain⟨U,hU⟩:∃U,w1.alloc (nbx ⟨q,[],0,[]⟩ none 0)=U:=⟨_,rfl⟩
 rw[hU]at z8 z0 g
 replace hU:w1.alloc (.cells #[vi q,.string ⟨#[]⟩,vi 0,.slice none 0 0] 43)=U:=hU
 have z5:=fun u hb=>z8.takes_no c7d hn0 u hb
 have z6:=fun u hb=>z8.takes_yes b5s hy u hb
 have s:=Below.refl U.heap.size U
 have y9:=block_lt z0
 clear hc z4 d z7 g2 h2 z
 rw[hU]
 clear hU
 refine Lib.hid ?_
 cases r with
 | inl l =>
  go_wp2_with (first
  | (go_at_call_of 102 (Value.string ⟨#[123]⟩);refine(z5 _ s).mono ?_;rintro e w2 ⟨rfl,v⟩;have z:=ext_trans s v;have z1:=block_below v z0)
  | (go_at_call_of 102 (Value.string ⟨#[110,101,120,116]⟩);refine(z6 _ z).mono ?_;rintro e wy ⟨rfl,a,o⟩;have h:=(g.trans (a0b.of_below (S:=fun k=>k=B) z)).trans o;have g2:=o.box z1 (by omega);have z9:=hC.on a)
  | (go_at_call 179;refine(c3t f hE _ B ts _ _ z9 hP).mono ?_;rintro e w3 ⟨j,hj,z3,rfl,m⟩))
  exact⟨rfl,a0d hj z3 (h.trans m)⟩
 | inr p =>
  obtain⟨n,l⟩:=p
  go_wp2_with (first
  | (go_at_call_of 102 (Value.string ⟨#[123]⟩);refine(z5 _ s).mono ?_;rintro e w2 ⟨rfl,v⟩;have z:=ext_trans s v;have z1:=block_below v z0)
  | (go_at_call_of 102 (Value.string ⟨#[110,101,120,116]⟩);refine(z6 _ z).mono ?_;rintro e wy ⟨rfl,a,o⟩;have h:=(g.trans (a0b.of_below (S:=fun k=>k=B) z)).trans o;have g2:=o.box z1 (by omega);have z9:=hC.on a)
  | (go_at_call 179;refine(c3t f hE _ B ts _ _ z9 hP).mono ?_;rintro e w3 ⟨j,b,cap,hj,rfl,hN,hR,m⟩;have q2:=m.box g2 (by omega);obtain⟨c0,c1,c2,c3,f0,f1,f2,f3⟩:=in4 q2))
  refine bodyPost_ret (b4j rfl (a0f _ _ _ _ q2)) rfl ?_
  exact a0j hj (hN.weak (fun q hq _=>by have:=block_lt g2;rcases hq with hq|hq;exact hq.elim;exact⟨.inr (by omega),by omega⟩)) hR (h.trans m) (Nat.le_refl _) z2
theorem d7s(f:Nat)(q:Int)(r:PRes)(B:Nat)(ts:List Tok)(i:Nat)(w:World)(hC:Ctx w B ts i)(hL:∀u,Ctx u B ts i->Cl 178 #[Po B 0] u (LU u B ts ⟨q,[],0,[]⟩ false i))(hE:a6g f)(hn0:¬tx (rest ts i)=S.lc)(hn1:¬tx (rest ts i)=W.next_)(hy:tx (rest ts i)=S.lp)(hP:(P f 0 nil0 0 (rest ts (i+1))).on (fun n l=>need S.rp l fun l=>.ok n l)=some r):Cl 177 #[Po B 0] w (PAns no w B ts r):=by
 have x5:=hC.R.lt
 have p:Bw w (w.alloc zbx):=ext_alloc (Below.refl _ _) _
 have h2:=a0a w zbx
 have y8:a0b (fun k=>k=B) w (w.alloc zbx):=a0b.of_below p
 have hc:=hL _ (hC.below p)
 clear hL
 go_enter Tryz.func177,Tryz.ntmps177
 go_wp2_with (first|(go_at_call 178;refine hc.mono ?_;rintro e w1 ⟨rfl,y3,z8⟩;have g2:=z8.box h2 (by omega))|(go_at_call 102;refine Hid.out ?_))
 have z:Bw w1 (w1.alloc (nbx ⟨q,[],0,[]⟩ none 0)):=ext_alloc (Below.refl _ _) _
 have m:=hC.on (y3.below z)
 have z0:=block_below z g2
 have z4:=(y8.trans z8).trans (a0b.of_below z)
 obtain⟨U,hU⟩:∃U,w1.alloc (nbx ⟨q,[],0,[]⟩ none 0)=U:=⟨_,rfl⟩
 rw[hU]at m z0 z4
 replace hU:w1.alloc (.cells #[vi q,.string ⟨#[]⟩,vi 0,.slice none 0 0] 43)=U:=hU
 have y4:=fun u hb=>m.takes_no c7d hn0 u hb
 have y5:=fun u hb=>m.takes_no b5s hn1 u hb
 have y6:=fun u hb=>m.takes_yes b3t hy u hb
 have p:=Below.refl U.heap.size U
 have x1:=block_lt z0
 clear hc y3 z8 y8 g2 h2 z
 rw[hU]
 clear hU
 refine Lib.hid ?_
 go_wp2_with (first
  | (go_at_call_of 102 (Value.string ⟨#[123]⟩);refine(y4 _ p).mono ?_;rintro e w2 ⟨rfl,d⟩;have z:=ext_trans p d;have z1:=block_below d z0)
  | (go_at_call_of 102 (Value.string ⟨#[110,101,120,116]⟩);refine(y5 _ z).mono ?_;rintro e w3 ⟨rfl,g⟩;have z7:=ext_trans z g;have z2:=block_below g z1)
  | (go_at_call_of 102 (Value.string ⟨#[40]⟩);refine(y6 _ z7).mono ?_;rintro e wy ⟨rfl,y1,z9⟩;have z5:=(z4.trans (a0b.of_below (S:=fun k=>k=B) z7)).trans z9;have g2:=z9.box z2 (by omega);have x6:=hC.on y1)
  | (go_at_call 163;refine(a7o hP (fun r0 h=>hE r0 B ts _ _ x6 h)).mono ?_;rintro e w3 (⟨j,rfl,a,rfl,s⟩|⟨n1,j1,b1,y,z6,rfl,x7,x9,s⟩);(exact⟨rfl,a0d rfl a (z5.trans s)⟩);(try dsimp only at z6);have y9:=z5.trans s;have g3:=s.box g2 (by omega);have x3:=z9.size;have x2:=z7.size;refine Hid.out ?_))
 have x0:=s.size
 have o:Bw w3 (w3.alloc (nbx n1 b1 y)):=ext_alloc (Below.refl _ _) _
 have q4:=a0a w3 (nbx n1 b1 y)
 have x4:=block_below o g3
 have y2:NdV (fun q=>w.heap.size<q) (w3.alloc (nbx n1 b1 y)) n1 (ndv n1 b1 y):=(x7.weak (fun q hq _=>by omega)).below o
 have z3:=y9.trans (a0b.of_below o)
 have y7:=(hC.on x9).wantsU b5i z6 _ o
 rw[World.size_alloc]at y7
 clear y4 y5 y6 z6 hP
 refine Lib.hid ?_
 go_wp2_with (go_at_call 99;refine y7.mono ?_;rintro e w5 (⟨rfl,a,rfl,v⟩|⟨x8,rfl,y0,v⟩);(exact⟨rfl,a0d rfl a (z3.trans v)⟩);have p3:=v.box q4 (by omega);have p2:=v.box x4 (by omega);obtain⟨c0,c1,c2,c3,f0,f1,f2,f3⟩:=in4 p3;obtain⟨d0,d1,d2,d3,e0,e1,e2,e3⟩:=in4 p2)
 obtain rfl:=Option.some.inj x8
 refine bodyPost_ret (b4j rfl (a0f _ _ _ _ p2)) rfl ?_
 exact a0j rfl ((y2.keep v (fun q hq _=>by omega)).weak (fun q hq _=>⟨.inr (by omega),by omega⟩)) y0 (z3.trans v) (Nat.le_refl _) x5
theorem c7z(q:Int)(r:PRes)(B:Nat)(ts:List Tok)(i:Nat)(w:World)(hC:Ctx w B ts i)(hL:∀u,Ctx u B ts i->Cl 178 #[Po B 0] u (LU u B ts ⟨q,[],0,[]⟩ false i))(hn0:¬tx (rest ts i)=S.lc)(hn1:¬tx (rest ts i)=W.next_)(hn2:¬tx (rest ts i)=S.lp)(hP:a0v (rest ts i) (fun s l=>.ok ⟨18,s,0,[]⟩ l)=some r):Cl 177 #[Po B 0] w (PAns no w B ts r):=by
 have y8:=hC.R.lt
 have y:Bw w (w.alloc zbx):=ext_alloc (Below.refl _ _) _
 have h2:=a0a w zbx
 have f:a0b (fun k=>k=B) w (w.alloc zbx):=a0b.of_below y
 have hc:=hL _ (hC.below y)
 clear hL
 go_enter Tryz.func177,Tryz.ntmps177
 go_wp2_with (first|(go_at_call 178;refine hc.mono ?_;rintro e w1 ⟨rfl,z9,h⟩;have g2:=h.box h2 (by omega))|(go_at_call 102;refine Hid.out ?_))
 have z:Bw w1 (w1.alloc (nbx ⟨q,[],0,[]⟩ none 0)):=ext_alloc (Below.refl _ _) _
 have v:=hC.on (z9.below z)
 have z0:=block_below z g2
 have j:=(f.trans h).trans (a0b.of_below z)
 obtain⟨U,hU⟩:∃U,w1.alloc (nbx ⟨q,[],0,[]⟩ none 0)=U:=⟨_,rfl⟩
 rw[hU]at v z0 j
 replace hU:w1.alloc (.cells #[vi q,.string ⟨#[]⟩,vi 0,.slice none 0 0] 43)=U:=hU
 have z5:=fun u a=>v.takes_no c7d hn0 u a
 have z6:=fun u a=>v.takes_no b5s hn1 u a
 have z7:=fun u a=>v.takes_no b3t hn2 u a
 have y:=Below.refl U.heap.size U
 have y7:=block_lt z0
 clear hc z9 h f g2 h2 z
 rw[hU]
 clear hU
 refine Lib.hid ?_
 go_wp2_with (first
  | (go_at_call_of 102 (Value.string ⟨#[123]⟩);refine(z5 _ y).mono ?_;rintro e w2 ⟨rfl,m⟩;have z:=ext_trans y m;have z1:=block_below m z0)
  | (go_at_call_of 102 (Value.string ⟨#[110,101,120,116]⟩);refine(z6 _ z).mono ?_;rintro e w3 ⟨rfl,n⟩;have d:=ext_trans z n;have z2:=block_below n z1)
  | (go_at_call_of 102 (Value.string ⟨#[40]⟩);refine(z7 _ d).mono ?_;rintro e w4 ⟨rfl,o⟩;have g:=ext_trans d o;have z3:=block_below o z2)
  | (go_at_call 100;refine(v.nameU hP _ g).mono ?_;rintro e w6 (⟨rfl,z8,rfl,p⟩|⟨s,y9,rfl,z4,p⟩);(exact⟨rfl,a0d rfl z8 ((j.trans (a0b.of_below g)).trans p)⟩);have g2:=p.box z3 (by omega);obtain⟨c0,c1,c2,c3,f0,f1,f2,f3⟩:=in4 g2))
 obtain rfl:=Option.some.inj y9
 refine bodyPost_ret (b4j rfl (a0f _ _ _ _ g2)) rfl ?_
 exact a0j (N:=⟨18,s,0,[]⟩) rfl (a5u _ _ 18 s 0) z4 ((j.trans (a0b.of_below g)).trans p) (Nat.le_refl _) y8
theorem d7t(f:Nat)(hE:a6g f):SimC (f+1):=by
 intro r B ts i w v u
 rcases lit_any f r B ts i w v u with⟨N,rfl,hk,y⟩|⟨q,z,y⟩
 ·obtain⟨k,t,n,kids⟩:=N
  simp only at hk
  subst hk
  exact d3m B ts i k t n w v y
 ·unfold a9e at z
  rw[a0x]at z
  split at z
  ·rename_i h1
   exact d7r q r B ts i w v y h1 z
  rename_i h1
  split at z
  ·rename_i h2
   exact c7y f q r B ts i w v y hE h1 h2 z
  rename_i h2
  split at z
  ·rename_i h3
   exact d7s f q r B ts i w v y hE h1 h2 h3 z
  ·rename_i h3
   exact c7z q r B ts i w v y h1 h2 h3 z
end Go.Proofs.YtfbpdbndejefdaaGreatDoor
