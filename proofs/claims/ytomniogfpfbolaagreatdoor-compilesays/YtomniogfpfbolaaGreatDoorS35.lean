import Derived.Test.YtomniogfpfbolaaGreatDoorS31
namespace Go.Proofs.YtomniogfpfbolaaGreatDoor
open Go.RowKit Go
set_option maxRecDepth 100000
set_option maxHeartbeats 8000000
set_option linter.all false
variable {w:World} {B cap cap1 j:Nat} {ts:List Tok} {x y z:Nd} {b a0 a1 a2 a3 a c d:Value} {b1:Option Addr} {tm:Array Value} {D:Nat->Prop} {k:Int}
theorem c0e{b:Option Addr}{W:World}(k n:Int)(hx:NdV (fun q=>w.heap.size<q) W x (ndv x b cap))(hy:NdV (fun q=>w.heap.size<q) W y (ndv y b1 cap1))(hR:Rd W B ts j)(hk:a0b (fun k=>k=B) w W)(hB:B<w.heap.size)(g:W.heap[w.heap.size]?=some (.cells #[a0,a1,a2,a3] 34)) :
  PAns no w B ts (.inr (⟨k,[],n,[x,y]⟩,rest ts j)) (.returned (ndv ⟨k,[],n,[x,y]⟩ (some (Ad W.heap.size 0)) 2)) (put4 (W.alloc (.cells #[vi x.k,sk x.t,vi x.n,.slice b x.kids.length cap,vi y.k,sk y.t,vi y.n,.slice b1 y.kids.length cap1] 34)) w.heap.size (vi k) (sk []) (vi n) (.slice (some (Ad W.heap.size 0)) 2 2)):=by
 obtain⟨h1,h2,h3⟩:=a9f k n hx hy (fun q hq=>by omega) (q5z g) g rfl
 exact⟨j,_,2,rfl,rfl,h1.weak (fun q hq _=>.inr (by omega)),hR.keep h3 (fun q hq=>by omega),hk.then h3 (fun q hq e=>by omega)⟩
theorem d6f{W:World}(h:tm[2]?.getD undef=Po B 0)(hx:W.heap[B]?=some (.cells #[a,b,c,d] 34)):(results Tryz.f164 tm).run Tryz.prog W=.ok (.agg #[a,b,c,d]) W:=by
 obtain⟨c0,c1,c2,c3,_,_,_,_⟩:=in4 hx
 simp[results,Tryz.results164,go_sem,h,c0,c1,c2,c3]
theorem d3a(f:Nat)(hE:a6z f)(hB:BlkC f)(r:PRes)(B:Nat)(ts:List Tok)(i:Nat)(w:World)(hC:Ctx w B ts i)(hP:(P f 0 nil0 0 (rest ts i)).on (fun x l=>need W.do_ l fun l=>(P f 7 (nd 4 []) 0 l).on fun b l=>need W.end_ l fun l=>.ok (nd 9 [x,b]) l)=some r):Cl 164 #[Po B 0] w (PAns no w B ts r):=by
 have y5:=hC.R.lt
 have z6:Bw w (w.alloc zbx):=q1z bz0 _
 have h2:=a0a w zbx
 have z8:a0b (fun k=>k=B) w (w.alloc zbx):=a0b.of_below z6
 have z7:=a8e hP (fun r0 h=>hE r0 B ts i _ (hC.below z6) h)
 clear hP
 go_enter Tryz.func164,Tryz.ntmps164
 go_wp2_with (go_at_call 173;refine z7.mono ?_;rintro e w1 (⟨j,rfl,n,rfl,v⟩|⟨p,j,a,z,d,rfl,z3,z4,v⟩);(exact⟨rfl,a0e rfl n (z8.trans v)⟩);(try dsimp only at d);refine Hid.out ?_)
 have g2:=v.box h2 (by omega)
 have z0:=q5z g2
 have s:Bw w1 (w1.alloc (nbx p a z)):=q1z bz0 _
 have c:=a0a w1 (nbx p a z)
 have z1:=q0z s g2
 have g:=(z8.trans v).trans (a0b.of_below s)
 have o:NdV (fun q=>w.heap.size<q) (w1.alloc (nbx p a z)) p (ndv p a z):=(z3.weak (fun q hq _=>by simp at hq;omega)).below s
 have y9:=fun u h=>c4o f hB r B ts j u h (fun b l=>.ok (nd 9 [p,b]) l) d
 have z2:=(hC.on z4).below s
 have z9:(w1.alloc (nbx p a z)).heap.size=w1.heap.size+1:=World.size_alloc _ _
 obtain⟨W1,z5⟩:=exq (w1.alloc (nbx p a z))
 rw[z5]at c z1 g o z2 z9
 obtain⟨t,ht⟩:=exq (w1.heap.size)
 clear d z7 z3 z4 v h2 g2 s
 refine Lib.hid ?_
 go_wp2
 rw[ht]at c z0 z9
 clear z5 ht
 obtain⟨c0,c1,c2,c3,f0,f1,f2,f3⟩:=in4 c
 go_region_with ((go_at_call 174;refine(y9 _ (z2.below (bz0.drew))).mono ?_;rintro e w2 (⟨j2,rfl,n,rfl,y⟩|⟨n2,j2,b2,y4,y7,rfl,y6,y8,y⟩);(exact⟨rfl,a0e rfl n ((g.drew).trans y)⟩);have c:=y.box c (by omega);have g2:=y.box z1 (by omega);obtain⟨c0,c1,c2,c3,f0,f1,f2,f3⟩:=in4 c;obtain⟨d0,d1,d2,d3,e0,e1,e2,e3⟩:=in4a g2))
 all_goals
  go_wp2
  refine bodyPost_ret (d6f rfl (a0c _ _ _ _ (q4z _ g2))) rfl ?_
  obtain rfl:=Option.some.inj y7
  exact c0e 9 0 ((o.below (bz0.drew)).keep y (fun q hq _=>by omega)) (y6.weak (fun q hq _=>by simp at hq;omega)) y8 ((g.drew).trans y) y5 g2
def GU (D:Nat->Prop) (va:Value) (w:World) (B:Nat) (ts:List Tok) (r:PRes) (e:Ending) (w':World):Prop :=
 (∃j,r=.inl (rest ts j)/\j<=ts.length/\e=.panicked (pan (gv ts j))/\a0b (fun q=>q=B\/some q=va.ownBlock) w w') \/
 (∃N j b cap,r=.inr (N,rest ts j)/\e=.returned (ndv N b cap)/\NdV (fun g=>D g\/w.heap.size<=g) w' N (ndv N b cap)/\Rd w' B ts j/\a0b (fun q=>q=B\/some q=va.ownBlock) w w')
theorem d6g{W:World}(h:tm[6]?.getD undef=Po B 0)(hx:W.heap[B]?=some (.cells #[a,b,c,d] 34)):(results Tryz.f166 tm).run Tryz.prog W=.ok (.agg #[a,b,c,d]) W:=by
 obtain⟨c0,c1,c2,c3,_,_,_,_⟩:=in4 hx
 simp[results,Tryz.results166,go_sem,h,c0,c1,c2,c3]
theorem a0b.orB{T:Nat->Prop}{W:World}(h:a0b (fun k=>k=B) w W):a0b (fun q=>q=B\/T q) w W:=h.mono (fun _ _ h=>.inl h)
theorem b8g(f:Nat)(hE:a6z f)(k:Int)(D:Nat->Prop)(ks:List Nd)(bv:Option Addr)(cv:Nat)(r:PRes)(B:Nat)(ts:List Tok)(i:Nat)(w:World)(hC:Ctx w B ts i)(hRow:Row D w (.slice bv ks.length cv) ks)(hD:∀g,D g->g≠B)(z1:∀g,Value.ownBlock (.slice bv ks.length cv)=some g->B<g)(hl:ks.length<=4)(hP:(P f 0 nil0 0 (rest ts i)).on (fun x l=>need S.sc l fun l=>.ok ⟨k,[],0,ks++[x]⟩ l)=some r):Cl 166 #[Po B 0,vi k,.slice bv ks.length cv] w (GU D (.slice bv ks.length cv) w B ts r):=by
 obtain⟨i0,w7,x1,x2,x3⟩:=info_parts a5w
 have w0:=hC.R.lt
 have y2:Bw w (w.alloc zbx):=q1z bz0 _
 have h2:=a0a w zbx
 have y4:a0b (fun k=>k=B) w (w.alloc zbx):=a0b.of_below y2
 have y3:=a8e hP (fun r0 h=>hE r0 B ts i _ (hC.below y2) h)
 obtain⟨_,_,_,u⟩:=hRow.form
 have w9:ks.length+1<=maxLen:=by unfold maxLen;omega
 have x0:(ks.length+1)*56<=140737488355328:=by omega
 replace u:Hid _:=u
 replace z1:Hid _:=z1
 clear hP
 go_enter Tryz.func166,Tryz.ntmps166
 go_wp2_with (first|(go_at_call 173;refine y3.mono ?_;rintro e w1 (⟨j,rfl,z0,rfl,b⟩|⟨o,j,b1,z,y9,rfl,x6,x9,b⟩);(exact⟨rfl,.inl ⟨j,rfl,z0,rfl,(y4.trans b).orB⟩⟩);(try dsimp only at y9))|(at_builtin;refine Hid.out ?_))
 have g2:=b.box h2 (by omega)
 have v8:=q5z g2
 have y6:=y4.trans b
 have n:Bw w1 (w1.alloc (nbx o b1 z)):=q1z bz0 _
 have gn:=a0a w1 (nbx o b1 z)
 have z3:=q0z n g2
 have z9:Row (fun g=>(D g\/w.heap.size<=g)/\g≠w.heap.size) (w1.alloc (nbx o b1 z)) (.slice bv ks.length cv) ks:=(((hRow.weak (S':=fun g=>D g/\g<w.heap.size) (fun g a w8=>⟨a,w8⟩)).keep y6 (fun g a _=>hD g a.1)).weak (fun g a _=>⟨.inl a.1,by omega⟩)).below n
 obtain⟨xs,ho,hs,hn⟩:=z9.own
 have z8:=x9.below n
 have z7:NdV (fun q=>w.heap.size<q) (w1.alloc (nbx o b1 z)) o (ndv o b1 z):=(x6.weak (fun q hq _=>by simp at hq;omega)).below n
 have y8:(w1.alloc (nbx o b1 z)).heap.size=w1.heap.size+1:=World.size_alloc _ _
 obtain⟨W1,z4⟩:=exq (w1.alloc (nbx o b1 z))
 have c:=y6.trans (a0b.of_below n)
 rw[z4]at gn z3 ho hn z8 z7 y8 c
 dsimp only[nbx]at z4
 rw[z4]
 clear n z4 y3 b x6 x9 z9 g2
 refine Lib.hid ?_
 go_wp2_with (first
  | (at_builtin;refine wpList_append_lies _ (by rfl) _ _ _ (by rfl) 0 34 i0 _ 4 56 Tryz.underlying32 w7 x1 x2 x3 rfl (by omega) (.slice bv ks.length cv) ks.length xs (by rfl) ho (Ad w1.heap.size 0) 1 1 _ (by rfl) (by rfl) (a2c o b1 z gn) (by simp[Value.oneCell']) (by omega) w9 x0 (Nat.zero_le _) _ rfl ?_;intro g3 v w3 d y y1 y7)
  | (go_at_call 127;refine Hid.out ?_))
 have hy:NdV (fun q=>((D q\/w.heap.size<=q)/\q≠w.heap.size)/\some q≠Value.ownBlock (.slice bv ks.length cv)) W1 o (ndv o b1 z):=z7.weak (fun q hq _=>⟨⟨.inr (by omega),by omega⟩,fun e=>by have:=(u.out q e.symm).2;omega⟩)
 have p:=Row.snoc ho hs hn hy d y y1 (fun q hq=>⟨.inr (by omega),by omega⟩)
 have el:(ks++[o]).length=ks.length+1:=by simp
 rw[<- el]at p
 have y5:a0b (fun q=>q=B\/some q=Value.ownBlock (.slice bv ks.length cv)) w w3:=c.orB.then (a0b.grown y) (fun q _ h=>.inr h)
 have x4:=(y.block _ (q5z z3) (fun e=>by have:=(u.out _ e.symm).2;omega)).trans z3
 have y0:=z8.keep (a0b.grown y) (fun q hq e=>by have:=z1.out q e.symm;omega)
 have v7:w1.heap.size+1<=w3.heap.size:=by have:=y.size;omega
 obtain⟨N,hN⟩:∃N:Nd,N=⟨k,[],0,ks++[o]⟩:=⟨_,rfl⟩
 have z6:Bw w3 (w3.alloc (nbx N (some (Ad g3 0)) v)):=q1z bz0 _
 have g7:=a0a w3 (nbx N (some (Ad g3 0)) v)
 have x5:=q0z z6 x4
 have w2:=(hC.on y0).below z6
 have x7:NdV (fun g=>(D g\/w.heap.size<=g)/\g≠w.heap.size) (w3.alloc (nbx N (some (Ad g3 0)) v)) N (ndv N (some (Ad g3 0)) v):=by
  subst hN
  exact(p.node k [] 0).below z6
 have z5:=w2.wantsU d5z y9 _ bz0
 rw[World.size_alloc]at z5
 have t:nbx N (some (Ad g3 0)) v=.cells #[vi k,.string ⟨#[]⟩,vi 0,.slice (some (Ad g3 0)) (ks.length+1) v] 34:=by
  subst hN
  rw[<- el]
 rw[<- hN]at z5
 have z2:=y5.trans (a0b.of_below z6)
 have v9:(w3.alloc (nbx N (some (Ad g3 0)) v)).heap.size=w3.heap.size+1:=World.size_alloc _ _
 rw[t]at z5
 replace t:Hid _:=t
 replace hN:Hid _:=hN
 clear el d y y1 y7 ho hs hn hy p y0 x4 gn z3 z8 z7 c y5 y9
 refine Lib.hid ?_
 go_wp2_with (go_at_call 127;refine z5.mono ?_;rintro e w5 (⟨rfl,z0,rfl,s⟩|⟨w4,rfl,w6,s⟩);(rw[<- t.out]at s;exact⟨rfl,.inl ⟨j,rfl,z0,rfl,z2.trans s.orB⟩⟩);rw[<- t.out]at s;have p7:=s.box g7 (by omega);have p6:=s.box x5 (by omega);obtain⟨c0,c1,c2,c3,f0,f1,f2,f3⟩:=in4 p7;obtain⟨d0,d1,d2,d3,e0,e1,e2,e3⟩:=in4 p6)
 refine bodyPost_ret (d6g rfl (a0c _ _ _ _ p6)) rfl ?_
 have x8:=x7.keep s (fun g a _=>by rcases a.1 with h|h;exact hD g h;omega)
 refine .inr ⟨N,j+1,some (Ad g3 0),v,(Option.some.inj w4).symm,rfl,?_,w6.put4 _ _ _ _ _ w0,a1f (z2.trans s.orB) _ _ _ _ _ (Nat.le_refl _)⟩
 exact(x8.put4 _ _ _ _ _ (fun g a=>a.2)).weak (fun g a _=>a.1)
theorem NdV.text{W:World}{t:List UInt8}{n:Int}{ks:List Nd}{b:Option Addr}(h:NdV D W ⟨k,t,n,ks⟩ (ndv ⟨k,t,n,ks⟩ b cap))(s:List UInt8):NdV D W ⟨k,s,n,ks⟩ (ndv ⟨k,s,n,ks⟩ b cap):=by
 obtain⟨b',cap',e,h4,h5⟩:=h.form
 simp only[Value.agg.injEq,Array.mk.injEq,List.cons.injEq,Value.slice.injEq,true_and,and_true]at e
 obtain⟨rfl,rfl⟩:=e
 exact c1v h4 h5
theorem c0f{f:Nat}{l:List PT}{s:List UInt8}{r:PRes}(h:(P f 0 nil0 0 l).on (fun x l=>need S.sc l fun l=>.ok ⟨k,s,0,[x]⟩ l)=some r) :
  ∃z,(P f 0 nil0 0 l).on (fun x l=>need S.sc l fun l=>.ok ⟨k,[],0,[]++[x]⟩ l)=some z/\((∃l1,z=.inl l1/\r=.inl l1)\/∃x l1,z=.inr (⟨k,[],0,[x]⟩,l1)/\r=.inr (⟨k,s,0,[x]⟩,l1)):=by
 obtain⟨r0,w,h1⟩:=a4d h
 rw[w]
 rcases h1 with⟨l1,rfl,rfl⟩|⟨n,l1,rfl,h1⟩
 ·exact⟨.inl l1,rfl,.inl ⟨l1,rfl,rfl⟩⟩
 ·rcases need_some h1 with⟨y,h2⟩|⟨y,rfl⟩
  ·refine⟨.inr (⟨k,[],0,[n]⟩,l1.tail),?_,.inr ⟨n,l1.tail,rfl,(Option.some.inj h2).symm⟩⟩
   show need S.sc l1 _=_
   unfold need
   rw[if_pos y]
   rfl
  ·refine⟨.inl l1,?_,.inl ⟨l1,rfl,rfl⟩⟩
   show need S.sc l1 _=_
   unfold need
   rw[if_neg y]
theorem b0l(f:Nat)(hE:a6z f)(k:Int)(r:PRes)(B:Nat)(ts:List Tok)(i:Nat)(w:World)(hC:Ctx w B ts i)(hP:(P f 0 nil0 0 (rest ts i)).on (fun x l=>need S.sc l fun l=>.ok ⟨k,[],0,[]++[x]⟩ l)=some r):Cl 166 #[Po B 0,vi k,.slice none 0 0] w (PAns no w B ts r):=by
 refine(b8g f hE k no [] none 0 r B ts i w hC (Row.nil _ _) (fun g h=>h.elim) (fun g h=>by simp[Value.ownBlock]at h) (by simp) hP).mono ?_
 intro e p s
 have v:∀{a b:World},a0b (fun q=>q=B\/some q=Value.ownBlock (.slice none ([]:List Nd).length 0)) a b->a0b (fun q=>q=B) a b:=fun h=>h.mono (fun q _ h=>h.resolve_right (by simp[Value.ownBlock]))
 rcases s with⟨j,rfl,z,rfl,y⟩|⟨N,j,b,cap,rfl,rfl,t,u,y⟩
 ·exact a0e rfl z (v y)
 ·exact⟨j,b,cap,rfl,rfl,t,u,v y⟩
theorem d6h{W:World}(h:tm[2]?.getD undef=Po B 0)(hx:W.heap[B]?=some (.cells #[a,b,c,d] 34)):(results Tryz.f162 tm).run Tryz.prog W=.ok (.agg #[a,b,c,d]) W:=by
 obtain⟨c0,c1,c2,c3,_,_,_,_⟩:=in4 hx
 simp[results,Tryz.results162,go_sem,h,c0,c1,c2,c3]
theorem c8m(f:Nat)(hE:a6z f)(r:PRes)(B:Nat)(ts:List Tok)(i:Nat)(w:World)(hC:Ctx w B ts i)(hP:a0n (rest ts i) (fun s l=>need S.eq l fun l=>(P f 0 nil0 0 l).on fun x l=>need S.sc l fun l=>.ok ⟨5,s,0,[x]⟩ l)=some r):Cl 162 #[Po B 0] w (PAns no w B ts r):=by
 have y9:=hC.R.lt
 have z6:Bw w (w.alloc zbx):=q1z bz0 _
 have h2:=a0a w zbx
 have z9:a0b (fun k=>k=B) w (w.alloc zbx):=a0b.of_below z6
 have z7:=hC.nameU hP _ z6
 clear hP
 go_enter Tryz.func162,Tryz.ntmps162
 go_wp2_with (first
  | (go_at_call 128;refine z7.mono ?_;rintro e w1 (⟨rfl,y,rfl,t⟩|⟨s,c,rfl,z1,t⟩);(exact⟨rfl,a0e rfl y (z9.trans t)⟩);(try dsimp only at c);have o:=z9.trans t;have g1:=t.box h2 (by omega))
  | (go_at_call 127;refine((hC.on z1).wantsU c8g c _ bz0).mono ?_;rintro e w2 (⟨rfl,y,rfl,v⟩|⟨d,rfl,z2,v⟩);(exact⟨rfl,a0e rfl y (o.trans v)⟩);(try dsimp only at d);have p:=o.trans v;have g2:=v.box g1 (by omega);obtain⟨r',b,z⟩:=c0f d;have z8:=b0l f hE 5 r' B ts _ _ (hC.on z2) b;replace z:Hid _:=z;clear b d)
  | (go_at_call 166;refine z8.mono ?_;intro e w3 hA;rcases r' with l1|⟨n3,l1⟩;(obtain⟨j,rfl,y,rfl,u⟩:=hA;rcases z.out with⟨l,h,e2⟩|⟨n,l,h,_⟩;(cases h;subst e2;exact⟨rfl,a0e rfl y (p.trans u)⟩);cases h);obtain⟨j,b3,z5,hj,rfl,z0,z3,u⟩:=hA;have a:=p.trans u;have g3:=u.box g2 (by omega);refine Hid.out ?_))
 rcases z.out with⟨l,h,_⟩|⟨x,l,h,z4⟩
 ·cases h
 cases h
 subst z4
 obtain⟨d0,d1,d2,d3,e0,h,e2,e3⟩:=in4a g3
 have y8:=q5z g1
 have y7:=v.size
 clear z z7 z8 c h2
 refine Lib.hid ?_
 go_wp2
 refine bodyPost_ret (d6h rfl (a0c _ _ _ _ (q4z _ g3))) rfl ?_
 have g:Bw w3 (w3.alloc (nbx ⟨5,s,0,[x]⟩ b3 z5)):=q1z bz0 _
 exact a0m (N:=⟨5,s,0,[x]⟩) hj ((z0.text s).below g |>.weak (fun q hq _=>by rcases hq with hq|hq;exact hq.elim;exact⟨.inr (by omega),by omega⟩)) (z3.below g) (a.trans (a0b.of_below g)) (Nat.le_refl _) y9
theorem Row.three{W:World}{g:Nat}{a' b' c' d' a'' b'' c'' d'':Value}(hm:D g)(s:NdV (fun q=>D q/\q≠g) W x (.agg #[a,b,c,d]))(t:NdV (fun q=>D q/\q≠g) W y (.agg #[a',b',c',d']))(v:NdV (fun q=>D q/\q≠g) W z (.agg #[a'',b'',c'',d'']))(hg:W.heap[g]?=some (.cells #[a,b,c,d,a',b',c',d',a'',b'',c'',d''] 34)) :
  Row D W (.slice (some (Ad g 0)) 3 3) [x,y,z]:=by
 refine⟨[a,b,c,d,a',b',c',d',a'',b'',c'',d''],⟨rfl,.inr ⟨g,3,_,rfl,Nat.zero_le _,hg,Nat.le_refl _,by unfold maxLen;omega,rfl,rfl⟩⟩,fun q e=>by
  have p:g=q:=by simpa[Value.ownBlock]using e
  subst p;exact hm,fun j u w=>?_⟩
 have r:∀q,(D q/\q≠g)->q<W.heap.size->(D q/\some q≠Value.ownBlock (.slice (some (Ad g 0)) 3 3))/\W.heap[q]?=W.heap[q]?:=fun q hq _=>⟨⟨hq.1,fun e=>hq.2 (by simpa[Value.ownBlock]using e)⟩,rfl⟩
 match j,w with
 | 0,w =>
  simp at w;subst w
  obtain⟨_,_,_,_,e,s⟩:=s
  simp only[Value.agg.injEq,Array.mk.injEq,List.cons.injEq,and_true]at e
  obtain⟨rfl,rfl,rfl,rfl⟩:=e
  refine NdAt.on r _ _ _ (fun i u w=>?_) s
  match i,w with
  | 0,w|1,w|2,w|3,w=>simpa using w
  | n+4,w=>simp at w
 | 1,w =>
  simp at w;subst w
  obtain⟨_,_,_,_,e,t⟩:=t
  simp only[Value.agg.injEq,Array.mk.injEq,List.cons.injEq,and_true]at e
  obtain⟨rfl,rfl,rfl,rfl⟩:=e
  refine NdAt.on r _ _ _ (fun i u w=>?_) t
  match i,w with
  | 0,w|1,w|2,w|3,w=>simpa using w
  | n+4,w=>simp at w
 | 2,w =>
  simp at w;subst w
  obtain⟨_,_,_,_,e,v⟩:=v
  simp only[Value.agg.injEq,Array.mk.injEq,List.cons.injEq,and_true]at e
  obtain⟨rfl,rfl,rfl,rfl⟩:=e
  refine NdAt.on r _ _ _ (fun i u w=>?_) v
  match i,w with
  | 0,w|1,w|2,w|3,w=>simpa using w
  | n+4,w=>simp at w
 | n+3,w=>simp at w
theorem b6t{b b2:Option Addr}{cap2:Nat}{W:World}(k:Int)(s:List UInt8)(hx:NdV (fun q=>w.heap.size<q) W x (ndv x b cap))(hy:NdV (fun q=>w.heap.size<q) W y (ndv y b1 cap1))(hz:NdV (fun q=>w.heap.size<q) W z (ndv z b2 cap2))(hR:Rd W B ts j)(hk:a0b (fun k=>k=B) w W)(hB:B<w.heap.size)(g:W.heap[w.heap.size]?=some (.cells #[a0,a1,a2,a3] 34)) :
  PAns no w B ts (.inr (⟨k,s,0,[x,y,z]⟩,rest ts j)) (.returned (ndv ⟨k,s,0,[x,y,z]⟩ (some (Ad W.heap.size 0)) 3)) (put4 (W.alloc (.cells #[vi x.k,sk x.t,vi x.n,.slice b x.kids.length cap,vi y.k,sk y.t,vi y.n,.slice b1 y.kids.length cap1,vi z.k,sk z.t,vi z.n,.slice b2 z.kids.length cap2] 34)) w.heap.size (vi k) (sk s) (vi 0) (.slice (some (Ad W.heap.size 0)) 3 3)):=by
 have p:=q1z (Below.refl W.heap.size W) (.cells #[vi x.k,sk x.t,vi x.n,.slice b x.kids.length cap,vi y.k,sk y.t,vi y.n,.slice b1 y.kids.length cap1,vi z.k,sk z.t,vi z.n,.slice b2 z.kids.length cap2] 34)
 have r:=q5z g
 have go:∀{u:Nd} {v:Value},NdV (fun q=>w.heap.size<q) W u v->NdV (fun q=>w.heap.size<q/\q≠W.heap.size) (W.alloc (.cells #[vi x.k,sk x.t,vi x.n,.slice b x.kids.length cap,vi y.k,sk y.t,vi y.n,.slice b1 y.kids.length cap1,vi z.k,sk z.t,vi z.n,.slice b2 z.kids.length cap2] 34)) u v:=fun h=>(h.weak (fun q hq r=>⟨hq,by omega⟩)).below p
 have h1:=((Row.three (D:=fun q=>w.heap.size<q) r (go hx) (go hy) (go hz) (a0a W _)).node k s 0).put4 w.heap.size (vi k) (sk s) (vi 0) (.slice (some (Ad W.heap.size 0)) 3 3) (fun q hq=>by omega)
 exact⟨j,_,3,rfl,rfl,h1.weak (fun q hq _=>.inr (by omega)),(hR.below p).put4 _ _ _ _ _ hB,a1f (hk.trans (a0b.of_below p)) _ _ _ _ _ (Nat.le_refl _)⟩
theorem d6i{W:World}(h:tm[2]?.getD undef=Po B 0)(hx:W.heap[B]?=some (.cells #[a,b,c,d] 34)):(results Tryz.f165 tm).run Tryz.prog W=.ok (.agg #[a,b,c,d]) W:=by
 obtain⟨c0,c1,c2,c3,_,_,_,_⟩:=in4 hx
 simp[results,Tryz.results165,go_sem,h,c0,c1,c2,c3]
theorem c8n(f:Nat)(hE:a6z f)(hB:BlkC f)(r:PRes)(B:Nat)(ts:List Tok)(i:Nat)(w:World)(hC:Ctx w B ts i)(hP:a0n (rest ts i) (fun s l=>need S.eq l fun l=>(P f 0 nil0 0 l).on fun x l=>need S.cm l fun l=>(P f 0 nil0 0 l).on fun y l=>need W.do_ l fun l=>(P f 7 (nd 4 []) 0 l).on fun b l=>need W.end_ l fun l=>.ok ⟨10,s,0,[x,y,b]⟩ l)=some r):Cl 165 #[Po B 0] w (PAns no w B ts r):=by
 have t3:=hC.R.lt
 have x7:Bw w (w.alloc zbx):=q1z bz0 _
 have h2:=a0a w zbx
 have x9:a0b (fun k=>k=B) w (w.alloc zbx):=a0b.of_below x7
 have x8:=hC.nameU hP _ x7
 clear hP
 go_enter Tryz.func165,Tryz.ntmps165
 go_wp2_with (first
  | (go_at_call 128;refine x8.mono ?_;rintro e w1 (⟨rfl,z,rfl,z7⟩|⟨s,y4,rfl,x1,z7⟩);(exact⟨rfl,a0e rfl z (x9.trans z7)⟩);(try dsimp only at y4);have z8:=x9.trans z7;have g1:=z7.box h2 (by omega))
  | (go_at_call 127;refine((hC.on x1).wantsU c8g y4 _ bz0).mono ?_;rintro e w2 (⟨rfl,z,rfl,c⟩|⟨y5,rfl,x2,c⟩);(exact⟨rfl,a0e rfl z (z8.trans c)⟩);(try dsimp only at y5);have z9:=z8.trans c;have g2:=c.box g1 (by omega))
  | (go_at_call 173;refine(a8e y5 (fun r0 h=>hE r0 B ts _ _ (hC.on x2) h)).mono ?_;rintro e w3 (⟨j,rfl,z,rfl,d⟩|⟨n1,j1,b1,g,y6,rfl,v9,x3,d⟩);(exact⟨rfl,a0e rfl z (z9.trans d)⟩);(try dsimp only at y6);have z3:=z9.trans d;have g3:=d.box g2 (by omega);refine Hid.out ?_))
 have t1:=q5z g1
 have t0:=c.size
 have v4:=d.size
 have z6:Bw w3 (w3.alloc (nbx n1 b1 g)):=q1z bz0 _
 have q4:=a0a w3 (nbx n1 b1 g)
 have v7:=q0z z6 g3
 have z2:NdV (fun q=>w.heap.size<q) (w3.alloc (nbx n1 b1 g)) n1 (ndv n1 b1 g):=(v9.weak (fun q hq _=>by omega)).below z6
 have z0:=z3.trans (a0b.of_below z6)
 have y9:=(hC.on x3).wantsU b9l y6 _ z6
 rw[World.size_alloc]at y9
 clear x8 y4 y5 y6 x1 z7 z8 x2 c z9 g2 h2 d z3 v9
 refine Lib.hid ?_
 go_wp2_with (first
  | (go_at_call 127;refine y9.mono ?_;rintro e w5 (⟨rfl,z,rfl,o⟩|⟨y7,rfl,x4,o⟩);(exact⟨rfl,a0e rfl z (z0.trans o)⟩);(try dsimp only at y7);have a:=z0.trans o;have p4:=o.box q4 (by omega);have p2:=o.box v7 (by omega);have w4:=z2.keep o (fun q hq _=>by omega))
  | (go_at_call 173;refine(a8e y7 (fun r0 h=>hE r0 B ts _ _ (hC.on x4) h)).mono ?_;rintro e w6 (⟨j,rfl,z,rfl,p⟩|⟨n2,j2,b2,v,y8,rfl,w0,x5,p⟩);(exact⟨rfl,a0e rfl z (a.trans p)⟩);(try dsimp only at y8);have z4:=a.trans p;have y2:=p.box p4 (by omega);have y1:=p.box p2 (by omega);have w7:=w4.keep p (fun q hq _=>by omega);refine Hid.out ?_))
 have v5:=q5z p4
 have v6:=p.size
 have n:Bw w6 (w6.alloc (nbx n2 b2 v)):=q1z bz0 _
 have q5:=a0a w6 (nbx n2 b2 v)
 have z5:=q0z n y2
 have y3:=q0z n y1
 have w9:=w7.below n
 have x0:NdV (fun q=>w.heap.size<q) (w6.alloc (nbx n2 b2 v)) n2 (ndv n2 b2 v):=(w0.weak (fun q hq _=>by omega)).below n
 have z1:=z4.trans (a0b.of_below n)
 have v8:=(hC.on x5).below n
 have t9:=fun u h=>c4o f hB r B ts j2 u h (fun b l=>.ok ⟨10,s,0,[n1,n2,b]⟩ l) y8
 have y0:(w6.alloc (nbx n2 b2 v)).heap.size=w6.heap.size+1:=World.size_alloc _ _
 obtain⟨W7,x6⟩:=exq (w6.alloc (nbx n2 b2 v))
 rw[x6]at q5 z5 y3 w9 x0 z1 v8 y0
 obtain⟨t4,h4⟩:=exq (w3.heap.size)
 obtain⟨t5,h5⟩:=exq (w6.heap.size)
 clear y7 y8 y9 x3 x4 x5 o p a z4 p4 p2 y2 y1 z2 w4 w7 w0 z6 n q4 g3 v7 z0
 refine Lib.hid ?_
 go_wp2
 rw[h4]at z5 v4 v5⊢
 rw[h5]at q5 y0 v6
 clear x6 h4 h5
 obtain⟨c0,c1,c2,c3,f0,f1,f2,f3⟩:=in4 z5
 obtain⟨d0,d1,d2,d3,e0,e1,e2,e3⟩:=in4 q5
 go_region_with ((go_at_call 174;refine(t9 _ (v8.below (bz0.drew))).mono ?_;rintro e w8 (⟨j8,rfl,z,rfl,t⟩|⟨n3,j8,b3,t2,t7,rfl,t6,t8,t⟩);(exact⟨rfl,a0e rfl z ((z1.drew).trans t)⟩);have g4:=t.box z5 (by omega);have g5:=t.box q5 (by omega);have g2:=t.box y3 (by omega);obtain⟨c0,c1,c2,c3,f0,f1,f2,f3⟩:=in4 g4;obtain⟨d0,d1,d2,d3,e0,e1,e2,e3⟩:=in4 g5;obtain⟨u0,u1,u2,u3,v0,v1,v2,v3⟩:=in4a g2))
 all_goals
  go_wp2
  refine bodyPost_ret (d6i rfl (a0c _ _ _ _ (q4z _ g2))) rfl ?_
  obtain rfl:=Option.some.inj t7
  exact b6t 10 s ((w9.below (bz0.drew)).keep t (fun q hq _=>by omega)) ((x0.below (bz0.drew)).keep t (fun q hq _=>by omega)) (t6.weak (fun q hq _=>by simp at hq;omega)) t8 ((z1.drew).trans t) t3 g2
end Go.Proofs.YtomniogfpfbolaaGreatDoor
