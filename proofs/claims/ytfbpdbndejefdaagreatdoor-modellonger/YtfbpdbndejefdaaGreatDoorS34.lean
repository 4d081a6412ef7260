/- The program's reader: while; what ends in an expression. -/
import Derived.Test.YtfbpdbndejefdaaGreatDoorS31
import Derived.Test.YtfbpdbndejefdaaGreatDoorS32
import Derived.Test.YtfbpdbndejefdaaGreatDoorS33
namespace Go.Proofs.YtfbpdbndejefdaaGreatDoor
open Go.RowKit Go
set_option maxRecDepth 100000
set_option maxHeartbeats 8000000
set_option linter.all false
variable {w w2:World} {B cap cap1 j g:Nat} {ts:List Tok} {x y z:Nd} {b b1:Option Addr} {a0 a1 a2 a3 a c d:Value} {tm:Array Value} {D:Nat->Prop} {k:Int} {t:List UInt8}
theorem b9v{W:World}(k n:Int)(hx:NdV (fun q=>w.heap.size<q) W x (ndv x b cap))(hy:NdV (fun q=>w.heap.size<q) W y (ndv y b1 cap1))(hR:Rd W B ts j)(hk:a0b (fun k=>k=B) w W)(hB:B<w.heap.size)(g:W.heap[w.heap.size]?=some (.cells #[a0,a1,a2,a3] 43)) :
  PAns no w B ts (.inr (⟨k,[],n,[x,y]⟩,rest ts j)) (.returned (ndv ⟨k,[],n,[x,y]⟩ (some (Ad W.heap.size 0)) 2)) (put4 (W.alloc (.cells #[vi x.k,sk x.t,vi x.n,.slice b x.kids.length cap,vi y.k,sk y.t,vi y.n,.slice b1 y.kids.length cap1] 43)) w.heap.size (vi k) (sk []) (vi n) (.slice (some (Ad W.heap.size 0)) 2 2)):=by
 obtain⟨h1,h2,h3⟩:=b2b k n hx hy (fun q hq=>by omega) (block_lt g) g rfl
 exact⟨j,_,2,rfl,rfl,h1.weak (fun q hq _=>.inr (by omega)),hR.keep h3 (fun q hq=>by omega),hk.then h3 (fun q hq e=>by omega)⟩
theorem d7b{W:World}{b:Value}(h:tm[2]?.getD undef=Po B 0)(hx:W.heap[B]?=some (.cells #[a,b,c,d] 43)):(results Tryz.f151 tm).run Tryz.prog W=.ok (.agg #[a,b,c,d]) W:=by
 obtain⟨c0,c1,c2,c3,_,_,_,_⟩:=in4 hx
 simp[results,Tryz.results151,go_sem,h,c0,c1,c2,c3]
theorem d3h(f:Nat)(hE:a6g f)(hB:BlkC f)(r:PRes)(B:Nat)(ts:List Tok)(i:Nat)(w:World)(hC:Ctx w B ts i)(hP:(P f 0 nil0 0 (rest ts i)).on (fun x l=>need W.do_ l fun l=>(P f 7 (nd 4 []) 0 l).on fun b l=>need W.end_ l fun l=>.ok (nd 9 [x,b]) l)=some r):Cl 151 #[Po B 0] w (PAns no w B ts r):=by
 have y7:=hC.R.lt
 have z8:Bw w (w.alloc zbx):=ext_alloc (Below.refl _ _) _
 have h2:=a0a w zbx
 have a:a0b (fun k=>k=B) w (w.alloc zbx):=a0b.of_below z8
 have z9:=a7o hP (fun r0 h=>hE r0 B ts i _ (hC.below z8) h)
 clear hP
 go_enter Tryz.func151,Tryz.ntmps151
 go_wp2_with (go_at_call 163;refine z9.mono ?_;rintro e w1 (⟨j,rfl,o,rfl,v⟩|⟨n1,j,b1,z,m,rfl,z5,z6,v⟩);(exact⟨rfl,a0d rfl o (a.trans v)⟩);(try dsimp only at m);refine Hid.out ?_)
 have g2:=v.box h2 (by omega)
 have z2:=block_lt g2
 have s:Bw w1 (w1.alloc (nbx n1 b1 z)):=ext_alloc (Below.refl _ _) _
 have g:=a0a w1 (nbx n1 b1 z)
 have z3:=block_below s g2
 have n:=(a.trans v).trans (a0b.of_below s)
 have p:NdV (fun q=>w.heap.size<q) (w1.alloc (nbx n1 b1 z)) n1 (ndv n1 b1 z):=(z5.weak (fun q hq _=>by simp at hq;omega)).below s
 have z1:=fun u h=>c3e f hB r B ts j u h (fun b l=>.ok (nd 9 [n1,b]) l) m
 have z4:=(hC.on z6).below s
 have d:(w1.alloc (nbx n1 b1 z)).heap.size=w1.heap.size+1:=World.size_alloc _ _
 obtain⟨W1,z7⟩:∃W1,w1.alloc (nbx n1 b1 z)=W1:=⟨_,rfl⟩
 rw[z7]at g z3 n p z4 d
 obtain⟨t,ht⟩:∃t,w1.heap.size=t:=⟨_,rfl⟩
 clear m z9 z5 z6 v h2 g2 s
 refine Lib.hid ?_
 go_wp2
 rw[ht]at g z2 d
 clear z7 ht
 obtain⟨c0,c1,c2,c3,f0,f1,f2,f3⟩:=in4 g
 go_region_with ((go_at_call 164;refine(z1 _ (z4.below ((Below.refl _ _).drew))).mono ?_;rintro e w2 (⟨j2,rfl,o,rfl,y⟩|⟨n2,j2,b2,y6,y9,rfl,y8,z0,y⟩);(exact⟨rfl,a0d rfl o ((n.drew).trans y)⟩);have g:=y.box g (by omega);have g2:=y.box z3 (by omega);obtain⟨c0,c1,c2,c3,f0,f1,f2,f3⟩:=in4 g;obtain⟨d0,d1,d2,d3,e0,e1,e2,e3⟩:=in4a g2))
 all_goals
  go_wp2
  refine bodyPost_ret (d7b rfl (a0f _ _ _ _ (block_alloc _ g2))) rfl ?_
  obtain rfl:=Option.some.inj y9
  exact b9v 9 0 ((p.below ((Below.refl _ _).drew)).keep y (fun q hq _=>by omega)) (y8.weak (fun q hq _=>by simp at hq;omega)) z0 ((n.drew).trans y) y7 g2
def GU (D:Nat->Prop) (va:Value) (w:World) (B:Nat) (ts:List Tok) (r:PRes) (e:Ending) (w':World):Prop :=
 (∃j,r=.inl (rest ts j)/\j<=ts.length/\e=.panicked (pan (gv ts j))/\a0b (fun q=>q=B\/some q=va.ownBlock) w w') \/
 (∃N j b cap,r=.inr (N,rest ts j)/\e=.returned (ndv N b cap)/\NdV (fun g=>D g\/w.heap.size<=g) w' N (ndv N b cap)/\Rd w' B ts j/\a0b (fun q=>q=B\/some q=va.ownBlock) w w')
theorem d7c{W:World}{b:Value}(h:tm[6]?.getD undef=Po B 0)(hx:W.heap[B]?=some (.cells #[a,b,c,d] 43)):(results Tryz.f153 tm).run Tryz.prog W=.ok (.agg #[a,b,c,d]) W:=by
 obtain⟨c0,c1,c2,c3,_,_,_,_⟩:=in4 hx
 simp[results,Tryz.results153,go_sem,h,c0,c1,c2,c3]
theorem a0b.orB{T:Nat->Prop}{W:World}(h:a0b (fun k=>k=B) w W):a0b (fun q=>q=B\/T q) w W:=h.mono (fun _ _ h=>.inl h)
theorem b7u(f:Nat)(hE:a6g f)(k:Int)(D:Nat->Prop)(ks:List Nd)(bv:Option Addr)(cv:Nat)(r:PRes)(B:Nat)(ts:List Tok)(i:Nat)(w:World)(hC:Ctx w B ts i)(hRow:Row D w (.slice bv ks.length cv) ks)(hD:∀g,D g->g≠B)(z1:∀g,Value.ownBlock (.slice bv ks.length cv)=some g->B<g)(hl:ks.length<=4)(hP:(P f 0 nil0 0 (rest ts i)).on (fun x l=>need S.sc l fun l=>.ok ⟨k,[],0,ks++[x]⟩ l)=some r):Cl 153 #[Po B 0,vi k,.slice bv ks.length cv] w (GU D (.slice bv ks.length cv) w B ts r):=by
 obtain⟨i0,w7,x1,x2,x3⟩:=info_parts b1e
 have w0:=hC.R.lt
 have y2:Bw w (w.alloc zbx):=ext_alloc (Below.refl _ _) _
 have h2:=a0a w zbx
 have y4:a0b (fun k=>k=B) w (w.alloc zbx):=a0b.of_below y2
 have y3:=a7o hP (fun r0 h=>hE r0 B ts i _ (hC.below y2) h)
 obtain⟨_,_,_,u⟩:=hRow.form
 have w9:ks.length+1<=maxLen:=by unfold maxLen;omega
 have x0:(ks.length+1)*56<=140737488355328:=by omega
 replace u:Hid _:=u
 replace z1:Hid _:=z1
 clear hP
 go_enter Tryz.func153,Tryz.ntmps153
 go_wp2_with (first|(go_at_call 163;refine y3.mono ?_;rintro e w1 (⟨j,rfl,z0,rfl,a⟩|⟨n1,j,b1,z,y9,rfl,x6,x9,a⟩);(exact⟨rfl,.inl ⟨j,rfl,z0,rfl,(y4.trans a).orB⟩⟩);(try dsimp only at y9))|(at_builtin;refine Hid.out ?_))
 have g2:=a.box h2 (by omega)
 have v8:=block_lt g2
 have y6:=y4.trans a
 have n:Bw w1 (w1.alloc (nbx n1 b1 z)):=ext_alloc (Below.refl _ _) _
 have gn:=a0a w1 (nbx n1 b1 z)
 have z3:=block_below n g2
 have z9:Row (fun g=>(D g\/w.heap.size<=g)/\g≠w.heap.size) (w1.alloc (nbx n1 b1 z)) (.slice bv ks.length cv) ks:=(((hRow.weak (S':=fun g=>D g/\g<w.heap.size) (fun g hg w8=>⟨hg,w8⟩)).keep y6 (fun g hg _=>hD g hg.1)).weak (fun g hg _=>⟨.inl hg.1,by omega⟩)).below n
 obtain⟨xs,ho,hs,hn⟩:=z9.own
 have z8:=x9.below n
 have z7:NdV (fun q=>w.heap.size<q) (w1.alloc (nbx n1 b1 z)) n1 (ndv n1 b1 z):=(x6.weak (fun q hq _=>by simp at hq;omega)).below n
 have y8:(w1.alloc (nbx n1 b1 z)).heap.size=w1.heap.size+1:=World.size_alloc _ _
 obtain⟨W1,z4⟩:∃W1,w1.alloc (nbx n1 b1 z)=W1:=⟨_,rfl⟩
 have d:=y6.trans (a0b.of_below n)
 rw[z4]at gn z3 ho hn z8 z7 y8 d
 dsimp only[nbx]at z4
 rw[z4]
 clear n z4 y3 a x6 x9 z9 g2
 refine Lib.hid ?_
 go_wp2_with (first
  | (at_builtin;refine wpList_append_lies _ (by rfl) _ _ _ (by rfl) 0 43 i0 _ 4 56 Tryz.underlying41 w7 x1 x2 x3 rfl (by omega) (.slice bv ks.length cv) ks.length xs (by rfl) ho (Ad w1.heap.size 0) 1 1 _ (by rfl) (by rfl) (a4x n1 b1 z gn) (by simp[Value.oneCell']) (by omega) w9 x0 (Nat.zero_le _) _ rfl ?_;intro g3 v w3 m y y1 y7)
  | (go_at_call 99;refine Hid.out ?_))
 have hy:NdV (fun q=>((D q\/w.heap.size<=q)/\q≠w.heap.size)/\some q≠Value.ownBlock (.slice bv ks.length cv)) W1 n1 (ndv n1 b1 z):=z7.weak (fun q hq _=>⟨⟨.inr (by omega),by omega⟩,fun e=>by have:=(u.out q e.symm).2;omega⟩)
 have o:=Row.snoc ho hs hn hy m y y1 (fun q hq=>⟨.inr (by omega),by omega⟩)
 have el:(ks++[n1]).length=ks.length+1:=by simp
 rw[<- el]at o
 have y5:a0b (fun q=>q=B\/some q=Value.ownBlock (.slice bv ks.length cv)) w w3:=d.orB.then (a0b.grown y) (fun q _ h=>.inr h)
 have x4:=(y.block _ (block_lt z3) (fun e=>by have:=(u.out _ e.symm).2;omega)).trans z3
 have y0:=z8.keep (a0b.grown y) (fun q hq e=>by have:=z1.out q e.symm;omega)
 have v7:w1.heap.size+1<=w3.heap.size:=by have:=y.size;omega
 obtain⟨N,hN⟩:∃N:Nd,N=⟨k,[],0,ks++[n1]⟩:=⟨_,rfl⟩
 have z6:Bw w3 (w3.alloc (nbx N (some (Ad g3 0)) v)):=ext_alloc (Below.refl _ _) _
 have g7:=a0a w3 (nbx N (some (Ad g3 0)) v)
 have x5:=block_below z6 x4
 have w2:=(hC.on y0).below z6
 have x7:NdV (fun g=>(D g\/w.heap.size<=g)/\g≠w.heap.size) (w3.alloc (nbx N (some (Ad g3 0)) v)) N (ndv N (some (Ad g3 0)) v):=by
  subst hN
  exact(o.node k [] 0).below z6
 have z5:=w2.wantsU d6t y9 _ (Below.refl _ _)
 rw[World.size_alloc]at z5
 have s:nbx N (some (Ad g3 0)) v=.cells #[vi k,.string ⟨#[]⟩,vi 0,.slice (some (Ad g3 0)) (ks.length+1) v] 43:=by
  subst hN
  rw[<- el]
 rw[<- hN]at z5
 have z2:=y5.trans (a0b.of_below z6)
 have v9:(w3.alloc (nbx N (some (Ad g3 0)) v)).heap.size=w3.heap.size+1:=World.size_alloc _ _
 rw[s]at z5
 replace s:Hid _:=s
 replace hN:Hid _:=hN
 clear el m y y1 y7 ho hs hn hy o y0 x4 gn z3 z8 z7 d y5 y9
 refine Lib.hid ?_
 go_wp2_with (go_at_call 99;refine z5.mono ?_;rintro e w5 (⟨rfl,z0,rfl,p⟩|⟨w4,rfl,w6,p⟩);(rw[<- s.out]at p;exact⟨rfl,.inl ⟨j,rfl,z0,rfl,z2.trans p.orB⟩⟩);rw[<- s.out]at p;have p7:=p.box g7 (by omega);have p6:=p.box x5 (by omega);obtain⟨c0,c1,c2,c3,f0,f1,f2,f3⟩:=in4 p7;obtain⟨d0,d1,d2,d3,e0,e1,e2,e3⟩:=in4 p6)
 refine bodyPost_ret (d7c rfl (a0f _ _ _ _ p6)) rfl ?_
 have x8:=x7.keep p (fun g hg _=>by rcases hg.1 with h|h;exact hD g h;omega)
 refine .inr ⟨N,j+1,some (Ad g3 0),v,(Option.some.inj w4).symm,rfl,?_,w6.put4 _ _ _ _ _ w0,a1j (z2.trans p.orB) _ _ _ _ _ (Nat.le_refl _)⟩
 exact(x8.put4 _ _ _ _ _ (fun g hg=>hg.2)).weak (fun g hg _=>hg.1)
theorem NdV.text{W:World}{n:Int}{ks:List Nd}(h:NdV D W ⟨k,t,n,ks⟩ (ndv ⟨k,t,n,ks⟩ b cap))(s:List UInt8):NdV D W ⟨k,s,n,ks⟩ (ndv ⟨k,s,n,ks⟩ b cap):=by
 obtain⟨b',cap',e,h4,h5⟩:=h.form
 simp only[Value.agg.injEq,Array.mk.injEq,List.cons.injEq,Value.slice.injEq,true_and,and_true]at e
 obtain⟨rfl,rfl⟩:=e
 exact c1i h4 h5
theorem b9w{f:Nat}{l:List PT}{s:List UInt8}{r:PRes}(h:(P f 0 nil0 0 l).on (fun x l=>need S.sc l fun l=>.ok ⟨k,s,0,[x]⟩ l)=some r) :
  ∃z,(P f 0 nil0 0 l).on (fun x l=>need S.sc l fun l=>.ok ⟨k,[],0,[]++[x]⟩ l)=some z/\((∃l1,z=.inl l1/\r=.inl l1)\/∃x l1,z=.inr (⟨k,[],0,[x]⟩,l1)/\r=.inr (⟨k,s,0,[x]⟩,l1)):=by
 obtain⟨r0,h0,h1⟩:=a3o h
 rw[h0]
 rcases h1 with⟨l1,rfl,rfl⟩|⟨n,l1,rfl,h1⟩
 ·exact⟨.inl l1,rfl,.inl ⟨l1,rfl,rfl⟩⟩
 ·rcases need_some h1 with⟨y,h2⟩|⟨y,rfl⟩
  ·refine⟨.inr (⟨k,[],0,[n]⟩,l1.tail),?_,.inr ⟨n,l1.tail,rfl,(Option.some.inj h2).symm⟩⟩
   show need S.sc l1 _=_
   unfold need
   rw[if_pos y]
   rfl
  ·refine⟨.inl l1,?_,.inl ⟨l1,rfl,rfl⟩⟩
   show need S.sc l1 _=_
   unfold need
   rw[if_neg y]
theorem b0f(f:Nat)(hE:a6g f)(k:Int)(r:PRes)(B:Nat)(ts:List Tok)(i:Nat)(w:World)(hC:Ctx w B ts i)(hP:(P f 0 nil0 0 (rest ts i)).on (fun x l=>need S.sc l fun l=>.ok ⟨k,[],0,[]++[x]⟩ l)=some r):Cl 153 #[Po B 0,vi k,.slice none 0 0] w (PAns no w B ts r):=by
 refine(b7u f hE k no [] none 0 r B ts i w hC (Row.nil _ _) (fun g h=>h.elim) (fun g h=>by simp[Value.ownBlock]at h) (by simp) hP).mono ?_
 intro e p s
 have y:∀{a b:World},a0b (fun q=>q=B\/some q=Value.ownBlock (.slice none ([]:List Nd).length 0)) a b->a0b (fun q=>q=B) a b:=fun h=>h.mono (fun q _ h=>h.resolve_right (by simp[Value.ownBlock]))
 rcases s with⟨j,rfl,z,rfl,hk⟩|⟨N,j,b,cap,rfl,rfl,u,v,hk⟩
 ·exact a0d rfl z (y hk)
 ·exact⟨j,b,cap,rfl,rfl,u,v,y hk⟩
theorem d7d{W:World}{b:Value}(h:tm[2]?.getD undef=Po B 0)(hx:W.heap[B]?=some (.cells #[a,b,c,d] 43)):(results Tryz.f149 tm).run Tryz.prog W=.ok (.agg #[a,b,c,d]) W:=by
 obtain⟨c0,c1,c2,c3,_,_,_,_⟩:=in4 hx
 simp[results,Tryz.results149,go_sem,h,c0,c1,c2,c3]
theorem c7u(f:Nat)(hE:a6g f)(r:PRes)(B:Nat)(ts:List Tok)(i:Nat)(w:World)(hC:Ctx w B ts i)(hP:a0v (rest ts i) (fun s l=>need S.eq l fun l=>(P f 0 nil0 0 l).on fun x l=>need S.sc l fun l=>.ok ⟨5,s,0,[x]⟩ l)=some r):Cl 149 #[Po B 0] w (PAns no w B ts r):=by
 have y7:=hC.R.lt
 have z4:Bw w (w.alloc zbx):=ext_alloc (Below.refl _ _) _
 have h2:=a0a w zbx
 have z7:a0b (fun k=>k=B) w (w.alloc zbx):=a0b.of_below z4
 have z5:=hC.nameU hP _ z4
 clear hP
 go_enter Tryz.func149,Tryz.ntmps149
 go_wp2_with (first
  | (go_at_call 100;refine z5.mono ?_;rintro e w1 (⟨rfl,y,rfl,p⟩|⟨s,a,rfl,y9,p⟩);(exact⟨rfl,a0d rfl y (z7.trans p)⟩);(try dsimp only at a);have m:=z7.trans p;have g1:=p.box h2 (by omega))
  | (go_at_call 99;refine((hC.on y9).wantsU c7c a _ (Below.refl _ _)).mono ?_;rintro e w2 (⟨rfl,y,rfl,v⟩|⟨d,rfl,z0,v⟩);(exact⟨rfl,a0d rfl y (m.trans v)⟩);(try dsimp only at d);have o:=m.trans v;have g2:=v.box g1 (by omega);obtain⟨r',z9,z⟩:=b9w d;have z6:=b0f f hE 5 r' B ts _ _ (hC.on z0) z9;replace z:Hid _:=z;clear z9 d)
  | (go_at_call 153;refine z6.mono ?_;intro e w3 hA;rcases r' with l1|⟨n3,l1⟩;(obtain⟨j,rfl,y,rfl,u⟩:=hA;rcases z.out with⟨l,h,e2⟩|⟨n,l,h,_⟩;(cases h;subst e2;exact⟨rfl,a0d rfl y (o.trans u)⟩);cases h);obtain⟨j,b3,z3,hj,rfl,y8,z1,u⟩:=hA;have z8:=o.trans u;have g3:=u.box g2 (by omega);refine Hid.out ?_))
 rcases z.out with⟨l,h,_⟩|⟨x,l,h,z2⟩
 ·cases h
 cases h
 subst z2
 obtain⟨d0,d1,d2,d3,e0,h,e2,e3⟩:=in4a g3
 have y6:=block_lt g1
 have y5:=v.size
 clear z z5 z6 a h2
 refine Lib.hid ?_
 go_wp2
 refine bodyPost_ret (d7d rfl (a0f _ _ _ _ (block_alloc _ g3))) rfl ?_
 have g:Bw w3 (w3.alloc (nbx ⟨5,s,0,[x]⟩ b3 z3)):=ext_alloc (Below.refl _ _) _
 exact a0j (N:=⟨5,s,0,[x]⟩) hj ((y8.text s).below g |>.weak (fun q hq _=>by rcases hq with hq|hq;exact hq.elim;exact⟨.inr (by omega),by omega⟩)) (z1.below g) (z8.trans (a0b.of_below g)) (Nat.le_refl _) y7
theorem Row.three{W:World}{b a' b' c' d' a'' b'' c'' d'':Value}(hm:D g)(o:NdV (fun q=>D q/\q≠g) W x (.agg #[a,b,c,d]))(p:NdV (fun q=>D q/\q≠g) W y (.agg #[a',b',c',d']))(s:NdV (fun q=>D q/\q≠g) W z (.agg #[a'',b'',c'',d'']))(hg:W.heap[g]?=some (.cells #[a,b,c,d,a',b',c',d',a'',b'',c'',d''] 43)) :
  Row D W (.slice (some (Ad g 0)) 3 3) [x,y,z]:=by
 refine⟨[a,b,c,d,a',b',c',d',a'',b'',c'',d''],⟨rfl,.inr ⟨g,3,_,rfl,Nat.zero_le _,hg,Nat.le_refl _,by unfold maxLen;omega,rfl,rfl⟩⟩,fun q e=>by
  have h:g=q:=by simpa[Value.ownBlock]using e
  subst h;exact hm,fun j u v=>?_⟩
 have m:∀q,(D q/\q≠g)->q<W.heap.size->(D q/\some q≠Value.ownBlock (.slice (some (Ad g 0)) 3 3))/\W.heap[q]?=W.heap[q]?:=fun q hq _=>⟨⟨hq.1,fun e=>hq.2 (by simpa[Value.ownBlock]using e)⟩,rfl⟩
 match j,v with
 | 0,v =>
  simp at v;subst v
  obtain⟨_,_,_,_,e,o⟩:=o
  simp only[Value.agg.injEq,Array.mk.injEq,List.cons.injEq,and_true]at e
  obtain⟨rfl,rfl,rfl,rfl⟩:=e
  refine NdAt.on m _ _ _ (fun i u v=>?_) o
  match i,v with
  | 0,v|1,v|2,v|3,v=>simpa using v
  | n+4,v=>simp at v
 | 1,v =>
  simp at v;subst v
  obtain⟨_,_,_,_,e,p⟩:=p
  simp only[Value.agg.injEq,Array.mk.injEq,List.cons.injEq,and_true]at e
  obtain⟨rfl,rfl,rfl,rfl⟩:=e
  refine NdAt.on m _ _ _ (fun i u v=>?_) p
  match i,v with
  | 0,v|1,v|2,v|3,v=>simpa using v
  | n+4,v=>simp at v
 | 2,v =>
  simp at v;subst v
  obtain⟨_,_,_,_,e,s⟩:=s
  simp only[Value.agg.injEq,Array.mk.injEq,List.cons.injEq,and_true]at e
  obtain⟨rfl,rfl,rfl,rfl⟩:=e
  refine NdAt.on m _ _ _ (fun i u v=>?_) s
  match i,v with
  | 0,v|1,v|2,v|3,v=>simpa using v
  | n+4,v=>simp at v
 | n+3,v=>simp at v
theorem b5z{b2:Option Addr}{cap2:Nat}{W:World}(k:Int)(s:List UInt8)(hx:NdV (fun q=>w.heap.size<q) W x (ndv x b cap))(hy:NdV (fun q=>w.heap.size<q) W y (ndv y b1 cap1))(hz:NdV (fun q=>w.heap.size<q) W z (ndv z b2 cap2))(hR:Rd W B ts j)(hk:a0b (fun k=>k=B) w W)(hB:B<w.heap.size)(g:W.heap[w.heap.size]?=some (.cells #[a0,a1,a2,a3] 43)) :
  PAns no w B ts (.inr (⟨k,s,0,[x,y,z]⟩,rest ts j)) (.returned (ndv ⟨k,s,0,[x,y,z]⟩ (some (Ad W.heap.size 0)) 3)) (put4 (W.alloc (.cells #[vi x.k,sk x.t,vi x.n,.slice b x.kids.length cap,vi y.k,sk y.t,vi y.n,.slice b1 y.kids.length cap1,vi z.k,sk z.t,vi z.n,.slice b2 z.kids.length cap2] 43)) w.heap.size (vi k) (sk s) (vi 0) (.slice (some (Ad W.heap.size 0)) 3 3)):=by
 have o:=ext_alloc (Below.refl W.heap.size W) (.cells #[vi x.k,sk x.t,vi x.n,.slice b x.kids.length cap,vi y.k,sk y.t,vi y.n,.slice b1 y.kids.length cap1,vi z.k,sk z.t,vi z.n,.slice b2 z.kids.length cap2] 43)
 have p:=block_lt g
 have m:∀{u:Nd} {v:Value},NdV (fun q=>w.heap.size<q) W u v->NdV (fun q=>w.heap.size<q/\q≠W.heap.size) (W.alloc (.cells #[vi x.k,sk x.t,vi x.n,.slice b x.kids.length cap,vi y.k,sk y.t,vi y.n,.slice b1 y.kids.length cap1,vi z.k,sk z.t,vi z.n,.slice b2 z.kids.length cap2] 43)) u v:=fun h=>(h.weak (fun q hq p=>⟨hq,by omega⟩)).below o
 have h1:=((Row.three (D:=fun q=>w.heap.size<q) p (m hx) (m hy) (m hz) (a0a W _)).node k s 0).put4 w.heap.size (vi k) (sk s) (vi 0) (.slice (some (Ad W.heap.size 0)) 3 3) (fun q hq=>by omega)
 exact⟨j,_,3,rfl,rfl,h1.weak (fun q hq _=>.inr (by omega)),(hR.below o).put4 _ _ _ _ _ hB,a1j (hk.trans (a0b.of_below o)) _ _ _ _ _ (Nat.le_refl _)⟩
theorem d7e{W:World}{b:Value}(h:tm[2]?.getD undef=Po B 0)(hx:W.heap[B]?=some (.cells #[a,b,c,d] 43)):(results Tryz.f152 tm).run Tryz.prog W=.ok (.agg #[a,b,c,d]) W:=by
 obtain⟨c0,c1,c2,c3,_,_,_,_⟩:=in4 hx
 simp[results,Tryz.results152,go_sem,h,c0,c1,c2,c3]
theorem c7v(f:Nat)(hE:a6g f)(hB:BlkC f)(r:PRes)(B:Nat)(ts:List Tok)(i:Nat)(w:World)(hC:Ctx w B ts i)(hP:a0v (rest ts i) (fun s l=>need S.eq l fun l=>(P f 0 nil0 0 l).on fun x l=>need S.cm l fun l=>(P f 0 nil0 0 l).on fun y l=>need W.do_ l fun l=>(P f 7 (nd 4 []) 0 l).on fun b l=>need W.end_ l fun l=>.ok ⟨10,s,0,[x,y,b]⟩ l)=some r):Cl 152 #[Po B 0] w (PAns no w B ts r):=by
 have u4:=hC.R.lt
 have x6:Bw w (w.alloc zbx):=ext_alloc (Below.refl _ _) _
 have h2:=a0a w zbx
 have x8:a0b (fun k=>k=B) w (w.alloc zbx):=a0b.of_below x6
 have x7:=hC.nameU hP _ x6
 clear hP
 go_enter Tryz.func152,Tryz.ntmps152
 go_wp2_with (first
  | (go_at_call 100;refine x7.mono ?_;rintro e w1 (⟨rfl,z,rfl,z6⟩|⟨s,y3,rfl,x0,z6⟩);(exact⟨rfl,a0d rfl z (x8.trans z6)⟩);(try dsimp only at y3);have z7:=x8.trans z6;have g1:=z6.box h2 (by omega))
  | (go_at_call 99;refine((hC.on x0).wantsU c7c y3 _ (Below.refl _ _)).mono ?_;rintro e w2 (⟨rfl,z,rfl,a⟩|⟨y4,rfl,x1,a⟩);(exact⟨rfl,a0d rfl z (z7.trans a)⟩);(try dsimp only at y4);have z8:=z7.trans a;have g2:=a.box g1 (by omega))
  | (go_at_call 163;refine(a7o y4 (fun r0 h=>hE r0 B ts _ _ (hC.on x1) h)).mono ?_;rintro e w3 (⟨j,rfl,z,rfl,d⟩|⟨n1,j1,b1,g,y5,rfl,v8,x2,d⟩);(exact⟨rfl,a0d rfl z (z8.trans d)⟩);(try dsimp only at y5);have z2:=z8.trans d;have g3:=d.box g2 (by omega);refine Hid.out ?_))
 have t8:=block_lt g1
 have t7:=a.size
 have u9:=d.size
 have z5:Bw w3 (w3.alloc (nbx n1 b1 g)):=ext_alloc (Below.refl _ _) _
 have q4:=a0a w3 (nbx n1 b1 g)
 have v6:=block_below z5 g3
 have z1:NdV (fun q=>w.heap.size<q) (w3.alloc (nbx n1 b1 g)) n1 (ndv n1 b1 g):=(v8.weak (fun q hq _=>by omega)).below z5
 have y9:=z2.trans (a0b.of_below z5)
 have y8:=(hC.on x2).wantsU b9e y5 _ z5
 rw[World.size_alloc]at y8
 clear x7 y3 y4 y5 x0 z6 z7 x1 a z8 g2 h2 d z2 v8
 refine Lib.hid ?_
 go_wp2_with (first
  | (go_at_call 99;refine y8.mono ?_;rintro e w5 (⟨rfl,z,rfl,n⟩|⟨y6,rfl,x3,n⟩);(exact⟨rfl,a0d rfl z (y9.trans n)⟩);(try dsimp only at y6);have z9:=y9.trans n;have p4:=n.box q4 (by omega);have p2:=n.box v6 (by omega);have w0:=z1.keep n (fun q hq _=>by omega))
  | (go_at_call 163;refine(a7o y6 (fun r0 h=>hE r0 B ts _ _ (hC.on x3) h)).mono ?_;rintro e w6 (⟨j,rfl,z,rfl,o⟩|⟨n2,j2,b2,v,y7,rfl,v9,x4,o⟩);(exact⟨rfl,a0d rfl z (z9.trans o)⟩);(try dsimp only at y7);have z3:=z9.trans o;have y1:=o.box p4 (by omega);have y0:=o.box p2 (by omega);have w4:=w0.keep o (fun q hq _=>by omega);refine Hid.out ?_))
 have v4:=block_lt p4
 have v5:=o.size
 have m:Bw w6 (w6.alloc (nbx n2 b2 v)):=ext_alloc (Below.refl _ _) _
 have q5:=a0a w6 (nbx n2 b2 v)
 have z4:=block_below m y1
 have y2:=block_below m y0
 have w7:=w4.below m
 have w9:NdV (fun q=>w.heap.size<q) (w6.alloc (nbx n2 b2 v)) n2 (ndv n2 b2 v):=(v9.weak (fun q hq _=>by omega)).below m
 have z0:=z3.trans (a0b.of_below m)
 have v7:=(hC.on x4).below m
 have u8:=fun u h=>c3e f hB r B ts j2 u h (fun b l=>.ok ⟨10,s,0,[n1,n2,b]⟩ l) y7
 have x9:(w6.alloc (nbx n2 b2 v)).heap.size=w6.heap.size+1:=World.size_alloc _ _
 obtain⟨W7,x5⟩:∃W7,w6.alloc (nbx n2 b2 v)=W7:=⟨_,rfl⟩
 rw[x5]at q5 z4 y2 w7 w9 z0 v7 x9
 obtain⟨t4,h4⟩:∃t4,w3.heap.size=t4:=⟨_,rfl⟩
 obtain⟨t5,h5⟩:∃t5,w6.heap.size=t5:=⟨_,rfl⟩
 clear y6 y7 y8 x2 x3 x4 n o z9 z3 p4 p2 y1 y0 z1 w0 w4 v9 z5 m q4 g3 v6 y9
 refine Lib.hid ?_
 go_wp2
 rw[h4]at z4 u9 v4⊢
 rw[h5]at q5 x9 v5
 clear x5 h4 h5
 obtain⟨c0,c1,c2,c3,f0,f1,f2,f3⟩:=in4 z4
 obtain⟨d0,d1,d2,d3,e0,e1,e2,e3⟩:=in4 q5
 go_region_with ((go_at_call 164;refine(u8 _ (v7.below ((Below.refl _ _).drew))).mono ?_;rintro e w8 (⟨j8,rfl,z,rfl,p⟩|⟨n3,j8,b3,t9,u6,rfl,u5,u7,p⟩);(exact⟨rfl,a0d rfl z ((z0.drew).trans p)⟩);have g4:=p.box z4 (by omega);have g5:=p.box q5 (by omega);have g2:=p.box y2 (by omega);obtain⟨c0,c1,c2,c3,f0,f1,f2,f3⟩:=in4 g4;obtain⟨d0,d1,d2,d3,e0,e1,e2,e3⟩:=in4 g5;obtain⟨u0,u1,u2,u3,v0,v1,v2,v3⟩:=in4a g2))
 all_goals
  go_wp2
  refine bodyPost_ret (d7e rfl (a0f _ _ _ _ (block_alloc _ g2))) rfl ?_
  obtain rfl:=Option.some.inj u6
  exact b5z 10 s ((w7.below ((Below.refl _ _).drew)).keep p (fun q hq _=>by omega)) ((w9.below ((Below.refl _ _).drew)).keep p (fun q hq _=>by omega)) (u5.weak (fun q hq _=>by simp at hq;omega)) u7 ((z0.drew).trans p) u4 g2
structure PB (w W:World) (B:Nat) (ts:List Tok) (k:Int) (x y:Nd) (t j:Nat):Prop where
 box:∃b cap,W.heap[t]?=some (nbx (nd k [x,y]) b cap)/\Row (fun q=>w.heap.size<q/\q≠t) W (.slice b 2 cap) [x,y]/\(∀q,Value.ownBlock (.slice b 2 cap)=some q->w.heap.size<q)
 ans:W.heap[w.heap.size]?=some zbx
 R:Rd W B ts j
 K:a0b (fun k=>k=B) w W
 lt:w.heap.size<t
abbrev b0v (x y:Nd) (b b1:Option Addr) (cap cap1:Nat):Obj:=.cells #[vi x.k,sk x.t,vi x.n,.slice b x.kids.length cap,vi y.k,sk y.t,vi y.n,.slice b1 y.kids.length cap1] 43
theorem b0g{n c q:Nat}(e:Value.ownBlock (.slice (some (Ad g 0)) n c)=some q):g=q:=by simpa[Value.ownBlock]using e
theorem pb_A(k:Int)(hx:NdV (fun q=>w.heap.size<q) w2 x (ndv x b cap))(hy:NdV (fun q=>w.heap.size<q) w2 y (ndv y b1 cap1))(g2:w2.heap[w.heap.size]?=some zbx)(hR:Rd w2 B ts j)(hk:a0b (fun k=>k=B) w w2) :
  PB w ((w2.alloc (b0v x y b b1 cap cap1)).alloc (nbx (nd k [x,y]) (some (Ad w2.heap.size 0)) 2)) B ts k x y (w2.heap.size+1) j:=by
 have u:=ext_alloc (ext_alloc (Below.refl w2.heap.size w2) (b0v x y b b1 cap cap1)) (nbx (nd k [x,y]) (some (Ad w2.heap.size 0)) 2)
 have z:=block_lt g2
 have h4:=a0a (w2.alloc (b0v x y b b1 cap cap1)) (nbx (nd k [x,y]) (some (Ad w2.heap.size 0)) 2)
 rw[World.size_alloc]at h4
 refine⟨⟨_,2,h4,?_,fun q e=>by have:=b0g e;omega⟩,block_below u g2,hR.below u,hk.trans (a0b.of_below u),by omega⟩
 have v:=ext_alloc (Below.refl w2.heap.size w2) (b0v x y b b1 cap cap1)
 refine Row.below (W:=w2.alloc (b0v x y b b1 cap cap1)) (Row.two ⟨z,by omega⟩ ?_ ?_ (a0a w2 _)) (ext_alloc (Below.refl _ _) _)
 ·exact(hx.weak (fun q hq z=>⟨⟨hq,by omega⟩,by omega⟩)).below v
 ·exact(hy.weak (fun q hq z=>⟨⟨hq,by omega⟩,by omega⟩)).below v
theorem pb_B{t:Nat}(k:Int)(hx:NdV (fun q=>w.heap.size<q/\q≠t) w2 x (ndv x b cap))(hy:NdV (fun q=>w.heap.size<q/\q≠t) w2 y (ndv y b1 cap1))(g2:w2.heap[w.heap.size]?=some zbx)(gt:w2.heap[t]?=some zbx)(ht:w.heap.size<t)(hBw:B<w.heap.size)(hR:Rd w2 B ts j)(hk:a0b (fun k=>k=B) w w2) :
  PB w (put4 (w2.alloc (b0v x y b b1 cap cap1)) t (vi k) (sk []) (vi 0) (.slice (some (Ad w2.heap.size 0)) 2 2)) B ts k x y t j:=by
 have v:=block_lt g2
 have u:=block_lt gt
 have z:=ext_alloc (Below.refl w2.heap.size w2) (b0v x y b b1 cap cap1)
 refine⟨⟨_,2,a0f _ _ _ _ (block_alloc _ gt),?_,fun q e=>by have:=b0g e;omega⟩,(a2w _ _ _ _ (by omega)).trans (block_alloc _ g2),(hR.below z).put4 _ _ _ _ _ (by omega),a1j (hk.trans (a0b.of_below z)) _ _ _ _ _ (by omega),ht⟩
 refine Row.keep ?_ (a2g _ _ _ _ _ _) (fun q hq _=>hq.2)
 refine Row.two ⟨v,by omega⟩ ?_ ?_ (a0a w2 _)
 ·exact(hx.weak (fun q hq v=>⟨hq,by omega⟩)).below z
 ·exact(hy.weak (fun q hq v=>⟨hq,by omega⟩)).below z
theorem pb_C(k:Int)(hx:NdV (fun q=>w.heap.size<q) w2 x (ndv x b cap))(hy:NdV (fun q=>w.heap.size<q) w2 y (ndv y b1 cap1))(g2:w2.heap[w.heap.size]?=some zbx)(hR:Rd w2 B ts j)(hk:a0b (fun k=>k=B) w w2) :
  PB w ((w2.alloc (nbx (nd k [x,y]) (some (Ad (w2.heap.size+1) 0)) 2)).alloc (b0v x y b b1 cap cap1)) B ts k x y w2.heap.size j:=by
 have v:=ext_alloc (ext_alloc (Below.refl w2.heap.size w2) (nbx (nd k [x,y]) (some (Ad (w2.heap.size+1) 0)) 2)) (b0v x y b b1 cap cap1)
 have z:=block_lt g2
 have h4:=a0a (w2.alloc (nbx (nd k [x,y]) (some (Ad (w2.heap.size+1) 0)) 2)) (b0v x y b b1 cap cap1)
 rw[World.size_alloc]at h4
 refine⟨⟨_,2,block_alloc _ (a0a w2 _),?_,fun q e=>by have:=b0g e;omega⟩,block_below v g2,hR.below v,hk.trans (a0b.of_below v),z⟩
 refine Row.two ⟨by omega,by omega⟩ ?_ ?_ h4
 ·exact(hx.weak (fun q hq z=>⟨⟨hq,by omega⟩,by omega⟩)).below v
 ·exact(hy.weak (fun q hq z=>⟨⟨hq,by omega⟩,by omega⟩)).below v
theorem d7f{W:World}{b:Value}(h:tm[2]?.getD undef=Po B 0)(hx:W.heap[B]?=some (.cells #[a,b,c,d] 43)):(results Tryz.f179 tm).run Tryz.prog W=.ok (.agg #[a,b,c,d]) W:=by
 obtain⟨c0,c1,c2,c3,_,_,_,_⟩:=in4 hx
 simp[results,Tryz.results179,go_sem,h,c0,c1,c2,c3]
theorem c3t(f:Nat)(hE:a6g f)(r:PRes)(B:Nat)(ts:List Tok)(i:Nat)(w:World)(hC:Ctx w B ts i)(hP:need S.lp (rest ts i) (fun l=>(P f 0 nil0 0 l).on fun x l=>need S.cm l fun l=>(P f 0 nil0 0 l).on fun y l=>need S.rp l fun l=>.ok (nd 26 [x,y]) l)=some r):Cl 179 #[Po B 0] w (PAns no w B ts r):=by
 have w0:=hC.R.lt
 have x4:Bw w (w.alloc zbx):=ext_alloc (Below.refl _ _) _
 have h2:=a0a w zbx
 have x5:a0b (fun k=>k=B) w (w.alloc zbx):=a0b.of_below x4
 have y7:=hC.wantsU b3t hP _ x4
 rw[World.size_alloc]at y7
 clear hP
 go_enter Tryz.func179,Tryz.ntmps179
 go_wp2_with (first
  | (go_at_call 99;refine y7.mono ?_;rintro e w2 (⟨rfl,v,rfl,z9⟩|⟨x9,rfl,w7,z9⟩);(exact⟨rfl,a0d rfl v (x5.trans z9)⟩);(try dsimp only at x9);have a:=x5.trans z9;have g2:=z9.box h2 (by omega))
  | (go_at_call 163;refine(a7o x9 (fun r0 h=>hE r0 B ts _ _ (hC.on w7) h)).mono ?_;rintro e w3 (⟨j,rfl,v,rfl,g⟩|⟨n1,j1,b1,s,y4,rfl,w4,w9,g⟩);(exact⟨rfl,a0d rfl v (a.trans g)⟩);(try dsimp only at y4);have z1:=a.trans g;have g3:=g.box g2 (by omega);refine Hid.out ?_))
 have u6:=block_lt g2
 have v8:=g.size
 have z8:Bw w3 (w3.alloc (nbx n1 b1 s)):=ext_alloc (Below.refl _ _) _
 have q4:=a0a w3 (nbx n1 b1 s)
 have v9:=block_below z8 g3
 have z0:NdV (fun q=>w.heap.size<q) (w3.alloc (nbx n1 b1 s)) n1 (ndv n1 b1 s):=(w4.weak (fun q hq _=>by omega)).below z8
 have y9:=z1.trans (a0b.of_below z8)
 have z6:=(hC.on w9).wantsU b9e y4 _ z8
 rw[World.size_alloc]at z6
 obtain⟨t3,x6⟩:∃t3,w3.heap.size=t3:=⟨_,rfl⟩
 clear y7 x9 y4 w7 z9 a h2 g z1 w4
 rw[x6]at z6 q4 v8
 refine Lib.hid ?_
 go_wp2_with (go_at_call 99;refine z6.mono ?_;rintro e w5 (⟨rfl,v,rfl,o⟩|⟨y5,rfl,v4,o⟩);(exact⟨rfl,a0d rfl v (y9.trans o)⟩);(try dsimp only at y5);have p:=y9.trans o;have p3:=o.box q4 (by omega);have p2:=o.box v9 (by omega);have x7:=z0.keep o (fun q hq _=>by omega))
 have u5:=block_lt p3
 have w1:=hC.on v4
 have y8:=fun u (h:Ctx u B ts (j1+1))=>a7o y5 (fun r0 h0=>hE r0 B ts (j1+1) u h h0)
 clear x6 z6 y5 o y9 q4 v9 z0 g3 g2 w9 z8
 go_cut [4] (fun s4 wx=>∃t4 n2 j2,s4=Po t4 0/\PB w wx B ts 26 n1 n2 t4 j2/\need S.rp (rest ts j2) (fun l=>.ok (nd 26 [n1,n2]) l)=some r)
 case first =>
  obtain⟨c0,c1,c2,c3,f0,f1,f2,f3⟩:=in4 p3
  obtain⟨x0,x1,x2,x3,y0,y1,y2,y3⟩:=in4a p3
  go_region_with (first
   | (go_at_call 163;refine(y8 _ (w1.below ((Below.refl _ _).drew))).mono ?_;rintro e w6 (⟨j,rfl,v,rfl,z⟩|⟨n2,j2,b2,z7,z4,rfl,x8,z5,z⟩);(exact⟨rfl,a0d rfl v ((p.drew).trans z)⟩);have g3:=z.box p3 (by omega);have g2:=z.box p2 (by omega);obtain⟨c0,c1,c2,c3,f0,f1,f2,f3⟩:=in4 g3;obtain⟨x0,x1,x2,x3,y0,y1,y2,y3⟩:=in4a g3;have z2:NdV (fun q=>w.heap.size<q) w6 n1 (ndv n1 b1 s):=(x7.below ((Below.refl _ _).drew)).keep z (fun q hq _=>by omega);have z3:NdV (fun q=>w.heap.size<q) w6 n2 (ndv n2 b2 z7):=x8.weak (fun q hq _=>by simp at hq;omega);have n:=(p.drew).trans z)
   | (go_at_call 163;refine(y8 _ (w1.below ((ext_alloc (Below.refl _ _) zbx).drew))).mono ?_;rintro e w6 (⟨j,rfl,v,rfl,z⟩|⟨n2,j2,b2,z7,z4,rfl,x8,z5,z⟩);(exact⟨rfl,a0d rfl v (((p.alloc zbx).drew).trans z)⟩);have g3:=z.box (W:=(w5.alloc zbx).drew) (block_alloc zbx p3) (by omega);have g2:=z.box (W:=(w5.alloc zbx).drew) (block_alloc zbx p2) (by omega);have g4:=z.box (W:=(w5.alloc zbx).drew) (a0a w5 zbx) (by omega);obtain⟨c0,c1,c2,c3,f0,f1,f2,f3⟩:=in4 g3;obtain⟨x0,x1,x2,x3,y0,y1,y2,y3⟩:=in4a g3;obtain⟨u0,u1,u2,u3,v0,v1,v2,v3⟩:=in4a g4;have z2:NdV (fun q=>w.heap.size<q/\q≠w5.heap.size) w6 n1 (ndv n1 b1 s):=((x7.weak (S':=fun q=>w.heap.size<q/\q≠w5.heap.size) (fun q hq t9=>⟨hq,by omega⟩)).below ((ext_alloc (Below.refl _ _) zbx).drew)).keep z (fun q hq _=>by omega);have z3:NdV (fun q=>w.heap.size<q/\q≠w5.heap.size) w6 n2 (ndv n2 b2 z7):=x8.weak (fun q hq _=>by simp at hq;omega);have n:=((p.alloc zbx).drew).trans z))
  all_goals
   go_wp2
   go_meet
   case rel=>first
    | exact⟨_,n2,j2,rfl,pb_A 26 z2 z3 g2 z5 n,z4⟩
    | exact⟨_,n2,j2,rfl,pb_C 26 z2 z3 g2 z5 n,z4⟩
    | exact⟨_,n2,j2,rfl,pb_B 26 z2 z3 g2 g4 (by omega) w0 z5 n,z4⟩
 case rest =>
  obtain⟨t4,n2,j2,rfl,d,hr⟩:=hcut
  obtain⟨b4,u7,q4,y6,v7⟩:=d.box
  have q2:=d.ans
  have u4:=d.lt
  have v6:=(hC.on d.R).wantsU b5i hr wc (Below.refl _ _)
  have u8:=y6.node 26 [] 0
  clear y8 hr p3 p2 x7 p
  go_wp2_with (go_at_call 99;refine v6.mono ?_;rintro e w8 (⟨rfl,v,rfl,m⟩|⟨u9,rfl,v5,m⟩);(exact⟨rfl,a0d rfl v (d.K.trans m)⟩);have g4:=m.box q4 (by omega);have g2:=m.box q2 (by omega);obtain⟨c0,c1,c2,c3,f0,f1,f2,f3⟩:=in4 g4;obtain⟨d0,d1,d2,d3,e0,e1,e2,e3⟩:=in4 g2)
  refine bodyPost_ret (d7f rfl (a0f _ _ _ _ g2)) rfl ?_
  obtain rfl:=Option.some.inj u9
  exact a0j (N:=nd 26 [n1,n2]) rfl ((u8.keep m (fun q hq _=>by omega)).weak (fun q hq _=>⟨.inr (by omega),by omega⟩)) v5 (d.K.trans m) (Nat.le_refl _) w0
theorem c3u(h:a8t (2,t)):Lib.parseIntB 64 t=.ok (numV t:Int)/\t.length<=4000:=by
 have h1:=h.1
 have y:a1w (2,t)=t:=by unfold a1w;rw[if_neg (show ¬(2:Int)=3 by decide)]
 rw[y]at h1
 simp only at h1
 cases t with
 | nil=>simp[tokR]at h1
 | cons c r =>
  unfold tokR at h1
  simp only at h1
  split at h1
  ·split at h1
   ·cases h1
   ·exact absurd (TokR.inj h1).1 (by decide)
  split at h1
  ·split at h1
   ·rename_i hn
    obtain⟨_,_,v⟩:=TokR.inj h1
    rw[v,List.take_length]at hn
    unfold numE at hn
    split at hn
    ·exact absurd hn (by decide)
    rename_i ha
    split at hn
    ·exact absurd hn (by decide)
    rename_i h0
    split at hn
    ·exact absurd hn (by decide)
    rename_i hm
    have z:(c::r).all digB=true:=by simpa using ha
    refine⟨by rw[a8m _ (by simp) z,if_neg hm],?_⟩
    have:¬19<(c::r).length:=fun h=>hm ((d0q _ z h0).2 (.inl h))
    omega
   ·cases h1
  split at h1
  ·split at h1
   ·split at h1
    ·cases h1
    ·exact absurd (TokR.inj h1).1 (by decide)
   ·cases h1
  split at h1
  ·cases h1
  ·exact absurd (TokR.inj h1).1 (by decide)
theorem a5r(s:List UInt8):a0n.lookup s=if s=W.nil_ then some (ik 15) else if s=W.true_ then some (ik 16) else if s=W.false_ then some (ik 17) else none:=by
 unfold a0n
 simp only[List.lookup_cons,List.lookup_nil]
 by_cases h1:s=W.nil_
 ·subst h1;rfl
 by_cases h2:s=W.true_
 ·subst h2;rfl
 by_cases h3:s=W.false_
 ·subst h3;rfl
 rw[if_neg h1,if_neg h2,if_neg h3,beq_false_of_ne h1,beq_false_of_ne h2,beq_false_of_ne h3]
theorem c3v{i:Nat}{x:Tok}(h:ts[i]?=some x)(h3:¬x.k=3):wd ts i=x.t:=by
 unfold wd;rw[h];simp only;rw[if_neg h3]
def a9e (f:Nat) (l:List PT):PR :=
 if tx l=S.lc then need S.rc l.tail fun l=>.ok (nd 19 []) l
 else if tx l=W.next_ then need S.lp l.tail fun l=>(P f 0 nil0 0 l).on fun x l=>need S.cm l fun l=>(P f 0 nil0 0 l).on fun y l=>need S.rp l fun l=>.ok (nd 26 [x,y]) l
 else if tx l=S.lp then (P f 0 nil0 0 l.tail).on fun n l=>need S.rp l fun l=>.ok n l
 else a0v l fun s l=>.ok ⟨18,s,0,[]⟩ l
theorem lit_any(f:Nat)(r:PRes)(B:Nat)(ts:List Tok)(i:Nat)(w:World)(hC:Ctx w B ts i)(hP:P (f+1) 3 nil0 0 (rest ts i)=some r) :
  (∃N,r=.inr (N,rest ts (i+1))/\N.kids=[]/\∀u,Ctx u B ts i->Cl 178 #[Po B 0] u (LU u B ts N true (i+1))) \/
  (∃q,a9e f (rest ts i)=some r/\∀u,Ctx u B ts i->Cl 178 #[Po B 0] u (LU u B ts (nd q []) false i)):=by
 cases hx:ts[i]? with
 | none =>
  have v:=a5w (List.getElem?_eq_none_iff.1 hx)
  have o:wd ts i=[]:=by unfold wd;rw[hx]
  refine .inr ⟨0,?_,fun u y=>b7t B ts i 0 [] 0 u y (b3p hx) (by decide) (by decide) 0 (by rw[o];rfl) (by rw[o];rfl)⟩
  rw[v]at hP⊢
  rw[P]at hP
  unfold a9e
  rw[if_neg (by decide),if_neg (by decide),if_neg (by decide)]
  unfold a0v
  rw[if_neg (by decide)]
  exact hP
 | some x =>
  have v:=a9w hx
  have g:=(List.getElem?_eq_some_iff.1 hx).1
  have hv:a8t (pt x):=hC.V (pt x) (List.mem_map.2 ⟨x,List.mem_of_getElem? hx,rfl⟩)
  have s:=a9x hx
  rw[v]at hP
  rw[P]at hP
  simp only at hP
  by_cases h2:x.k=2
  ·rw[if_pos h2]at hP
   obtain rfl:=Option.some.inj hP
   have n:a8t (2,x.t):=by rw[<- h2];exact hv
   obtain⟨hp,d⟩:=c3u n
   have hd:∃c j,x.t=c::j/\digB c=true:=by
    rcases kinds_of_valid n with⟨h,_⟩|⟨_,h⟩|h|⟨h,_⟩
    ·omega
    ·exact h
    ·omega
    ·omega
   have hn:a0n.lookup (wd ts i)=none:=by
    rw[c3v hx (by omega),a5r]
    obtain⟨c,j,e,hd⟩:=hd
    rw[e]
    have q:∀a b,digB a=false->¬c::j=a::b:=fun a b h e=>by
     have:=(List.cons.inj e).1
     subst this
     rw[h]at hd;cases hd
    rw[if_neg (q _ _ rfl),if_neg (q _ _ rfl),if_neg (q _ _ rfl)]
   exact .inl ⟨_,rfl,rfl,fun u y=>d2z B ts i x.t (x.a:Nat) u y (by rw[s,h2]) g d _ hp 0 false (by rw[hn];rfl) (by rw[hn];rfl)⟩
  rw[if_neg h2]at hP
  by_cases h3:x.k=3
  ·rw[if_pos h3]at hP
   obtain rfl:=Option.some.inj hP
   have p:wd ts i=[]:=by unfold wd;rw[hx];simp only;rw[if_pos h3]
   exact .inl ⟨_,rfl,rfl,fun u y=>c7s B ts i x.t (x.a:Nat) u y (by rw[s,h3]) g 0 false (by rw[p];rfl) (by rw[p];rfl)⟩
  rw[if_neg h3]at hP
  have m:tx (pt x::rest ts (i+1))=x.t:=by unfold tx;simp only;rw[if_neg (by omega)]
  have p:=c3v hx h3
  rw[m]at hP
  have z:=fun q (hq:a0n.lookup x.t=some (ik q)) u y=>c7t B ts i x.k x.t (x.a:Nat) u y s h2 h3 g q (by rw[p,hq];rfl) (by rw[p,hq];rfl)
  by_cases a1:x.t=W.nil_
  ·refine .inl ⟨_,?_,rfl,z 15 (by rw[a5r,if_pos a1])⟩
   rw[a1,if_neg (by decide),if_pos rfl]at hP
   exact(Option.some.inj hP).symm
  by_cases a2:x.t=W.true_
  ·refine .inl ⟨_,?_,rfl,z 16 (by rw[a5r,if_neg a1,if_pos a2])⟩
   rw[a2,if_neg (by decide),if_neg (by decide),if_pos rfl]at hP
   exact(Option.some.inj hP).symm
  by_cases a3:x.t=W.false_
  ·refine .inl ⟨_,?_,rfl,z 17 (by rw[a5r,if_neg a1,if_neg a2,if_pos a3])⟩
   rw[a3,if_neg (by decide),if_neg (by decide),if_neg (by decide),if_pos rfl]at hP
   exact(Option.some.inj hP).symm
  have hn:a0n.lookup (wd ts i)=none:=by rw[p,a5r,if_neg a1,if_neg a2,if_neg a3]
  refine .inr ⟨0,?_,fun u y=>b7t B ts i x.k x.t (x.a:Nat) u y s h2 h3 0 (by rw[hn];rfl) (by rw[hn];rfl)⟩
  rw[if_neg a1,if_neg a2,if_neg a3]at hP
  rw[v]
  unfold a9e
  rw[m,List.tail_cons]
  by_cases b1:x.t=S.lc
  ·rw[b1,if_neg (by decide),if_pos rfl]at hP
   rw[if_pos b1];exact hP
  by_cases b2:x.t=W.next_
  ·rw[b2,if_neg (by decide),if_neg (by decide),if_pos rfl]at hP
   rw[if_neg b1,if_pos b2];exact hP
  by_cases b3:x.t=S.lp
  ·rw[if_pos b3]at hP
   rw[if_neg b1,if_neg b2,if_pos b3];exact hP
  rw[if_neg b3,if_neg b1,if_neg b2]at hP
  rw[if_neg b1,if_neg b2,if_neg b3];exact hP
end Go.Proofs.YtfbpdbndejefdaaGreatDoor
