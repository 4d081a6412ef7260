import Derived.Test.YtomniogfpfbolaaGreatDoorS25
namespace Go.Proofs.YtomniogfpfbolaaGreatDoor
open Go.RowKit Go
set_option maxRecDepth 100000
set_option maxHeartbeats 8000000
set_option linter.all false
variable {B:Nat} {w U:World}
theorem b4k{tm:Array Value}{W:World}{a b c d:Value}(h:tm[2]?.getD undef=Po B 0)(hx:W.heap[B]?=some (.cells #[a,b,c,d] 34)):(results Tryz.f133 tm).run Tryz.prog W=.ok (.agg #[a,b,c,d]) W:=by
 obtain⟨c0,c1,c2,c3,_,_,_,_⟩:=in4 hx
 simp[results,Tryz.results133,go_sem,h,c0,c1,c2,c3]
abbrev sgs:Obj:=.cells #[sk S.mi,sk W.not_,sk S.hs] 9
abbrev kds:Obj:=.cells #[vi 24,vi 23,vi 25] 3
structure UB (w U:World) (B:Nat):Prop where
 z:U.heap[w.heap.size]?=some zbx
 s:U.heap[w.heap.size+1]?=some sgs
 k:U.heap[w.heap.size+1+1]?=some kds
 K:a0b (fun q=>q=B) w U
theorem UB.on{U':World}(h:UB w U B)(hB:B<w.heap.size)(hk:a0b (fun q=>q=B) U U'):UB w U' B:=⟨hk.box h.z (by omega),hk.box h.s (by omega),hk.box h.k (by omega),h.K.trans hk⟩
theorem b8a(w:World)(B:Nat):UB w (((w.alloc zbx).alloc sgs).alloc kds) B:=by
 have z:=a0a w zbx
 have h1:=a0a (w.alloc zbx) sgs
 have h2:=a0a ((w.alloc zbx).alloc sgs) kds
 rw[World.size_alloc]at h1
 rw[World.size_alloc,World.size_alloc]at h2
 exact⟨q4z _ (q4z _ z),q4z _ h1,h2,a0b.of_below (q1z (q1z (q1z bz0 _) _) _)⟩
theorem a9i(w:World):Bw w (((w.alloc zbx).alloc sgs).alloc kds):=q1z (q1z (q1z bz0 _) _) _
structure UBc (w U:World):Prop where
 s0:U.cell? (Ad (w.heap.size+1) 0)=some (sk S.mi)
 s1:U.cell? (Ad (w.heap.size+1) 1)=some (sk W.not_)
 s2:U.cell? (Ad (w.heap.size+1) 2)=some (sk S.hs)
 k0:U.cell? (Ad (w.heap.size+1+1) 0)=some (vi 24)
 k1:U.cell? (Ad (w.heap.size+1+1) 1)=some (vi 23)
 k2:U.cell? (Ad (w.heap.size+1+1) 2)=some (vi 25)
theorem UB.c(h:UB w U B):UBc w U:=⟨q2z h.s rfl,q2z h.s rfl,q2z h.s rfl,q2z h.k rfl,q2z h.k rfl,q2z h.k rfl⟩
def UnI (f t:Nat) (w:World) (B:Nat) (ts:List Tok) (Fin:Nat->Prop) (r:PRes) (g:Nd->List PT->PR) (k:Nat) (wr:World):Prop :=
 ∃(x:Nd) (b:Option Addr) (cap j:Nat) (bad:Bool),wr.heap[t]?=some (nbx x b cap)/\wr.heap[w.heap.size]?=some zbx/\NdV (fun q=>w.heap.size<q/\q≠t) wr x (ndv x b cap)/\Dr wr B ts j bad/\a0b (fun k=>k=B) w wr/\k<=f/\Fl ts Fin r j bad (fun l=>(P k 4 x 0 l).on g)
theorem un_0(f:Nat)(hU:DUn f)(r:PRes)(Fin:Nat->Prop)(g:Nd->List PT->PR)(B:Nat)(ts:List Tok)(i:Nat)(w:World)(hF:a1y ts Fin r)(hR:Dr w B ts i false)(hy:tx (rest ts i)=S.mi)(hP:(P f 1 nil0 0 (rest ts (i+1))).on (fun x l=>g (nd 24 [x]) l)=some r):Cl 133 #[Po B 0] w (NA no w B ts Fin r g):=by
 have y7:=hR.lt
 have a:=b8a w B
 have z5:=a9i w
 have z1:=hR.below z5
 obtain⟨U,z8⟩:=exq (((w.alloc zbx).alloc sgs).alloc kds)
 rw[z8]at a z1 z5
 replace z8:((w.alloc (.cells #[vi 0,.string ⟨#[]⟩,vi 0,.slice none 0 0] 34)).alloc (.cells #[.string ⟨#[45]⟩,.string ⟨#[110,111,116]⟩,.string ⟨#[35]⟩] 9)).alloc (.cells #[vi 24,vi 23,vi 25] 3)=U:=z8
 obtain⟨s0,s1,s2,k0,k1,k2⟩:=a.c
 have y4:=fun u h=>a2k B ts i false S.mi hy (a5a hy (by decide)) u h
 go_enter Tryz.func133,Tryz.ntmps133
 go_wp2
 clear z8
 refine wp_loop_rounds 4 ?_
 rw[rounds_succ]
 go_wp2_with (first|(go_at_call 45;refine(y4 _ z1).mono ?_;rintro e w4 ⟨rfl,x8,y5⟩;have p:=a.on y7 y5)|(go_at_call 133;refine(hU r Fin _ B ts (i+1) _ hF x8 hP).mono ?_;rintro e w5 ⟨x,bx,cx,j,x6,rfl,hN,x9,y6,y8⟩;refine Hid.out ?_))
 have s:=p.on y7 y6
 obtain⟨s0,s1,s2,k0,k1,k2⟩:=s.c
 have x4:=q5z p.k
 have x7:NdV (fun q=>w.heap.size<=q/\q≠w.heap.size) w5 x (ndv x bx cx):=hN.weak (fun q hq _=>by have:=hq.resolve_left id;exact⟨by omega,by omega⟩)
 have z9:=q1z (Below.refl w5.heap.size w5) (nbx x bx cx)
 have gx:=a0a w5 (nbx x bx cx)
 have y9:=x7.below z9
 have y:=s.on y7 (a0b.of_below z9)
 have z2:=x9.below z9
 obtain⟨v,z7⟩:=exq (w5.alloc (nbx x bx cx))
 rw[z7]at gx y9 y z2
 have x5:=q5z y.k
 obtain⟨W7,z4⟩:=exq (put4 (v.alloc (nbx x bx cx)) w.heap.size (vi 24) (sk []) (vi 0) (.slice (some (Ad v.heap.size 0)) 1 1))
 obtain⟨b,g7,z6⟩:=b0e (D:=fun q=>w.heap.size<=q/\q≠w.heap.size) 24 0 y9 (fun q hq=>hq.2) ⟨by omega,by omega⟩ y.z z4
 have z3:=z2.keep z6 (fun q hq e=>by omega)
 have d:=y.K.then z6 (fun q hq e=>by omega)
 have z0:=b.node 24 [] 0
 replace z7:w5.alloc (.cells #[vi x.k,.string ⟨x.t.toArray⟩,vi x.n,.slice bx x.kids.length cx] 34)=v:=z7
 replace z4:((((v.alloc (.cells #[vi x.k,.string ⟨x.t.toArray⟩,vi x.n,.slice bx x.kids.length cx] 34)).setCell (Ad w.heap.size 0) (vi 24)).setCell (Ad w.heap.size 1) (.string ⟨#[]⟩)).setCell (Ad w.heap.size 2) (vi 0)).setCell (Ad w.heap.size 3) (.slice (some (Ad v.heap.size 0)) 1 1)=W7:=z4
 obtain⟨c0,c1,c2,c3,f0,f1,f2,f3⟩:=in4 y.z
 obtain⟨x0,x1,x2,x3,y0,y1,y2,y3⟩:=in4a y.z
 obtain⟨a0,a1,a2,a3,_,_,_,_⟩:=in4 gx
 obtain⟨u0,u1,u2,v0,v1,v2⟩:=y.c
 have q0:=fun o=>cellB (q1z (Below.refl _ v) o) v0
 have q1:=fun o=>cellB (q1z (Below.refl _ v) o) v1
 have q2:=fun o=>cellB (q1z (Below.refl _ v) o) v2
 have n1:¬w.heap.size=v.heap.size:=by omega
 have n2:¬v.heap.size=w.heap.size:=by omega
 replace y8:Hid _:=y8
 replace z0:Hid _:=z0
 replace z3:Hid _:=z3
 replace d:Hid _:=d
 clear hF hP hU y4 a hN x9 y6 s x7 z9 gx y9 y z2 b z6 z1 x8 y5 p hR z5
 refine Lib.hid ?_
 go_wp2
 go_region_with (fail)
 all_goals
  go_wp2
  have hd:=(Below.refl W7.heap.size W7).drew
  refine bodyPost_ret (b4k (W:=W7.drew) rfl g7) rfl ?_
  exact⟨nd 24 [x],_,1,j,x6,rfl,NdV.weak (NdV.below (x:=nd 24 [x]) z0.out hd) (fun q hq _=>.inr hq.1),z3.out.below hd,d.out.drew,y8.out⟩
theorem un_1(f:Nat)(hU:DUn f)(r:PRes)(Fin:Nat->Prop)(g:Nd->List PT->PR)(B:Nat)(ts:List Tok)(i:Nat)(w:World)(hF:a1y ts Fin r)(hR:Dr w B ts i false)(hn0:¬tx (rest ts i)=S.mi)(hy:tx (rest ts i)=W.not_)(hP:(P f 1 nil0 0 (rest ts (i+1))).on (fun x l=>g (nd 23 [x]) l)=some r):Cl 133 #[Po B 0] w (NA no w B ts Fin r g):=by
 have z6:=hR.lt
 have a:=b8a w B
 have z2:=a9i w
 have z7:=hR.below z2
 obtain⟨U,z8⟩:=exq (((w.alloc zbx).alloc sgs).alloc kds)
 rw[z8]at a z7 z2
 replace z8:((w.alloc (.cells #[vi 0,.string ⟨#[]⟩,vi 0,.slice none 0 0] 34)).alloc (.cells #[.string ⟨#[45]⟩,.string ⟨#[110,111,116]⟩,.string ⟨#[35]⟩] 9)).alloc (.cells #[vi 24,vi 23,vi 25] 3)=U:=z8
 obtain⟨s0,s1,s2,k0,k1,k2⟩:=a.c
 have x4:=fun u h=>a0o B ts i false S.mi hn0 u h
 have x8:=fun u h=>a2k B ts i false W.not_ hy (a5a hy (by decide)) u h
 go_enter Tryz.func133,Tryz.ntmps133
 go_wp2
 clear z8
 refine wp_loop_rounds 4 ?_
 rw[rounds_succ]
 go_wp2_with (go_at_call 45;refine(x4 _ z7).mono ?_;rintro e w1 ⟨rfl,y5⟩;have w9:=z7.below y5;have z5:=a.on z6 (a0b.of_below y5);obtain⟨s0,s1,s2,k0,k1,k2⟩:=z5.c)
 rw[rounds_succ]
 go_wp2_with (first|(go_at_call 45;refine(x8 _ w9).mono ?_;rintro e w4 ⟨rfl,x6,x9⟩;have p:=z5.on z6 x9)|(go_at_call 133;refine(hU r Fin _ B ts (i+1) _ hF x6 hP).mono ?_;rintro e w5 ⟨x,bx,cx,j,w8,rfl,hN,x7,y4,y6⟩;refine Hid.out ?_))
 have s:=p.on z6 y4
 obtain⟨s0,s1,s2,k0,k1,k2⟩:=s.c
 have w3:=q5z p.k
 have x5:NdV (fun q=>w.heap.size<=q/\q≠w.heap.size) w5 x (ndv x bx cx):=hN.weak (fun q hq _=>by have:=hq.resolve_left id;exact⟨by omega,by omega⟩)
 have z9:=q1z (Below.refl w5.heap.size w5) (nbx x bx cx)
 have gx:=a0a w5 (nbx x bx cx)
 have y7:=x5.below z9
 have y:=s.on z6 (a0b.of_below z9)
 have y9:=x7.below z9
 obtain⟨v,z4⟩:=exq (w5.alloc (nbx x bx cx))
 rw[z4]at gx y7 y y9
 have w7:=q5z y.k
 obtain⟨W7,z1⟩:=exq (put4 (v.alloc (nbx x bx cx)) w.heap.size (vi 23) (sk []) (vi 0) (.slice (some (Ad v.heap.size 0)) 1 1))
 obtain⟨b,g7,z3⟩:=b0e (D:=fun q=>w.heap.size<=q/\q≠w.heap.size) 23 0 y7 (fun q hq=>hq.2) ⟨by omega,by omega⟩ y.z z1
 have z0:=y9.keep z3 (fun q hq e=>by omega)
 have d:=y.K.then z3 (fun q hq e=>by omega)
 have y8:=b.node 23 [] 0
 replace z4:w5.alloc (.cells #[vi x.k,.string ⟨x.t.toArray⟩,vi x.n,.slice bx x.kids.length cx] 34)=v:=z4
 replace z1:((((v.alloc (.cells #[vi x.k,.string ⟨x.t.toArray⟩,vi x.n,.slice bx x.kids.length cx] 34)).setCell (Ad w.heap.size 0) (vi 23)).setCell (Ad w.heap.size 1) (.string ⟨#[]⟩)).setCell (Ad w.heap.size 2) (vi 0)).setCell (Ad w.heap.size 3) (.slice (some (Ad v.heap.size 0)) 1 1)=W7:=z1
 obtain⟨c0,c1,c2,c3,f0,f1,f2,f3⟩:=in4 y.z
 obtain⟨x0,x1,x2,x3,y0,y1,y2,y3⟩:=in4a y.z
 obtain⟨a0,a1,a2,a3,_,_,_,_⟩:=in4 gx
 obtain⟨u0,u1,u2,v0,v1,v2⟩:=y.c
 have q0:=fun o=>cellB (q1z (Below.refl _ v) o) v0
 have q1:=fun o=>cellB (q1z (Below.refl _ v) o) v1
 have q2:=fun o=>cellB (q1z (Below.refl _ v) o) v2
 have n1:¬w.heap.size=v.heap.size:=by omega
 have n2:¬v.heap.size=w.heap.size:=by omega
 replace y6:Hid _:=y6
 replace y8:Hid _:=y8
 replace z0:Hid _:=z0
 replace d:Hid _:=d
 clear hF hP hU x8 a hN x7 y4 s x5 z9 gx y7 y y9 b z3 z7 x6 x9 p hR z2
 refine Lib.hid ?_
 go_wp2
 go_region_with (fail)
 all_goals
  go_wp2
  have hd:=(Below.refl W7.heap.size W7).drew
  refine bodyPost_ret (b4k (W:=W7.drew) rfl g7) rfl ?_
  exact⟨nd 23 [x],_,1,j,w8,rfl,NdV.weak (NdV.below (x:=nd 23 [x]) y8.out hd) (fun q hq _=>.inr hq.1),z0.out.below hd,d.out.drew,y6.out⟩
theorem un_2(f:Nat)(hU:DUn f)(r:PRes)(Fin:Nat->Prop)(g:Nd->List PT->PR)(B:Nat)(ts:List Tok)(i:Nat)(w:World)(hF:a1y ts Fin r)(hR:Dr w B ts i false)(hn0:¬tx (rest ts i)=S.mi)(hn1:¬tx (rest ts i)=W.not_)(hy:tx (rest ts i)=S.hs)(hP:(P f 1 nil0 0 (rest ts (i+1))).on (fun x l=>g (nd 25 [x]) l)=some r):Cl 133 #[Po B 0] w (NA no w B ts Fin r g):=by
 have a:=hR.lt
 have z9:=b8a w B
 have z1:=a9i w
 have z6:=hR.below z1
 obtain⟨U,z7⟩:=exq (((w.alloc zbx).alloc sgs).alloc kds)
 rw[z7]at z9 z6 z1
 replace z7:((w.alloc (.cells #[vi 0,.string ⟨#[]⟩,vi 0,.slice none 0 0] 34)).alloc (.cells #[.string ⟨#[45]⟩,.string ⟨#[110,111,116]⟩,.string ⟨#[35]⟩] 9)).alloc (.cells #[vi 24,vi 23,vi 25] 3)=U:=z7
 obtain⟨s0,s1,s2,k0,k1,k2⟩:=z9.c
 have w3:=fun u h=>a0o B ts i false S.mi hn0 u h
 have w7:=fun u h=>a0o B ts i false W.not_ hn1 u h
 have x6:=fun u h=>a2k B ts i false S.hs hy (a5a hy (by decide)) u h
 go_enter Tryz.func133,Tryz.ntmps133
 go_wp2
 clear z7
 refine wp_loop_rounds 4 ?_
 rw[rounds_succ]
 go_wp2_with (go_at_call 45;refine(w3 _ z6).mono ?_;rintro e w1 ⟨rfl,x9⟩;have w9:=z6.below x9;have z4:=z9.on a (a0b.of_below x9);obtain⟨s0,s1,s2,k0,k1,k2⟩:=z4.c)
 rw[rounds_succ]
 go_wp2_with (go_at_call 45;refine(w7 _ w9).mono ?_;rintro e w2 ⟨rfl,y4⟩;have w0:=w9.below y4;have z5:=z4.on a (a0b.of_below y4);obtain⟨s0,s1,s2,k0,k1,k2⟩:=z5.c)
 rw[rounds_succ]
 go_wp2_with (first|(go_at_call 45;refine(x6 _ w0).mono ?_;rintro e w4 ⟨rfl,x4,x7⟩;have p:=z5.on a x7)|(go_at_call 133;refine(hU r Fin _ B ts (i+1) _ hF x4 hP).mono ?_;rintro e w5 ⟨x,bx,cx,j,v9,rfl,hN,x5,x8,y5⟩;refine Hid.out ?_))
 have s:=p.on a x8
 obtain⟨s0,s1,s2,k0,k1,k2⟩:=s.c
 have v7:=q5z p.k
 have w8:NdV (fun q=>w.heap.size<=q/\q≠w.heap.size) w5 x (ndv x bx cx):=hN.weak (fun q hq _=>by have:=hq.resolve_left id;exact⟨by omega,by omega⟩)
 have z8:=q1z (Below.refl w5.heap.size w5) (nbx x bx cx)
 have gx:=a0a w5 (nbx x bx cx)
 have y6:=w8.below z8
 have y:=s.on a (a0b.of_below z8)
 have y8:=x5.below z8
 obtain⟨v,z3⟩:=exq (w5.alloc (nbx x bx cx))
 rw[z3]at gx y6 y y8
 have v8:=q5z y.k
 obtain⟨W7,z0⟩:=exq (put4 (v.alloc (nbx x bx cx)) w.heap.size (vi 25) (sk []) (vi 0) (.slice (some (Ad v.heap.size 0)) 1 1))
 obtain⟨b,g7,z2⟩:=b0e (D:=fun q=>w.heap.size<=q/\q≠w.heap.size) 25 0 y6 (fun q hq=>hq.2) ⟨by omega,by omega⟩ y.z z0
 have y9:=y8.keep z2 (fun q hq e=>by omega)
 have d:=y.K.then z2 (fun q hq e=>by omega)
 have y7:=b.node 25 [] 0
 replace z3:w5.alloc (.cells #[vi x.k,.string ⟨x.t.toArray⟩,vi x.n,.slice bx x.kids.length cx] 34)=v:=z3
 replace z0:((((v.alloc (.cells #[vi x.k,.string ⟨x.t.toArray⟩,vi x.n,.slice bx x.kids.length cx] 34)).setCell (Ad w.heap.size 0) (vi 25)).setCell (Ad w.heap.size 1) (.string ⟨#[]⟩)).setCell (Ad w.heap.size 2) (vi 0)).setCell (Ad w.heap.size 3) (.slice (some (Ad v.heap.size 0)) 1 1)=W7:=z0
 obtain⟨c0,c1,c2,c3,f0,f1,f2,f3⟩:=in4 y.z
 obtain⟨x0,x1,x2,x3,y0,y1,y2,y3⟩:=in4a y.z
 obtain⟨a0,a1,a2,a3,_,_,_,_⟩:=in4 gx
 obtain⟨u0,u1,u2,v0,v1,v2⟩:=y.c
 have q0:=fun o=>cellB (q1z (Below.refl _ v) o) v0
 have q1:=fun o=>cellB (q1z (Below.refl _ v) o) v1
 have q2:=fun o=>cellB (q1z (Below.refl _ v) o) v2
 have n1:¬w.heap.size=v.heap.size:=by omega
 have n2:¬v.heap.size=w.heap.size:=by omega
 replace y5:Hid _:=y5
 replace y7:Hid _:=y7
 replace y9:Hid _:=y9
 replace d:Hid _:=d
 clear hF hP hU x6 z9 hN x5 x8 s w8 z8 gx y6 y y8 b z2 z6 x4 x7 p hR z1
 refine Lib.hid ?_
 go_wp2
 go_region_with (fail)
 all_goals
  go_wp2
  have hd:=(Below.refl W7.heap.size W7).drew
  refine bodyPost_ret (b4k (W:=W7.drew) rfl g7) rfl ?_
  exact⟨nd 25 [x],_,1,j,v9,rfl,NdV.weak (NdV.below (x:=nd 25 [x]) y7.out hd) (fun q hq _=>.inr hq.1),y9.out.below hd,d.out.drew,y5.out⟩
theorem un_3(f:Nat)(hM:DFst f)(hB:∀k,k<f->DBeh k)(r:PRes)(Fin:Nat->Prop)(g:Nd->List PT->PR)(B:Nat)(ts:List Tok)(i:Nat)(w:World)(hF:a1y ts Fin r)(hR:Dr w B ts i false)(hn0:¬tx (rest ts i)=S.mi)(hn1:¬tx (rest ts i)=W.not_)(hn2:¬tx (rest ts i)=S.hs)(hP:(P f 3 nil0 0 (rest ts i)).on (fun n l=>(P f 4 n 0 l).on g)=some r):Cl 133 #[Po B 0] w (NA no w B ts Fin r g):=by
 have hBw:=hR.lt
 have hub:=b8a w B
 have hb0:=a9i w
 have hR0:=hR.below hb0
 obtain⟨U,hU0⟩:=exq (((w.alloc zbx).alloc sgs).alloc kds)
 rw[hU0]at hub hR0 hb0
 replace hU0:((w.alloc (.cells #[vi 0,.string ⟨#[]⟩,vi 0,.slice none 0 0] 34)).alloc (.cells #[.string ⟨#[45]⟩,.string ⟨#[110,111,116]⟩,.string ⟨#[35]⟩] 9)).alloc (.cells #[vi 24,vi 23,vi 25] 3)=U:=hU0
 obtain⟨s0,s1,s2,k0,k1,k2⟩:=hub.c
 have hT0:=fun u h=>a0o B ts i false S.mi hn0 u h
 have hT1:=fun u h=>a0o B ts i false W.not_ hn1 u h
 have hT2:=fun u h=>a0o B ts i false S.hs hn2 u h
 go_enter Tryz.func133,Tryz.ntmps133
 go_wp2
 clear hU0
 refine wp_loop_rounds 4 ?_
 rw[rounds_succ]
 go_wp2_with (go_at_call 45;refine(hT0 _ hR0).mono ?_;rintro e w1 ⟨rfl,hx1⟩;have hR1:=hR0.below hx1;have hub1:=hub.on hBw (a0b.of_below hx1);obtain⟨s0,s1,s2,k0,k1,k2⟩:=hub1.c)
 rw[rounds_succ]
 go_wp2_with (go_at_call 45;refine(hT1 _ hR1).mono ?_;rintro e w2 ⟨rfl,hx2⟩;have hR2:=hR1.below hx2;have hub2:=hub1.on hBw (a0b.of_below hx2);obtain⟨s0,s1,s2,k0,k1,k2⟩:=hub2.c)
 rw[rounds_succ]
 go_wp2_with (go_at_call 45;refine(hT2 _ hR2).mono ?_;rintro e w3 ⟨rfl,hx3⟩;have hR3:=hR2.below hx3;have hub3:=hub2.on hBw (a0b.of_below hx3);obtain⟨s0,s1,s2,k0,k1,k2⟩:=hub3.c)
 rw[rounds_succ]
 go_wp2_with (go_at_call 149;refine(hM r Fin _ B ts i _ hF hR3 hP).mono ?_;rintro e w5 ⟨x,b,cap,j,bad,rfl,hN,hR5,hk5,hFl⟩;refine Hid.out ?_)
 have hub5:=hub3.on hBw hk5
 have hz3:=q5z hub3.k
 have hz5:=q5z hub5.k
 have hb6:=q1z (Below.refl w5.heap.size w5) (nbx x b cap)
 have gt:=a0a w5 (nbx x b cap)
 have hI:UnI f w5.heap.size w B ts Fin r g f (w5.alloc (nbx x b cap)):=⟨x,b,cap,j,bad,gt,q0z hb6 hub5.z,(hN.weak (fun q hq hlt=>by have:=hq.resolve_left id;exact⟨by omega,by omega⟩)).below hb6,hR5.below hb6,hub5.K.trans (a0b.of_below hb6),Nat.le_refl _,hFl⟩
 obtain⟨t,ht⟩:=exq (w5.heap.size)
 rw[ht]at hI hz5
 clear hP hN hR5 hk5 hFl hb6 gt hb0 hub hub1 hub2 hub3 hub5 s0 s1 s2 k0 k1 k2 hT0 hT1 hT2 hR0 hR1 hR2 hR3 hx1 hx2 hx3 hR
 refine Lib.hid ?_
 go_wp2
 clear ht
 go_loopg [31] f (fun k _ wr=>UnI f t w B ts Fin r g k wr)
 case atStart=>exact hI
 case round =>
  obtain⟨x,b,cap,j,bad,p3,p2,hN,hR1,hk,hgf,hFl⟩:=hrel
  clear hI
  have hz3:=q5z p3
  have hz2:=q5z p2
  obtain⟨c0,c1,c2,c3,f0,f1,f2,f3⟩:=in4 p3
  obtain⟨d0,d1,d2,d3,e0,e1,e2,e3⟩:=in4 p2
  obtain⟨b',cap',s0,s1,s2,v1,v2⟩:=hR1.cells
  have hNw:NdV (fun q=>(no q\/w.heap.size<=q)/\q≠w.heap.size) wr x (ndv x b cap):=hN.weak (fun q hq _=>⟨.inr (by omega),by omega⟩)
  rcases hFl with⟨rfl,hFi⟩|⟨rfl,hP⟩
  ·go_wp2
   refine bodyPost_ret (b4k rfl (a0c _ _ _ _ p2)) rfl ?_
   exact a1a hNw hR1 hk (Nat.le_refl _) hBw (.inl ⟨rfl,hFi⟩)
  have hT:=fun u (h:Dr u B ts j false)=>a4g B ts j false u h
  rw[show txd ts j false=tx (rest ts j) from rfl]at hT
  cases gk with
  | zero=>cases hP
  | succ k =>
  dsimp only at hP
  rw[P,a2f]at hP
  by_cases hlb:tx (rest ts j)=S.lb
  ·rw[if_pos (.inl hlb),a4h]at hP
   rw[hlb]at hT
   have hcall:=fun u (h:Dr u B ts j false) (hN':NdV (fun q=>w.heap.size<q/\q≠t) u x (ndv x b cap))=>hB k (by omega) x b cap _ r Fin _ B ts j u hF h hN' (fun q hq=>by omega) hP
   clear hlb
   have hcall2:=fun u (hb:Bw wr u)=>hcall u (hR1.below hb) (hN.below hb)
   clear hP hcall
   go_wp2_with (first|(go_at_call 44;refine(hT wr hR1).mono ?_;rintro e w2 ⟨rfl,hb2⟩;have q3:=q0z hb2 p3;have q2:=q0z hb2 p2;obtain⟨c0,c1,c2,c3,f0,f1,f2,f3⟩:=in4 q3)|(go_at_call 118;refine(hcall2 _ hb2).mono ?_;rintro e w4 ⟨x2,b2,cap2,j2,bad2,rfl,hN2,hR2,hk2,hFl2⟩;have r3:=hk2.box q3 (by omega);have r2:=hk2.box q2 (by omega);obtain⟨c0,c1,c2,c3,f0,f1,f2,f3⟩:=in4 r3))
   have hz4:=hb2.size
   have hkw:=(hk.trans (a0b.of_below hb2)).trans hk2
   go_roundg k
   case measure=>omega
   case rel=>exact⟨x2,b2,cap2,j2,bad2,a0c _ _ _ _ r3,(a2e _ _ _ _ (by omega)).trans r2,(hN2.weak (fun q hq _=>by rcases hq with hq|hq;exact hq;exact⟨by omega,by omega⟩)).put4 _ _ _ _ _ (fun q hq=>hq.2),hR2.put4 _ _ _ _ _ (by omega),a1f hkw _ _ _ _ _ (by omega),by omega,hFl2⟩
  by_cases hlp:tx (rest ts j)=S.lp
  ·rw[if_pos (.inr hlp),a4h]at hP
   rw[hlp]at hT
   have hcall:=fun u (h:Dr u B ts j false) (hN':NdV (fun q=>w.heap.size<q/\q≠t) u x (ndv x b cap))=>hB k (by omega) x b cap _ r Fin _ B ts j u hF h hN' (fun q hq=>by omega) hP
   clear hlp hlb
   have hcall2:=fun u (hb:Bw wr u)=>hcall u (hR1.below hb) (hN.below hb)
   clear hP hcall
   go_wp2_with (first|(go_at_call 44;refine(hT wr hR1).mono ?_;rintro e w2 ⟨rfl,hb2⟩;have q3:=q0z hb2 p3;have q2:=q0z hb2 p2;obtain⟨c0,c1,c2,c3,f0,f1,f2,f3⟩:=in4 q3)|(go_at_call 44;refine(hT w2 (hR1.below hb2)).mono ?_;rintro e w3 ⟨rfl,hb3⟩;have hb23:=q3z hb2 hb3;have q33:=q0z hb3 q3;have q23:=q0z hb3 q2;obtain⟨c0,c1,c2,c3,f0,f1,f2,f3⟩:=in4 q33;obtain⟨d0,d1,d2,d3,e0,e1,e2,e3⟩:=in4 q23)|(go_at_call 118;refine(hcall2 _ hb23).mono ?_;rintro e w4 ⟨x2,b2,cap2,j2,bad2,rfl,hN2,hR2,hk2,hFl2⟩;have r3:=hk2.box q33 (by omega);have r2:=hk2.box q23 (by omega);obtain⟨c0,c1,c2,c3,f0,f1,f2,f3⟩:=in4 r3))
   have hz4:=hb23.size
   have hkw:=(hk.trans (a0b.of_below hb23)).trans hk2
   go_roundg k
   case measure=>omega
   case rel=>exact⟨x2,b2,cap2,j2,bad2,a0c _ _ _ _ r3,(a2e _ _ _ _ (by omega)).trans r2,(hN2.weak (fun q hq _=>by rcases hq with hq|hq;exact hq;exact⟨by omega,by omega⟩)).put4 _ _ _ _ _ (fun q hq=>hq.2),hR2.put4 _ _ _ _ _ (by omega),a1f hkw _ _ _ _ _ (by omega),by omega,hFl2⟩
  rw[if_neg (by rintro(h|h);exact hlb h;exact hlp h)]at hP
  obtain⟨tt,htt⟩:=exq (tx (rest ts j))
  rw[htt]at hT hlb hlp
  have g1:(tt == [91])=false:=by simpa using hlb
  have g2:(tt == [40])=false:=by simpa using hlp
  clear htt hlb hlp
  go_wp2_with (first|(go_at_call 44;refine(hT wr hR1).mono ?_;rintro e w2 ⟨rfl,hb2⟩;have q3:=q0z hb2 p3;have q2:=q0z hb2 p2)|(go_at_call 44;refine(hT w2 (hR1.below hb2)).mono ?_;rintro e w3 ⟨rfl,hb3⟩;have hb23:=q3z hb2 hb3;have q33:=q0z hb3 q3;have q23:=q0z hb3 q2;obtain⟨c0,c1,c2,c3,f0,f1,f2,f3⟩:=in4 q33;obtain⟨d0,d1,d2,d3,e0,e1,e2,e3⟩:=in4 q23))
  refine bodyPost_ret (b4k rfl (a0c _ _ _ _ q23)) rfl ?_
  exact a1a (hNw.below hb23) (hR1.below hb23) (hk.trans (a0b.of_below hb23)) (Nat.le_refl _) hBw (.inr ⟨rfl,hP⟩)
theorem c8i(f:Nat)(hU:DUn f)(hM:DFst f)(hB:∀k,k<f->DBeh k):DUn (f+1):=by
 intro r y g B ts i w v x z
 rw[P,a2f]at z
 split at z
 ·rename_i h
  rw[a4h,a0g]at z
  exact un_0 f hU r y g B ts i w v x h z
 rename_i h0
 rw[a2f]at z
 split at z
 ·rename_i h
  rw[a4h,a0g]at z
  exact un_1 f hU r y g B ts i w v x h0 h z
 rename_i h1
 rw[a2f]at z
 split at z
 ·rename_i h
  rw[a4h,a0g]at z
  exact un_2 f hU r y g B ts i w v x h0 h1 h z
 rename_i h2
 rw[a4h]at z
 exact un_3 f hM hB r y g B ts i w v x h0 h1 h2 z
end Go.Proofs.YtomniogfpfbolaaGreatDoor
