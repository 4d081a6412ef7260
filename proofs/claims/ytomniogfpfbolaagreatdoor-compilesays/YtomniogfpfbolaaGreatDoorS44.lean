import Derived.Test.YtomniogfpfbolaaGreatDoorS42
namespace Go.Proofs.YtomniogfpfbolaaGreatDoor
open Go.RowKit Go
set_option maxRecDepth 100000
set_option maxHeartbeats 8000000
set_option linter.all false
theorem a7c{tm:Array Value}{W:World}{B:Nat}{a b c d:Value}(h:tm[2]?.getD undef=Po B 0)(hx:W.heap[B]?=some (.cells #[a,b,c,d] 34)):(results Tryz.f149 tm).run Tryz.prog W=.ok (.agg #[a,b,c,d]) W:=by
 obtain⟨c0,c1,c2,c3,_,_,_,_⟩:=in4 hx
 simp[results,Tryz.results149,go_sem,h,c0,c1,c2,c3]
theorem d3j(B:Nat)(ts:List Tok)(i:Nat)(hi:i=ts.length)(r:PRes)(Fin:Nat->Prop)(g:Nd->List PT->PR)(w:World)(hR:Dr w B ts i false)(hFi:Fin i):Cl 149 #[Po B 0] w (NA no w B ts Fin r g):=by
 have z:Bw w (w.alloc zbx):=q1z bz0 _
 have s:=hR.lt
 have y:=hR.below z
 have h2:=a0a w zbx
 obtain⟨b,cap,s0,s1,s2,n,o⟩:=y.cells
 obtain⟨U,u⟩:=exq (w.alloc zbx)
 rw[u]at z y h2 s0 s1 s2 n o
 replace u:w.alloc (.cells #[vi 0,.string ⟨#[]⟩,vi 0,.slice none 0 0] 34)=U:=u
 obtain⟨c0,c1,c2,c3,f0,f1,f2,f3⟩:=in4 h2
 rw[<- hi]at s0
 have h:¬B=w.heap.size:=by omega
 have l:¬w.heap.size=B:=by omega
 clear hi
 go_enter Tryz.func149,Tryz.ntmps149
 go_wp2
 go_quiet (fail)
 go_wp2
 have hd:Bw U (U.drewN nq):=q9z bz0
 have t:=(y.below hd).fail true
 have p:=q0z hd h2
 have v:a0b (fun q=>q=B) w ((U.drewN nq).setCell (Ad B 2) (.bool true)):=((a0b.of_below z).trans (a0b.of_below hd)).set B 2 _ (fun _=>rfl)
 refine bodyPost_ret (a7c rfl (a0c _ _ _ _ ((q8z _ _ (by omega)).trans p))) rfl ?_
 exact a1a (x:=⟨0,[],0,[]⟩) (b:=none) (cap:=0) (a2a _ _ 0 [] 0) t v (Nat.le_refl _) s (.inl ⟨rfl,hFi⟩)
theorem c8z(B:Nat)(ts:List Tok)(i:Nat)(t:List UInt8)(a:Nat)(hx:ts[i]?=some ⟨3,t,a⟩)(r:PRes)(Fin:Nat->Prop)(g:Nd->List PT->PR)(w:World)(hF:a1y ts Fin r)(hR:Dr w B ts i false)(hP:g ⟨14,t,0,[]⟩ (rest ts (i+1))=some r):Cl 149 #[Po B 0] w (NA no w B ts Fin r g):=by
 have v:Bw w (w.alloc zbx):=q1z bz0 _
 have z6:=hR.lt
 have s:=hR.below v
 have h2:=a0a w zbx
 obtain⟨b,cap,h1,ht,c⟩:=s.box
 obtain⟨s0,s1,s2,v1,v2⟩:=drC h1
 have hs:=hR.short
 obtain⟨hi,_⟩:=List.getElem?_eq_some_iff.1 hx
 rcases ht with rfl|⟨q,rfl,hg,z3,z⟩
 ·simp at hx
 have t0:(w.alloc zbx).cell? (Ad q (i*3))=some (vi 3):=z i _ hx 0 _ rfl
 have t1:=z i _ hx 1 _ rfl
 have t2:=z i _ hx 2 _ rfl
 dsimp only at t1 t2
 obtain⟨n,hn⟩:=exq (ts.length)
 rw[hn]at s0 hi hs c
 have z4:(i:Int)<(n:Int):=by omega
 have z2:decide (n<=i)=false:=decide_eq_false (by omega)
 obtain⟨U,hU⟩:=exq (w.alloc zbx)
 rw[hU]at v s h2 s0 s1 s2 v1 v2 t0 t1 t2
 replace hU:w.alloc (.cells #[vi 0,.string ⟨#[]⟩,vi 0,.slice none 0 0] 34)=U:=hU
 have z7:q<U.heap.size:=World.block_lt_of_cell? _ _ t0
 have z5:B<U.heap.size:=World.block_lt_of_cell? _ _ s0
 have m1:¬B=U.heap.size:=by omega
 have m2:¬U.heap.size=B:=by omega
 have m3:¬q=U.heap.size:=by omega
 have m4:¬U.heap.size=q:=by omega
 clear z hx h1
 go_enter Tryz.func149,Tryz.ntmps149
 go_wp2
 go_quiet (fail)
 go_wp2
 have hd:Bw U (U.drewN nq):=q9z bz0
 have f:=s.below hd
 have p:=q0z hd h2
 have l:=q3z v hd
 have S0:=cellB hd s0
 have S1:=cellB hd s1
 have T0:=cellB hd t0
 have T1:=cellB hd t1
 have T2:=cellB hd t2
 have d:(U.drewN nq).heap.size=U.heap.size:=rfl
 obtain⟨X,hX⟩:=exq (U.drewN nq)
 rw[hX]at f p l S0 S1 T0 T1 T2 d
 rw[hX]
 rw[<- d]at m1 m2 m3 m4
 clear hX hd s0 s1 s2 v1 v2 t0 t1 t2 s h2 v z7 z5 d hU
 go_region_held3 (fun u=>u.cell? (Ad B 0)=some (.slice (some (Ad q 0)) n cap)/\u.cell? (Ad B 1)=some (vi (i:Nat))/\u.cell? (Ad q (i*3))=some (vi 3)/\u.cell? (Ad q (i*3+1))=some (.string ⟨t.toArray⟩)/\u.cell? (Ad q (i*3+2))=some (vi (a:Nat))) (go_keep) (fail)
 have y:=(q1z (Below.refl X.heap.size X) (tbx 3 ⟨t.toArray⟩ (a:Nat))).drew
 have gT:(X.alloc (tbx 3 ⟨t.toArray⟩ (a:Nat))).drew.heap[X.heap.size]?=some (tbx 3 ⟨t.toArray⟩ (a:Nat)):=a0a X _
 have h:=f.below y
 have e:=q0z y p
 have z9:=q3z l y
 have z8:=q5z p
 obtain⟨Y,hY⟩:=exq ((X.alloc (tbx 3 ⟨t.toArray⟩ (a:Nat))).drew)
 rw[hY]at y gT h e z9
 replace hY:(X.alloc (.cells #[vi 3,.string ⟨t.toArray⟩,vi (a:Nat)] 85)).drew=Y:=hY
 rw[hY]
 obtain⟨tb,o⟩:=exq (X.heap.size)
 rw[o]at gT z8 m1 m2
 rw[o]
 clear hY o y f p l S0 S1 T0 T1 T2 m3 m4
 obtain⟨u0,u1⟩:=a6f gT
 obtain⟨b',cap',s0,s1,s2,v1,v2⟩:=h.cells
 obtain⟨d0,d1,d2,d3,e0,e1,e2,e3⟩:=in4 e
 refine Lib.hid ?_
 go_wp2
 refine bodyPost_ret (a7c rfl (a0c _ _ _ _ ((q8z _ _ (by omega)).trans e))) rfl ?_
 exact a1a (x:=⟨14,t,0,[]⟩) (b:=none) (cap:=0) (a2a _ _ 14 t 0) (h.go (j:=i+1) (by omega)) ((a0b.of_below z9).set B 1 _ (fun _=>rfl)) (Nat.le_refl _) z6 (.inr ⟨rfl,hP⟩)
abbrev wdsO:Obj:=.cells #[sk W.nil_,sk W.true_,sk W.false_] 9
theorem d6x(k:Int)(f:Nat)(hE:DRow f)(B:Nat)(ts:List Tok)(i:Nat)(t:List UInt8)(a:Nat)(hx:ts[i]?=some ⟨k,t,a⟩)(r:PRes)(Fin:Nat->Prop)(g:Nd->List PT->PR)(w:World)(hF:a1y ts Fin r)(hR:Dr w B ts i false)(q2:(k == 2)=false)(q3:(k == 3)=false)(hy:tx (rest ts i)=S.lp)(hP:(P f 0 nil0 0 (rest ts (i+1))).on (fun n l=>need S.rp l fun l=>g n l)=some r):Cl 149 #[Po B 0] w (NA no w B ts Fin r g):=by
 have o:Bw w (w.alloc zbx):=q1z bz0 _
 have x2:=hR.lt
 have c:=hR.below o
 have h2:=a0a w zbx
 obtain⟨b,cap,h1,ht,y6⟩:=c.box
 obtain⟨s0,s1,s2,v1,v2⟩:=drC h1
 have hs:=hR.short
 obtain⟨hi,_⟩:=List.getElem?_eq_some_iff.1 hx
 rcases ht with rfl|⟨q,rfl,hg,w4,z⟩
 ·simp at hx
 have t0:(w.alloc zbx).cell? (Ad q (i*3))=some (vi k):=z i _ hx 0 _ rfl
 have t1:=z i _ hx 1 _ rfl
 have t2:=z i _ hx 2 _ rfl
 dsimp only at t1 t2
 obtain⟨n,hn⟩:=exq (ts.length)
 rw[hn]at s0 hi hs y6
 have w6:(i:Int)<(n:Int):=by omega
 have w3:decide (n<=i)=false:=decide_eq_false (by omega)
 obtain⟨U,hU⟩:=exq (w.alloc zbx)
 rw[hU]at o c h2 s0 s1 s2 v1 v2 t0 t1 t2
 replace hU:w.alloc (.cells #[vi 0,.string ⟨#[]⟩,vi 0,.slice none 0 0] 34)=U:=hU
 have y0:q<U.heap.size:=World.block_lt_of_cell? _ _ t0
 have x1:B<U.heap.size:=World.block_lt_of_cell? _ _ s0
 have m1:¬B=U.heap.size:=by omega
 have m2:¬U.heap.size=B:=by omega
 have m3:¬q=U.heap.size:=by omega
 have m4:¬U.heap.size=q:=by omega
 clear z hx h1
 go_enter Tryz.func149,Tryz.ntmps149
 go_wp2
 go_quiet (fail)
 go_wp2
 have hd:Bw U (U.drewN nq):=q9z bz0
 have y9:=c.below hd
 have z8:=q0z hd h2
 have z0:=q3z o hd
 have S0:=cellB hd s0
 have S1:=cellB hd s1
 have T0:=cellB hd t0
 have T1:=cellB hd t1
 have T2:=cellB hd t2
 have y8:(U.drewN nq).heap.size=U.heap.size:=rfl
 obtain⟨X,hX⟩:=exq (U.drewN nq)
 rw[hX]at y9 z8 z0 S0 S1 T0 T1 T2 y8
 rw[hX]
 rw[<- y8]at m1 m2 m3 m4
 clear hX hd s0 s1 s2 v1 v2 t0 t1 t2 c h2 o y0 x1 y8 hU
 go_region_held3 (fun u=>u.cell? (Ad B 0)=some (.slice (some (Ad q 0)) n cap)/\u.cell? (Ad B 1)=some (vi (i:Nat))/\u.cell? (Ad q (i*3))=some (vi k)/\u.cell? (Ad q (i*3+1))=some (.string ⟨t.toArray⟩)/\u.cell? (Ad q (i*3+2))=some (vi (a:Nat))) (go_keep) (fail)
 have y:=(q1z (Below.refl X.heap.size X) (tbx k ⟨t.toArray⟩ (a:Nat))).drew
 have gT:(X.alloc (tbx k ⟨t.toArray⟩ (a:Nat))).drew.heap[X.heap.size]?=some (tbx k ⟨t.toArray⟩ (a:Nat)):=a0a X _
 have d:=y9.below y
 have z9:=q0z y z8
 have z2:=q3z z0 y
 have y1:=q5z z8
 obtain⟨Y,hY⟩:=exq ((X.alloc (tbx k ⟨t.toArray⟩ (a:Nat))).drew)
 rw[hY]at y gT d z9 z2
 replace hY:(X.alloc (.cells #[vi k,.string ⟨t.toArray⟩,vi (a:Nat)] 85)).drew=Y:=hY
 rw[hY]
 obtain⟨tb,z4⟩:=exq (X.heap.size)
 rw[z4]at gT y1 m1 m2
 rw[z4]
 clear hY z4 y y9 z8 z0 S0 S1 T0 T1 T2 m3 m4
 obtain⟨u0,u1⟩:=a6f gT
 obtain⟨b',cap',s0,s1,s2,v1,v2⟩:=d.cells
 obtain⟨d0,d1,d2,d3,e0,e1,e2,e3⟩:=in4 z9
 have x4:=d
 have x7:=a0b.of_below (S:=fun q=>q=B) z2
 have z1:=z9
 have y5:=fun u h=>a2k B ts i false S.lp hy (a5a hy (by decide)) u h
 clear d z2 z9 s0 s1 v1 v2
 refine Lib.hid ?_
 go_wp2_with (first|(go_at_call_of 45 (Value.string ⟨#[40]⟩);refine(y5 _ x4).mono ?_;rintro e wy ⟨rfl,x6,y7⟩;have x9:=x7.trans y7;have zy:=y7.box z1 (by omega);obtain⟨d0,d1,d2,d3,e0,e1,e2,e3⟩:=in4 zy)|(go_at_call 117;refine(hE 0 r Fin _ B ts (i+1) _ (by omega) hF x6 hP).mono ?_;rintro e w5 ⟨x,bx,cx,j,w2,rfl,hN,y4,z3,y2⟩;refine Hid.out ?_))
 have z5:=z3.box zy (by omega)
 have w9:=q5z zy
 have w8:=q5z z5
 have p:=q1z (Below.refl w5.heap.size w5) (nbx x bx cx)
 have gx:=a0a w5 (nbx x bx cx)
 have z6:=q0z p z5
 have x3:NdV (fun q=>w.heap.size<q) _ x (ndv x bx cx):=(hN.weak (fun q hq _=>by have:=hq.resolve_left id;omega)).below p
 have hM:=a2o (s:=S.rp) (by decide) hF y2 _ (y4.below p)
 have x8:=(x9.trans z3).trans (a0b.of_below p)
 clear hE hP y5 hN y4 z3 y2 d0 d1 d2 d3 e0 e1 e2 e3
 refine Lib.hid ?_
 go_wp2_with (go_at_call 42;refine hM.mono ?_;rintro e w7 ⟨rfl,j2,x0,x5,v,y3⟩;have g7:=v.box gx (by omega);have z7:=v.box z6 (by omega);obtain⟨c0,c1,c2,c3,f0,f1,f2,f3⟩:=in4 g7;obtain⟨d0,d1,d2,d3,e0,e1,e2,e3⟩:=in4 z7)
 refine bodyPost_ret (a7c rfl (a0c _ _ _ _ z7)) rfl ?_
 exact a1a ((x3.keep v (fun q hq _ e=>by omega)).weak (fun q hq _=>⟨.inr (by omega),by omega⟩)) x5 (x8.trans v) (Nat.le_refl _) x2 y3
theorem d3k(k:Int)(B:Nat)(ts:List Tok)(i:Nat)(t:List UInt8)(a:Nat)(hx:ts[i]?=some ⟨k,t,a⟩)(r:PRes)(Fin:Nat->Prop)(g:Nd->List PT->PR)(w:World)(hF:a1y ts Fin r)(hR:Dr w B ts i false)(q2:(k == 2)=false)(q3:(k == 3)=false)(hn0:¬tx (rest ts i)=S.lp)(hy:tx (rest ts i)=W.nil_)(hP:g (nd 15 []) (rest ts (i+1))=some r):Cl 149 #[Po B 0] w (NA no w B ts Fin r g):=by
 have o:Bw w (w.alloc zbx):=q1z bz0 _
 have x6:=hR.lt
 have f:=hR.below o
 have h2:=a0a w zbx
 obtain⟨b,cap,h1,ht,y5⟩:=f.box
 obtain⟨s0,s1,s2,v1,v2⟩:=drC h1
 have hs:=hR.short
 obtain⟨hi,_⟩:=List.getElem?_eq_some_iff.1 hx
 rcases ht with rfl|⟨q,rfl,hg,x3,z⟩
 ·simp at hx
 have t0:(w.alloc zbx).cell? (Ad q (i*3))=some (vi k):=z i _ hx 0 _ rfl
 have t1:=z i _ hx 1 _ rfl
 have t2:=z i _ hx 2 _ rfl
 dsimp only at t1 t2
 obtain⟨n,hn⟩:=exq (ts.length)
 rw[hn]at s0 hi hs y5
 have x4:(i:Int)<(n:Int):=by omega
 have x2:decide (n<=i)=false:=decide_eq_false (by omega)
 obtain⟨U,hU⟩:=exq (w.alloc zbx)
 rw[hU]at o f h2 s0 s1 s2 v1 v2 t0 t1 t2
 replace hU:w.alloc (.cells #[vi 0,.string ⟨#[]⟩,vi 0,.slice none 0 0] 34)=U:=hU
 have y1:q<U.heap.size:=World.block_lt_of_cell? _ _ t0
 have x5:B<U.heap.size:=World.block_lt_of_cell? _ _ s0
 have m1:¬B=U.heap.size:=by omega
 have m2:¬U.heap.size=B:=by omega
 have m3:¬q=U.heap.size:=by omega
 have m4:¬U.heap.size=q:=by omega
 clear z hx h1
 go_enter Tryz.func149,Tryz.ntmps149
 go_wp2
 go_quiet (fail)
 go_wp2
 have hd:Bw U (U.drewN nq):=q9z bz0
 have z5:=f.below hd
 have c:=q0z hd h2
 have z6:=q3z o hd
 have S0:=cellB hd s0
 have S1:=cellB hd s1
 have T0:=cellB hd t0
 have T1:=cellB hd t1
 have T2:=cellB hd t2
 have z0:(U.drewN nq).heap.size=U.heap.size:=rfl
 obtain⟨X,hX⟩:=exq (U.drewN nq)
 rw[hX]at z5 c z6 S0 S1 T0 T1 T2 z0
 rw[hX]
 rw[<- z0]at m1 m2 m3 m4
 clear hX hd s0 s1 s2 v1 v2 t0 t1 t2 f h2 o y1 x5 z0 hU
 go_region_held3 (fun u=>u.cell? (Ad B 0)=some (.slice (some (Ad q 0)) n cap)/\u.cell? (Ad B 1)=some (vi (i:Nat))/\u.cell? (Ad q (i*3))=some (vi k)/\u.cell? (Ad q (i*3+1))=some (.string ⟨t.toArray⟩)/\u.cell? (Ad q (i*3+2))=some (vi (a:Nat))) (go_keep) (fail)
 have y:=(q1z (Below.refl X.heap.size X) (tbx k ⟨t.toArray⟩ (a:Nat))).drew
 have gT:(X.alloc (tbx k ⟨t.toArray⟩ (a:Nat))).drew.heap[X.heap.size]?=some (tbx k ⟨t.toArray⟩ (a:Nat)):=a0a X _
 have l:=z5.below y
 have d:=q0z y c
 have z7:=q3z z6 y
 have y2:=q5z c
 obtain⟨Y,hY⟩:=exq ((X.alloc (tbx k ⟨t.toArray⟩ (a:Nat))).drew)
 rw[hY]at y gT l d z7
 replace hY:(X.alloc (.cells #[vi k,.string ⟨t.toArray⟩,vi (a:Nat)] 85)).drew=Y:=hY
 rw[hY]
 obtain⟨tb,z9⟩:=exq (X.heap.size)
 rw[z9]at gT y2 m1 m2
 rw[z9]
 clear hY z9 y z5 c z6 S0 S1 T0 T1 T2 m3 m4
 obtain⟨u0,u1⟩:=a6f gT
 obtain⟨b',cap',s0,s1,s2,v1,v2⟩:=l.cells
 obtain⟨d0,d1,d2,d3,e0,e1,e2,e3⟩:=in4 d
 have z4:=l
 have y6:=a0b.of_below (S:=fun q=>q=B) z7
 have z1:=d
 have x8:=fun u h=>a0o B ts i false S.lp hn0 u h
 have x9:=fun u h=>a2k B ts i false W.nil_ hy (a5a hy (by decide)) u h
 clear l z7 d s0 s1 v1 v2
 refine Lib.hid ?_
 go_wp2_with (first|(go_at_call_of 45 (Value.string ⟨#[40]⟩);refine(x8 _ z4).mono ?_;rintro e w2 ⟨rfl,p⟩;have y3:=z4.below p;have y7:=y6.trans (a0b.of_below p);have z2:=q0z p z1))
 have s:=q1z (Below.refl w2.heap.size w2) wdsO
 have gw:=a0a w2 wdsO
 have y4:=y3.below s
 have y8:=y7.trans (a0b.of_below s)
 have z3:=q0z s z2
 obtain⟨W3,v⟩:=exq (w2.alloc wdsO)
 rw[v]at gw y4 y8 z3
 replace v:w2.alloc (.cells #[.string ⟨#[110,105,108]⟩,.string ⟨#[116,114,117,101]⟩,.string ⟨#[102,97,108,115,101]⟩] 9)=W3:=v
 rw[v]
 obtain⟨gb,z8⟩:=exq (w2.heap.size)
 rw[z8]at gw
 rw[z8]
 have a0:W3.cell? (Ad gb 0)=some (sk W.nil_):=q2z gw rfl
 have a1:W3.cell? (Ad gb 1)=some (sk W.true_):=q2z gw rfl
 have a2:W3.cell? (Ad gb 2)=some (sk W.false_):=q2z gw rfl
 clear v z8 gw s z4 y6 z1 y3 y7 z2 p d0 d1 d2 d3 e0 e1 e2 e3 u0 u1 gT
 refine wp_loop_rounds 4 ?_
 rw[rounds_succ]
 go_wp2_with (go_at_call 45;refine(x9 _ y4).mono ?_;rintro e wy ⟨rfl,x7,y9⟩;have y0:=y8.trans y9;have zy:=y9.box z3 (by omega);obtain⟨d0,d1,d2,d3,e0,e1,e2,e3⟩:=in4 zy)
 refine bodyPost_ret (a7c rfl (a0c _ _ _ _ zy)) rfl ?_
 exact a1a (x:=nd 15 []) (b:=none) (cap:=0) (a2a _ _ 15 [] 0) x7 y0 (Nat.le_refl _) x6 (.inr ⟨rfl,hP⟩)
theorem c9a(k:Int)(B:Nat)(ts:List Tok)(i:Nat)(t:List UInt8)(a:Nat)(hx:ts[i]?=some ⟨k,t,a⟩)(r:PRes)(Fin:Nat->Prop)(g:Nd->List PT->PR)(w:World)(hF:a1y ts Fin r)(hR:Dr w B ts i false)(q2:(k == 2)=false)(q3:(k == 3)=false)(hn0:¬tx (rest ts i)=S.lp)(hn1:¬tx (rest ts i)=W.nil_)(hy:tx (rest ts i)=W.true_)(hP:g (nd 16 []) (rest ts (i+1))=some r):Cl 149 #[Po B 0] w (NA no w B ts Fin r g):=by
 have l:Bw w (w.alloc zbx):=q1z bz0 _
 have x1:=hR.lt
 have d:=hR.below l
 have h2:=a0a w zbx
 obtain⟨b,cap,h1,ht,y2⟩:=d.box
 obtain⟨s0,s1,s2,v1,v2⟩:=drC h1
 have hs:=hR.short
 obtain⟨hi,_⟩:=List.getElem?_eq_some_iff.1 hx
 rcases ht with rfl|⟨q,rfl,hg,w8,z⟩
 ·simp at hx
 have t0:(w.alloc zbx).cell? (Ad q (i*3))=some (vi k):=z i _ hx 0 _ rfl
 have t1:=z i _ hx 1 _ rfl
 have t2:=z i _ hx 2 _ rfl
 dsimp only at t1 t2
 obtain⟨n,hn⟩:=exq (ts.length)
 rw[hn]at s0 hi hs y2
 have w9:(i:Int)<(n:Int):=by omega
 have w7:decide (n<=i)=false:=decide_eq_false (by omega)
 obtain⟨U,hU⟩:=exq (w.alloc zbx)
 rw[hU]at l d h2 s0 s1 s2 v1 v2 t0 t1 t2
 replace hU:w.alloc (.cells #[vi 0,.string ⟨#[]⟩,vi 0,.slice none 0 0] 34)=U:=hU
 have x9:q<U.heap.size:=World.block_lt_of_cell? _ _ t0
 have x0:B<U.heap.size:=World.block_lt_of_cell? _ _ s0
 have m1:¬B=U.heap.size:=by omega
 have m2:¬U.heap.size=B:=by omega
 have m3:¬q=U.heap.size:=by omega
 have m4:¬U.heap.size=q:=by omega
 clear z hx h1
 go_enter Tryz.func149,Tryz.ntmps149
 go_wp2
 go_quiet (fail)
 go_wp2
 have hd:Bw U (U.drewN nq):=q9z bz0
 have z0:=d.below hd
 have z9:=q0z hd h2
 have z5:=q3z l hd
 have S0:=cellB hd s0
 have S1:=cellB hd s1
 have T0:=cellB hd t0
 have T1:=cellB hd t1
 have T2:=cellB hd t2
 have y7:(U.drewN nq).heap.size=U.heap.size:=rfl
 obtain⟨X,hX⟩:=exq (U.drewN nq)
 rw[hX]at z0 z9 z5 S0 S1 T0 T1 T2 y7
 rw[hX]
 rw[<- y7]at m1 m2 m3 m4
 clear hX hd s0 s1 s2 v1 v2 t0 t1 t2 d h2 l x9 x0 y7 hU
 go_region_held3 (fun u=>u.cell? (Ad B 0)=some (.slice (some (Ad q 0)) n cap)/\u.cell? (Ad B 1)=some (vi (i:Nat))/\u.cell? (Ad q (i*3))=some (vi k)/\u.cell? (Ad q (i*3+1))=some (.string ⟨t.toArray⟩)/\u.cell? (Ad q (i*3+2))=some (vi (a:Nat))) (go_keep) (fail)
 have v:=(q1z (Below.refl X.heap.size X) (tbx k ⟨t.toArray⟩ (a:Nat))).drew
 have gT:(X.alloc (tbx k ⟨t.toArray⟩ (a:Nat))).drew.heap[X.heap.size]?=some (tbx k ⟨t.toArray⟩ (a:Nat)):=a0a X _
 have f:=z0.below v
 have c:=q0z v z9
 have z6:=q3z z5 v
 have y0:=q5z z9
 obtain⟨Y,hY⟩:=exq ((X.alloc (tbx k ⟨t.toArray⟩ (a:Nat))).drew)
 rw[hY]at v gT f c z6
 replace hY:(X.alloc (.cells #[vi k,.string ⟨t.toArray⟩,vi (a:Nat)] 85)).drew=Y:=hY
 rw[hY]
 obtain⟨tb,z8⟩:=exq (X.heap.size)
 rw[z8]at gT y0 m1 m2
 rw[z8]
 clear hY z8 v z0 z9 z5 S0 S1 T0 T1 T2 m3 m4
 obtain⟨u0,u1⟩:=a6f gT
 obtain⟨b',cap',s0,s1,s2,v1,v2⟩:=f.cells
 obtain⟨d0,d1,d2,d3,e0,e1,e2,e3⟩:=in4 c
 have y8:=f
 have y3:=a0b.of_below (S:=fun q=>q=B) z6
 have z1:=c
 have x4:=fun u h=>a0o B ts i false S.lp hn0 u h
 have x5:=fun u h=>a0o B ts i false W.nil_ hn1 u h
 have x6:=fun u h=>a2k B ts i false W.true_ hy (a5a hy (by decide)) u h
 clear f z6 c s0 s1 v1 v2
 refine Lib.hid ?_
 go_wp2_with (first|(go_at_call_of 45 (Value.string ⟨#[40]⟩);refine(x4 _ y8).mono ?_;rintro e w2 ⟨rfl,o⟩;have y1:=y8.below o;have y4:=y3.trans (a0b.of_below o);have z2:=q0z o z1))
 have p:=q1z (Below.refl w2.heap.size w2) wdsO
 have gw:=a0a w2 wdsO
 have y9:=y1.below p
 have y5:=y4.trans (a0b.of_below p)
 have z3:=q0z p z2
 obtain⟨W3,s⟩:=exq (w2.alloc wdsO)
 rw[s]at gw y9 y5 z3
 replace s:w2.alloc (.cells #[.string ⟨#[110,105,108]⟩,.string ⟨#[116,114,117,101]⟩,.string ⟨#[102,97,108,115,101]⟩] 9)=W3:=s
 rw[s]
 obtain⟨gb,z7⟩:=exq (w2.heap.size)
 rw[z7]at gw
 rw[z7]
 have a0:W3.cell? (Ad gb 0)=some (sk W.nil_):=q2z gw rfl
 have a1:W3.cell? (Ad gb 1)=some (sk W.true_):=q2z gw rfl
 have a2:W3.cell? (Ad gb 2)=some (sk W.false_):=q2z gw rfl
 clear s z7 gw p y8 y3 z1 y1 y4 z2 o d0 d1 d2 d3 e0 e1 e2 e3 u0 u1 gT
 refine wp_loop_rounds 4 ?_
 rw[rounds_succ]
 go_wp2_with (go_at_call 45;refine(x5 _ y9).mono ?_;rintro e w4 ⟨rfl,y⟩;have x2:=y9.below y;have x7:=y5.trans (a0b.of_below y);have z4:=q0z y z3;have a0:=cellB y a0;have a1:=cellB y a1;have a2:=cellB y a2)
 rw[rounds_succ]
 go_wp2_with (go_at_call 45;refine(x6 _ x2).mono ?_;rintro e wy ⟨rfl,x3,y6⟩;have x8:=x7.trans y6;have zy:=y6.box z4 (by omega);obtain⟨d0,d1,d2,d3,e0,e1,e2,e3⟩:=in4 zy)
 refine bodyPost_ret (a7c rfl (a0c _ _ _ _ zy)) rfl ?_
 exact a1a (x:=nd 16 []) (b:=none) (cap:=0) (a2a _ _ 16 [] 0) x3 x8 (Nat.le_refl _) x1 (.inr ⟨rfl,hP⟩)
theorem c5e(k:Int)(B:Nat)(ts:List Tok)(i:Nat)(t:List UInt8)(a:Nat)(hx:ts[i]?=some ⟨k,t,a⟩)(r:PRes)(Fin:Nat->Prop)(g:Nd->List PT->PR)(w:World)(hF:a1y ts Fin r)(hR:Dr w B ts i false)(q2:(k == 2)=false)(q3:(k == 3)=false)(hn0:¬tx (rest ts i)=S.lp)(hn1:¬tx (rest ts i)=W.nil_)(hn2:¬tx (rest ts i)=W.true_)(hy:tx (rest ts i)=W.false_)(hP:g (nd 17 []) (rest ts (i+1))=some r):Cl 149 #[Po B 0] w (NA no w B ts Fin r g):=by
 have f:Bw w (w.alloc zbx):=q1z bz0 _
 have w6:=hR.lt
 have c:=hR.below f
 have h2:=a0a w zbx
 obtain⟨b,cap,h1,ht,y0⟩:=c.box
 obtain⟨s0,s1,s2,v1,v2⟩:=drC h1
 have hs:=hR.short
 obtain⟨hi,_⟩:=List.getElem?_eq_some_iff.1 hx
 rcases ht with rfl|⟨q,rfl,hg,w0,z⟩
 ·simp at hx
 have t0:(w.alloc zbx).cell? (Ad q (i*3))=some (vi k):=z i _ hx 0 _ rfl
 have t1:=z i _ hx 1 _ rfl
 have t2:=z i _ hx 2 _ rfl
 dsimp only at t1 t2
 obtain⟨n,hn⟩:=exq (ts.length)
 rw[hn]at s0 hi hs y0
 have w1:(i:Int)<(n:Int):=by omega
 have v9:decide (n<=i)=false:=decide_eq_false (by omega)
 obtain⟨U,hU⟩:=exq (w.alloc zbx)
 rw[hU]at f c h2 s0 s1 s2 v1 v2 t0 t1 t2
 replace hU:w.alloc (.cells #[vi 0,.string ⟨#[]⟩,vi 0,.slice none 0 0] 34)=U:=hU
 have x6:q<U.heap.size:=World.block_lt_of_cell? _ _ t0
 have w3:B<U.heap.size:=World.block_lt_of_cell? _ _ s0
 have m1:¬B=U.heap.size:=by omega
 have m2:¬U.heap.size=B:=by omega
 have m3:¬q=U.heap.size:=by omega
 have m4:¬U.heap.size=q:=by omega
 clear z hx h1
 go_enter Tryz.func149,Tryz.ntmps149
 go_wp2
 go_quiet (fail)
 go_wp2
 have hd:Bw U (U.drewN nq):=q9z bz0
 have y8:=c.below hd
 have z8:=q0z hd h2
 have y9:=q3z f hd
 have S0:=cellB hd s0
 have S1:=cellB hd s1
 have T0:=cellB hd t0
 have T1:=cellB hd t1
 have T2:=cellB hd t2
 have y5:(U.drewN nq).heap.size=U.heap.size:=rfl
 obtain⟨X,hX⟩:=exq (U.drewN nq)
 rw[hX]at y8 z8 y9 S0 S1 T0 T1 T2 y5
 rw[hX]
 rw[<- y5]at m1 m2 m3 m4
 clear hX hd s0 s1 s2 v1 v2 t0 t1 t2 c h2 f x6 w3 y5 hU
 go_region_held3 (fun u=>u.cell? (Ad B 0)=some (.slice (some (Ad q 0)) n cap)/\u.cell? (Ad B 1)=some (vi (i:Nat))/\u.cell? (Ad q (i*3))=some (vi k)/\u.cell? (Ad q (i*3+1))=some (.string ⟨t.toArray⟩)/\u.cell? (Ad q (i*3+2))=some (vi (a:Nat))) (go_keep) (fail)
 have s:=(q1z (Below.refl X.heap.size X) (tbx k ⟨t.toArray⟩ (a:Nat))).drew
 have gT:(X.alloc (tbx k ⟨t.toArray⟩ (a:Nat))).drew.heap[X.heap.size]?=some (tbx k ⟨t.toArray⟩ (a:Nat)):=a0a X _
 have d:=y8.below s
 have z9:=q0z s z8
 have z0:=q3z y9 s
 have x7:=q5z z8
 obtain⟨Y,hY⟩:=exq ((X.alloc (tbx k ⟨t.toArray⟩ (a:Nat))).drew)
 rw[hY]at s gT d z9 z0
 replace hY:(X.alloc (.cells #[vi k,.string ⟨t.toArray⟩,vi (a:Nat)] 85)).drew=Y:=hY
 rw[hY]
 obtain⟨tb,z7⟩:=exq (X.heap.size)
 rw[z7]at gT x7 m1 m2
 rw[z7]
 clear hY z7 s y8 z8 y9 S0 S1 T0 T1 T2 m3 m4
 obtain⟨u0,u1⟩:=a6f gT
 obtain⟨b',cap',s0,s1,s2,v1,v2⟩:=d.cells
 obtain⟨d0,d1,d2,d3,e0,e1,e2,e3⟩:=in4 z9
 have y6:=d
 have y1:=a0b.of_below (S:=fun q=>q=B) z0
 have z1:=z9
 have w9:=fun u h=>a0o B ts i false S.lp hn0 u h
 have x0:=fun u h=>a0o B ts i false W.nil_ hn1 u h
 have x1:=fun u h=>a0o B ts i false W.true_ hn2 u h
 have x2:=fun u h=>a2k B ts i false W.false_ hy (a5a hy (by decide)) u h
 clear d z0 z9 s0 s1 v1 v2
 refine Lib.hid ?_
 go_wp2_with (first|(go_at_call_of 45 (Value.string ⟨#[40]⟩);refine(w9 _ y6).mono ?_;rintro e w2 ⟨rfl,l⟩;have x8:=y6.below l;have y2:=y1.trans (a0b.of_below l);have z2:=q0z l z1))
 have o:=q1z (Below.refl w2.heap.size w2) wdsO
 have gw:=a0a w2 wdsO
 have y7:=x8.below o
 have y3:=y2.trans (a0b.of_below o)
 have z3:=q0z o z2
 obtain⟨W3,p⟩:=exq (w2.alloc wdsO)
 rw[p]at gw y7 y3 z3
 replace p:w2.alloc (.cells #[.string ⟨#[110,105,108]⟩,.string ⟨#[116,114,117,101]⟩,.string ⟨#[102,97,108,115,101]⟩] 9)=W3:=p
 rw[p]
 obtain⟨gb,z6⟩:=exq (w2.heap.size)
 rw[z6]at gw
 rw[z6]
 have a0:W3.cell? (Ad gb 0)=some (sk W.nil_):=q2z gw rfl
 have a1:W3.cell? (Ad gb 1)=some (sk W.true_):=q2z gw rfl
 have a2:W3.cell? (Ad gb 2)=some (sk W.false_):=q2z gw rfl
 clear p z6 gw o y6 y1 z1 x8 y2 z2 l d0 d1 d2 d3 e0 e1 e2 e3 u0 u1 gT
 refine wp_loop_rounds 4 ?_
 rw[rounds_succ]
 go_wp2_with (go_at_call 45;refine(x0 _ y7).mono ?_;rintro e w4 ⟨rfl,v⟩;have x9:=y7.below v;have x3:=y3.trans (a0b.of_below v);have z4:=q0z v z3;have a0:=cellB v a0;have a1:=cellB v a1;have a2:=cellB v a2)
 rw[rounds_succ]
 go_wp2_with (go_at_call 45;refine(x1 _ x9).mono ?_;rintro e w5 ⟨rfl,y⟩;have w7:=x9.below y;have x4:=x3.trans (a0b.of_below y);have z5:=q0z y z4;have a0:=cellB y a0;have a1:=cellB y a1;have a2:=cellB y a2)
 rw[rounds_succ]
 go_wp2_with (go_at_call 45;refine(x2 _ w7).mono ?_;rintro e wy ⟨rfl,w8,y4⟩;have x5:=x4.trans y4;have zy:=y4.box z5 (by omega);obtain⟨d0,d1,d2,d3,e0,e1,e2,e3⟩:=in4 zy)
 refine bodyPost_ret (a7c rfl (a0c _ _ _ _ zy)) rfl ?_
 exact a1a (x:=nd 17 []) (b:=none) (cap:=0) (a2a _ _ 17 [] 0) w8 x5 (Nat.le_refl _) w6 (.inr ⟨rfl,hP⟩)
theorem d6y(k:Int)(B:Nat)(ts:List Tok)(i:Nat)(t:List UInt8)(a:Nat)(hx:ts[i]?=some ⟨k,t,a⟩)(r:PRes)(Fin:Nat->Prop)(g:Nd->List PT->PR)(w:World)(hF:a1y ts Fin r)(hR:Dr w B ts i false)(q2:(k == 2)=false)(q3:(k == 3)=false)(hn0:¬tx (rest ts i)=S.lp)(hn1:¬tx (rest ts i)=W.nil_)(hn2:¬tx (rest ts i)=W.true_)(hn3:¬tx (rest ts i)=W.false_)(hy:tx (rest ts i)=S.lc)(hP:need S.rc (rest ts (i+1)) (fun l=>g (nd 19 []) l)=some r):Cl 149 #[Po B 0] w (NA no w B ts Fin r g):=by
 have z8:Bw w (w.alloc zbx):=q1z bz0 _
 have t8:=hR.lt
 have z0:=hR.below z8
 have h2:=a0a w zbx
 obtain⟨b,cap,h1,ht,x4⟩:=z0.box
 obtain⟨s0,s1,s2,v1,v2⟩:=drC h1
 have hs:=hR.short
 obtain⟨hi,_⟩:=List.getElem?_eq_some_iff.1 hx
 rcases ht with rfl|⟨q,rfl,hg,t4,z⟩
 ·simp at hx
 have t0:(w.alloc zbx).cell? (Ad q (i*3))=some (vi k):=z i _ hx 0 _ rfl
 have t1:=z i _ hx 1 _ rfl
 have t2:=z i _ hx 2 _ rfl
 dsimp only at t1 t2
 obtain⟨n,hn⟩:=exq (ts.length)
 rw[hn]at s0 hi hs x4
 have t5:(i:Int)<(n:Int):=by omega
 have t3:decide (n<=i)=false:=decide_eq_false (by omega)
 obtain⟨U,hU⟩:=exq (w.alloc zbx)
 rw[hU]at z8 z0 h2 s0 s1 s2 v1 v2 t0 t1 t2
 replace hU:w.alloc (.cells #[vi 0,.string ⟨#[]⟩,vi 0,.slice none 0 0] 34)=U:=hU
 have w7:q<U.heap.size:=World.block_lt_of_cell? _ _ t0
 have t7:B<U.heap.size:=World.block_lt_of_cell? _ _ s0
 have m1:¬B=U.heap.size:=by omega
 have m2:¬U.heap.size=B:=by omega
 have m3:¬q=U.heap.size:=by omega
 have m4:¬U.heap.size=q:=by omega
 clear z hx h1
 go_enter Tryz.func149,Tryz.ntmps149
 go_wp2
 go_quiet (fail)
 go_wp2
 have hd:Bw U (U.drewN nq):=q9z bz0
 have y3:=z0.below hd
 have y8:=q0z hd h2
 have y4:=q3z z8 hd
 have S0:=cellB hd s0
 have S1:=cellB hd s1
 have T0:=cellB hd t0
 have T1:=cellB hd t1
 have T2:=cellB hd t2
 have y0:(U.drewN nq).heap.size=U.heap.size:=rfl
 obtain⟨X,hX⟩:=exq (U.drewN nq)
 rw[hX]at y3 y8 y4 S0 S1 T0 T1 T2 y0
 rw[hX]
 rw[<- y0]at m1 m2 m3 m4
 clear hX hd s0 s1 s2 v1 v2 t0 t1 t2 z0 h2 z8 w7 t7 y0 hU
 go_region_held3 (fun u=>u.cell? (Ad B 0)=some (.slice (some (Ad q 0)) n cap)/\u.cell? (Ad B 1)=some (vi (i:Nat))/\u.cell? (Ad q (i*3))=some (vi k)/\u.cell? (Ad q (i*3+1))=some (.string ⟨t.toArray⟩)/\u.cell? (Ad q (i*3+2))=some (vi (a:Nat))) (go_keep) (fail)
 have o:=(q1z (Below.refl X.heap.size X) (tbx k ⟨t.toArray⟩ (a:Nat))).drew
 have gT:(X.alloc (tbx k ⟨t.toArray⟩ (a:Nat))).drew.heap[X.heap.size]?=some (tbx k ⟨t.toArray⟩ (a:Nat)):=a0a X _
 have z7:=y3.below o
 have y9:=q0z o y8
 have y5:=q3z y4 o
 have w8:=q5z y8
 obtain⟨Y,hY⟩:=exq ((X.alloc (tbx k ⟨t.toArray⟩ (a:Nat))).drew)
 rw[hY]at o gT z7 y9 y5
 replace hY:(X.alloc (.cells #[vi k,.string ⟨t.toArray⟩,vi (a:Nat)] 85)).drew=Y:=hY
 rw[hY]
 obtain⟨tb,y7⟩:=exq (X.heap.size)
 rw[y7]at gT w8 m1 m2
 rw[y7]
 clear hY y7 o y3 y8 y4 S0 S1 T0 T1 T2 m3 m4
 obtain⟨u0,u1⟩:=a6f gT
 obtain⟨b',cap',s0,s1,s2,v1,v2⟩:=z7.cells
 obtain⟨d0,d1,d2,d3,e0,e1,e2,e3⟩:=in4 y9
 have y1:=z7
 have x5:=a0b.of_below (S:=fun q=>q=B) y5
 have z1:=y9
 have v4:=fun u h=>a0o B ts i false S.lp hn0 u h
 have v5:=fun u h=>a0o B ts i false W.nil_ hn1 u h
 have v6:=fun u h=>a0o B ts i false W.true_ hn2 u h
 have v7:=fun u h=>a0o B ts i false W.false_ hn3 u h
 have v8:=fun u h=>a2k B ts i false S.lc hy (a5a hy (by decide)) u h
 clear z7 y5 y9 s0 s1 v1 v2
 refine Lib.hid ?_
 go_wp2_with (first|(go_at_call_of 45 (Value.string ⟨#[40]⟩);refine(v4 _ y1).mono ?_;rintro e w2 ⟨rfl,c⟩;have x1:=y1.below c;have x6:=x5.trans (a0b.of_below c);have z2:=q0z c z1))
 have d:=q1z (Below.refl w2.heap.size w2) wdsO
 have gw:=a0a w2 wdsO
 have y2:=x1.below d
 have x7:=x6.trans (a0b.of_below d)
 have z3:=q0z d z2
 obtain⟨W3,f⟩:=exq (w2.alloc wdsO)
 rw[f]at gw y2 x7 z3
 replace f:w2.alloc (.cells #[.string ⟨#[110,105,108]⟩,.string ⟨#[116,114,117,101]⟩,.string ⟨#[102,97,108,115,101]⟩] 9)=W3:=f
 rw[f]
 obtain⟨gb,y6⟩:=exq (w2.heap.size)
 rw[y6]at gw
 rw[y6]
 have a0:W3.cell? (Ad gb 0)=some (sk W.nil_):=q2z gw rfl
 have a1:W3.cell? (Ad gb 1)=some (sk W.true_):=q2z gw rfl
 have a2:W3.cell? (Ad gb 2)=some (sk W.false_):=q2z gw rfl
 clear f y6 gw d y1 x5 z1 x1 x6 z2 c d0 d1 d2 d3 e0 e1 e2 e3 u0 u1 gT
 refine wp_loop_rounds 4 ?_
 rw[rounds_succ]
 go_wp2_with (go_at_call 45;refine(v5 _ y2).mono ?_;rintro e w4 ⟨rfl,p⟩;have x2:=y2.below p;have v9:=x7.trans (a0b.of_below p);have z4:=q0z p z3;have a0:=cellB p a0;have a1:=cellB p a1;have a2:=cellB p a2)
 rw[rounds_succ]
 go_wp2_with (go_at_call 45;refine(v6 _ x2).mono ?_;rintro e w5 ⟨rfl,v⟩;have x3:=x2.below v;have w0:=v9.trans (a0b.of_below v);have z5:=q0z v z4;have a0:=cellB v a0;have a1:=cellB v a1;have a2:=cellB v a2)
 rw[rounds_succ]
 go_wp2_with (go_at_call 45;refine(v7 _ x3).mono ?_;rintro e w6 ⟨rfl,y⟩;have t9:=x3.below y;have w1:=w0.trans (a0b.of_below y);have z6:=q0z y z5;have a0:=cellB y a0;have a1:=cellB y a1;have a2:=cellB y a2)
 rw[rounds_succ]
 go_wp2_with (first|(go_at_call_of 45 (Value.string ⟨#[123]⟩);refine(v8 _ t9).mono ?_;rintro e wy ⟨rfl,v3,x9⟩;have w3:=w1.trans x9;have zy:=x9.box z6 (by omega);obtain⟨d0,d1,d2,d3,e0,e1,e2,e3⟩:=in4 zy)|(go_at_call 42;refine(a2o (s:=S.rc) (by decide) hF (.inr ⟨rfl,hP⟩) _ v3).mono ?_;rintro e w9 ⟨rfl,j2,t6,v0,x8,x0⟩;have z9:=x8.box zy (by omega);obtain⟨d0,d1,d2,d3,e0,e1,e2,e3⟩:=in4 z9))
 refine bodyPost_ret (a7c rfl (a0c _ _ _ _ z9)) rfl ?_
 exact a1a (x:=nd 19 []) (b:=none) (cap:=0) (a2a _ _ 19 [] 0) v0 (w3.trans x8) (Nat.le_refl _) t8 x0
theorem c9b(k:Int)(B:Nat)(ts:List Tok)(i:Nat)(t:List UInt8)(a:Nat)(hx:ts[i]?=some ⟨k,t,a⟩)(r:PRes)(Fin:Nat->Prop)(g:Nd->List PT->PR)(w:World)(hF:a1y ts Fin r)(hR:Dr w B ts i false)(q2:(k == 2)=false)(q3:(k == 3)=false)(hn0:¬tx (rest ts i)=S.lp)(hn1:¬tx (rest ts i)=W.nil_)(hn2:¬tx (rest ts i)=W.true_)(hn3:¬tx (rest ts i)=W.false_)(hn4:¬tx (rest ts i)=S.lc)(hn5:¬tx (rest ts i)=W.next_)(hP:a0n (rest ts i) (fun s l=>g ⟨18,s,0,[]⟩ l)=some r):Cl 149 #[Po B 0] w (NA no w B ts Fin r g):=by
 have z0:Bw w (w.alloc zbx):=q1z bz0 _
 have s7:=hR.lt
 have y8:=hR.below z0
 have h2:=a0a w zbx
 obtain⟨b,cap,h1,ht,x1⟩:=y8.box
 obtain⟨s0,s1,s2,v1,v2⟩:=drC h1
 have hs:=hR.short
 obtain⟨hi,_⟩:=List.getElem?_eq_some_iff.1 hx
 rcases ht with rfl|⟨q,rfl,hg,s3,z⟩
 ·simp at hx
 have t0:(w.alloc zbx).cell? (Ad q (i*3))=some (vi k):=z i _ hx 0 _ rfl
 have t1:=z i _ hx 1 _ rfl
 have t2:=z i _ hx 2 _ rfl
 dsimp only at t1 t2
 obtain⟨n,hn⟩:=exq (ts.length)
 rw[hn]at s0 hi hs x1
 have s4:(i:Int)<(n:Int):=by omega
 have r9:decide (n<=i)=false:=decide_eq_false (by omega)
 obtain⟨U,hU⟩:=exq (w.alloc zbx)
 rw[hU]at z0 y8 h2 s0 s1 s2 v1 v2 t0 t1 t2
 replace hU:w.alloc (.cells #[vi 0,.string ⟨#[]⟩,vi 0,.slice none 0 0] 34)=U:=hU
 have v6:q<U.heap.size:=World.block_lt_of_cell? _ _ t0
 have s6:B<U.heap.size:=World.block_lt_of_cell? _ _ s0
 have m1:¬B=U.heap.size:=by omega
 have m2:¬U.heap.size=B:=by omega
 have m3:¬q=U.heap.size:=by omega
 have m4:¬U.heap.size=q:=by omega
 clear z hx h1
 go_enter Tryz.func149,Tryz.ntmps149
 go_wp2
 go_quiet (fail)
 go_wp2
 have hd:Bw U (U.drewN nq):=q9z bz0
 have x9:=y8.below hd
 have y6:=q0z hd h2
 have y0:=q3z z0 hd
 have S0:=cellB hd s0
 have S1:=cellB hd s1
 have T0:=cellB hd t0
 have T1:=cellB hd t1
 have T2:=cellB hd t2
 have x6:(U.drewN nq).heap.size=U.heap.size:=rfl
 obtain⟨X,hX⟩:=exq (U.drewN nq)
 rw[hX]at x9 y6 y0 S0 S1 T0 T1 T2 x6
 rw[hX]
 rw[<- x6]at m1 m2 m3 m4
 clear hX hd s0 s1 s2 v1 v2 t0 t1 t2 y8 h2 z0 v6 s6 x6 hU
 go_region_held3 (fun u=>u.cell? (Ad B 0)=some (.slice (some (Ad q 0)) n cap)/\u.cell? (Ad B 1)=some (vi (i:Nat))/\u.cell? (Ad q (i*3))=some (vi k)/\u.cell? (Ad q (i*3+1))=some (.string ⟨t.toArray⟩)/\u.cell? (Ad q (i*3+2))=some (vi (a:Nat))) (go_keep) (fail)
 have o:=(q1z (Below.refl X.heap.size X) (tbx k ⟨t.toArray⟩ (a:Nat))).drew
 have gT:(X.alloc (tbx k ⟨t.toArray⟩ (a:Nat))).drew.heap[X.heap.size]?=some (tbx k ⟨t.toArray⟩ (a:Nat)):=a0a X _
 have y9:=x9.below o
 have y7:=q0z o y6
 have y1:=q3z y0 o
 have v7:=q5z y6
 obtain⟨Y,hY⟩:=exq ((X.alloc (tbx k ⟨t.toArray⟩ (a:Nat))).drew)
 rw[hY]at o gT y9 y7 y1
 replace hY:(X.alloc (.cells #[vi k,.string ⟨t.toArray⟩,vi (a:Nat)] 85)).drew=Y:=hY
 rw[hY]
 obtain⟨tb,y3⟩:=exq (X.heap.size)
 rw[y3]at gT v7 m1 m2
 rw[y3]
 clear hY y3 o x9 y6 y0 S0 S1 T0 T1 T2 m3 m4
 obtain⟨u0,u1⟩:=a6f gT
 obtain⟨b',cap',s0,s1,s2,v1,v2⟩:=y9.cells
 obtain⟨d0,d1,d2,d3,e0,e1,e2,e3⟩:=in4 y7
 have x7:=y9
 have x2:=a0b.of_below (S:=fun q=>q=B) y1
 have z1:=y7
 have t3:=fun u h=>a0o B ts i false S.lp hn0 u h
 have t4:=fun u h=>a0o B ts i false W.nil_ hn1 u h
 have t5:=fun u h=>a0o B ts i false W.true_ hn2 u h
 have t6:=fun u h=>a0o B ts i false W.false_ hn3 u h
 have t7:=fun u h=>a0o B ts i false S.lc hn4 u h
 have t8:=fun u h=>a0o B ts i false W.next_ hn5 u h
 clear y9 y1 y7 s0 s1 v1 v2
 refine Lib.hid ?_
 go_wp2_with (first|(go_at_call_of 45 (Value.string ⟨#[40]⟩);refine(t3 _ x7).mono ?_;rintro e w2 ⟨rfl,c⟩;have v9:=x7.below c;have x3:=x2.trans (a0b.of_below c);have z2:=q0z c z1))
 have d:=q1z (Below.refl w2.heap.size w2) wdsO
 have gw:=a0a w2 wdsO
 have x8:=v9.below d
 have x4:=x3.trans (a0b.of_below d)
 have z3:=q0z d z2
 obtain⟨W3,f⟩:=exq (w2.alloc wdsO)
 rw[f]at gw x8 x4 z3
 replace f:w2.alloc (.cells #[.string ⟨#[110,105,108]⟩,.string ⟨#[116,114,117,101]⟩,.string ⟨#[102,97,108,115,101]⟩] 9)=W3:=f
 rw[f]
 obtain⟨gb,y2⟩:=exq (w2.heap.size)
 rw[y2]at gw
 rw[y2]
 have a0:W3.cell? (Ad gb 0)=some (sk W.nil_):=q2z gw rfl
 have a1:W3.cell? (Ad gb 1)=some (sk W.true_):=q2z gw rfl
 have a2:W3.cell? (Ad gb 2)=some (sk W.false_):=q2z gw rfl
 clear f y2 gw d x7 x2 z1 v9 x3 z2 c d0 d1 d2 d3 e0 e1 e2 e3 u0 u1 gT
 refine wp_loop_rounds 4 ?_
 rw[rounds_succ]
 go_wp2_with (go_at_call 45;refine(t4 _ x8).mono ?_;rintro e w4 ⟨rfl,p⟩;have w0:=x8.below p;have t9:=x4.trans (a0b.of_below p);have z4:=q0z p z3;have a0:=cellB p a0;have a1:=cellB p a1;have a2:=cellB p a2)
 rw[rounds_succ]
 go_wp2_with (go_at_call 45;refine(t5 _ w0).mono ?_;rintro e w5 ⟨rfl,v⟩;have w1:=w0.below v;have v0:=t9.trans (a0b.of_below v);have z5:=q0z v z4;have a0:=cellB v a0;have a1:=cellB v a1;have a2:=cellB v a2)
 rw[rounds_succ]
 go_wp2_with (go_at_call 45;refine(t6 _ w1).mono ?_;rintro e w6 ⟨rfl,y⟩;have w3:=w1.below y;have v3:=v0.trans (a0b.of_below y);have z6:=q0z y z5;have a0:=cellB y a0;have a1:=cellB y a1;have a2:=cellB y a2)
 rw[rounds_succ]
 go_wp2_with (first|(go_at_call_of 45 (Value.string ⟨#[123]⟩);refine(t7 _ w3).mono ?_;rintro e w7 ⟨rfl,y4⟩;have x0:=w3.below y4;have v4:=v3.trans (a0b.of_below y4);have z7:=q0z y4 z6)|(go_at_call_of 45 (Value.string ⟨#[110,101,120,116]⟩);refine(t8 _ x0).mono ?_;rintro e w8 ⟨rfl,y5⟩;have s8:=x0.below y5;have v5:=v4.trans (a0b.of_below y5);have z8:=q0z y5 z7)|(go_at_call 43;refine(b2o hF (.inr ⟨rfl,hP⟩) _ s8).mono ?_;rintro e w9 ⟨s,j2,s5,rfl,s9,x5,v8⟩;have z9:=x5.box z8 (by omega);obtain⟨d0,d1,d2,d3,e0,e1,e2,e3⟩:=in4 z9))
 refine bodyPost_ret (a7c rfl (a0c _ _ _ _ z9)) rfl ?_
 exact a1a (x:=⟨18,s,0,[]⟩) (b:=none) (cap:=0) (a2a _ _ 18 s 0) s9 (v5.trans x5) (Nat.le_refl _) s7 v8
end Go.Proofs.YtomniogfpfbolaaGreatDoor
