import Derived.Test.YtomniogfpfbolaaGreatDoorS44
import Derived.Test.YtomniogfpfbolaaGreatDoorS47
import Derived.Test.YtomniogfpfbolaaGreatDoorS45
namespace Go.Proofs.YtomniogfpfbolaaGreatDoor
open Go.RowKit Go
set_option maxRecDepth 100000
set_option maxHeartbeats 8000000
set_option linter.all false
variable {t:List UInt8}
theorem c9f(k:Int)(f:Nat)(hE:DRow f)(B:Nat)(ts:List Tok)(i:Nat)(t:List UInt8)(a:Nat)(hx:ts[i]?=some ⟨k,t,a⟩)(r:PRes)(Fin:Nat->Prop)(g:Nd->List PT->PR)(w:World)(hF:a1y ts Fin r)(hR:Dr w B ts i false)(q2:(k == 2)=false)(q3:(k == 3)=false)(hn0:¬tx (rest ts i)=S.lp)(hn1:¬tx (rest ts i)=W.nil_)(hn2:¬tx (rest ts i)=W.true_)(hn3:¬tx (rest ts i)=W.false_)(hn4:¬tx (rest ts i)=S.lc)(hy:tx (rest ts i)=W.next_)(hP:need S.lp (rest ts (i+1)) (fun l=>(P f 0 nil0 0 l).on fun x l=>need S.cm l fun l=>(P f 0 nil0 0 l).on fun y l=>need S.rp l fun l=>g (nd 26 ([]++[x]++[y])) l)=some r):Cl 149 #[Po B 0] w (NA no w B ts Fin r g):=by
 have x0:Bw w (w.alloc zbx):=q1z bz0 _
 have m9:=hR.lt
 have w3:=hR.below x0
 have h2:=a0a w zbx
 obtain⟨b,cap,h1,ht,q8⟩:=w3.box
 obtain⟨s0,s1,s2,v1,v2⟩:=drC h1
 have hs:=hR.short
 obtain⟨hi,_⟩:=List.getElem?_eq_some_iff.1 hx
 rcases ht with rfl|⟨q,rfl,hg,l5,v⟩
 ·simp at hx
 have t0:(w.alloc zbx).cell? (Ad q (i*3))=some (vi k):=v i _ hx 0 _ rfl
 have t1:=v i _ hx 1 _ rfl
 have t2:=v i _ hx 2 _ rfl
 dsimp only at t1 t2
 obtain⟨n,hn⟩:=exq (ts.length)
 rw[hn]at s0 hi hs q8
 have l6:(i:Int)<(n:Int):=by omega
 have l4:decide (n<=i)=false:=decide_eq_false (by omega)
 obtain⟨U,hU⟩:=exq (w.alloc zbx)
 rw[hU]at x0 w3 h2 s0 s1 s2 v1 v2 t0 t1 t2
 replace hU:w.alloc (.cells #[vi 0,.string ⟨#[]⟩,vi 0,.slice none 0 0] 34)=U:=hU
 have o0:q<U.heap.size:=World.block_lt_of_cell? _ _ t0
 have m8:B<U.heap.size:=World.block_lt_of_cell? _ _ s0
 have m1:¬B=U.heap.size:=by omega
 have m2:¬U.heap.size=B:=by omega
 have m3:¬q=U.heap.size:=by omega
 have m4:¬U.heap.size=q:=by omega
 clear v hx h1
 go_enter Tryz.func149,Tryz.ntmps149
 go_wp2
 go_quiet (fail)
 go_wp2
 have hd:Bw U (U.drewN nq):=q9z bz0
 have s6:=w3.below hd
 have w0:=q0z hd h2
 have s7:=q3z x0 hd
 have S0:=cellB hd s0
 have S1:=cellB hd s1
 have T0:=cellB hd t0
 have T1:=cellB hd t1
 have T2:=cellB hd t2
 have r7:(U.drewN nq).heap.size=U.heap.size:=rfl
 obtain⟨X,hX⟩:=exq (U.drewN nq)
 rw[hX]at s6 w0 s7 S0 S1 T0 T1 T2 r7
 rw[hX]
 rw[<- r7]at m1 m2 m3 m4
 clear hX hd s0 s1 s2 v1 v2 t0 t1 t2 w3 h2 x0 o0 m8 r7 hU
 go_region_held3 (fun u=>u.cell? (Ad B 0)=some (.slice (some (Ad q 0)) n cap)/\u.cell? (Ad B 1)=some (vi (i:Nat))/\u.cell? (Ad q (i*3))=some (vi k)/\u.cell? (Ad q (i*3+1))=some (.string ⟨t.toArray⟩)/\u.cell? (Ad q (i*3+2))=some (vi (a:Nat))) (go_keep) (fail)
 have x9:=(q1z (Below.refl X.heap.size X) (tbx k ⟨t.toArray⟩ (a:Nat))).drew
 have gT:(X.alloc (tbx k ⟨t.toArray⟩ (a:Nat))).drew.heap[X.heap.size]?=some (tbx k ⟨t.toArray⟩ (a:Nat)):=a0a X _
 have w8:=s6.below x9
 have w1:=q0z x9 w0
 have s8:=q3z s7 x9
 have o3:=q5z w0
 obtain⟨Y,hY⟩:=exq ((X.alloc (tbx k ⟨t.toArray⟩ (a:Nat))).drew)
 rw[hY]at x9 gT w8 w1 s8
 replace hY:(X.alloc (.cells #[vi k,.string ⟨t.toArray⟩,vi (a:Nat)] 85)).drew=Y:=hY
 rw[hY]
 obtain⟨tb,t7⟩:=exq (X.heap.size)
 rw[t7]at gT o3 m1 m2
 rw[t7]
 clear hY t7 x9 s6 w0 s7 S0 S1 T0 T1 T2 m3 m4
 obtain⟨u0,u1⟩:=a6f gT
 obtain⟨b',cap',s0,s1,s2,v1,v2⟩:=w8.cells
 obtain⟨d0,d1,d2,d3,e0,e1,e2,e3⟩:=in4 w1
 have s4:=w8
 have q9:=a0b.of_below (S:=fun q=>q=B) s8
 have z1:=w1
 have q0:=fun u h=>a0o B ts i false S.lp hn0 u h
 have q1:=fun u h=>a0o B ts i false W.nil_ hn1 u h
 have q4:=fun u h=>a0o B ts i false W.true_ hn2 u h
 have q5:=fun u h=>a0o B ts i false W.false_ hn3 u h
 have q6:=fun u h=>a0o B ts i false S.lc hn4 u h
 have q7:=fun u h=>a2k B ts i false W.next_ hy (a5a hy (by decide)) u h
 clear w8 s8 w1 s0 s1 v1 v2
 refine Lib.hid ?_
 go_wp2_with (first|(go_at_call_of 45 (Value.string ⟨#[40]⟩);refine(q0 _ s4).mono ?_;rintro e w2 ⟨rfl,x2⟩;have p0:=s4.below x2;have r0:=q9.trans (a0b.of_below x2);have z2:=q0z x2 z1))
 have x4:=q1z (Below.refl w2.heap.size w2) wdsO
 have gw:=a0a w2 wdsO
 have s5:=p0.below x4
 have r1:=r0.trans (a0b.of_below x4)
 have z3:=q0z x4 z2
 obtain⟨W3,x7⟩:=exq (w2.alloc wdsO)
 rw[x7]at gw s5 r1 z3
 replace x7:w2.alloc (.cells #[.string ⟨#[110,105,108]⟩,.string ⟨#[116,114,117,101]⟩,.string ⟨#[102,97,108,115,101]⟩] 9)=W3:=x7
 rw[x7]
 obtain⟨gb,s9⟩:=exq (w2.heap.size)
 rw[s9]at gw
 rw[s9]
 have a0:W3.cell? (Ad gb 0)=some (sk W.nil_):=q2z gw rfl
 have a1:W3.cell? (Ad gb 1)=some (sk W.true_):=q2z gw rfl
 have a2:W3.cell? (Ad gb 2)=some (sk W.false_):=q2z gw rfl
 clear x7 s9 gw x4 s4 q9 z1 p0 r0 z2 x2 d0 d1 d2 d3 e0 e1 e2 e3 u0 u1 gT
 refine wp_loop_rounds 4 ?_
 rw[rounds_succ]
 go_wp2_with (go_at_call 45;refine(q1 _ s5).mono ?_;rintro e w4 ⟨rfl,y3⟩;have p1:=s5.below y3;have n3:=r1.trans (a0b.of_below y3);have z4:=q0z y3 z3;have a0:=cellB y3 a0;have a1:=cellB y3 a1;have a2:=cellB y3 a2)
 rw[rounds_succ]
 go_wp2_with (go_at_call 45;refine(q4 _ p1).mono ?_;rintro e w5 ⟨rfl,y4⟩;have p2:=p1.below y4;have n4:=n3.trans (a0b.of_below y4);have z5:=q0z y4 z4;have a0:=cellB y4 a0;have a1:=cellB y4 a1;have a2:=cellB y4 a2)
 rw[rounds_succ]
 go_wp2_with (go_at_call 45;refine(q5 _ p2).mono ?_;rintro e w6 ⟨rfl,y5⟩;have p3:=p2.below y5;have n5:=n4.trans (a0b.of_below y5);have z6:=q0z y5 z5;have a0:=cellB y5 a0;have a1:=cellB y5 a1;have a2:=cellB y5 a2)
 rw[rounds_succ]
 go_wp2_with (first|(go_at_call_of 45 (Value.string ⟨#[123]⟩);refine(q6 _ p3).mono ?_;rintro e w7 ⟨rfl,t8⟩;have n0:=p3.below t8;have n6:=n5.trans (a0b.of_below t8);have z7:=q0z t8 z6)|(go_at_call_of 45 (Value.string ⟨#[110,101,120,116]⟩);refine(q7 _ n0).mono ?_;rintro e wy ⟨rfl,n2,r6⟩;have n7:=n6.trans r6;have zy:=r6.box z7 (by omega))|(go_at_call 42;refine(a2o (s:=S.lp) (by decide) hF (.inr ⟨rfl,hP⟩) _ n2).mono ?_;rintro e w9 ⟨rfl,j1,o4,p4,t3,o7⟩;refine Hid.out ?_))
 have z9:=t3.box zy (by omega)
 have v6:=n7.trans t3
 have o2:=q5z z9
 have x3:=q1z (Below.refl w9.heap.size w9) (nbx (nd 26 []) none 0)
 have r9:=a5j f hE [] none 0 no r Fin _ B ts j1 o4 (w9.alloc (nbx (nd 26 []) none 0)) hF (p4.below x3) (Row.nil _ _) (fun q hq=>hq.elim) (fun q e=>by simp[Value.ownBlock]at e) (by simp) o7
 have gn:=a0a w9 (nbx (nd 26 []) none 0)
 have zn:=q0z x3 z9
 have t5:=v6.trans (a0b.of_below x3)
 obtain⟨d,r4⟩:=exq (w9.heap.size)
 clear q0 q1 q4 q5 q6 q7 p4 t3 v6 hP
 refine Lib.hid ?_
 go_wp2_with (go_at_call 96;refine Hid.out ?_)
 rw[r4]at gn o2
 obtain⟨Wn,x8⟩:=exq (w9.alloc (nbx (nd 26 []) none 0))
 rw[x8]at r9 gn zn t5
 have m0:d<Wn.heap.size:=q5z gn
 replace x8:w9.alloc (.cells #[vi 26,.string ⟨#[]⟩,vi 0,.slice none 0 0] 34)=Wn:=x8
 rw[x8]
 clear x8 r4 x3 z9
 refine Lib.hid ?_
 refine r9.mono ?_
 rintro e wa ⟨⟨c,b1,z,j2,m5,rfl,x5,p5,t6,y2,v4⟩,r2⟩
 have y9:a0b (fun q=>q=B) Wn wa:=r2.mono (fun q _ e=>by rcases e with e|e;exact e;simp[Value.ownBlock]at e)
 have ga:=y9.box gn (by omega)
 have za:=y9.box zn (by omega)
 have v7:=t5.trans y9
 have t9:=c0h (G:=fun ks l=>need S.cm l fun l=>(P f 0 nil0 0 l).on fun y l=>need S.rp l fun l=>g (nd 26 (ks++[y])) l) v4
 have l7:=y9.size
 have p:a0b (fun q=>q=d) wa (wa.setCell (Ad d 3) (.slice b1 c.length z)):=(a0b.refl _ _).set d 3 _ (fun _=>rfl)
 have r8:(wa.setCell (Ad d 3) (.slice b1 c.length z)).heap[d]?=some (.cells #[vi 26,.string ⟨#[]⟩,vi 0,.slice b1 c.length z] 34):=q7z _ ga
 have zb:=p.box za (by omega)
 have p6:=p5.keep p (fun q hq e=>by omega)
 have z8:Row (fun q=>d<q) (wa.setCell (Ad d 3) (.slice b1 c.length z)) (.slice b1 c.length z) c:=(x5.weak (fun q hq _=>by have:=hq.resolve_left id;omega)).keep p (fun q hq _ e=>by omega)
 have t4:=v7.then p (fun q hq e=>by omega)
 have s3:=a2o (s:=S.cm) (by decide) hF t9 _ p6
 obtain⟨c0,c1,c2,c3,f0,f1,f2,f3⟩:=in4 ga
 obtain⟨wb,r5⟩:=exq (wa.setCell (Ad d 3) (.slice b1 c.length z))
 rw[r5]at r8 zb z8 t4 s3
 clear r2 y9 v7 v4 t9 p5 x5 p p6 za gn zn t5 r9
 go_wp2_with (go_at_call 42;refine s3.mono ?_;rintro e wc ⟨rfl,j3,o5,p7,y0,v3⟩;refine Hid.out ?_)
 have gc:=y0.box r8 (by omega)
 have zc:=y0.box zb (by omega)
 have v8:=t4.trans y0
 have y6:=z8.keep y0 (fun q hq _ e=>by omega)
 have o6:=a5j f hE c b1 z (fun q=>d<q) r Fin _ B ts j3 o5 wc hF p7 y6 (fun q hq=>by omega) (fun q e=>by rcases y2 q e with e|e;simp[Value.ownBlock]at e;omega) (by simp at t6;omega) v3
 obtain⟨c0,c1,c2,c3,f0,f1,f2,f3⟩:=in4 gc
 clear r5 s3 t4 y0 r8 zb z8 y6 v3 p7 hE
 refine Lib.hid ?_
 go_wp2_with (go_at_call 96;refine o6.mono ?_;rintro e wd ⟨⟨z0,b2,o,j4,m6,rfl,x6,p8,n8,n9,v5⟩,y1⟩;refine Hid.out ?_)
 have y8:∀q,Value.ownBlock (.slice b1 c.length z)=some q->d<q:=fun q e=>by rcases y2 q e with e|e;simp[Value.ownBlock]at e;omega
 have gd:=y1.box gc (by rintro(e|e);omega;have:=y8 _ e.symm;omega)
 have zd:=y1.box zc (by rintro(e|e);omega;have:=y8 _ e.symm;omega)
 have v9:=v8.then y1 (fun q hq e=>by rcases e with e|e;exact e;have:=y8 _ e.symm;omega)
 have l9:=y1.size
 have l8:=q5z gc
 have v0:=c0h (G:=fun ks l=>need S.rp l fun l=>g (nd 26 ks) l) v5
 have p:a0b (fun q=>q=d) wd (wd.setCell (Ad d 3) (.slice b2 z0.length o)):=(a0b.refl _ _).set d 3 _ (fun _=>rfl)
 have ge:(wd.setCell (Ad d 3) (.slice b2 z0.length o)).heap[d]?=some (.cells #[vi 26,.string ⟨#[]⟩,vi 0,.slice b2 z0.length o] 34):=q7z _ gd
 have ze:=p.box zd (by omega)
 have p9:=p8.keep p (fun q hq e=>by omega)
 have y7:Row (fun q=>d<q) (wd.setCell (Ad d 3) (.slice b2 z0.length o)) (.slice b2 z0.length o) z0:=(x6.weak (fun q hq _=>by rcases hq with hq|hq;exact hq;omega)).keep p (fun q hq _ e=>by omega)
 have r3:=v9.then p (fun q hq e=>by omega)
 have o9:=a2o (s:=S.rp) (by decide) hF v0 _ p9
 obtain⟨c0,c1,c2,c3,f0,f1,f2,f3⟩:=in4 gd
 obtain⟨we,o1⟩:=exq (wd.setCell (Ad d 3) (.slice b2 z0.length o))
 rw[o1]at ge ze y7 r3 o9
 clear o6 y1 v9 v5 v0 p8 x6 p p9 zd gc zc v8
 refine Lib.hid ?_
 go_wp2_with (go_at_call 42;refine o9.mono ?_;rintro e wf ⟨rfl,j5,m7,n1,x1,o8⟩;have gf:=x1.box ge (by omega);have zf:=x1.box ze (by omega);obtain⟨c0,c1,c2,c3,f0,f1,f2,f3⟩:=in4 gf;obtain⟨d0,d1,d2,d3,e0,e1,e2,e3⟩:=in4 zf)
 refine bodyPost_ret (a7c rfl (a0c _ _ _ _ zf)) rfl ?_
 exact a1a (x:=nd 26 z0) (((y7.keep x1 (fun q hq _ e=>by omega)).node 26 [] 0).weak (fun q hq _=>⟨.inr (by omega),by omega⟩)) n1 (r3.trans x1) (Nat.le_refl _) m9 o8
theorem c0l(h:a7i (2,t)):t.all digB=true/\numV t<=9223372036854775807/\t.length<=4000:=by
 obtain⟨w,z⟩:=b4q h
 have h1:=h.1
 have y:a1x (2,t)=t:=by unfold a1x;rw[if_neg (show ¬(2:Int)=3 by decide)]
 rw[y]at h1
 simp only at h1
 cases t with
 | nil=>simp[tokR]at h1
 | cons c r =>
  unfold tokR at h1
  simp only at h1
  split at h1
  ·split at h1
   ·cases h1
   ·exact absurd (TokR.inj h1).1 (by decide)
  split at h1
  ·split at h1
   ·rename_i hn
    obtain⟨_,_,x⟩:=TokR.inj h1
    rw[x,List.take_length]at hn
    unfold numE at hn
    split at hn
    ·exact absurd hn (by decide)
    rename_i ha
    split at hn
    ·exact absurd hn (by decide)
    split at hn
    ·exact absurd hn (by decide)
    rename_i hm
    exact⟨by simpa using ha,by omega,z⟩
   ·cases h1
  split at h1
  ·split at h1
   ·split at h1
    ·cases h1
    ·exact absurd (TokR.inj h1).1 (by decide)
   ·cases h1
  split at h1
  ·cases h1
  ·exact absurd (TokR.inj h1).1 (by decide)
theorem d3o(l:List UInt8):∀a:Nat,a<=l.foldl (fun a c=>a*10+(c.toNat-48)) a:=by
 induction l with
 | nil=>intro a;exact Nat.le_refl _
 | cons c l ih=>intro a;exact Nat.le_trans (show a<=a*10+(c.toNat-48) by omega) (ih _)
theorem c9g(t:List UInt8)(j:Nat):numV (t.take j)<=numV t:=by
 have:numV t=(t.drop j).foldl (fun a c=>a*10+(c.toNat-48)) (numV (t.take j)):=by
  unfold numV
  rw[<- List.foldl_append,List.take_append_drop]
 rw[this]
 exact d3o _ _
theorem c9h{j:Nat}{c:UInt8}(h:t[j]?=some c):numV (t.take (j+1))=numV (t.take j)*10+(c.toNat-48):=by
 rw[List.take_add_one,h]
 unfold numV
 rw[List.foldl_append]
 rfl
theorem d3p(B:Nat)(ts:List Tok)(i:Nat)(t:List UInt8)(a:Nat)(hx:ts[i]?=some ⟨2,t,a⟩)(r:PRes)(Fin:Nat->Prop)(g:Nd->List PT->PR)(w:World)(hF:a1y ts Fin r)(hR:Dr w B ts i false)(hv:a7i (2,t))(hP:g ⟨13,[],b1s t,[]⟩ (rest ts (i+1))=some r):Cl 149 #[Po B 0] w (NA no w B ts Fin r g):=by
 have hb0:Bw w (w.alloc zbx):=q1z bz0 _
 have hBw:=hR.lt
 have hR0:=hR.below hb0
 have h2:=a0a w zbx
 obtain⟨b,cap,h1,ht,hcap⟩:=hR0.box
 obtain⟨s0,s1,s2,v1,v2⟩:=drC h1
 have hs:=hR.short
 obtain⟨hi,_⟩:=List.getElem?_eq_some_iff.1 hx
 rcases ht with rfl|⟨q,rfl,hg,hgw,hcells⟩
 ·simp at hx
 have t0:(w.alloc zbx).cell? (Ad q (i*3))=some (vi 2):=hcells i _ hx 0 _ rfl
 have t1:=hcells i _ hx 1 _ rfl
 have t2:=hcells i _ hx 2 _ rfl
 dsimp only at t1 t2
 obtain⟨n,hn⟩:=exq (ts.length)
 rw[hn]at s0 hi hs hcap
 have hi':(i:Int)<(n:Int):=by omega
 have hge:decide (n<=i)=false:=decide_eq_false (by omega)
 obtain⟨U,hU⟩:=exq (w.alloc zbx)
 rw[hU]at hb0 hR0 h2 s0 s1 s2 v1 v2 t0 t1 t2
 replace hU:w.alloc (.cells #[vi 0,.string ⟨#[]⟩,vi 0,.slice none 0 0] 34)=U:=hU
 have hqU:q<U.heap.size:=World.block_lt_of_cell? _ _ t0
 have hBU:B<U.heap.size:=World.block_lt_of_cell? _ _ s0
 have m1:¬B=U.heap.size:=by omega
 have m2:¬U.heap.size=B:=by omega
 have m3:¬q=U.heap.size:=by omega
 have m4:¬U.heap.size=q:=by omega
 clear hcells hx h1
 go_enter Tryz.func149,Tryz.ntmps149
 go_wp2
 go_quiet (fail)
 go_wp2
 have hd:Bw U (U.drewN nq):=q9z bz0
 have hRX:=hR0.below hd
 have h2X:=q0z hd h2
 have hbX:=q3z hb0 hd
 have S0:=cellB hd s0
 have S1:=cellB hd s1
 have T0:=cellB hd t0
 have T1:=cellB hd t1
 have T2:=cellB hd t2
 have esz:(U.drewN nq).heap.size=U.heap.size:=rfl
 obtain⟨X,hX⟩:=exq (U.drewN nq)
 rw[hX]at hRX h2X hbX S0 S1 T0 T1 T2 esz
 rw[hX]
 rw[<- esz]at m1 m2 m3 m4
 clear hX hd s0 s1 s2 v1 v2 t0 t1 t2 hR0 h2 hb0 hqU hBU esz hU
 go_region_held3 (fun u=>u.cell? (Ad B 0)=some (.slice (some (Ad q 0)) n cap)/\u.cell? (Ad B 1)=some (vi (i:Nat))/\u.cell? (Ad q (i*3))=some (vi 2)/\u.cell? (Ad q (i*3+1))=some (.string ⟨t.toArray⟩)/\u.cell? (Ad q (i*3+2))=some (vi (a:Nat))) (go_keep) (fail)
 have hb4:=(q1z (Below.refl X.heap.size X) (tbx 2 ⟨t.toArray⟩ (a:Nat))).drew
 have gT:(X.alloc (tbx 2 ⟨t.toArray⟩ (a:Nat))).drew.heap[X.heap.size]?=some (tbx 2 ⟨t.toArray⟩ (a:Nat)):=a0a X _
 have hRY:=hRX.below hb4
 have h2Y:=q0z hb4 h2X
 have hbY:=q3z hbX hb4
 have hzY:=q5z h2X
 obtain⟨Y,hY⟩:=exq ((X.alloc (tbx 2 ⟨t.toArray⟩ (a:Nat))).drew)
 rw[hY]at hb4 gT hRY h2Y hbY
 replace hY:(X.alloc (.cells #[vi 2,.string ⟨t.toArray⟩,vi (a:Nat)] 85)).drew=Y:=hY
 rw[hY]
 obtain⟨tb,htb⟩:=exq (X.heap.size)
 rw[htb]at gT hzY m1 m2
 rw[htb]
 clear hY htb hb4 hRX h2X hbX S0 S1 T0 T1 T2 m3 m4
 obtain⟨u0,u1⟩:=a6f gT
 obtain⟨b',cap',s0,s1,s2,v1,v2⟩:=hRY.cells
 obtain⟨d0,d1,d2,d3,e0,e1,e2,e3⟩:=in4 h2Y
 refine Lib.hid ?_
 obtain⟨hall,hmax,hlen⟩:=c0l hv
 have hk1:a0b (fun q=>q=B) Y (Y.setCell (Ad B 1) (vi ((i+1:Nat):Int))):=(a0b.refl _ _).set B 1 _ (fun _=>rfl)
 have hR1:=hRY.go (j:=i+1) (by omega)
 have gT1:=hk1.box gT (by omega)
 have z1:=hk1.box h2Y (by omega)
 have hxn:=q1z (Below.refl _ (Y.setCell (Ad B 1) (vi ((i+1:Nat):Int)))) (nbx ⟨13,[],0,[]⟩ none 0)
 have gn:=a0a (Y.setCell (Ad B 1) (vi ((i+1:Nat):Int))) (nbx ⟨13,[],0,[]⟩ none 0)
 have gT2:=q0z hxn gT1
 have z2:=q0z hxn z1
 have hR2:=hR1.below hxn
 have hk2:=((a0b.of_below (S:=fun q=>q=B) hbY).trans hk1).trans (a0b.of_below hxn)
 have esz:(Y.setCell (Ad B 1) (vi ((i+1:Nat):Int))).heap.size=Y.heap.size:=by simp
 rw[esz]at gn
 have hzT:=q5z gT
 go_wp2
 obtain⟨Z,hZ⟩:=exq ((Y.setCell (Ad B 1) (vi ((i+1:Nat):Int))).alloc (nbx ⟨13,[],0,[]⟩ none 0))
 rw[hZ]at gn gT2 z2 hR2 hk2
 replace hZ:(Y.setCell (Ad B 1) (vi ((i:Int)+1))).alloc (.cells #[vi 13,.string ⟨#[]⟩,vi 0,.slice none 0 0] 34)=Z:=hZ
 rw[hZ]
 obtain⟨tn,htn⟩:=exq (Y.heap.size)
 rw[htn]at gn hzT
 rw[htn]
 clear hZ htn esz hxn hk1 hR1 gT1 z1 gT hRY h2Y hbY u0 u1 s0 s1 s2 v1 v2 d0 d1 d2 d3 e0 e1 e2 e3 m1 m2
 replace hall:Hid _:=hall
 replace hP:Hid _:=hP
 go_loopw [5] (fun ix wr=>∃j:Nat,j<=t.length/\ix=vi (j:Nat)/\wr.heap[tn]?=some (.cells #[vi 13,.string ⟨#[]⟩,vi ((numV (t.take j):Nat):Int),.slice none 0 0] 34)/\a0b (fun q=>q=tn) Z wr) (fun ix _=>t.length-(intOf ix).toNat)
 case atStart=>exact⟨0,by omega,rfl,gn,a0b.refl _ _⟩
 case round =>
  obtain⟨j,hj,rfl,gj,hkj⟩:=hrel
  have gTj:=hkj.box gT2 (by omega)
  obtain⟨u0,u1⟩:=a6f gTj
  obtain⟨c0,c1,c2,c3,f0,f1,f2,f3⟩:=in4 gj
  by_cases hlt:j<t.length
  ·have hlt':(j:Int)<(t.length:Int):=by omega
   obtain⟨c,hc⟩:∃c,t[j]?=some c:=⟨_,List.getElem?_eq_getElem hlt⟩
   have hcj:t[j]=c:=by have:=List.getElem?_eq_getElem hlt;rw[hc]at this;exact(Option.some.inj this).symm
   have hdg:=a7n (List.all_eq_true.1 hall.out c (List.mem_of_getElem? hc))
   have hnx:=c9h hc
   have hle:=c9g t (j+1)
   obtain⟨N0,hN0⟩:=exq (numV (t.take j))
   obtain⟨N1,hN1⟩:=exq (numV (t.take (j+1)))
   rw[hN0]at hnx c2 gj
   rw[hN1]at hnx hle
   have h48:(48:Int)<=(c.toNat:Int):=by omega
   have h57:(c.toNat:Int)<=57:=by omega
   have hkS:a0b (fun q=>q=tn) wr (wr.setCell (Ad tn 2) (vi ((N1:Nat):Int))):=(a0b.refl _ _).set tn 2 _ (fun _=>rfl)
   have gS:(wr.setCell (Ad tn 2) (vi ((N1:Nat):Int))).heap[tn]?=some (.cells #[vi 13,.string ⟨#[]⟩,vi ((N1:Nat):Int),.slice none 0 0] 34):=q7z _ gj
   have hN1i:(N1:Int)=10*(N0:Int)+((c.toNat:Int)-48):=by omega
   have hval:∀h,wrap64 (10*(N0:Int)+wrap64 (((((({ data:=t.toArray } : ByteArray)[j]'h).toNat:Nat):Int)-48) % 256))=(N1:Int):=fun h=>by
    have e:({ data:=t.toArray } : ByteArray)[j]'h=c:=by rw[<- hcj];rfl
    rw[e]
    unfold wrap64
    omega
   clear hc hN0
   go_wp2
   go_region_with (fail)
   all_goals
    go_wp2
    refine⟨⟨j+1,by omega,by go_num,?_,?_⟩,by simp[intOf];omega⟩
    ·rw[hval,hN1];exact gS
    ·rw[hval];exact(hkj.then hkS (fun q _ e=>e)).drew
  ·have hge:¬(j:Int)<(t.length:Int):=by omega
   have e:j=t.length:=by omega
   rw[e,List.take_length]at gj c2
   have zj:=hkj.box z2 (by omega)
   obtain⟨d0,d1,d2,d3,e0,e1,e2,e3⟩:=in4 zj
   have hRj:=hR2.keep hkj (fun q hq e=>by omega)
   have hkw:=hk2.then hkj (fun q hq e=>by omega)
   clear e
   go_wp2
   refine bodyPost_ret (a7c rfl (a0c _ _ _ _ zj)) rfl ?_
   exact a1a (x:=⟨13,[],b1s t,[]⟩) (b:=none) (cap:=0) (a2a _ _ 13 [] _) hRj hkw (Nat.le_refl _) hBw (.inr ⟨rfl,hP.out⟩)
theorem c9i(f:Nat)(hE:DRow f):DFst (f+1):=by
 intro r y g B ts i w u v z
 cases hx:ts[i]? with
 | none =>
  have n:=List.getElem?_eq_none_iff.1 hx
  have o:=v.le
  rw[a3v n,P]at z
  refine d3j B ts i (by omega) r y g w v (u.2 i o ?_)
  rw[a3v n]
  exact(Option.some.inj z).symm
 | some x =>
  obtain⟨k,t,a⟩:=x
  have p:=a6e hx
  have l:a7i (k,t):=u.1 (k,t) (List.mem_map.2 ⟨_,List.mem_of_getElem? hx,rfl⟩)
  rw[p,P]at z
  simp only[pt]at z p
  rw[<- p]at z
  rw[a2f]at z
  by_cases h2:k=2
  ·subst h2
   rw[if_pos rfl]at z
   exact d3p B ts i t a hx r y g w u v l z
  rw[if_neg h2,a2f]at z
  by_cases h3:k=3
  ·subst h3
   rw[if_pos rfl]at z
   exact c8z B ts i t a hx r y g w u v z
  rw[if_neg h3,a2f]at z
  have q:(k == 2)=false:=by simpa using h2
  have s:(k == 3)=false:=by simpa using h3
  by_cases a1:tx (rest ts i)=S.lp
  ·rw[if_pos a1]at z
   simp only[a4h,a3c,ok_on]at z
   exact d6x k f hE B ts i t a hx r y g w u v q s a1 z
  rw[if_neg a1,a2f]at z
  by_cases a2:tx (rest ts i)=W.nil_
  ·rw[if_pos a2]at z
   exact d3k k B ts i t a hx r y g w u v q s a1 a2 z
  rw[if_neg a2,a2f]at z
  by_cases a3:tx (rest ts i)=W.true_
  ·rw[if_pos a3]at z
   exact c9a k B ts i t a hx r y g w u v q s a1 a2 a3 z
  rw[if_neg a3,a2f]at z
  by_cases a4:tx (rest ts i)=W.false_
  ·rw[if_pos a4]at z
   exact c5e k B ts i t a hx r y g w u v q s a1 a2 a3 a4 z
  rw[if_neg a4,a2f]at z
  by_cases a5:tx (rest ts i)=S.lc
  ·rw[if_pos a5,a3c]at z
   exact d6y k B ts i t a hx r y g w u v q s a1 a2 a3 a4 a5 z
  rw[if_neg a5,a2f]at z
  by_cases a6:tx (rest ts i)=W.next_
  ·rw[if_pos a6]at z
   simp only[a4h,a3c,ok_on]at z
   exact c9f k f hE B ts i t a hx r y g w u v q s a1 a2 a3 a4 a5 a6 z
  rw[if_neg a6,a3d]at z
  exact c9b k B ts i t a hx r y g w u v q s a1 a2 a3 a4 a5 a6 z
structure DExp (f:Nat):Prop where
 row:DRow f
 un:DUn f
 fst:DFst f
 beh:DBeh f
theorem c5k:DExp 0 where
 row:=fun _ _ _ _ _ _ _ _ _ _ _ h=>by cases h
 un:=fun _ _ _ _ _ _ _ _ _ h=>by cases h
 fst:=fun _ _ _ _ _ _ _ _ _ h=>by cases h
 beh:=fun _ _ _ _ _ _ _ _ _ _ _ _ _ _ _ h=>by cases h
theorem d3q(f:Nat):f<=90000->∀k,k<=f->DExp k:=by
 induction f with
 | zero =>
  intro _ k z
  obtain rfl:k=0:=by omega
  exact c5k
 | succ f ih =>
  intro hf k z
  rcases Nat.lt_or_ge f k with h|h
  ·obtain rfl:k=f+1:=by omega
   have A:=fun k z=>ih (by omega) k z
   have y:=A f (Nat.le_refl _)
   exact⟨c7w f (fun k z=>(A k z).row) y.un,c8i f y.un y.fst (fun k z=>(A k (by omega)).beh),c9i f y.row,c4w f (by omega) (fun k z=>(A k z).row)⟩
  ·exact ih (by omega) k h
theorem c9j(f:Nat)(hE:DRow f)(hK:DBlk f)(hX:DSim f):DSt (f+1):=by
 intro r y g B ts i w v x z
 rw[P,a2f]at z
 by_cases a0:tx (rest ts i)=W.local_
 ·rw[if_pos a0]at z
  simp only[a4h,a3c,a3d,ok_on,a0g]at z
  exact c8v f hE r y g B ts i w v x a0 z
 rw[if_neg a0,a2f]at z
 by_cases a1:tx (rest ts i)=W.if_
 ·rw[if_pos a1]at z
  simp only[a4h,a3c,a2f,ok_on,a0g]at z
  exact d8u f hE hK r y g B ts i w v x a0 a1 z
 rw[if_neg a1,a2f]at z
 by_cases a2:tx (rest ts i)=W.while_
 ·rw[if_pos a2]at z
  simp only[a4h,a3c,ok_on,a0g]at z
  exact c8w f hE hK r y g B ts i w v x a0 a1 a2 z
 rw[if_neg a2,a2f]at z
 by_cases a3:tx (rest ts i)=W.for_
 ·rw[if_pos a3]at z
  simp only[a4h,a3c,a3d,ok_on,a0g]at z
  exact d6o f hE hK r y g B ts i w v x a0 a1 a2 a3 z
 rw[if_neg a3,a2f]at z
 by_cases a4:tx (rest ts i)=W.return_
 ·rw[if_pos a4]at z
  simp only[a4h,a3c,ok_on,a0g]at z
  exact c4x f hE r y g B ts i w v x a0 a1 a2 a3 a4 z
 rw[if_neg a4,a2f]at z
 by_cases a5:tx (rest ts i)=W.emit_
 ·rw[if_pos a5]at z
  simp only[a4h,a3c,ok_on,a0g]at z
  exact d3e f hE r y g B ts i w v x a0 a1 a2 a3 a4 a5 z
 rw[if_neg a5]at z
 simp only[a4h,a3c,a3d,ok_on]at z
 exact c4y f hX r y g B ts i w v x a0 a1 a2 a3 a4 a5 z
theorem d3r(f:Nat):f<=90000->∀k,k<=f->DSt k:=by
 induction f with
 | zero =>
  intro _ k w
  obtain rfl:k=0:=by omega
  exact fun _ _ _ _ _ _ _ _ _ h=>by cases h
 | succ f ih =>
  intro hf k w
  have z:=ih (by omega)
  by_cases h:k<=f
  ·exact z k h
  obtain rfl:k=f+1:=by omega
  have y:=d3q f (by omega)
  exact c9j f (y f (Nat.le_refl _)).row (b4s f (by omega) (fun m x=>z m (by omega))) (d3l f (by omega) (fun m x=>(y m (by omega)).beh) (fun m x=>(y m (by omega)).row))
theorem c9k(f:Nat)(hf:f<=90000):DBlk f:=b4s f hf (fun k z=>d3r f hf k (by omega))
theorem d7b{tm:Array Value}{W:World}{B:Nat}{a b c d:Value}(h:tm[2]?.getD undef=Po B 0)(hx:W.heap[B]?=some (.cells #[a,b,c,d] 34)):(results Tryz.f30 tm).run Tryz.prog W=.ok (.agg #[a,b,c,d]) W:=by
 obtain⟨c0,c1,c2,c3,_,_,_,_⟩:=in4 hx
 simp[results,Tryz.results30,go_sem,h,c0,c1,c2,c3]
theorem c9l{s:List UInt8}{l:List PT}{g:List PT->PR}(h:tx l=s):need s l g=g l.tail:=by
 unfold need
 rw[if_pos h]
def DFun (f:Nat):Prop:=∀(r:PRes) (Fin:Nat->Prop) (g:Nd->List PT->PR) (B:Nat) (ts:List Tok) (i:Nat) (w:World),a1y ts Fin r->Dr w B ts i false->(P f 10 nil0 0 (rest ts i)).on g=some r->Cl 30 #[Po B 0] w (NA no w B ts Fin r g)
def funK (f:Nat) (s:List UInt8) (g:Nd->List PT->PR) (ks:List Nd) (l:List PT):PR:=need S.rp l fun l=>(P f 7 (nd 4 []) 0 l).on fun b l=>need W.end_ l fun l=>g ⟨2,s,0,ks++[b]⟩ l
def FpI (f t:Nat) (w:World) (B:Nat) (ts:List Tok) (Fin:Nat->Prop) (r:PRes) (s:List UInt8) (g:Nd->List PT->PR) (m:Nat) (mv:Value) (wr:World):Prop :=
 ∃(ks:List Nd) (b:Option Addr) (cap j:Nat) (bad more:Bool) (k:Nat),mv=.bool more/\NS w B t ts wr ⟨2,s,0,ks⟩ b cap j bad/\k<=m/\(more=true->1<=m)/\ks.length+m<=f+2/\((bad=true/\Fin j)\/(bad=false/\if more then (P k 11 ⟨2,s,0,ks⟩ 0 (rest ts j)).on (fun n l=>funK f s g n.kids l)=some r else funK f s g ks (rest ts j)=some r))
theorem d3s(f:Nat)(hf:f<=90000)(hK:DBlk f):DFun (f+1):=by
 intro r Fin g B ts i w hF hR hP
 obtain⟨i0,hi0,hz0,hz1,hz2⟩:=info_parts a5w
 rw[P]at hP
 simp only[a3c,a3d,a2f,a4h,ok_on]at hP
 have hBw:=hR.lt
 have hb0:Bw w (w.alloc zbx):=q1z bz0 _
 have h2:=a0a w zbx
 have hM:=a2o (s:=W.function_) (by decide) hF (.inr ⟨rfl,hP⟩) _ (hR.below hb0)
 clear hP
 go_enter Tryz.func30,Tryz.ntmps30
 go_wp2_with (first|(go_at_call 42;refine hM.mono ?_;rintro e w1 ⟨rfl,j1,bad1,hR1,hk1,hFl1⟩)|(go_at_call 43;refine(b2o hF hFl1 _ hR1).mono ?_;rintro e w2 ⟨s,j2,bad2,rfl,hR2,hk2,hFl2⟩;refine Hid.out ?_))
 have hkA:=hk1.trans hk2
 have z2:=hkA.box h2 (by omega)
 have hzA:=q5z z2
 have hb3:=q1z (Below.refl w2.heap.size w2) (nbx ⟨2,s,0,[]⟩ none 0)
 have hS:NS w B w2.heap.size ts (w2.alloc (nbx ⟨2,s,0,[]⟩ none 0)) ⟨2,s,0,[]⟩ none 0 j2 bad2:=⟨a0a _ _,q0z hb3 z2,Row.nil _ _,hR2.below hb3,((a0b.of_below hb0).trans hkA).trans (a0b.of_below hb3),hzA,hBw⟩
 clear hM hR1 hR2 hk1 hk2 hkA hFl1 hb3 z2 h2
 refine Lib.hid ?_
 go_wp2_with (go_at_call 42;refine Hid.out ?_)
 obtain⟨W3,hW3⟩:=exq (w2.alloc (nbx ⟨2,s,0,[]⟩ none 0))
 obtain⟨t,ht⟩:=exq (w2.heap.size)
 rw[hW3,ht]at hS
 replace hW3:w2.alloc (.cells #[vi 2,.string ⟨s.toArray⟩,vi 0,.slice none 0 0] 34)=W3:=hW3
 rw[hW3,ht]
 rw[ht]at hzA
 clear hW3 ht
 refine Lib.hid ?_
 refine(hS.must (s:=S.lp) (by decide) hF hFl2).mono ?_
 rintro e w5 ⟨rfl,j5,bad5,hS5,hFl5⟩
 have hT:=a4g B ts j5 bad5 w5 hS5.R
 clear hS hFl2
 by_cases hrp:txd ts j5 bad5=S.rp
 ·obtain⟨rfl,hi5⟩:=b7u hrp (by decide)
  rw[hrp]at hT
  have hFl6:Fl ts Fin r j5 false (fun l=>funK f s g [] l):=by
   rcases hFl5 with⟨h,_⟩|⟨_,h⟩
   ·cases h
   ·refine .inr ⟨rfl,?_⟩
    dsimp only at h
    rw[if_pos (show tx (rest ts j5)=S.rp from hrp)]at h
    unfold funK
    dsimp only
    rw[c9l (show tx (rest ts j5)=S.rp from hrp)]
    exact h
  obtain⟨ks,hks⟩:∃l:List Nd,[]=l:=⟨_,rfl⟩
  have hl0:ks.length<=100000:=by rw[<- hks];simp
  go_wp2_with (go_at_call 44;refine hT.mono ?_;rintro e w6 ⟨rfl,hb6⟩;have hS7:=hS5.below hb6;refine Hid.out ?_)
  rw[hks]at hS7 hFl6
  unfold funK at hFl6
  clear hks hFl5 hS5 hT hrp
  refine Lib.hid ?_
  go_wp2_with (first|(go_at_call 42;refine(hS7.must (s:=S.rp) (by decide) hF hFl6).mono ?_;rintro e w3 ⟨rfl,j3,bad3,hS3,hFl3⟩)|(go_at_call 46;refine(hS3.block hK hF _ hFl3).mono ?_;rintro e w4 ⟨y,by1,cy,j4,bad4,rfl,hS4,hy4,hFl4⟩;refine Hid.out ?_))
  have hb5:=q1z (q1z (Below.refl w4.heap.size w4) (nbx y by1 cy)) (nbx y by1 cy)
  have hnew:=a0a (w4.alloc (nbx y by1 cy)) (nbx y by1 cy)
  rw[World.size_alloc]at hnew
  have hS5:=hS4.below hb5
  have hy5:=hy4.below hb5
  obtain⟨c0,c1,c2,c3,f0,f1,f2,f3⟩:=in4 hS4.g
  obtain⟨x0,x1,x2,x3,y0,y1,y2,y3⟩:=in4a hS4.g
  refine Lib.hid ?_
  go_wp2_with (at_builtin;refine Hid.out ?_)
  obtain⟨Wq,hWq⟩:=exq ((w4.alloc (nbx y by1 cy)).alloc (nbx y by1 cy))
  rw[hWq]at hnew hS5 hy5
  replace hWq:(w4.alloc (.cells #[vi y.k,.string ⟨y.t.toArray⟩,vi y.n,.slice by1 y.kids.length cy] 34)).alloc (.cells #[vi y.k,.string ⟨y.t.toArray⟩,vi y.n,.slice by1 y.kids.length cy] 34)=Wq:=hWq
  rw[hWq]
  obtain⟨xs,ho,hn⟩:=hS5.ready
  dsimp only at ho hn hy5
  have q35:=hS5.g
  have htl:=hS5.lt
  have hne3:some t≠Value.ownBlock (.slice none ks.length 0):=fun e=>by have:=(hS5.own _ e.symm).1;omega
  have hn1:ks.length+1<=maxLen:=by unfold maxLen;omega
  have hb1:(ks.length+1)*56<=140737488355328:=by omega
  clear hWq hb5 c0 c1 c2 c3 f0 f1 f2 f3 x0 x1 x2 x3 y0 y1 y2 y3
  refine Lib.hid ?_
  go_wp2_with (first|(at_builtin;refine wpList_append_lies _ (by rfl) _ _ _ (by rfl) 0 34 i0 _ 4 56 Tryz.underlying32 hi0 hz0 hz1 hz2 rfl (by omega) (.slice none ks.length 0) ks.length _ (by rfl) ho (Ad (w4.heap.size+1) 0) 1 1 _ (by rfl) (by rfl) (a2c y by1 cy hnew) (by simp[Value.oneCell']) (by omega) hn1 hb1 (Nat.zero_le _) _ rfl ?_;intro g3 cap3 w5 hown1 hgrow hat1 hlt1;have p3w:=(hgrow.block _ (q5z q35) hne3).trans q35;obtain⟨c0,c1,c2,c3,f0,f1,f2,f3⟩:=in4 p3w)|(go_at_call 42;refine Hid.out ?_))
  obtain⟨W6,hW6⟩:=exq (w5.setCell (Ad t 3) (.slice (some (Ad g3 0)) (ks.length+1) cap3))
  have hS6:=hS5.app ho hn hy5 hown1 hgrow hat1 hW6
  rw[hW6]
  clear hW6 hown1 hgrow hat1 hlt1 ho hn hy5 hS5 q35 hnew c0 c1 c2 c3 f0 f1 f2 f3 p3w
  refine Lib.hid ?_
  refine(hS6.must (s:=W.end_) (by decide) hF hFl4).mono ?_
  rintro e w9 ⟨rfl,j2,bad2,hS2,hFl2⟩
  obtain⟨c0,c1,c2,c3,f0,f1,f2,f3⟩:=in4 hS2.g
  obtain⟨d0,d1,d2,d3,e0,e1,e2,e3⟩:=in4 hS2.z
  go_wp2
  refine bodyPost_ret (d7b rfl (a0c _ _ _ _ hS2.z)) rfl ?_
  rw[show ks.length+1=(ks++[y]).length by simp]
  exact hS2.close hFl2
 ·have hFl6:Fl ts Fin r j5 bad5 (fun l=>(P f 11 ⟨2,s,0,[]⟩ 0 l).on (fun n l=>funK f s g n.kids l)):=by
   rcases hFl5 with h|⟨rfl,h⟩
   ·exact .inl h
   ·refine .inr ⟨rfl,?_⟩
    dsimp only at h
    rw[if_neg (show ¬tx (rest ts j5)=S.rp from hrp)]at h
    exact h
  have hI:∀u,Bw w5 u->FpI f t w B ts Fin r s g (f+1) (.bool true) u:=fun u hb=>by
   refine⟨[],none,0,j5,bad5,true,f,rfl,hS5.below hb,by omega,by omega,by simp,?_⟩
   rcases hFl6 with h|⟨h1,h2⟩
   ·exact .inl h
   ·exact .inr ⟨h1,by rw[if_pos rfl];exact h2⟩
  obtain⟨tt,htt⟩:=exq (txd ts j5 bad5)
  rw[htt]at hT hrp
  have hne:(tt == [41])=false:=by simpa using hrp
  clear hFl5 hFl6 hS5 htt hrp
  go_wp2_with (go_at_call 44;refine hT.mono ?_;rintro e w6 ⟨rfl,hb6⟩;have hI6:=hI _ hb6)
  clear hI hT
  go_loopg [4] (f+1) (fun k mv wr=>FpI f t w B ts Fin r s g k mv wr)
  case atStart=>exact hI6
  case round =>
   obtain⟨ks,b,cap,j,bad,more,k,rfl,hS,hkm,hm1,hlen,hst⟩:=hrel
   clear hI6
   have hl0:ks.length<=100000:=by omega
   cases more with
   | false =>
    have hFl:Fl ts Fin r j bad (fun l=>funK f s g ks l):=by
     rcases hst with h|⟨h1,h2⟩
     ·exact .inl h
     ·exact .inr ⟨h1,by rw[if_neg (by decide)]at h2;exact h2⟩
    unfold funK at hFl
    clear hst
    go_wp2_with (first|(go_at_call 42;refine(hS.must (s:=S.rp) (by decide) hF hFl).mono ?_;rintro e w3 ⟨rfl,j3,bad3,hS3,hFl3⟩)|(go_at_call 46;refine(hS3.block hK hF _ hFl3).mono ?_;rintro e w4 ⟨y,by1,cy,j4,bad4,rfl,hS4,hy4,hFl4⟩;refine Hid.out ?_))
    have hb5:=q1z (q1z (Below.refl w4.heap.size w4) (nbx y by1 cy)) (nbx y by1 cy)
    have hnew:=a0a (w4.alloc (nbx y by1 cy)) (nbx y by1 cy)
    rw[World.size_alloc]at hnew
    have hS5:=hS4.below hb5
    have hy5:=hy4.below hb5
    obtain⟨c0,c1,c2,c3,f0,f1,f2,f3⟩:=in4 hS4.g
    obtain⟨x0,x1,x2,x3,y0,y1,y2,y3⟩:=in4a hS4.g
    refine Lib.hid ?_
    go_wp2_with (at_builtin;refine Hid.out ?_)
    obtain⟨Wq,hWq⟩:=exq ((w4.alloc (nbx y by1 cy)).alloc (nbx y by1 cy))
    rw[hWq]at hnew hS5 hy5
    replace hWq:(w4.alloc (.cells #[vi y.k,.string ⟨y.t.toArray⟩,vi y.n,.slice by1 y.kids.length cy] 34)).alloc (.cells #[vi y.k,.string ⟨y.t.toArray⟩,vi y.n,.slice by1 y.kids.length cy] 34)=Wq:=hWq
    rw[hWq]
    obtain⟨xs,ho,hn⟩:=hS5.ready
    dsimp only at ho hn hy5
    have q35:=hS5.g
    have htl:=hS5.lt
    have hne3:some t≠Value.ownBlock (.slice b ks.length cap):=fun e=>by have:=(hS5.own _ e.symm).1;omega
    have hn1:ks.length+1<=maxLen:=by unfold maxLen;omega
    have hb1:(ks.length+1)*56<=140737488355328:=by omega
    clear hWq hb5 c0 c1 c2 c3 f0 f1 f2 f3 x0 x1 x2 x3 y0 y1 y2 y3
    refine Lib.hid ?_
    go_wp2_with (first|(at_builtin;refine wpList_append_lies _ (by rfl) _ _ _ (by rfl) 0 34 i0 _ 4 56 Tryz.underlying32 hi0 hz0 hz1 hz2 rfl (by omega) (.slice b ks.length cap) ks.length _ (by rfl) ho (Ad (w4.heap.size+1) 0) 1 1 _ (by rfl) (by rfl) (a2c y by1 cy hnew) (by simp[Value.oneCell']) (by omega) hn1 hb1 (Nat.zero_le _) _ rfl ?_;intro g3 cap3 w5 hown1 hgrow hat1 hlt1;have p3w:=(hgrow.block _ (q5z q35) hne3).trans q35;obtain⟨c0,c1,c2,c3,f0,f1,f2,f3⟩:=in4 p3w)|(go_at_call 42;refine Hid.out ?_))
    obtain⟨W6,hW6⟩:=exq (w5.setCell (Ad t 3) (.slice (some (Ad g3 0)) (ks.length+1) cap3))
    have hS6:=hS5.app ho hn hy5 hown1 hgrow hat1 hW6
    rw[hW6]
    clear hW6 hown1 hgrow hat1 hlt1 ho hn hy5 hS5 q35 hnew c0 c1 c2 c3 f0 f1 f2 f3 p3w
    refine Lib.hid ?_
    refine(hS6.must (s:=W.end_) (by decide) hF hFl4).mono ?_
    rintro e w9 ⟨rfl,j2,bad2,hS2,hFl2⟩
    obtain⟨c0,c1,c2,c3,f0,f1,f2,f3⟩:=in4 hS2.g
    obtain⟨d0,d1,d2,d3,e0,e1,e2,e3⟩:=in4 hS2.z
    go_wp2
    refine bodyPost_ret (d7b rfl (a0c _ _ _ _ hS2.z)) rfl ?_
    rw[show ks.length+1=(ks++[y]).length by simp]
    exact hS2.close hFl2
   | true =>
    have hFl:Fl ts Fin r j bad (fun l=>a0n l fun s1 l=>(if tx l=S.cm then P (k-1) 11 ⟨2,s,0,ks++[⟨3,s1,0,[]⟩]⟩ 0 l.tail else .ok ⟨2,s,0,ks++[⟨3,s1,0,[]⟩]⟩ l).on (fun n l=>funK f s g n.kids l)):=by
     rcases hst with h|⟨h1,h2⟩
     ·exact .inl h
     ·rw[if_pos rfl]at h2
      cases k with
      | zero=>cases h2
      | succ k =>
       rw[P,a3d]at h2
       exact .inr ⟨h1,h2⟩
    obtain⟨c0,c1,c2,c3,f0,f1,f2,f3⟩:=in4 hS.g
    have hm2:=hm1 rfl
    have hn1:ks.length+1<=maxLen:=by unfold maxLen;omega
    have hb1:(ks.length+1)*56<=140737488355328:=by omega
    have hzt:=hS.lt
    clear hst hm1
    cases gk with
    | zero=>omega
    | succ m =>
    clear hm2
    go_wp2
    go_region_law (first
      | (refine step_append_lies _ (by rfl) _ _ _ (by rfl) 0 34 i0 _ 4 56 Tryz.underlying32 hi0 hz0 hz1 hz2 rfl (by omega) (.slice b ks.length cap) ks.length _ (by rfl) ho (Ad w2.heap.size 0) 1 1 _ (by rfl) (by rfl) (a2c ⟨3,s1,0,[]⟩ none 0 (a0a w2 (nbx ⟨3,s1,0,[]⟩ none 0))) (by simp[Value.oneCell']) (by omega) hn1 hb1 (Nat.zero_le _) _ rfl ?_;intro g3 cap3 w3 hown3 hgrow hat hlt3;have p3w:=(hgrow.block _ (q5z p3) hne3).trans p3;obtain⟨c0,c1,c2,c3,f0,f1,f2,f3⟩:=in4 p3w)
      | (go_simp;go_at_call 43;refine((hS.below (bz0.drew)).name hF hFl).mono ?_;rintro e w2 ⟨s1,j1,bad1,rfl,hS1,hFl1⟩;have hSa:=hS1.below (q1z bz0 (nbx ⟨3,s1,0,[]⟩ none 0));obtain⟨c0,c1,c2,c3,f0,f1,f2,f3⟩:=in4 hS1.g;obtain⟨d0,d1,d2,d3,e0,e1,e2,e3⟩:=in4a hS1.g;obtain⟨xs,ho,hn⟩:=hSa.ready;dsimp only at ho hn;have p3:=hSa.g;have hne3:some t≠Value.ownBlock (.slice b ks.length cap):=fun e=>by have:=(hSa.own _ e.symm).1;omega))
    all_goals
     clear c0 c1 c2 c3 f0 f1 f2 f3 d0 d1 d2 d3 e0 e1 e2 e3 p3w
     obtain⟨W4,hW4⟩:=exq (w3.setCell (Ad t 3) (.slice (some (Ad g3 0)) (ks.length+1) cap3))
     have hS4:=hSa.app ho hn (a2a _ _ 3 s1 0) hown3 hgrow hat hW4
     have hEt:=hS4.eat S.cm (by decide)
     replace hFl1:Hid _:=hFl1
     clear hown3 hgrow hat hlt3 ho hn p3 hS1 hSa hFl hS
     refine Lib.hid ?_
     go_wp2_with (go_at_call 45;refine hEt.mono ?_;rintro e w6 ⟨y,j6,rfl,hS6,hY⟩)
     have hFl2:=hFl1.out
     have hst:(bad1=true/\Fin j6)\/(bad1=false/\if y then (P (k-1) 11 ⟨2,s,0,ks++[⟨3,s1,0,[]⟩]⟩ 0 (rest ts j6)).on (fun n l=>funK f s g n.kids l)=some r else funK f s g (ks++[⟨3,s1,0,[]⟩]) (rest ts j6)=some r):=by
      rcases hFl2 with⟨h0,h1⟩|⟨h0,h1⟩
      ·subst h0
       rcases hY with⟨_,h,_⟩|⟨_,_,rfl⟩
       ·cases h
       ·exact .inl ⟨rfl,h1⟩
      ·subst h0
       refine .inr ⟨rfl,?_⟩
       rcases hY with⟨rfl,_,h2,rfl⟩|⟨rfl,h2,rfl⟩
       ·rw[if_pos h2,a0g]at h1
        rw[if_pos rfl]
        exact h1
       ·rw[if_neg (show ¬tx (rest ts j6)=S.cm from h2)]at h1
        rw[if_neg (by decide)]
        exact h1
     have hmm:y=true->1<=m:=by
      intro e
      subst e
      rcases hY with⟨_,h,_⟩|⟨h,_⟩
      ·subst h
       rcases hst with⟨h,_⟩|⟨_,h⟩
       ·cases h
       ·rw[if_pos rfl]at h
        by_cases hk0:k-1=0
        ·rw[hk0]at h
         cases h
        ·omega
      ·cases h
     go_roundg m
     case measure=>omega
     case rel=>exact⟨ks++[⟨3,s1,0,[]⟩],_,_,j6,bad1,y,k-1,rfl,hS6,by omega,hmm,by simp;omega,hst⟩
end Go.Proofs.YtomniogfpfbolaaGreatDoor
