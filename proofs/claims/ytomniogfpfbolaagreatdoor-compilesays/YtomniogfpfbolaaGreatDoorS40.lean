import Derived.Test.YtomniogfpfbolaaGreatDoorS35
import Derived.Test.YtomniogfpfbolaaGreatDoorS38
namespace Go.Proofs.YtomniogfpfbolaaGreatDoor
open Go.RowKit Go
set_option maxRecDepth 100000
set_option maxHeartbeats 8000000
set_option linter.all false
variable {c a d:Value} {w w2:World} {B cap cap1 j:Nat} {ts:List Tok} {x y:Nd} {b b1:Option Addr} {tm:Array Value}
structure PB (w W:World) (B:Nat) (ts:List Tok) (k:Int) (x y:Nd) (t j:Nat):Prop where
 box:∃b cap,W.heap[t]?=some (nbx (nd k [x,y]) b cap)/\Row (fun q=>w.heap.size<q/\q≠t) W (.slice b 2 cap) [x,y]/\(∀q,Value.ownBlock (.slice b 2 cap)=some q->w.heap.size<q)
 ans:W.heap[w.heap.size]?=some zbx
 R:Rd W B ts j
 K:a0b (fun k=>k=B) w W
 lt:w.heap.size<t
abbrev b0x (x y:Nd) (b b1:Option Addr) (cap cap1:Nat):Obj:=.cells #[vi x.k,sk x.t,vi x.n,.slice b x.kids.length cap,vi y.k,sk y.t,vi y.n,.slice b1 y.kids.length cap1] 34
theorem a4y{g n c q:Nat}(e:Value.ownBlock (.slice (some (Ad g 0)) n c)=some q):g=q:=by simpa[Value.ownBlock]using e
theorem pb_A(k:Int)(hx:NdV (fun q=>w.heap.size<q) w2 x (ndv x b cap))(hy:NdV (fun q=>w.heap.size<q) w2 y (ndv y b1 cap1))(g2:w2.heap[w.heap.size]?=some zbx)(hR:Rd w2 B ts j)(hk:a0b (fun k=>k=B) w w2) :
  PB w ((w2.alloc (b0x x y b b1 cap cap1)).alloc (nbx (nd k [x,y]) (some (Ad w2.heap.size 0)) 2)) B ts k x y (w2.heap.size+1) j:=by
 have u:=q1z (q1z (Below.refl w2.heap.size w2) (b0x x y b b1 cap cap1)) (nbx (nd k [x,y]) (some (Ad w2.heap.size 0)) 2)
 have z:=q5z g2
 have h4:=a0a (w2.alloc (b0x x y b b1 cap cap1)) (nbx (nd k [x,y]) (some (Ad w2.heap.size 0)) 2)
 rw[World.size_alloc]at h4
 refine⟨⟨_,2,h4,?_,fun q e=>by have:=a4y e;omega⟩,q0z u g2,hR.below u,hk.trans (a0b.of_below u),by omega⟩
 have v:=q1z (Below.refl w2.heap.size w2) (b0x x y b b1 cap cap1)
 refine Row.below (W:=w2.alloc (b0x x y b b1 cap cap1)) (Row.two ⟨z,by omega⟩ ?_ ?_ (a0a w2 _)) (q1z bz0 _)
 ·exact(hx.weak (fun q hq z=>⟨⟨hq,by omega⟩,by omega⟩)).below v
 ·exact(hy.weak (fun q hq z=>⟨⟨hq,by omega⟩,by omega⟩)).below v
theorem pb_B{t:Nat}(k:Int)(hx:NdV (fun q=>w.heap.size<q/\q≠t) w2 x (ndv x b cap))(hy:NdV (fun q=>w.heap.size<q/\q≠t) w2 y (ndv y b1 cap1))(g2:w2.heap[w.heap.size]?=some zbx)(gt:w2.heap[t]?=some zbx)(ht:w.heap.size<t)(hBw:B<w.heap.size)(hR:Rd w2 B ts j)(hk:a0b (fun k=>k=B) w w2) :
  PB w (put4 (w2.alloc (b0x x y b b1 cap cap1)) t (vi k) (sk []) (vi 0) (.slice (some (Ad w2.heap.size 0)) 2 2)) B ts k x y t j:=by
 have v:=q5z g2
 have u:=q5z gt
 have z:=q1z (Below.refl w2.heap.size w2) (b0x x y b b1 cap cap1)
 refine⟨⟨_,2,a0c _ _ _ _ (q4z _ gt),?_,fun q e=>by have:=a4y e;omega⟩,(a2e _ _ _ _ (by omega)).trans (q4z _ g2),(hR.below z).put4 _ _ _ _ _ (by omega),a1f (hk.trans (a0b.of_below z)) _ _ _ _ _ (by omega),ht⟩
 refine Row.keep ?_ (a1o _ _ _ _ _ _) (fun q hq _=>hq.2)
 refine Row.two ⟨v,by omega⟩ ?_ ?_ (a0a w2 _)
 ·exact(hx.weak (fun q hq v=>⟨hq,by omega⟩)).below z
 ·exact(hy.weak (fun q hq v=>⟨hq,by omega⟩)).below z
theorem pb_C(k:Int)(hx:NdV (fun q=>w.heap.size<q) w2 x (ndv x b cap))(hy:NdV (fun q=>w.heap.size<q) w2 y (ndv y b1 cap1))(g2:w2.heap[w.heap.size]?=some zbx)(hR:Rd w2 B ts j)(hk:a0b (fun k=>k=B) w w2) :
  PB w ((w2.alloc (nbx (nd k [x,y]) (some (Ad (w2.heap.size+1) 0)) 2)).alloc (b0x x y b b1 cap cap1)) B ts k x y w2.heap.size j:=by
 have v:=q1z (q1z (Below.refl w2.heap.size w2) (nbx (nd k [x,y]) (some (Ad (w2.heap.size+1) 0)) 2)) (b0x x y b b1 cap cap1)
 have z:=q5z g2
 have h4:=a0a (w2.alloc (nbx (nd k [x,y]) (some (Ad (w2.heap.size+1) 0)) 2)) (b0x x y b b1 cap cap1)
 rw[World.size_alloc]at h4
 refine⟨⟨_,2,q4z _ (a0a w2 _),?_,fun q e=>by have:=a4y e;omega⟩,q0z v g2,hR.below v,hk.trans (a0b.of_below v),z⟩
 refine Row.two ⟨by omega,by omega⟩ ?_ ?_ h4
 ·exact(hx.weak (fun q hq z=>⟨⟨hq,by omega⟩,by omega⟩)).below v
 ·exact(hy.weak (fun q hq z=>⟨⟨hq,by omega⟩,by omega⟩)).below v
theorem d6j{W:World}{b:Value}(h:tm[2]?.getD undef=Po B 0)(hx:W.heap[B]?=some (.cells #[a,b,c,d] 34)):(results Tryz.f196 tm).run Tryz.prog W=.ok (.agg #[a,b,c,d]) W:=by
 obtain⟨c0,c1,c2,c3,_,_,_,_⟩:=in4 hx
 simp[results,Tryz.results196,go_sem,h,c0,c1,c2,c3]
theorem c4u(f:Nat)(hE:a6z f)(r:PRes)(B:Nat)(ts:List Tok)(i:Nat)(w:World)(hC:Ctx w B ts i)(hP:need S.lp (rest ts i) (fun l=>(P f 0 nil0 0 l).on fun x l=>need S.cm l fun l=>(P f 0 nil0 0 l).on fun y l=>need S.rp l fun l=>.ok (nd 26 [x,y]) l)=some r):Cl 196 #[Po B 0] w (PAns no w B ts r):=by
 have w0:=hC.R.lt
 have x4:Bw w (w.alloc zbx):=q1z bz0 _
 have h2:=a0a w zbx
 have x5:a0b (fun k=>k=B) w (w.alloc zbx):=a0b.of_below x4
 have y7:=hC.wantsU b3u hP _ x4
 rw[World.size_alloc]at y7
 clear hP
 go_enter Tryz.func196,Tryz.ntmps196
 go_wp2_with (first
  | (go_at_call 127;refine y7.mono ?_;rintro e w2 (⟨rfl,v,rfl,z9⟩|⟨x9,rfl,w7,z9⟩);(exact⟨rfl,a0e rfl v (x5.trans z9)⟩);(try dsimp only at x9);have a:=x5.trans z9;have g2:=z9.box h2 (by omega))
  | (go_at_call 173;refine(a8e x9 (fun r0 h=>hE r0 B ts _ _ (hC.on w7) h)).mono ?_;rintro e w3 (⟨j,rfl,v,rfl,d⟩|⟨b,j1,b1,t,y4,rfl,w4,w9,d⟩);(exact⟨rfl,a0e rfl v (a.trans d)⟩);(try dsimp only at y4);have z1:=a.trans d;have g3:=d.box g2 (by omega);refine Hid.out ?_))
 have t6:=q5z g2
 have v8:=d.size
 have z8:Bw w3 (w3.alloc (nbx b b1 t)):=q1z bz0 _
 have q4:=a0a w3 (nbx b b1 t)
 have v9:=q0z z8 g3
 have z0:NdV (fun q=>w.heap.size<q) (w3.alloc (nbx b b1 t)) b (ndv b b1 t):=(w4.weak (fun q hq _=>by omega)).below z8
 have y9:=z1.trans (a0b.of_below z8)
 have z6:=(hC.on w9).wantsU b9l y4 _ z8
 rw[World.size_alloc]at z6
 obtain⟨t3,x6⟩:=exq (w3.heap.size)
 clear y7 x9 y4 w7 z9 a h2 d z1 w4
 rw[x6]at z6 q4 v8
 refine Lib.hid ?_
 go_wp2_with (go_at_call 127;refine z6.mono ?_;rintro e w5 (⟨rfl,v,rfl,p⟩|⟨y5,rfl,v4,p⟩);(exact⟨rfl,a0e rfl v (y9.trans p)⟩);(try dsimp only at y5);have s:=y9.trans p;have p3:=p.box q4 (by omega);have p2:=p.box v9 (by omega);have x7:=z0.keep p (fun q hq _=>by omega))
 have t5:=q5z p3
 have w1:=hC.on v4
 have y8:=fun u (h:Ctx u B ts (j1+1))=>a8e y5 (fun r0 h0=>hE r0 B ts (j1+1) u h h0)
 clear x6 z6 y5 p y9 q4 v9 z0 g3 g2 w9 z8
 go_cut [4] (fun s4 wx=>∃t4 n j2,s4=Po t4 0/\PB w wx B ts 26 b n t4 j2/\need S.rp (rest ts j2) (fun l=>.ok (nd 26 [b,n]) l)=some r)
 case first =>
  obtain⟨c0,c1,c2,c3,f0,f1,f2,f3⟩:=in4 p3
  obtain⟨x0,x1,x2,x3,y0,y1,y2,y3⟩:=in4a p3
  go_region_with (first
   | (go_at_call 173;refine(y8 _ (w1.below (bz0.drew))).mono ?_;rintro e w6 (⟨j,rfl,v,rfl,z⟩|⟨n,j2,b2,z7,z4,rfl,x8,z5,z⟩);(exact⟨rfl,a0e rfl v ((s.drew).trans z)⟩);have g3:=z.box p3 (by omega);have g2:=z.box p2 (by omega);obtain⟨c0,c1,c2,c3,f0,f1,f2,f3⟩:=in4 g3;obtain⟨x0,x1,x2,x3,y0,y1,y2,y3⟩:=in4a g3;have z2:NdV (fun q=>w.heap.size<q) w6 b (ndv b b1 t):=(x7.below (bz0.drew)).keep z (fun q hq _=>by omega);have z3:NdV (fun q=>w.heap.size<q) w6 n (ndv n b2 z7):=x8.weak (fun q hq _=>by simp at hq;omega);have o:=(s.drew).trans z)
   | (go_at_call 173;refine(y8 _ (w1.below ((q1z bz0 zbx).drew))).mono ?_;rintro e w6 (⟨j,rfl,v,rfl,z⟩|⟨n,j2,b2,z7,z4,rfl,x8,z5,z⟩);(exact⟨rfl,a0e rfl v (((s.alloc zbx).drew).trans z)⟩);have g3:=z.box (W:=(w5.alloc zbx).drew) (q4z zbx p3) (by omega);have g2:=z.box (W:=(w5.alloc zbx).drew) (q4z zbx p2) (by omega);have g4:=z.box (W:=(w5.alloc zbx).drew) (a0a w5 zbx) (by omega);obtain⟨c0,c1,c2,c3,f0,f1,f2,f3⟩:=in4 g3;obtain⟨x0,x1,x2,x3,y0,y1,y2,y3⟩:=in4a g3;obtain⟨u0,u1,u2,u3,v0,v1,v2,v3⟩:=in4a g4;have z2:NdV (fun q=>w.heap.size<q/\q≠w5.heap.size) w6 b (ndv b b1 t):=((x7.weak (S':=fun q=>w.heap.size<q/\q≠w5.heap.size) (fun q hq t1=>⟨hq,by omega⟩)).below ((q1z bz0 zbx).drew)).keep z (fun q hq _=>by omega);have z3:NdV (fun q=>w.heap.size<q/\q≠w5.heap.size) w6 n (ndv n b2 z7):=x8.weak (fun q hq _=>by simp at hq;omega);have o:=((s.alloc zbx).drew).trans z))
  all_goals
   go_wp2
   go_meet
   case rel=>first
    | exact⟨_,n,j2,rfl,pb_A 26 z2 z3 g2 z5 o,z4⟩
    | exact⟨_,n,j2,rfl,pb_C 26 z2 z3 g2 z5 o,z4⟩
    | exact⟨_,n,j2,rfl,pb_B 26 z2 z3 g2 g4 (by omega) w0 z5 o,z4⟩
 case rest =>
  obtain⟨t4,n,j2,rfl,c,hr⟩:=hcut
  obtain⟨b4,t7,q4,y6,v7⟩:=c.box
  have q2:=c.ans
  have t2:=c.lt
  have v6:=(hC.on c.R).wantsU b6b hr wc bz0
  have t8:=y6.node 26 [] 0
  clear y8 hr p3 p2 x7 s
  go_wp2_with (go_at_call 127;refine v6.mono ?_;rintro e w8 (⟨rfl,v,rfl,g⟩|⟨t9,rfl,v5,g⟩);(exact⟨rfl,a0e rfl v (c.K.trans g)⟩);have g4:=g.box q4 (by omega);have g2:=g.box q2 (by omega);obtain⟨c0,c1,c2,c3,f0,f1,f2,f3⟩:=in4 g4;obtain⟨d0,d1,d2,d3,e0,e1,e2,e3⟩:=in4 g2)
  refine bodyPost_ret (d6j rfl (a0c _ _ _ _ g2)) rfl ?_
  obtain rfl:=Option.some.inj t9
  exact a0m (N:=nd 26 [b,n]) rfl ((t8.keep g (fun q hq _=>by omega)).weak (fun q hq _=>⟨.inr (by omega),by omega⟩)) v5 (c.K.trans g) (Nat.le_refl _) w0
theorem b4q{t:List UInt8}(h:a7i (2,t)):Lib.parseIntB 64 t=.ok (numV t:Int)/\t.length<=4000:=by
 have h1:=h.1
 have y:a1x (2,t)=t:=by unfold a1x;rw[if_neg (show ¬(2:Int)=3 by decide)]
 rw[y]at h1
 simp only at h1
 cases t with
 | nil=>simp[tokR]at h1
 | cons c r =>
  unfold tokR at h1
  simp only at h1
  split at h1
  ·split at h1
   ·cases h1
   ·exact absurd (TokR.inj h1).1 (by decide)
  split at h1
  ·split at h1
   ·rename_i hn
    obtain⟨_,_,x⟩:=TokR.inj h1
    rw[x,List.take_length]at hn
    unfold numE at hn
    split at hn
    ·exact absurd hn (by decide)
    rename_i ha
    split at hn
    ·exact absurd hn (by decide)
    rename_i h0
    split at hn
    ·exact absurd hn (by decide)
    rename_i hm
    have z:(c::r).all digB=true:=by simpa using ha
    refine⟨by rw[a8t _ (by simp) z,if_neg hm],?_⟩
    have:¬19<(c::r).length:=fun h=>hm ((c0t _ z h0).2 (.inl h))
    omega
   ·cases h1
  split at h1
  ·split at h1
   ·split at h1
    ·cases h1
    ·exact absurd (TokR.inj h1).1 (by decide)
   ·cases h1
  split at h1
  ·cases h1
  ·exact absurd (TokR.inj h1).1 (by decide)
theorem a6l(s:List UInt8):a0s.lookup s=if s=W.nil_ then some (ik 15) else if s=W.true_ then some (ik 16) else if s=W.false_ then some (ik 17) else none:=by
 unfold a0s
 simp only[List.lookup_cons,List.lookup_nil]
 by_cases h1:s=W.nil_
 ·subst h1;rfl
 by_cases h2:s=W.true_
 ·subst h2;rfl
 by_cases h3:s=W.false_
 ·subst h3;rfl
 rw[if_neg h1,if_neg h2,if_neg h3,beq_false_of_ne h1,beq_false_of_ne h2,beq_false_of_ne h3]
theorem c4v{i:Nat}{x:Tok}(h:ts[i]?=some x)(h3:¬x.k=3):wd ts i=x.t:=by
 unfold wd;rw[h];simp only;rw[if_neg h3]
def a9j (f:Nat) (l:List PT):PR :=
 if tx l=S.lc then need S.rc l.tail fun l=>.ok (nd 19 []) l
 else if tx l=W.next_ then need S.lp l.tail fun l=>(P f 0 nil0 0 l).on fun x l=>need S.cm l fun l=>(P f 0 nil0 0 l).on fun y l=>need S.rp l fun l=>.ok (nd 26 [x,y]) l
 else if tx l=S.lp then (P f 0 nil0 0 l.tail).on fun n l=>need S.rp l fun l=>.ok n l
 else a0n l fun s l=>.ok ⟨18,s,0,[]⟩ l
theorem lit_any(f:Nat)(r:PRes)(B:Nat)(ts:List Tok)(i:Nat)(w:World)(hC:Ctx w B ts i)(hP:P (f+1) 3 nil0 0 (rest ts i)=some r) :
  (∃N,r=.inr (N,rest ts (i+1))/\N.kids=[]/\∀u,Ctx u B ts i->Cl 195 #[Po B 0] u (LU u B ts N true (i+1))) \/
  (∃q,a9j f (rest ts i)=some r/\∀u,Ctx u B ts i->Cl 195 #[Po B 0] u (LU u B ts (nd q []) false i)):=by
 cases hx:ts[i]? with
 | none =>
  have v:=a3v (List.getElem?_eq_none_iff.1 hx)
  have o:wd ts i=[]:=by unfold wd;rw[hx]
  refine .inr ⟨0,?_,fun u y=>b8h B ts i 0 [] 0 u y (b3n hx) (by decide) (by decide) 0 (by rw[o];rfl) (by rw[o];rfl)⟩
  rw[v]at hP⊢
  rw[P]at hP
  unfold a9j
  rw[if_neg (by decide),if_neg (by decide),if_neg (by decide)]
  unfold a0n
  rw[if_neg (by decide)]
  exact hP
 | some x =>
  have v:=a6e hx
  have d:=(List.getElem?_eq_some_iff.1 hx).1
  have hv:a7i (pt x):=hC.V (pt x) (List.mem_map.2 ⟨x,List.mem_of_getElem? hx,rfl⟩)
  have s:=a9z hx
  rw[v]at hP
  rw[P]at hP
  simp only at hP
  by_cases h2:x.k=2
  ·rw[if_pos h2]at hP
   obtain rfl:=Option.some.inj hP
   have n:a7i (2,x.t):=by rw[<- h2];exact hv
   obtain⟨hp,hl⟩:=b4q n
   have hd:∃c g,x.t=c::g/\digB c=true:=by
    rcases kinds_of_valid n with⟨h,_⟩|⟨_,h⟩|h|⟨h,_⟩
    ·omega
    ·exact h
    ·omega
    ·omega
   have hn:a0s.lookup (wd ts i)=none:=by
    rw[c4v hx (by omega),a6l]
    obtain⟨c,g,e,hd⟩:=hd
    rw[e]
    have q:∀a b,digB a=false->¬c::g=a::b:=fun a b h e=>by
     have:=(List.cons.inj e).1
     subst this
     rw[h]at hd;cases hd
    rw[if_neg (q _ _ rfl),if_neg (q _ _ rfl),if_neg (q _ _ rfl)]
   exact .inl ⟨_,rfl,rfl,fun u y=>d2t B ts i x.t (x.a:Nat) u y (by rw[s,h2]) d hl _ hp 0 false (by rw[hn];rfl) (by rw[hn];rfl)⟩
  rw[if_neg h2]at hP
  by_cases h3:x.k=3
  ·rw[if_pos h3]at hP
   obtain rfl:=Option.some.inj hP
   have p:wd ts i=[]:=by unfold wd;rw[hx];simp only;rw[if_pos h3]
   exact .inl ⟨_,rfl,rfl,fun u y=>c8p B ts i x.t (x.a:Nat) u y (by rw[s,h3]) d 0 false (by rw[p];rfl) (by rw[p];rfl)⟩
  rw[if_neg h3]at hP
  have l:tx (pt x::rest ts (i+1))=x.t:=by unfold tx;simp only;rw[if_neg (by omega)]
  have p:=c4v hx h3
  rw[l]at hP
  have z:=fun q (hq:a0s.lookup x.t=some (ik q)) u y=>c8q B ts i x.k x.t (x.a:Nat) u y s h2 h3 d q (by rw[p,hq];rfl) (by rw[p,hq];rfl)
  by_cases a1:x.t=W.nil_
  ·refine .inl ⟨_,?_,rfl,z 15 (by rw[a6l,if_pos a1])⟩
   rw[a1,if_neg (by decide),if_pos rfl]at hP
   exact(Option.some.inj hP).symm
  by_cases a2:x.t=W.true_
  ·refine .inl ⟨_,?_,rfl,z 16 (by rw[a6l,if_neg a1,if_pos a2])⟩
   rw[a2,if_neg (by decide),if_neg (by decide),if_pos rfl]at hP
   exact(Option.some.inj hP).symm
  by_cases a3:x.t=W.false_
  ·refine .inl ⟨_,?_,rfl,z 17 (by rw[a6l,if_neg a1,if_neg a2,if_pos a3])⟩
   rw[a3,if_neg (by decide),if_neg (by decide),if_neg (by decide),if_pos rfl]at hP
   exact(Option.some.inj hP).symm
  have hn:a0s.lookup (wd ts i)=none:=by rw[p,a6l,if_neg a1,if_neg a2,if_neg a3]
  refine .inr ⟨0,?_,fun u y=>b8h B ts i x.k x.t (x.a:Nat) u y s h2 h3 0 (by rw[hn];rfl) (by rw[hn];rfl)⟩
  rw[if_neg a1,if_neg a2,if_neg a3]at hP
  rw[v]
  unfold a9j
  rw[l,List.tail_cons]
  by_cases b1:x.t=S.lc
  ·rw[b1,if_neg (by decide),if_pos rfl]at hP
   rw[if_pos b1];exact hP
  by_cases b2:x.t=W.next_
  ·rw[b2,if_neg (by decide),if_neg (by decide),if_pos rfl]at hP
   rw[if_neg b1,if_pos b2];exact hP
  by_cases b3:x.t=S.lp
  ·rw[if_pos b3]at hP
   rw[if_neg b1,if_neg b2,if_pos b3];exact hP
  rw[if_neg b3,if_neg b1,if_neg b2]at hP
  rw[if_neg b1,if_neg b2,if_neg b3];exact hP
theorem b4r{W:World}{b:Value}(h:tm[2]?.getD undef=Po B 0)(hx:W.heap[B]?=some (.cells #[a,b,c,d] 34)):(results Tryz.f192 tm).run Tryz.prog W=.ok (.agg #[a,b,c,d]) W:=by
 obtain⟨c0,c1,c2,c3,_,_,_,_⟩:=in4 hx
 simp[results,Tryz.results192,go_sem,h,c0,c1,c2,c3]
theorem d3c(B:Nat)(ts:List Tok)(i:Nat)(k:Int)(t:List UInt8)(n:Int)(w:World)(hC:Ctx w B ts i)(hL:∀u,Ctx u B ts i->Cl 195 #[Po B 0] u (LU u B ts ⟨k,t,n,[]⟩ true (i+1))):Cl 192 #[Po B 0] w (PAns no w B ts (.inr (⟨k,t,n,[]⟩,rest ts (i+1)))):=by
 have r:=hC.R.lt
 have x:Bw w (w.alloc zbx):=q1z bz0 _
 have h2:=a0a w zbx
 have v:a0b (fun k=>k=B) w (w.alloc zbx):=a0b.of_below x
 have q:=hL _ (hC.below x)
 clear hL
 go_enter Tryz.func192,Tryz.ntmps192
 go_wp2_with (go_at_call 195;refine q.mono ?_;rintro e w1 ⟨rfl,s,z⟩;have g2:=z.box h2 (by omega);obtain⟨c,d,f,g,h,l,o,p⟩:=in4a g2;refine Hid.out ?_)
 refine Lib.hid ?_
 go_wp2
 have y:Bw w1 (w1.alloc (nbx ⟨k,t,n,[]⟩ none 0)):=q1z bz0 _
 refine bodyPost_ret (b4r rfl (a0c _ _ _ _ (q4z _ g2))) rfl ?_
 exact a0m (N:=⟨k,t,n,[]⟩) rfl (a2a _ _ k t n) (s.below y) ((v.trans z).trans (a0b.of_below y)) (Nat.le_refl _) r
theorem d6k(q:Int)(r:PRes)(B:Nat)(ts:List Tok)(i:Nat)(w:World)(hC:Ctx w B ts i)(hL:∀u,Ctx u B ts i->Cl 195 #[Po B 0] u (LU u B ts ⟨q,[],0,[]⟩ false i))(hy:tx (rest ts i)=S.lc)(hP:need S.rc (rest ts (i+1)) (fun l=>.ok (nd 19 []) l)=some r):Cl 192 #[Po B 0] w (PAns no w B ts r):=by
 have z7:=hC.R.lt
 have z:Bw w (w.alloc zbx):=q1z bz0 _
 have h2:=a0a w zbx
 have o:a0b (fun k=>k=B) w (w.alloc zbx):=a0b.of_below z
 have hc:=hL _ (hC.below z)
 clear hL
 go_enter Tryz.func192,Tryz.ntmps192
 go_wp2_with (first|(go_at_call 195;refine hc.mono ?_;rintro e w1 ⟨rfl,h,v⟩;have g2:=v.box h2 (by omega))|(go_at_call 130;refine Hid.out ?_))
 have x:Bw w1 (w1.alloc (nbx ⟨q,[],0,[]⟩ none 0)):=q1z bz0 _
 have g:=hC.on (h.below x)
 have f:=q0z x g2
 have p:=(o.trans v).trans (a0b.of_below x)
 obtain⟨U,n⟩:=exq (w1.alloc (nbx ⟨q,[],0,[]⟩ none 0))
 rw[n]at g f p
 replace n:w1.alloc (.cells #[vi q,.string ⟨#[]⟩,vi 0,.slice none 0 0] 34)=U:=n
 have c:=fun u hb=>g.takes_yes c8h hy u hb
 have z:=Below.refl U.heap.size U
 have z6:=q5z f
 clear hc h v o g2 h2 x
 rw[n]
 clear n
 refine Lib.hid ?_
 go_wp2_with (first
  | (go_at_call_of 130 (Value.string ⟨#[123]⟩);refine(c _ z).mono ?_;rintro e wy ⟨rfl,b,t⟩;have s:=(p.trans (a0b.of_below (S:=fun k=>k=B) z)).trans t;have g2:=t.box f (by omega);have z8:=hC.on b)
  | (go_at_call 127;refine(z8.wantsU d8h hP _ bz0).mono ?_;rintro e w3 (⟨rfl,d,rfl,y⟩|⟨z9,rfl,a,y⟩);(exact⟨rfl,a0e rfl d (s.trans y)⟩);have q2:=y.box g2 (by omega);obtain⟨c0,c1,c2,c3,f0,f1,f2,f3⟩:=in4 q2))
 obtain rfl:=Option.some.inj z9
 refine bodyPost_ret (b4r rfl (a0c _ _ _ _ q2)) rfl ?_
 exact a0m (N:=nd 19 []) rfl (a2a _ _ 19 [] 0) a (s.trans y) (Nat.le_refl _) z7
theorem c8r(f:Nat)(q:Int)(r:PRes)(B:Nat)(ts:List Tok)(i:Nat)(w:World)(hC:Ctx w B ts i)(hL:∀u,Ctx u B ts i->Cl 195 #[Po B 0] u (LU u B ts ⟨q,[],0,[]⟩ false i))(hE:a6z f)(hn0:¬tx (rest ts i)=S.lc)(hy:tx (rest ts i)=W.next_)(hP:need S.lp (rest ts (i+1)) (fun l=>(P f 0 nil0 0 l).on fun x l=>need S.cm l fun l=>(P f 0 nil0 0 l).on fun y l=>need S.rp l fun l=>.ok (nd 26 [x,y]) l)=some r):Cl 192 #[Po B 0] w (PAns no w B ts r):=by
 have z3:=hC.R.lt
 have t:Bw w (w.alloc zbx):=q1z bz0 _
 have h2:=a0a w zbx
 have z8:a0b (fun k=>k=B) w (w.alloc zbx):=a0b.of_below t
 have hc:=hL _ (hC.below t)
 clear hL
 go_enter Tryz.func192,Tryz.ntmps192
 go_wp2_with (first|(go_at_call 195;refine hc.mono ?_;rintro e w1 ⟨rfl,z5,d⟩;have g2:=d.box h2 (by omega))|(go_at_call 130;refine Hid.out ?_))
 have z:Bw w1 (w1.alloc (nbx ⟨q,[],0,[]⟩ none 0)):=q1z bz0 _
 have z9:=hC.on (z5.below z)
 have z0:=q0z z g2
 have g:=(z8.trans d).trans (a0b.of_below z)
 obtain⟨U,hU⟩:=exq (w1.alloc (nbx ⟨q,[],0,[]⟩ none 0))
 rw[hU]at z9 z0 g
 replace hU:w1.alloc (.cells #[vi q,.string ⟨#[]⟩,vi 0,.slice none 0 0] 34)=U:=hU
 have z6:=fun u hb=>z9.takes_no c8h hn0 u hb
 have z7:=fun u hb=>z9.takes_yes b6l hy u hb
 have t:=Below.refl U.heap.size U
 have z2:=q5z z0
 clear hc z5 d z8 g2 h2 z
 rw[hU]
 clear hU
 refine Lib.hid ?_
 cases r with
 | inl l =>
  go_wp2_with (first
  | (go_at_call_of 130 (Value.string ⟨#[123]⟩);refine(z6 _ t).mono ?_;rintro e w2 ⟨rfl,v⟩;have z:=q3z t v;have z1:=q0z v z0)
  | (go_at_call_of 130 (Value.string ⟨#[110,101,120,116]⟩);refine(z7 _ z).mono ?_;rintro e wy ⟨rfl,c,s⟩;have h:=(g.trans (a0b.of_below (S:=fun k=>k=B) z)).trans s;have g2:=s.box z1 (by omega);have a:=hC.on c)
  | (go_at_call 196;refine(c4u f hE _ B ts _ _ a hP).mono ?_;rintro e w3 ⟨j,hj,z4,rfl,o⟩))
  exact⟨rfl,a0e hj z4 (h.trans o)⟩
 | inr p =>
  obtain⟨n,l⟩:=p
  go_wp2_with (first
  | (go_at_call_of 130 (Value.string ⟨#[123]⟩);refine(z6 _ t).mono ?_;rintro e w2 ⟨rfl,v⟩;have z:=q3z t v;have z1:=q0z v z0)
  | (go_at_call_of 130 (Value.string ⟨#[110,101,120,116]⟩);refine(z7 _ z).mono ?_;rintro e wy ⟨rfl,c,s⟩;have h:=(g.trans (a0b.of_below (S:=fun k=>k=B) z)).trans s;have g2:=s.box z1 (by omega);have a:=hC.on c)
  | (go_at_call 196;refine(c4u f hE _ B ts _ _ a hP).mono ?_;rintro e w3 ⟨j,b,cap,hj,rfl,hN,hR,o⟩;have q2:=o.box g2 (by omega);obtain⟨c0,c1,c2,c3,f0,f1,f2,f3⟩:=in4 q2))
  refine bodyPost_ret (b4r rfl (a0c _ _ _ _ q2)) rfl ?_
  exact a0m hj (hN.weak (fun q hq _=>by have:=q5z g2;rcases hq with hq|hq;exact hq.elim;exact⟨.inr (by omega),by omega⟩)) hR (h.trans o) (Nat.le_refl _) z3
theorem d6l(f:Nat)(q:Int)(r:PRes)(B:Nat)(ts:List Tok)(i:Nat)(w:World)(hC:Ctx w B ts i)(hL:∀u,Ctx u B ts i->Cl 195 #[Po B 0] u (LU u B ts ⟨q,[],0,[]⟩ false i))(hE:a6z f)(hn0:¬tx (rest ts i)=S.lc)(hn1:¬tx (rest ts i)=W.next_)(hy:tx (rest ts i)=S.lp)(hP:(P f 0 nil0 0 (rest ts (i+1))).on (fun n l=>need S.rp l fun l=>.ok n l)=some r):Cl 192 #[Po B 0] w (PAns no w B ts r):=by
 have x8:=hC.R.lt
 have t:Bw w (w.alloc zbx):=q1z bz0 _
 have h2:=a0a w zbx
 have z4:a0b (fun k=>k=B) w (w.alloc zbx):=a0b.of_below t
 have hc:=hL _ (hC.below t)
 clear hL
 go_enter Tryz.func192,Tryz.ntmps192
 go_wp2_with (first|(go_at_call 195;refine hc.mono ?_;rintro e w1 ⟨rfl,y6,b⟩;have g2:=b.box h2 (by omega))|(go_at_call 130;refine Hid.out ?_))
 have z:Bw w1 (w1.alloc (nbx ⟨q,[],0,[]⟩ none 0)):=q1z bz0 _
 have p:=hC.on (y6.below z)
 have z0:=q0z z g2
 have z7:=(z4.trans b).trans (a0b.of_below z)
 obtain⟨U,hU⟩:=exq (w1.alloc (nbx ⟨q,[],0,[]⟩ none 0))
 rw[hU]at p z0 z7
 replace hU:w1.alloc (.cells #[vi q,.string ⟨#[]⟩,vi 0,.slice none 0 0] 34)=U:=hU
 have y7:=fun u hb=>p.takes_no c8h hn0 u hb
 have y8:=fun u hb=>p.takes_no b6l hn1 u hb
 have y9:=fun u hb=>p.takes_yes b3u hy u hb
 have t:=Below.refl U.heap.size U
 have x4:=q5z z0
 clear hc y6 b z4 g2 h2 z
 rw[hU]
 clear hU
 refine Lib.hid ?_
 go_wp2_with (first
  | (go_at_call_of 130 (Value.string ⟨#[123]⟩);refine(y7 _ t).mono ?_;rintro e w2 ⟨rfl,g⟩;have z:=q3z t g;have z1:=q0z g z0)
  | (go_at_call_of 130 (Value.string ⟨#[110,101,120,116]⟩);refine(y8 _ z).mono ?_;rintro e w3 ⟨rfl,o⟩;have a:=q3z z o;have z2:=q0z o z1)
  | (go_at_call_of 130 (Value.string ⟨#[40]⟩);refine(y9 _ a).mono ?_;rintro e wy ⟨rfl,y4,c⟩;have z8:=(z7.trans (a0b.of_below (S:=fun k=>k=B) a)).trans c;have g2:=c.box z2 (by omega);have x9:=hC.on y4)
  | (go_at_call 173;refine(a8e hP (fun r0 h=>hE r0 B ts _ _ x9 h)).mono ?_;rintro e w3 (⟨j,rfl,d,rfl,v⟩|⟨n1,j1,b1,y,z9,rfl,y0,y2,v⟩);(exact⟨rfl,a0e rfl d (z8.trans v)⟩);(try dsimp only at z9);have z5:=z8.trans v;have g3:=v.box g2 (by omega);have x6:=c.size;have x5:=a.size;refine Hid.out ?_))
 have x3:=v.size
 have s:Bw w3 (w3.alloc (nbx n1 b1 y)):=q1z bz0 _
 have q4:=a0a w3 (nbx n1 b1 y)
 have x7:=q0z s g3
 have y5:NdV (fun q=>w.heap.size<q) (w3.alloc (nbx n1 b1 y)) n1 (ndv n1 b1 y):=(y0.weak (fun q hq _=>by omega)).below s
 have z6:=z5.trans (a0b.of_below s)
 have z3:=(hC.on y2).wantsU b6b z9 _ s
 rw[World.size_alloc]at z3
 clear y7 y8 y9 z9 hP
 refine Lib.hid ?_
 go_wp2_with (go_at_call 127;refine z3.mono ?_;rintro e w5 (⟨rfl,d,rfl,x⟩|⟨y1,rfl,y3,x⟩);(exact⟨rfl,a0e rfl d (z6.trans x)⟩);have p3:=x.box q4 (by omega);have p2:=x.box x7 (by omega);obtain⟨c0,c1,c2,c3,f0,f1,f2,f3⟩:=in4 p3;obtain⟨d0,d1,d2,d3,e0,e1,e2,e3⟩:=in4 p2)
 obtain rfl:=Option.some.inj y1
 refine bodyPost_ret (b4r rfl (a0c _ _ _ _ p2)) rfl ?_
 exact a0m rfl ((y5.keep x (fun q hq _=>by omega)).weak (fun q hq _=>⟨.inr (by omega),by omega⟩)) y3 (z6.trans x) (Nat.le_refl _) x8
theorem c8s(q:Int)(r:PRes)(B:Nat)(ts:List Tok)(i:Nat)(w:World)(hC:Ctx w B ts i)(hL:∀u,Ctx u B ts i->Cl 195 #[Po B 0] u (LU u B ts ⟨q,[],0,[]⟩ false i))(hn0:¬tx (rest ts i)=S.lc)(hn1:¬tx (rest ts i)=W.next_)(hn2:¬tx (rest ts i)=S.lp)(hP:a0n (rest ts i) (fun s l=>.ok ⟨18,s,0,[]⟩ l)=some r):Cl 192 #[Po B 0] w (PAns no w B ts r):=by
 have y9:=hC.R.lt
 have y:Bw w (w.alloc zbx):=q1z bz0 _
 have h2:=a0a w zbx
 have f:a0b (fun k=>k=B) w (w.alloc zbx):=a0b.of_below y
 have hc:=hL _ (hC.below y)
 clear hL
 go_enter Tryz.func192,Tryz.ntmps192
 go_wp2_with (first|(go_at_call 195;refine hc.mono ?_;rintro e w1 ⟨rfl,a,h⟩;have g2:=h.box h2 (by omega))|(go_at_call 130;refine Hid.out ?_))
 have z:Bw w1 (w1.alloc (nbx ⟨q,[],0,[]⟩ none 0)):=q1z bz0 _
 have x:=hC.on (a.below z)
 have z0:=q0z z g2
 have n:=(f.trans h).trans (a0b.of_below z)
 obtain⟨U,b⟩:=exq (w1.alloc (nbx ⟨q,[],0,[]⟩ none 0))
 rw[b]at x z0 n
 replace b:w1.alloc (.cells #[vi q,.string ⟨#[]⟩,vi 0,.slice none 0 0] 34)=U:=b
 have z6:=fun u c=>x.takes_no c8h hn0 u c
 have z7:=fun u c=>x.takes_no b6l hn1 u c
 have z8:=fun u c=>x.takes_no b3u hn2 u c
 have y:=Below.refl U.heap.size U
 have y8:=q5z z0
 clear hc a h f g2 h2 z
 rw[b]
 clear b
 refine Lib.hid ?_
 go_wp2_with (first
  | (go_at_call_of 130 (Value.string ⟨#[123]⟩);refine(z6 _ y).mono ?_;rintro e w2 ⟨rfl,o⟩;have z:=q3z y o;have z1:=q0z o z0)
  | (go_at_call_of 130 (Value.string ⟨#[110,101,120,116]⟩);refine(z7 _ z).mono ?_;rintro e w3 ⟨rfl,p⟩;have d:=q3z z p;have z2:=q0z p z1)
  | (go_at_call_of 130 (Value.string ⟨#[40]⟩);refine(z8 _ d).mono ?_;rintro e w4 ⟨rfl,t⟩;have g:=q3z d t;have z3:=q0z t z2)
  | (go_at_call 128;refine(x.nameU hP _ g).mono ?_;rintro e w6 (⟨rfl,z9,rfl,v⟩|⟨s,z4,rfl,z5,v⟩);(exact⟨rfl,a0e rfl z9 ((n.trans (a0b.of_below g)).trans v)⟩);have g2:=v.box z3 (by omega);obtain⟨c0,c1,c2,c3,f0,f1,f2,f3⟩:=in4 g2))
 obtain rfl:=Option.some.inj z4
 refine bodyPost_ret (b4r rfl (a0c _ _ _ _ g2)) rfl ?_
 exact a0m (N:=⟨18,s,0,[]⟩) rfl (a2a _ _ 18 s 0) z5 ((n.trans (a0b.of_below g)).trans v) (Nat.le_refl _) y9
theorem d6m(f:Nat)(hE:a6z f):SimC (f+1):=by
 intro r B ts i w x u
 rcases lit_any f r B ts i w x u with⟨N,rfl,v,y⟩|⟨q,z,y⟩
 ·obtain⟨k,t,n,kids⟩:=N
  simp only at v
  subst v
  exact d3c B ts i k t n w x y
 ·unfold a9j at z
  rw[a0g]at z
  split at z
  ·rename_i h1
   exact d6k q r B ts i w x y h1 z
  rename_i h1
  split at z
  ·rename_i h2
   exact c8r f q r B ts i w x y hE h1 h2 z
  rename_i h2
  split at z
  ·rename_i h3
   exact d6l f q r B ts i w x y hE h1 h2 h3 z
  ·rename_i h3
   exact c8s q r B ts i w x y h1 h2 h3 z
end Go.Proofs.YtomniogfpfbolaaGreatDoor
