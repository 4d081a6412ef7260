/- The program's Check and Slots. -/
import Derived.Test.YtfbpdbndejefdaaGreatDoorS41
import Derived.Test.YtfbpdbndejefdaaGreatDoorS40
namespace Go.Proofs.YtfbpdbndejefdaaGreatDoor
open Go.RowKit Go
set_option maxRecDepth 100000
set_option maxHeartbeats 8000000
set_option linter.all false
variable {a b c d x y:Value}
def KOut (w:World) (R:(Int×Nat)⊕(Nd×List Int)) (e:Ending) (w':World):Prop :=
 (match R with
 | .inl (c,a)=>e=.returned (.tuple #[zagg,.slice none 0 0,.agg #[vi c,vi (a:Nat)]])
 | .inr (n,sl)=>∃b cap sb sc,e=.returned (.tuple #[ndv n b cap,.slice sb sl.length sc,.agg #[vi 0,vi 0]])/\NdV (fun g=>w.heap.size<=g) w' n (ndv n b cap)/\SlAt w.heap.size w' sb sl/\sl.length<=sc)/\Bw w w'
theorem d3p{tm:Array Value}{W:World}{B C:Nat}{v:Value}(h:tm[2]?.getD undef=Po B 0)(hv:tm[3]?.getD undef=v)(h':tm[4]?.getD undef=Po C 0)(hx:W.heap[B]?=some (.cells #[a,b,c,d] 43))(hy:W.heap[C]?=some (.cells #[x,y] 27)):(results Tryz.f8 tm).run Tryz.prog W=.ok (.tuple #[.agg #[a,b,c,d],v,.agg #[x,y]]) W:=by
 obtain⟨c0,c1,c2,c3,_,_,_,_⟩:=in4 hx
 have u:Ce W C 0 x:=cell_block hy rfl
 have z:Ce W C 1 y:=cell_block hy rfl
 subst hv
 simp[results,Tryz.results8,go_sem,h,h',c0,c1,c2,c3,u,z]
theorem d3q{V:World}{T:Nat}(gA:V.heap[T]?=some (.cells #[a,b,c,d] 43))(gB:V.heap[T+1]?=some (.cells #[x,y] 27))(a' b' c' d' x' y':Value) :
  (pu2 (put4 V T a' b' c' d') (T+1) x' y').heap[T]?=some (.cells #[a',b',c',d'] 43)/\(pu2 (put4 V T a' b' c' d') (T+1) x' y').heap[T+1]?=some (.cells #[x',y'] 27)/\a0b (fun q=>q=T\/q=T+1) V (pu2 (put4 V T a' b' c' d') (T+1) x' y') :=
 ⟨(a1a _ _ (by omega)).trans (a0f _ _ _ _ gA),a1p _ _ ((a2w _ _ _ _ (by omega)).trans gB),((a2g _ _ _ _ _ _).mono (fun q _ e=>.inl e)).then (a1g _ _ _ _) (fun q _ e=>.inr e)⟩
theorem b3a(s:ByteArray)(w:World)(hE:ErrV w)(hsp:a4b w)(c:Int)(a:Nat)(hR:a2x s.data.toList=.inl (c,a)):Cl 8 #[.string s] w (KOut w (.inl (c,a))):=by
 have i:=parse_code hR
 have v:Bw w ((w.alloc zbx).alloc (.cells #[vi 0,vi 0] 27)):=ext_alloc (ext_alloc (Below.refl _ _) _) _
 obtain⟨U,m⟩:∃U,(w.alloc zbx).alloc (.cells #[vi 0,vi 0] 27)=U:=⟨_,rfl⟩
 have g0:U.heap[w.heap.size]?=some zbx:=by rw[<- m];exact block_alloc _ (a0a _ _)
 have g1:U.heap[w.heap.size+1]?=some (.cells #[vi 0,vi 0] 27):=by
  have:=a0a (w.alloc zbx) (.cells #[vi 0,vi 0] 27)
  rw[World.size_alloc]at this
  rw[<- m];exact this
 rw[m]at v
 have hp:=b0m s U (hE.on v) (hsp.below v)
 rw[hR]at hp
 have f:(c == 0)=false:=by simpa using i
 have z8:(c != 0)=true:=by simpa using i
 replace m:(w.alloc (.cells #[vi 0,.string ⟨#[]⟩,vi 0,.slice none 0 0] 43)).alloc (.cells #[vi 0,vi 0] 27)=U:=m
 clear hR i
 go_enter Tryz.func8,Tryz.ntmps8
 go_wp2_with (go_at_call 15;refine hp.mono ?_;rintro e w1 ⟨rfl,y⟩;refine Hid.out ?_)
 have z:Bw w1 ((w1.alloc zbx).alloc (.cells #[vi c,vi (a:Nat)] 27)):=ext_alloc (ext_alloc (Below.refl _ _) _) _
 have d:((w1.alloc zbx).alloc (.cells #[vi c,vi (a:Nat)] 27)).heap[w1.heap.size+1]?=some (.cells #[vi c,vi (a:Nat)] 27):=by
  have:=a0a (w1.alloc zbx) (.cells #[vi c,vi (a:Nat)] 27)
  rw[World.size_alloc]at this
  exact this
 have z9:w.heap.size+1<w1.heap.size:=by have:=block_lt g1;have:=y.size;omega
 refine Lib.hid ?_
 go_wp2
 obtain⟨V,n⟩:∃V,(w1.alloc zbx).alloc (.cells #[vi c,vi (a:Nat)] 27)=V:=⟨_,rfl⟩
 rw[n]at z d
 replace n:(w1.alloc (.cells #[vi 0,.string ⟨#[]⟩,vi 0,.slice none 0 0] 43)).alloc (.cells #[vi c,vi (a:Nat)] 27)=V:=n
 rw[n]
 clear n
 have j:=block_below z (block_below y g0)
 have gB:=block_below z (block_below y g1)
 obtain⟨x0,x1,x2,x3,p0,p1,p2,p3⟩:=in4 j
 obtain⟨y0,y1,q0,q1⟩:=in2 gB
 obtain⟨z0,z1,_,_⟩:=in2 d
 have u:=ext_trans (ext_trans v y) z
 clear hp y g0 g1 z v
 replace u:Hid _:=u
 replace j:Hid _:=j
 replace gB:Hid _:=gB
 have n1:¬w1.heap.size+1=w.heap.size:=by omega
 have n2:¬w1.heap.size+1=w.heap.size+1:=by omega
 go_region_with (fail)
 all_goals
  go_wp2
  obtain⟨r1,g,hk⟩:=d3q j.out gB.out (vi 0) (.string ⟨#[]⟩) (vi 0) (.slice none 0 0) (vi c) (vi (a:Nat))
  obtain⟨X,h⟩:∃X,(((((V.setCell (Ad w.heap.size 0) (vi 0)).setCell (Ad w.heap.size 1) (.string ⟨#[]⟩)).setCell (Ad w.heap.size 2) (vi 0)).setCell (Ad w.heap.size 3) (.slice none 0 0)).setCell (Ad (w.heap.size+1) 0) (vi c)).setCell (Ad (w.heap.size+1) 1) (vi (a:Nat))=X:=⟨_,rfl⟩
  have o:pu2 (put4 V w.heap.size (vi 0) (.string ⟨#[]⟩) (vi 0) (.slice none 0 0)) (w.heap.size+1) (vi c) (vi (a:Nat))=X:=h
  rw[o]at r1 g hk
  have p:=((a0b.of_below (S:=no) u.out).then hk (fun q hq e=>by omega)).below (Nat.le_refl _) (fun _ _=>id)
  rw[h]
  clear h o
  exact bodyPost_ret (d3p (W:=X.drew) rfl rfl rfl r1 g) rfl ⟨rfl,p.drew⟩
theorem b6f(s:ByteArray)(w:World)(hE:ErrV w)(hsp:a4b w)(n:Nd)(c:Int)(a:Nat)(hR:a2x s.data.toList=.inr n)(hRU:a7k n=.error (c,a)):Cl 8 #[.string s] w (KOut w (.inl (c,a))):=by
 have hc:=b3s hRU
 have y4:(c == 0)=false:=by simpa using hc
 have y3:(c != 0)=true:=by simpa using hc
 obtain⟨z8,z7,y7⟩:=a6s hR
 have y:Bw w ((w.alloc zbx).alloc (.cells #[vi 0,vi 0] 27)):=ext_alloc (ext_alloc (Below.refl _ _) _) _
 obtain⟨U,hU⟩:∃U,(w.alloc zbx).alloc (.cells #[vi 0,vi 0] 27)=U:=⟨_,rfl⟩
 have g0:U.heap[w.heap.size]?=some zbx:=by rw[<- hU];exact block_alloc _ (a0a _ _)
 have g1:U.heap[w.heap.size+1]?=some (.cells #[vi 0,vi 0] 27):=by
  have:=a0a (w.alloc zbx) (.cells #[vi 0,vi 0] 27)
  rw[World.size_alloc]at this
  rw[<- hU];exact this
 rw[hU]at y
 have hp:=b0m s U (hE.on y) (hsp.below y)
 rw[hR]at hp
 have y2:w.heap.size<=U.heap.size:=y.size
 replace hU:(w.alloc (.cells #[vi 0,.string ⟨#[]⟩,vi 0,.slice none 0 0] 43)).alloc (.cells #[vi 0,vi 0] 27)=U:=hU
 clear hR
 go_enter Tryz.func8,Tryz.ntmps8
 go_wp2_with (go_at_call 15;refine hp.mono ?_;rintro e w1 ⟨⟨y5,b,cap,rfl,hN⟩,u⟩;refine Hid.out ?_)
 have z:Bw w1 ((w1.alloc (nbx n b cap)).alloc (.cells #[vi 0,vi 0] 27)):=ext_alloc (ext_alloc (Below.refl _ _) _) _
 have gD:((w1.alloc (nbx n b cap)).alloc (.cells #[vi 0,vi 0] 27)).heap[w1.heap.size]?=some (nbx n b cap):=block_alloc _ (a0a _ _)
 have gC:((w1.alloc (nbx n b cap)).alloc (.cells #[vi 0,vi 0] 27)).heap[w1.heap.size+1]?=some (.cells #[vi 0,vi 0] 27):=by
  have:=a0a (w1.alloc (nbx n b cap)) (.cells #[vi 0,vi 0] 27)
  rw[World.size_alloc]at this
  exact this
 have y8:w.heap.size+1<w1.heap.size:=by have:=block_lt g1;have:=u.size;omega
 obtain⟨k0,t0,n0,ks⟩:=n
 simp only at z7
 subst z7
 refine Lib.hid ?_
 go_wp2_with (go_at_call 16;refine Hid.out ?_)
 obtain⟨V,hV⟩:∃V,(w1.alloc (nbx ⟨1,t0,n0,ks⟩ b cap)).alloc (.cells #[vi 0,vi 0] 27)=V:=⟨_,rfl⟩
 rw[hV]at z gC gD
 replace hV:(w1.alloc (.cells #[vi 1,sk t0,vi n0,.slice b ks.length cap] 43)).alloc (.cells #[vi 0,vi 0] 27)=V:=hV
 rw[hV]
 clear hV
 have x9:w.heap.size+1<U.heap.size:=block_lt g1
 have f:=(hN.weak (fun g hg m=>(⟨hg,m⟩:U.heap.size<=g/\g<w1.heap.size))).below z
 have y6:w1.heap.size+1<V.heap.size:=block_lt gC
 have i:=b1m ⟨1,t0,n0,ks⟩ z8 rfl y7 b cap V (f.weak (fun q _ m=>m))
 rw[hRU]at i
 have gA:=block_below z (block_below u g0)
 have gB:=block_below z (block_below u g1)
 have z5:=ext_trans (ext_trans y u) z
 clear hp u g0 g1 z y z8 hN
 obtain⟨Q,hQ⟩:∃Q,w1.heap.size=Q:=⟨_,rfl⟩
 rw[hQ]at gC gD y8 f y6
 rw[hQ]
 clear hQ
 refine Lib.hid ?_
 go_wp2_with (go_at_call 16;refine i.mono ?_;rintro e w2 ⟨v,rfl⟩;have z9:=block_below v gC;obtain⟨y0,y1,q0,q1⟩:=in2 z9)
 have y9:=block_below v gA
 have z2:=block_below v gB
 have d:=a1p (vi c) (vi (a:Nat)) z9
 have o:=(a1a (W:=w2) (B:=Q+1) (C:=w.heap.size) (vi c) (vi (a:Nat)) (by omega)).trans y9
 have p:=(a1a (W:=w2) (B:=Q+1) (C:=w.heap.size+1) (vi c) (vi (a:Nat)) (by omega)).trans z2
 have j:=a1g w2 (Q+1) (vi c) (vi (a:Nat))
 obtain⟨Y,hY⟩:∃Y,(w2.setCell (Ad (Q+1) 0) (vi c)).setCell (Ad (Q+1) 1) (vi (a:Nat))=Y:=⟨_,rfl⟩
 have z4:pu2 w2 (Q+1) (vi c) (vi (a:Nat))=Y:=hY
 rw[z4]at d o p j
 rw[hY]
 have h:Bw w Y:=((a0b.of_below (S:=no) (ext_trans z5 v)).then j (fun q hq e=>by omega)).below (Nat.le_refl _) (fun _ _=>id)
 clear hY z4 j z9 y9 z2 gA gB gC gD y0 y1 q0 q1 i v z5 f
 obtain⟨x0,x1,x2,x3,p0,p1,p2,p3⟩:=in4 o
 obtain⟨y0,y1,q0,q1⟩:=in2 p
 obtain⟨z0,z1,_,_⟩:=in2 d
 replace h:Hid _:=h
 replace o:Hid _:=o
 replace p:Hid _:=p
 clear d
 have n1:¬Q+1=w.heap.size:=by omega
 have n2:¬Q=w.heap.size:=by omega
 go_region_with (fail)
 all_goals
  go_wp2
  obtain⟨r1,r2,hk⟩:=d3q o.out p.out (vi 0) (.string ⟨#[]⟩) (vi 0) (.slice none 0 0) (vi c) (vi (a:Nat))
  obtain⟨X,hX⟩:∃X,(((((Y.setCell (Ad w.heap.size 0) (vi 0)).setCell (Ad w.heap.size 1) (.string ⟨#[]⟩)).setCell (Ad w.heap.size 2) (vi 0)).setCell (Ad w.heap.size 3) (.slice none 0 0)).setCell (Ad (w.heap.size+1) 0) (vi c)).setCell (Ad (w.heap.size+1) 1) (vi (a:Nat))=X:=⟨_,rfl⟩
  have z3:pu2 (put4 Y w.heap.size (vi 0) (.string ⟨#[]⟩) (vi 0) (.slice none 0 0)) (w.heap.size+1) (vi c) (vi (a:Nat))=X:=hX
  rw[z3]at r1 r2 hk
  have z6:=((a0b.of_below (S:=no) h.out).then hk (fun q hq e=>by omega)).below (Nat.le_refl _) (fun _ _=>id)
  rw[hX]
  clear hX z3
  exact bodyPost_ret (d3p (W:=X.drew) rfl rfl rfl r1 r2) rfl ⟨rfl,z6.drew⟩
theorem c0c(s:ByteArray)(w:World)(hE:ErrV w)(hsp:a4b w)(n:Nd)(sl:List Int)(hR:a2x s.data.toList=.inr n)(hRU:a7k n=.ok sl):Cl 8 #[.string s] w (KOut w (.inr (n,sl))):=by
 obtain⟨z5,a,y8⟩:=a6s hR
 have u:Bw w ((w.alloc zbx).alloc (.cells #[vi 0,vi 0] 27)):=ext_alloc (ext_alloc (Below.refl _ _) _) _
 obtain⟨U,hU⟩:∃U,(w.alloc zbx).alloc (.cells #[vi 0,vi 0] 27)=U:=⟨_,rfl⟩
 have g0:U.heap[w.heap.size]?=some zbx:=by rw[<- hU];exact block_alloc _ (a0a _ _)
 have g1:U.heap[w.heap.size+1]?=some (.cells #[vi 0,vi 0] 27):=by
  have:=a0a (w.alloc zbx) (.cells #[vi 0,vi 0] 27)
  rw[World.size_alloc]at this
  rw[<- hU];exact this
 rw[hU]at u
 have hp:=b0m s U (hE.on u) (hsp.below u)
 rw[hR]at hp
 have x7:w.heap.size<=U.heap.size:=u.size
 replace hU:(w.alloc (.cells #[vi 0,.string ⟨#[]⟩,vi 0,.slice none 0 0] 43)).alloc (.cells #[vi 0,vi 0] 27)=U:=hU
 clear hR
 go_enter Tryz.func8,Tryz.ntmps8
 go_wp2_with (go_at_call 15;refine hp.mono ?_;rintro e w1 ⟨⟨y2,b,cap,rfl,hN⟩,o⟩;refine Hid.out ?_)
 have y:Bw w1 ((w1.alloc (nbx n b cap)).alloc (.cells #[vi 0,vi 0] 27)):=ext_alloc (ext_alloc (Below.refl _ _) _) _
 have gD:((w1.alloc (nbx n b cap)).alloc (.cells #[vi 0,vi 0] 27)).heap[w1.heap.size]?=some (nbx n b cap):=block_alloc _ (a0a _ _)
 have gC:((w1.alloc (nbx n b cap)).alloc (.cells #[vi 0,vi 0] 27)).heap[w1.heap.size+1]?=some (.cells #[vi 0,vi 0] 27):=by
  have:=a0a (w1.alloc (nbx n b cap)) (.cells #[vi 0,vi 0] 27)
  rw[World.size_alloc]at this
  exact this
 have z1:w.heap.size+1<w1.heap.size:=by have:=block_lt g1;have:=o.size;omega
 obtain⟨k0,t0,n0,ks⟩:=n
 simp only at a
 subst a
 refine Lib.hid ?_
 go_wp2_with (go_at_call 16;refine Hid.out ?_)
 obtain⟨V,hV⟩:∃V,(w1.alloc (nbx ⟨1,t0,n0,ks⟩ b cap)).alloc (.cells #[vi 0,vi 0] 27)=V:=⟨_,rfl⟩
 rw[hV]at y gC gD
 replace hV:(w1.alloc (.cells #[vi 1,sk t0,vi n0,.slice b ks.length cap] 43)).alloc (.cells #[vi 0,vi 0] 27)=V:=hV
 rw[hV]
 clear hV
 have x6:w.heap.size+1<U.heap.size:=block_lt g1
 have i:=(hN.weak (fun g hg m=>(⟨hg,m⟩:U.heap.size<=g/\g<w1.heap.size))).below y
 have y6:w1.heap.size+1<V.heap.size:=block_lt gC
 have z9:=b1m ⟨1,t0,n0,ks⟩ z5 rfl y8 b cap V (i.weak (fun q _ m=>m))
 rw[hRU]at z9
 have gA:=block_below y (block_below o g0)
 have gB:=block_below y (block_below o g1)
 have z8:=ext_trans (ext_trans u o) y
 clear hp o g0 g1 y u z5 hN
 obtain⟨Q,hQ⟩:∃Q,w1.heap.size=Q:=⟨_,rfl⟩
 rw[hQ]at gC gD z1 i y6
 rw[hQ]
 clear hQ
 refine Lib.hid ?_
 go_wp2_with (go_at_call 16;refine z9.mono ?_;rintro e w2 ⟨z,sb,sc,rfl,d,y9⟩;have z6:=block_below z gC;have z2:=block_below z gD;have f:=block_below z gA;have h:=block_below z gB;refine Hid.out ?_)
 have a:¬Q+1=w.heap.size:=by omega
 have x8:¬Q=w.heap.size:=by omega
 have x9:¬Q=w.heap.size+1:=by omega
 have z7:=i.below z
 have p:=ext_trans z8 z
 have z0:w.heap.size<=V.heap.size:=z8.size
 obtain⟨y0,y1,q0,q1⟩:=in2 z6
 obtain⟨v0,v1,q2,q3⟩:=in2 h
 obtain⟨x0,x1,x2,x3,p0,p1,p2,p3⟩:=in4 f
 obtain⟨d0,d1,d2,d3,_,_,_,_⟩:=in4 z2
 simp only at d0 d1 d2 d3
 replace f:Hid _:=f
 replace h:Hid _:=h
 replace p:Hid _:=p
 replace z7:Hid _:=z7
 replace d:Hid _:=d
 have m:=block_lt z6
 clear z6 z2 gA gB gC gD z9 z z8 i
 refine Lib.hid ?_
 go_wp2
 have y3:=(a1a (W:=w2) (B:=Q+1) (C:=w.heap.size) (vi 0) (vi 0) (by omega)).trans f.out
 have y4:=(a1a (W:=w2) (B:=Q+1) (C:=w.heap.size+1) (vi 0) (vi 0) (by omega)).trans h.out
 have y7:=a1g w2 (Q+1) (vi 0) (vi 0)
 obtain⟨r1,r2,hk⟩:=d3q y3 y4 (vi 1) (sk t0) (vi n0) (.slice b ks.length cap) (vi 0) (vi 0)
 have j:a0b (fun q=>q=Q+1\/q=w.heap.size\/q=w.heap.size+1) w2 (pu2 (put4 (pu2 w2 (Q+1) (vi 0) (vi 0)) w.heap.size (vi 1) (sk t0) (vi n0) (.slice b ks.length cap)) (w.heap.size+1) (vi 0) (vi 0)):=(y7.mono (fun q _ e=>.inl e)).then hk (fun q _ e=>.inr e)
 obtain⟨X,hX⟩:∃X,(((((((w2.setCell (Ad (Q+1) 0) (vi 0)).setCell (Ad (Q+1) 1) (vi 0)).setCell (Ad w.heap.size 0) (vi 1)).setCell (Ad w.heap.size 1) (sk t0)).setCell (Ad w.heap.size 2) (vi n0)).setCell (Ad w.heap.size 3) (.slice b ks.length cap)).setCell (Ad (w.heap.size+1) 0) (vi 0)).setCell (Ad (w.heap.size+1) 1) (vi 0)=X:=⟨_,rfl⟩
 have z3:pu2 (put4 (pu2 w2 (Q+1) (vi 0) (vi 0)) w.heap.size (vi 1) (sk t0) (vi n0) (.slice b ks.length cap)) (w.heap.size+1) (vi 0) (vi 0)=X:=hX
 rw[z3]at r1 r2 j
 have z4:=((a0b.of_below (S:=no) p.out).then j (fun q hq e=>by omega)).below (Nat.le_refl _) (fun _ _=>id)
 have y5:=NdV.keep (S:=fun g=>U.heap.size<=g/\g<Q) (x:=⟨1,t0,n0,ks⟩) (v:=ndv ⟨1,t0,n0,ks⟩ b cap) z7.out j (fun g hg hl e=>by omega)
 rw[hX]
 clear hX z3
 refine bodyPost_ret (d3p (W:=X) rfl rfl rfl r1 r2) rfl ⟨⟨b,cap,sb,sc,rfl,y5.weak (fun q hq _=>by omega),?_⟩,z4⟩
 exact⟨(SlAt.keep (lo:=V.heap.size) (b:=sb) (sl:=sl) d.out j (fun g h1 h2 e=>by omega)).mono z0,y9⟩
theorem b0n(s:ByteArray)(w:World)(hE:ErrV w)(hsp:a4b w):Cl 8 #[.string s] w (KOut w (a5f (a2x s.data.toList))):=by
 cases hR:a2x s.data.toList with
 | inl x=>obtain⟨c,a⟩:=x;exact b3a s w hE hsp c a hR
 | inr n =>
  cases hU:a7k n with
  | error e =>
   obtain⟨c,a⟩:=e
   have:=b6f s w hE hsp n c a hR hU
   unfold a5f
   simp only[hU]
   exact this
  | ok sl =>
   have:=c0c s w hE hsp n sl hR hU
   unfold a5f
   simp only[hU]
   exact this
end Go.Proofs.YtfbpdbndejefdaaGreatDoor
