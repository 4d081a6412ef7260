import Derived.Test.YtomniogfpfbolaaGreatDoorS48
import Derived.Test.YtomniogfpfbolaaGreatDoorS46
import Derived.Test.YtomniogfpfbolaaGreatDoorS47
namespace Go.Proofs.YtomniogfpfbolaaGreatDoor
open Go.RowKit Go
set_option maxRecDepth 100000
set_option maxHeartbeats 8000000
set_option linter.all false
variable {W w W':World} {B t cap j:Nat} {b bl:Option Addr} {ts:List Tok} {ks:List Nd} {bad:Bool} {S:Nat->Prop}
theorem c5n{tm:Array Value}{C:Nat}{a b c d x y:Value}(h:tm[2]?.getD undef=Po B 0)(h':tm[3]?.getD undef=Po C 0)(hx:W.heap[B]?=some (.cells #[a,b,c,d] 34))(hy:W.heap[C]?=some (.cells #[x,y] 27)):(results Tryz.f10 tm).run Tryz.prog W=.ok (.tuple #[.agg #[a,b,c,d],.agg #[x,y]]) W:=by
 obtain⟨c0,c1,c2,c3,_,_,_,_⟩:=in4 hx
 have w:W.cell? (Ad C 0)=some x:=q2z hy rfl
 have z:W.cell? (Ad C 1)=some y:=q2z hy rfl
 simp[results,Tryz.results10,go_sem,h,h',c0,c1,c2,c3,w,z]
structure NP (w:World) (B t:Nat) (bl:Option Addr) (ts:List Tok) (W:World) (ks:List Nd) (b:Option Addr) (cap j:Nat) (bad:Bool):Prop where
 g:W.heap[t]?=some (nbx (nd 1 ks) b cap)
 row:Row (fun q=>t<q) W (.slice b ks.length cap) ks
 R:Dr W B ts j bad
 X:PX w W
 T:a5q W bl ts B
 lt:B<t
 hB:w.heap.size+1<B
theorem NP.own(h:NP w B t bl ts W ks b cap j bad):∀q,Value.ownBlock (.slice b ks.length cap)=some q->t<q/\q<W.heap.size:=by
 obtain⟨_,_,_,z⟩:=h.row.form
 exact z
theorem PX.keep(h:PX w W)(hk:a0b S W W')(hS:∀q,S q->w.heap.size+1<q):PX w W' :=
 ⟨hk.box h.g0 (fun e=>by have:=hS _ e;omega),hk.box h.g1 (fun e=>by have:=hS _ e;omega),((a0b.of_below (S:=no) h.bl).then hk (fun q hq e=>by have:=hS _ e;omega)).below (Nat.le_refl _) (fun _ _=>id)⟩
theorem NP.on{j':Nat}{bad':Bool}(h:NP w B t bl ts W ks b cap j bad)(hk:a0b (fun q=>q=B) W W')(hR:Dr W' B ts j' bad'):NP w B t bl ts W' ks b cap j' bad':=by
 have h1:=h.lt
 have h2:=h.hB
 exact⟨hk.box h.g (by omega),h.row.keep hk (fun q hq _ e=>by omega),hR,h.X.keep hk (fun q e=>by omega),h.T.keep hk (fun q hq e=>by omega),h1,h2⟩
theorem NP.below(h:NP w B t bl ts W ks b cap j bad)(hb:Bw W W'):NP w B t bl ts W' ks b cap j bad:=h.on (a0b.of_below hb) (h.R.below hb)
theorem NP.app{w3 W4:World}(h:NP w B t bl ts W ks b cap j bad){y:Nd}{b1:Option Addr}{cap1:Nat}{xs:List Value}{g cap3:Nat}(ho:W.ownsRow 0 34 4 (.slice b ks.length cap) ks.length xs)(hn:∀j y,ks[j]?=some y->NdAt (fun g=>(t<g)/\some g≠Value.ownBlock (.slice b ks.length cap)) W y (fun i=>if i<4 then xs[j*4+i]? else none))(hy:NdV (fun q=>t<q/\some q≠Value.ownBlock (.slice b ks.length cap)) W y (ndv y b1 cap1))(hown:w3.ownsRow 0 34 4 (.slice (some (Ad g 0)) (ks.length+1) cap3) (ks.length+1) (xs++[vi y.k,sk y.t,vi y.n,.slice b1 y.kids.length cap1]))(hgrow:W.grownBy w3 (Value.ownBlock (.slice b ks.length cap)))(hat:Value.ownBlock (.slice b ks.length cap)=some g\/g=W.heap.size)(hW4:w3.setCell (Ad t 3) (.slice (some (Ad g 0)) (ks.length+1) cap3)=W4):NP w B t bl ts W4 (ks++[y]) (some (Ad g 0)) cap3 j bad:=by
 have h1:=h.lt
 have h2:=h.hB
 have h3:=q5z h.g
 obtain⟨x,u,z,_⟩:=a2y (lo:=0) ho (fun q e=>(h.own q e).1) hn hy (fun q hq=>by omega) (fun q hq=>by omega) (fun q e=>Nat.zero_le _) (Nat.zero_le _) h.g hown hgrow hat hW4
 have v:∀q,(q=t\/some q=Value.ownBlock (.slice b ks.length cap))->B<q:=by
  intro q e
  rcases e with e|e
  ·omega
  ·have:=(h.own _ e.symm).1;omega
 exact⟨u,x,h.R.keep z (fun q hq e=>by have:=v q e;omega),h.X.keep z (fun q e=>by have:=v q e;omega),h.T.keep z (fun q hq e=>by have:=v q e;omega),h1,h2⟩
theorem d3x(f:Nat)(hf:f<=90000):DFun f:=by
 cases f with
 | zero=>exact fun _ _ _ _ _ _ _ _ _ h=>by cases h
 | succ f=>exact d3s f (by omega) (c9k f (by omega))
def PaI (t B:Nat) (w:World) (bl:Option Addr) (ts:List Tok) (r:PRes) (k:Nat) (wr:World):Prop :=
 ∃(ks:List Nd) (b:Option Addr) (cap j:Nat) (bad:Bool),NP w B t bl ts wr ks b cap j bad/\k<=64012/\ks.length+k<=64012/\Fl ts (fun j=>r=.inl (rest ts j)) r j bad (fun l=>P k 12 (nd 1 ks) 0 l)
theorem c0o(s:ByteArray)(c:Int)(a:Nat)(w:World)(hR:a2s s.data.toList=.inl (c,a)):Cl 10 #[.string s] w (POut w (.inl (c,a))):=by
 have hc:=b2v hR
 have hq:(c == 0)=false:=by simpa using hc
 have v:=b1o w
 have hS:Cl 29 #[.string s] ((w.alloc zbx).alloc (.cells #[vi 0,vi 0] 27)) fun e t=>(∃b n d,e=.returned (.tuple #[.slice b n d,.agg #[vi c,vi (a:Nat)]]))/\Below ((w.alloc zbx).alloc (.cells #[vi 0,vi 0] 27)).heap.size ((w.alloc zbx).alloc (.cells #[vi 0,vi 0] 27)) t:=(b4w s _).mono fun e t h=>by
  rw[hR]at h
  obtain⟨⟨b,n,d,h1,_⟩,h2⟩:=h
  exact⟨⟨b,n,d,h1⟩,h2⟩
 clear hR
 go_enter Tryz.func10,Tryz.ntmps10
 go_wp2_with (go_at_call 29;refine hS.mono ?_;rintro e w1 ⟨⟨b1,n1,d1,rfl⟩,y⟩;refine Hid.out ?_)
 have z:=v.on y
 have u:=z.on (q1z bz0 (.cells #[vi c,vi (a:Nat)] 27))
 obtain⟨c0,c1,c2,c3,f0,f1,f2,f3⟩:=in4 z.g0
 obtain⟨x0,x1,x2,x3,y0,y1,y2,y3⟩:=in4a z.g0
 obtain⟨p0,p1,q0,q1⟩:=in2 z.g1
 have r0:=fun o=>(in2 (q4z o z.g1)).c0
 have r1:=fun o=>(in2 (q4z o z.g1)).c1
 have r2:=fun o=>(in2 (q4z o z.g1)).f0
 have r3:=fun o=>(in2 (q4z o z.g1)).f1
 have hz:=q5z z.g1
 have f:¬w.heap.size=w1.heap.size:=by omega
 have g:¬w1.heap.size=w.heap.size:=by omega
 have i:¬w.heap.size+1=w1.heap.size:=by omega
 have l:¬w1.heap.size=w.heap.size+1:=by omega
 refine Lib.hid ?_
 go_wp2
 go_region_with (fail)
 all_goals
  go_wp2
  obtain⟨X,x⟩:=exq (((((((w1.alloc (.cells #[vi c,vi (a:Nat)] 27)).setCell (Ad w.heap.size 0) (vi 0)).setCell (Ad w.heap.size 1) (.string ⟨#[]⟩)).setCell (Ad w.heap.size 2) (vi 0)).setCell (Ad w.heap.size 3) (.slice none 0 0)).setCell (Ad (w.heap.size+1) 0) (vi c)).setCell (Ad (w.heap.size+1) 1) (vi (a:Nat)))
  obtain⟨p,q,r⟩:=a5t u c a x
  rw[x]
  clear x
  exact bodyPost_ret (c5n (W:=X.drew) rfl rfl p q) rfl ⟨rfl,r.drew⟩
theorem b4x{base:Nat}{n d:Nat}(h:W.ownsRow base 85 3 (.slice b n d) ts.length (a6y ts))(q:Nat)(hb:b=some (Ad q 0))(o:Obj)(m:Nat)(ho:W.heap[m]?=some o)(hne:∀y z,o≠.cells y 85 z):q≠m:=by
 rcases h.2 with⟨e,w⟩|⟨g,cap,y,e,_,x,_⟩
 ·cases e;cases hb
 ·cases e
  cases hb
  intro e
  subst e
  rw[x]at ho
  exact hne _ _ (Option.some.inj ho).symm
theorem c5o(s:ByteArray)(ts:List Tok)(r:PRes)(Rz:(Int×Nat)⊕Nd)(w:World)(hR:a2s s.data.toList=.inr ts)(hP:P 64012 12 (nd 1 []) 0 (ts.map pt)=some r)(hA:∀j,j<=ts.length->r=.inl (rest ts j)->Rz=.inl (2,fpos ts s.size j))(hB:∀n l,r=.inr (n,l)->Rz=if fitB n then .inr n else .inl (1,0)):Cl 10 #[.string s] w (POut w Rz):=by
 obtain⟨hlen,hV,_⟩:=a5s hR
 obtain⟨i0,hi0,hz0,hz1',hz2⟩:=info_parts a5w
 have hPX:=b1o w
 have hS:Cl 29 #[.string s] ((w.alloc zbx).alloc (.cells #[vi 0,vi 0] 27)) fun e w'=>(∃b d,e=.returned (.tuple #[.slice b ts.length d,.agg #[vi 0,vi 0]])/\ts.length<=d/\a5q w' b ts w'.heap.size/\(∀q,b=some (Ad q 0)->¬q=w.heap.size/\¬q=w.heap.size+1))/\Below ((w.alloc zbx).alloc (.cells #[vi 0,vi 0] 27)).heap.size ((w.alloc zbx).alloc (.cells #[vi 0,vi 0] 27)) w':=(b4w s _).mono fun e w' h=>by
  rw[hR]at h
  obtain⟨⟨b,n,d,h1,h3⟩,h2⟩:=h
  obtain⟨rfl,h4,h5⟩:=a9l h3
  have hp:=hPX.on h2
  exact⟨⟨b,d,h1,h4,h5,fun q hq=>⟨b4x h3 q hq _ _ hp.g0 (fun _ _ e=>by cases e),b4x h3 q hq _ _ hp.g1 (fun _ _ e=>by cases e)⟩⟩,h2⟩
 clear hR
 obtain⟨L,hL⟩:=exq (ts.length)
 rw[hL]at hS
 go_enter Tryz.func10,Tryz.ntmps10
 go_wp2_with (go_at_call 29;refine hS.mono ?_;rintro e w1 ⟨⟨b1,d1,rfl,hd1,hT1,hQ⟩,hb1⟩;refine Hid.out ?_)
 have hP1:=hPX.on hb1
 have hz1:=q5z hP1.g1
 have hb2:=q1z (Below.refl w1.heap.size w1) (.cells #[vi 0,vi 0] 27)
 have hb3:=q1z (Below.refl _ (w1.alloc (.cells #[vi 0,vi 0] 27))) (dbx b1 L d1 0 false)
 have hb4:=q1z (Below.refl _ ((w1.alloc (.cells #[vi 0,vi 0] 27)).alloc (dbx b1 L d1 0 false))) (nbx (nd 1 []) none 0)
 have hbA:=q3z (q3z hb2 hb3) hb4
 have gB:=a0a (w1.alloc (.cells #[vi 0,vi 0] 27)) (dbx b1 L d1 0 false)
 have gt:=a0a ((w1.alloc (.cells #[vi 0,vi 0] 27)).alloc (dbx b1 L d1 0 false)) (nbx (nd 1 []) none 0)
 rw[World.size_alloc]at gB
 rw[World.size_alloc,World.size_alloc]at gt
 have hTA:=hT1.keep (a0b.of_below (S:=fun _=>False) hbA) (fun _ _=>id)
 have hI:PaI (w1.heap.size+1+1) (w1.heap.size+1) w b1 ts r 64012 (((w1.alloc (.cells #[vi 0,vi 0] 27)).alloc (dbx b1 L d1 0 false)).alloc (nbx (nd 1 []) none 0)):=by
  refine⟨[],none,0,0,false,⟨gt,Row.nil _ _,⟨⟨b1,d1,?_,hTA.mono (by omega),by rw[hL];exact hd1⟩,by omega,by omega⟩,hP1.on hbA,hTA.mono (by omega),by omega,by omega⟩,by omega,by simp,.inr ⟨rfl,?_⟩⟩
  ·rw[hL]
   exact q0z hb4 gB
  ·exact hP
 obtain⟨B,hBe⟩:=exq (w1.heap.size+1)
 rw[hBe]at hI
 obtain⟨t,hte⟩:=exq (B+1)
 rw[hte]at hI
 have hBt:B<t:=by omega
 clear hP hS hb1 hP1 hPX hb2 hb3 hb4 hbA gB gt hTA hT1 hz1
 refine Lib.hid ?_
 go_wp2
 clear hte hBe
 go_loopg [8] 64012 (fun k _ wr=>PaI t B w b1 ts r k wr)
 case atStart=>exact hI
 case round =>
  obtain⟨ks,b,cap,j,bad,hN,hgf,hle,hFl⟩:=hrel
  clear hI
  have hR1:=hN.R
  obtain⟨c0,c1,c2,c3,f0,f1,f2,f3⟩:=in4 hN.g
  obtain⟨b',cap',s0,s1,s2,v1,v2⟩:=hR1.cells
  have hjl:=hR1.le
  rw[hL]at hjl
  rcases hFl with⟨rfl,hFi⟩|⟨rfl,hP⟩
  ·obtain rfl:=hA j hR1.le hFi
   clear hA hB hFi
   obtain⟨k0,k1,k2,k3,l0,l1,l2,l3⟩:=in4 hN.X.g0
   obtain⟨p0,p1,q0,q1⟩:=in2 hN.X.g1
   by_cases hlt:j<L
   ·have hdec:decide (j<L)=true:=decide_eq_true hlt
    obtain⟨x,hx⟩:∃x,ts[j]?=some x:=⟨_,List.getElem?_eq_getElem (by omega)⟩
    obtain⟨kx,tx0,ax⟩:=x
    have hfp:fpos ts s.size j=ax:=by unfold fpos;rw[hx]
    rcases hN.T with h0|⟨q,rfl,hq1,hq2,hcells⟩
    ·rw[h0]at hx;simp at hx
    have t0:wr.cell? (Ad q (j*3))=some (vi kx):=hcells j _ hx 0 _ rfl
    have t1:=hcells j _ hx 1 _ rfl
    have t2:=hcells j _ hx 2 _ rfl
    dsimp only at t1 t2
    have hge:decide (L<=j)=false:=decide_eq_false (by omega)
    have hi':(j:Int)<(L:Int):=by omega
    have m1:¬B=w.heap.size:=by have:=hN.hB;omega
    have m2:¬w.heap.size=B:=by omega
    have m3:=(hQ q rfl).1
    have m4:¬w.heap.size=q:=fun e=>m3 e.symm
    have m5:¬B=w.heap.size+1:=by have:=hN.hB;omega
    have m6:¬w.heap.size+1=B:=by omega
    have m7:=(hQ q rfl).2
    have m8:¬w.heap.size+1=q:=fun e=>m7 e.symm
    clear hcells hx
    replace hfp:Hid _:=hfp
    go_wp2
    go_region_held3 (fun u=>u.cell? (Ad B 1)=some (vi (j:Nat))/\u.cell? (Ad q (j*3+2))=some (vi (ax:Nat))) (go_keep) (fail)
    obtain⟨X,hX⟩:=exq ((((((wr.setCell (Ad w.heap.size 0) (vi 0)).setCell (Ad w.heap.size 1) (.string ⟨#[]⟩)).setCell (Ad w.heap.size 2) (vi 0)).setCell (Ad w.heap.size 3) (.slice none 0 0)).setCell (Ad (w.heap.size+1) 0) (vi 2)).setCell (Ad (w.heap.size+1) 1) (vi (ax:Nat)))
    obtain⟨z1,z2,z3⟩:=a5t hN.X 2 ax hX
    try rw[hX]
    clear hX
    rw[<- hfp.out]at z2
    go_wp2
    exact bodyPost_ret (c5n (W:=X.drew) rfl rfl z1 z2) rfl ⟨rfl,z3.drew⟩
   ·have hdec:decide (j<L)=false:=decide_eq_false hlt
    have hfp:fpos ts s.size j=s.size:=by unfold fpos;rw[List.getElem?_eq_none (by omega)]
    replace hfp:Hid _:=hfp
    go_wp2
    obtain⟨X,hX⟩:=exq ((((((wr.setCell (Ad w.heap.size 0) (vi 0)).setCell (Ad w.heap.size 1) (.string ⟨#[]⟩)).setCell (Ad w.heap.size 2) (vi 0)).setCell (Ad w.heap.size 3) (.slice none 0 0)).setCell (Ad (w.heap.size+1) 0) (vi 2)).setCell (Ad (w.heap.size+1) 1) (vi (s.size:Nat)))
    obtain⟨z1,z2,z3⟩:=a5t hN.X 2 s.size hX
    try rw[hX]
    clear hX
    rw[<- hfp.out]at z2
    exact bodyPost_ret (c5n rfl rfl z1 z2) rfl ⟨rfl,z3⟩
  clear hA
  cases gk with
  | zero=>cases hP
  | succ k =>
  dsimp only at hP
  rw[P]at hP
  by_cases hend:j=L
  ·subst hend
   rw[if_pos (a3v (by omega))]at hP
   have hRz:=hB _ _ (Option.some.inj hP).symm
   clear hP hB
   have hdec:decide (j<j)=false:=decide_eq_false (by omega)
   have hNd:NdV (fun q=>t<q) wr (nd 1 ks) (ndv (nd 1 ks) b cap):=hN.row.node 1 [] 0
   have hFt:=c3d _ (nd 1 ks) b cap wr hNd
   cases hfb:fitB (nd 1 ks) with
   | true =>
    rw[hfb]at hFt hRz
    rw[if_pos rfl]at hRz
    subst hRz
    go_wp2_with (go_at_call 31;refine hFt.mono ?_;rintro e w5 ⟨rfl,hb5⟩;refine Hid.out ?_)
    have hN5:=hN.below hb5
    have hNd5:=hNd.below hb5
    obtain⟨c0,c1,c2,c3,f0,f1,f2,f3⟩:=in4 hN5.g
    obtain⟨k0,k1,k2,k3,l0,l1,l2,l3⟩:=in4 hN5.X.g0
    obtain⟨p0,p1,q0,q1⟩:=in2 hN5.X.g1
    have hBs:=hN.hB
    refine Lib.hid ?_
    go_wp2
    have hkA:a0b (fun q=>q=w.heap.size\/q=w.heap.size+1) w5 (pu2 (put4 w5 w.heap.size (vi 1) (sk []) (vi 0) (.slice b ks.length cap)) (w.heap.size+1) (vi 0) (vi 0)):=((a1o _ _ _ _ _ _).mono (fun q _ e=>.inl e)).then (a1w _ _ _ _) (fun q _ e=>.inr e)
    have z1:(pu2 (put4 w5 w.heap.size (vi 1) (sk []) (vi 0) (.slice b ks.length cap)) (w.heap.size+1) (vi 0) (vi 0)).heap[w.heap.size]?=some (nbx (nd 1 ks) b cap):=(a1p _ _ (by omega)).trans (a0c _ _ _ _ hN5.X.g0)
    have z2:(pu2 (put4 w5 w.heap.size (vi 1) (sk []) (vi 0) (.slice b ks.length cap)) (w.heap.size+1) (vi 0) (vi 0)).heap[w.heap.size+1]?=some (.cells #[vi 0,vi 0] 27):=a2q _ _ ((a2e _ _ _ _ (by omega)).trans hN5.X.g1)
    have z3:=((a0b.of_below (S:=no) hN5.X.bl).then hkA (fun q hq e=>by omega)).below (Nat.le_refl _) (fun _ _=>id)
    refine bodyPost_ret (c5n rfl rfl z1 z2) rfl ⟨⟨hfb,b,cap,rfl,?_⟩,z3⟩
    exact(hNd5.keep hkA (fun q hq _ e=>by omega)).weak (fun q hq _=>by omega)
   | false =>
    rw[hfb]at hFt hRz
    rw[if_neg (by decide)]at hRz
    subst hRz
    go_wp2_with (go_at_call 31;refine hFt.mono ?_;rintro e w5 ⟨rfl,hb5⟩;refine Hid.out ?_)
    have hN5:=hN.below hb5
    obtain⟨k0,k1,k2,k3,l0,l1,l2,l3⟩:=in4 hN5.X.g0
    obtain⟨p0,p1,q0,q1⟩:=in2 hN5.X.g1
    refine Lib.hid ?_
    go_wp2
    obtain⟨X,hX⟩:=exq ((((((w5.setCell (Ad w.heap.size 0) (vi 0)).setCell (Ad w.heap.size 1) (.string ⟨#[]⟩)).setCell (Ad w.heap.size 2) (vi 0)).setCell (Ad w.heap.size 3) (.slice none 0 0)).setCell (Ad (w.heap.size+1) 0) (vi 1)).setCell (Ad (w.heap.size+1) 1) (vi 0))
    obtain⟨z1,z2',z3⟩:=a5t hN5.X 1 0 hX
    have z2:X.heap[w.heap.size+1]?=some (.cells #[vi 1,vi 0] 27):=z2'
    clear z2'
    try rw[hX]
    clear hX
    exact bodyPost_ret (c5n rfl rfl z1 z2) rfl ⟨rfl,z3⟩
  ·have hlt:j<L:=by omega
   have hne:rest ts j≠[]:=fun e=>by have:=a6s ts j;rw[e,hL]at this;simp at this;omega
   rw[if_neg hne]at hP
   have hdec:decide (j<L)=true:=decide_eq_true hlt
   have hcall:=fun u (h:Dr u B ts j false)=>d3x k (by omega) r (fun j=>r=.inl (rest ts j)) _ B ts j u ⟨hV,fun j _ h=>h⟩ h hP
   clear hP hB
   go_wp2_with (first|(go_at_call 30;refine(hcall _ hR1).mono ?_;rintro e w4 ⟨y,by1,cy,j4,bad4,rfl,hN4,hR4,hk4,hFl4⟩;refine Hid.out ?_))
   have hNP4:=hN.on hk4 hR4
   obtain⟨c0,c1,c2,c3,f0,f1,f2,f3⟩:=in4 hNP4.g
   obtain⟨x0,x1,x2,x3,y0,y1,y2,y3⟩:=in4a hNP4.g
   clear hcall
   refine Lib.hid ?_
   go_wp2_with (at_builtin;refine Hid.out ?_)
   have hb5:=q1z (q1z (Below.refl w4.heap.size w4) (nbx y by1 cy)) (nbx y by1 cy)
   have hnew:=a0a (w4.alloc (nbx y by1 cy)) (nbx y by1 cy)
   rw[World.size_alloc]at hnew
   have hN5:=hNP4.below hb5
   have hz4:=q5z hN.g
   have hown4:=hN.own
   have hy5:NdV (fun q=>t<q/\some q≠Value.ownBlock (.slice b ks.length cap)) ((w4.alloc (nbx y by1 cy)).alloc (nbx y by1 cy)) y (ndv y by1 cy):=(hN4.weak (fun q hq _=>by have:=hq.resolve_left id;exact⟨by omega,fun e=>by have:=(hown4 q e.symm).2;omega⟩)).below hb5
   obtain⟨Wq,hWq⟩:=exq ((w4.alloc (nbx y by1 cy)).alloc (nbx y by1 cy))
   rw[hWq]at hnew hN5 hy5
   replace hWq:(w4.alloc (.cells #[vi y.k,.string ⟨y.t.toArray⟩,vi y.n,.slice by1 y.kids.length cy] 34)).alloc (.cells #[vi y.k,.string ⟨y.t.toArray⟩,vi y.n,.slice by1 y.kids.length cy] 34)=Wq:=hWq
   rw[hWq]
   obtain⟨xs,ho,_,hn⟩:=hN5.row.own
   have q35:=hN5.g
   have hne3:some t≠Value.ownBlock (.slice b ks.length cap):=fun e=>by have:=(hN5.own _ e.symm).1;omega
   have hn1:ks.length+1<=maxLen:=by unfold maxLen;omega
   have hb1:(ks.length+1)*56<=140737488355328:=by omega
   clear hWq hb5 c0 c1 c2 c3 f0 f1 f2 f3 x0 x1 x2 x3 y0 y1 y2 y3 hN hN4 hR1 hR4 hk4 hNP4 s0 s1 s2 v1 v2 hown4
   refine Lib.hid ?_
   go_wp2_with (at_builtin;refine wpList_append_lies _ (by rfl) _ _ _ (by rfl) 0 34 i0 _ 4 56 Tryz.underlying32 hi0 hz0 hz1' hz2 rfl (by omega) (.slice b ks.length cap) ks.length _ (by rfl) ho (Ad (w4.heap.size+1) 0) 1 1 _ (by rfl) (by rfl) (a2c y by1 cy hnew) (by simp[Value.oneCell']) (by omega) hn1 hb1 (Nat.zero_le _) _ rfl ?_;intro g3 cap3 w5 hown1 hgrow hat1 hlt1;have p3w:=(hgrow.block _ (q5z q35) hne3).trans q35;obtain⟨c0,c1,c2,c3,f0,f1,f2,f3⟩:=in4 p3w)
   have hN6:=hN5.app ho hn hy5 hown1 hgrow hat1 rfl
   go_roundg k
   case measure=>omega
   case rel=>exact⟨ks++[y],_,_,j4,bad4,hN6,by omega,by simp;omega,hFl4⟩
theorem b1r(s:ByteArray)(w:World):Cl 10 #[.string s] w (POut w (a1q s.data.toList)):=by
 have y:s.size=s.data.toList.length:=by simp
 cases hR:a2s s.data.toList with
 | inl x =>
  obtain⟨c,a⟩:=x
  unfold a1q
  rw[hR]
  exact c0o s c a w hR
 | inr ts =>
  obtain⟨_,_,r,z⟩:=a5s hR
  refine c5o s ts r _ w hR z ?_ ?_
  ·intro j v e
   unfold a1q
   simp only[hR,z,e]
   rw[a6s,y,show ts.length-(ts.length-j)=j by omega]
  ·intro n l e
   unfold a1q
   simp only[hR,z,e]
theorem b2x(n:Nd)(hn:isN n)(hk:n.k=2)(i:Nat)(w0:World)(B:Nat)(u:Nd)(ub:Option Addr)(uc:Nat)(sl:List Int)(ls:List Ld)(c a:Int)(S:Nat->Prop)(W:World)(hLo:Lo w0 B u ub uc sl ls c a false W)(hKu:KA S W ub uc u.kids)(hui:u.kids[i]?=some n)(hSA:SA S B W)(hM:sl.length+manyN n<=100000)(hul:u.kids.length<=100000) :
  Cl 12 #[Po B 0,vi (i:Nat)] W (FQ w0 B u ub uc c a sl.length (manyN n) (funC (u.kids.map Nd.t) i n ⟨sl,[]⟩) W):=by
 obtain⟨k,t,o,ks⟩:=n
 simp only at hk
 subst hk
 rw[isN]at hn
 obtain⟨h1,_,_,_,_,_,_,_,r⟩:=hn
 rw[a5f]at r
 have d:1<=ks.length:=by unfold a0r at h1;omega
 obtain⟨P,h⟩:∃P,P+1=ks.length:=⟨ks.length-1,by omega⟩
 obtain⟨z,q⟩:∃z,ks[P]?=some z:=⟨_,List.getElem?_eq_getElem (by omega)⟩
 have w:=r P z q
 have s:z.k=4:=by
  have:=w.1
  unfold a0w at this
  rw[if_neg (by omega),if_pos rfl,if_pos (by omega)]at this
  exact this
 refine function_any t o ks P z h q ((c9c z w.2).2 s) (fun j x b l=>?_) i w0 B u ub uc sl ls c a S W hLo hKu hui hSA hM hul
 have v:=r j x l
 have y:x.k=3:=by
  have:=v.1
  unfold a0w at this
  rw[if_neg (by omega),if_pos rfl,if_neg (by omega)]at this
  exact this
 refine⟨y,?_⟩
 have h2:=v.2
 obtain⟨e,g,f,p⟩:=x
 simp only at y
 subst y
 rw[isN]at h2
 have h3:=h2.1
 unfold a0r at h3
 show p=[]
 simp only at h3
 exact List.length_eq_zero_iff.1 (by omega)
def LQ (w:World) (n:Nd) (R:Except (Int×Nat) (List Int)) (e:Ending) (w':World):Prop :=
 ∃B b cap sl ls c a st,e=.returned (Po B 0)/\Lo w B n b cap sl ls c a st w'/\NdV (fun g=>w.heap.size<=g) w' n (ndv n b cap)/\match R with
 | .error (cd,at_)=>c=cd/\a=((at_:Nat):Int)/\st=true
 | .ok s=>sl=s/\c=0/\a=0/\st=false
def LUI (w:World) (B:Nat) (u:Nd) (ub:Option Addr) (uc:Nat) (S:Nat->Prop) (t:Nat) (M:Nat) (R:CR) (j:Nat) (wr:World):Prop :=
 wr.heap[t]?=some (nbx u ub uc)/\ApL B wr t/\SA S B wr/\NdV S wr u (ndv u ub uc) /\
 ((∃sl' ls',a4p (u.kids.map Nd.t) j (u.kids.drop j) ⟨sl',[]⟩=R/\sl'.length+manyN.go (u.kids.drop j)<=M/\ls'.length<=100000/\Lo w B u ub uc sl' ls' 0 0 false wr)\/(∃cd at_ sl' ls',R=.error (cd,at_)/\Lo w B u ub uc sl' ls' cd (at_:Nat) true wr))
theorem NdV.lk{w':World}{n:Nd}(h:NdV S w n (ndv n b cap))(hs:SA S B w)(k:LK B w w'):NdV S w' n (ndv n b cap):=h.on fun g z _=>⟨z,(hs.on k).2 g z⟩
theorem d0k(w w1:World)(n:Nd)(b:Option Addr)(cap:Nat)(c a:Int)(st:Bool)(hb:Bw w w1) :
  Lo w (w1.heap.size+1+1) n b cap [] [] c a st (((w1.alloc (nbx n b cap)).alloc (.cells #[vi c,vi a] 27)).alloc (lkb n b cap none 0 0 none 0 0 c a st))/\Bw w1 (((w1.alloc (nbx n b cap)).alloc (.cells #[vi c,vi a] 27)).alloc (lkb n b cap none 0 0 none 0 0 c a st)) /\
  (((w1.alloc (nbx n b cap)).alloc (.cells #[vi c,vi a] 27)).alloc (lkb n b cap none 0 0 none 0 0 c a st)).heap[w1.heap.size]?=some (nbx n b cap)/\∀g,g≠w1.heap.size+1+1->ApL (w1.heap.size+1+1) (((w1.alloc (nbx n b cap)).alloc (.cells #[vi c,vi a] 27)).alloc (lkb n b cap none 0 0 none 0 0 c a st)) g:=by
 have h1:Bw w1 (((w1.alloc (nbx n b cap)).alloc (.cells #[vi c,vi a] 27)).alloc (lkb n b cap none 0 0 none 0 0 c a st)):=q1z (q1z (q1z bz0 _) _) _
 have g2:=a0a ((w1.alloc (nbx n b cap)).alloc (.cells #[vi c,vi a] 27)) (lkb n b cap none 0 0 none 0 0 c a st)
 simp only[World.size_alloc]at g2
 refine⟨⟨⟨none,0,none,0,g2,⟨rfl,.inl ⟨rfl,rfl⟩⟩,⟨rfl,.inl ⟨rfl,rfl⟩⟩,fun q e=>by simp[Value.ownBlock]at e,fun q e=>by simp[Value.ownBlock]at e⟩,q3z hb h1,?_⟩,h1,q4z _ (q4z _ (a0a _ _)),fun g u=>⟨u,fun h i l o x y p r s v=>?_⟩⟩
 ·have:=hb.size
  omega
 ·have z:=g2.symm.trans v
  have t:Value.slice none 0 0=x/\Value.slice none 0 0=y:=by
   simp at z
   exact⟨z.2.2.2.2.1,z.2.2.2.2.2.1⟩
  obtain⟨rfl,rfl⟩:=t
  exact⟨by simp[Value.ownBlock],by simp[Value.ownBlock]⟩
theorem c5p(s:ByteArray)(w:World)(c:Int)(a:Nat)(hR:a1q s.data.toList=.inl (c,a)) :
  Cl 5 #[.string s] w (LQ w nil0 (.error (c,a))):=by
 have z:=parse_code hR
 have x:=b1r s w
 rw[hR]at x
 have u:(c != 0)=true:=by simpa using z
 have v:(c == 0)=false:=by simpa using z
 clear hR z
 go_enter Tryz.func5,Tryz.ntmps5
 go_wp2_with (go_at_call 10;refine x.mono ?_;rintro e w1 ⟨rfl,y⟩;refine Hid.out ?_)
 refine Lib.hid ?_
 have t:=d0k w w1 nil0 none 0 c (a:Nat) true y
 go_wp2
 go_ret
 exact⟨w1.heap.size+1+1,none,0,[],[],c,(a:Nat),true,rfl,t.1,a2a _ _ 0 [] 0,rfl,rfl,rfl⟩
theorem b8l(s:ByteArray)(w:World)(n:Nd)(hR:a1q s.data.toList=.inr n) :
  Cl 5 #[.string s] w (LQ w n (a5y n)):=by
 obtain⟨hnN,hn1,hnM⟩:=a5u hR
 have hp:=b1r s w
 rw[hR]at hp
 have hms:=a2n n
 have hkl:=a1g n.kids
 have hkids:∀(j:Nat) (y:Nd),n.kids[j]?=some y->isN y/\y.k=2:=fun j y hy=>by
  obtain⟨k,t,o,ks⟩:=n
  simp only at hn1 hy
  subst hn1
  rw[isN]at hnN
  obtain⟨_,_,_,_,_,_,_,_,h9⟩:=hnN
  rw[a5f]at h9
  have h:=h9 j y hy
  have h1:=h.1
  unfold a0w at h1
  rw[if_pos rfl]at h1
  exact⟨h.2,h1⟩
 obtain⟨R,hRd⟩:=exq (a4p (n.kids.map Nd.t) 0 n.kids ⟨[-1],[]⟩)
 obtain⟨RU,hRU⟩:=exq (a5y n)
 rw[hRU]
 have hRU2:endC n R=RU:=by rw[<- hRU,<- hRd,b7p]
 clear hRU hR hnN
 obtain⟨L,hL⟩:=exq (n.kids.length)
 replace hL:Hid _:=hL
 replace hRd:Hid _:=hRd
 replace hRU2:Hid _:=hRU2
 replace hkids:Hid _:=hkids
 go_enter Tryz.func5,Tryz.ntmps5
 go_wp2_with (go_at_call 10;refine hp.mono ?_;rintro e w1 ⟨⟨hfit,b,cap,rfl,hN⟩,hb1⟩;refine Hid.out ?_)
 obtain⟨hLo,hbV,gt,hApt⟩:=d0k w w1 n b cap 0 0 false hb1
 have hNV:=hN.below hbV
 obtain⟨k0,t0,n0,ks⟩:=n
 simp only at hn1 hL hkl hms
 subst hn1
 obtain⟨V,hV⟩:=exq (((w1.alloc (nbx ⟨1,t0,n0,ks⟩ b cap)).alloc (.cells #[vi 0,vi 0] 27)).alloc (lkb ⟨1,t0,n0,ks⟩ b cap none 0 0 none 0 0 0 0 false))
 rw[hV]at hLo hbV gt hNV hApt
 replace hV:((w1.alloc (.cells #[vi 1,sk t0,vi n0,.slice b ks.length cap] 34)).alloc (.cells #[vi 0,vi 0] 27)).alloc (.cells #[vi 1,sk t0,vi n0,.slice b ks.length cap,.slice none 0 0,.slice none 0 0,vi 0,vi 0,.bool false] 38)=V:=hV
 have hNS:NdV (fun g=>w.heap.size<=g/\g<w1.heap.size) V ⟨1,t0,n0,ks⟩ (ndv ⟨1,t0,n0,ks⟩ b cap):=by
  have h1:NdV (fun g=>w.heap.size<=g/\g<w1.heap.size) w1 ⟨1,t0,n0,ks⟩ (ndv ⟨1,t0,n0,ks⟩ b cap):=hN.weak (fun g hg hlt=>⟨hg,hlt⟩)
  exact h1.below hbV
 have hnum:=number_any w (w1.heap.size+1+1) ⟨1,t0,n0,ks⟩ b cap [] [] 0 0 false V hLo (by simp)
 have hBV:=hLo.lt
 have hSV:SA (fun g=>w.heap.size<=g/\g<w1.heap.size) (w1.heap.size+1+1) V:=fun g hg=>⟨by have:=hbV.size;omega,hApt g (by omega)⟩
 obtain⟨B,hB⟩:=exq (w1.heap.size+1+1)
 obtain⟨t,ht⟩:=exq (w1.heap.size)
 obtain⟨S,hS⟩:∃S:Nat->Prop,(fun g=>w.heap.size<=g/\g<w1.heap.size)=S:=⟨_,rfl⟩
 have hat:=hApt w1.heap.size (by omega)
 rw[hS]at hSV hNS
 rw[hB]at hLo hnum hSV hat hBV
 rw[ht]at gt hat
 have hSle:∀g,S g->w.heap.size<=g:=fun g hg=>by rw[<- hS]at hg;exact hg.1
 replace hSle:Hid _:=hSle
 clear hApt hS hN hNV hp
 replace hV:Hid _:=hV
 replace hB:Hid _:=hB
 replace ht:Hid _:=ht
 refine Lib.hid ?_
 go_wp2_with (go_at_call 11;refine Hid.out ?_)
 try rw[hV.out]
 try rw[hB.out]
 try rw[ht.out]
 clear hV hB ht
 refine Lib.hid ?_
 go_wp2_with (go_at_call 11;refine hnum.mono ?_;rintro e w2 ⟨rfl,hL2,hk2⟩)
 have hI:LUI w B ⟨1,t0,n0,ks⟩ b cap S t 700 R 0 w2:=by
  obtain⟨g2,ha2⟩:=hk2 t _ hat gt
  exact⟨g2,ha2,(hSV.on hk2).1,hNS.lk hSV hk2,.inl ⟨[-1],[],by rw[List.drop_zero];exact hRd.out,by rw[List.drop_zero];simp;omega,by simp,hL2⟩⟩
 clear hnum hLo hL2 hk2 hSV hNS gt hat hbV
 go_loopw [6] (fun ix wr=>∃j:Nat,j<=L/\ix=vi (j:Nat)/\LUI w B ⟨1,t0,n0,ks⟩ b cap S t 700 R j wr) (fun ix _=>L-(intOf ix).toNat)
 case atStart=>exact⟨0,Nat.zero_le _,rfl,hI⟩
 case round =>
  obtain⟨j,hj,rfl,g,ha,hS1,hN1,hst⟩:=hrel
  clear hI
  simp only at hst
  have hK1:=KA.of hN1
  obtain⟨z0,z1,z2,z3,_,_,_,_⟩:=in4 g
  simp only at z0 z1 z2 z3
  rw[hL.out]at z3
  rcases hst with⟨sl',ls',hgo,hs2,hls,hLo⟩|⟨cd,at_,sl',ls',hRe,hLo⟩
  ·obtain⟨c8,_,_,_,_,_⟩:=hLo.cells
   by_cases hlt:j<L
   ·have hlt':(j:Int)<(L:Int):=by omega
    have hjk:j<ks.length:=by have:=hL.out;omega
    obtain⟨y,hy⟩:∃y,ks[j]?=some y:=⟨_,List.getElem?_eq_getElem hjk⟩
    obtain⟨hyN,hy2⟩:=hkids.out j y hy
    have hdr:ks.drop j=y::ks.drop (j+1):=by rw[List.drop_eq_getElem_cons hjk];congr 1;exact(List.getElem?_eq_some_iff.1 hy).2
    rw[hdr]at hgo hs2
    simp only[manyN.go]at hs2
    rw[a4p]at hgo
    have hcall:=b2x y hyN hy2 j w B ⟨1,t0,n0,ks⟩ b cap sl' ls' 0 0 S wr hLo hK1 hy hS1 (by omega) (by simp only;omega)
    replace hgo:Hid _:=hgo
    clear hdr hyN hy2
    go_wp2_with (go_at_call 12;refine hcall.mono ?_;rintro e w3 ⟨rfl,hk3,hr3⟩)
    go_roundw
    case rel =>
     obtain⟨g3,ha3⟩:=hk3 t _ ha g
     refine⟨j+1,by omega,by go_num,g3,ha3,(hS1.on hk3).1,hN1.lk hS1 hk3,?_⟩
     have hg3:=hgo.out
     rcases hr3 with⟨sl3,ls3,e3,p1,p2,p3,p4⟩|⟨cd,at_,sl3,ls3,e3,p1,p2,p4⟩
     ·rw[e3]at hg3
      exact .inl ⟨sl3,ls3,hg3,by simp only;omega,p3,p4⟩
     ·rw[e3]at hg3
      exact .inr ⟨cd,at_,sl3,ls3,hg3.symm,p4⟩
    case measure=>simp[intOf];omega
   ·have hlt':¬(j:Int)<(L:Int):=by omega
    have hRo:R=.ok ⟨sl',[]⟩:=by rw[<- hgo,List.drop_eq_nil_of_le (by have:=hL.out;omega),a4p]
    have hRU3:=hRU2.out
    rw[hRo]at hRU3
    have hfn:=b2q w B ⟨1,t0,n0,ks⟩ b cap sl' ls' 0 0 false Go.Proofs.YtomniogfpfbolaaGreatDoor.W.main_ S wr hLo hK1 (by simp only;omega)
    replace hfn:Cl 13 #[Po B 0,.string ⟨#[109,97,105,110]⟩] wr fun e W'=>e=.returned (vi (funV ks Go.Proofs.YtomniogfpfbolaaGreatDoor.W.main_))/\W'=wr:=hfn
    clear hRo hgo
    cases hf:funI (ks.map Nd.t) Go.Proofs.YtomniogfpfbolaaGreatDoor.W.main_ with
    | none =>
     rw[b3r _ _ hf]at hRU3
     have hv:funV ks Go.Proofs.YtomniogfpfbolaaGreatDoor.W.main_=-1:=by rw[funV,hf]
     rw[hv]at hfn
     subst hRU3
     have hu1:=a0q w B ⟨1,t0,n0,ks⟩ b cap sl' ls' 0 0 false false 4 0 wr hLo
     go_wp2_with (first
      | (go_at_call 13;refine hfn.mono ?_;rintro e w3 ⟨rfl,rfl⟩)
      | (go_at_call_of 14 (Value.int IntKind.i64 4);refine hu1.mono ?_;rintro e w4 ⟨rfl,hL4,hk4⟩;refine Hid.out ?_))
     have hL4':Lo w B ⟨1,t0,n0,ks⟩ b cap sl' ls' 4 0 true w4:=hL4
     obtain⟨d8,_,_,_,_,_⟩:=hL4'.cells
     obtain⟨g4,ha4⟩:=hk4 t _ ha g
     have hN4:=hN1.lk hS1 hk4
     have hu2:=a0q w B ⟨1,t0,n0,ks⟩ b cap sl' ls' 4 0 true true 6 0 w4 hL4'
     have hS4:=hS1.on hk4
     obtain⟨y0,y1,y2,y3,_,_,_,_⟩:=in4 g4
     simp only at y0 y1 y2 y3
     clear hu1 hfn hL4
     refine Lib.hid ?_
     go_wp2_with (go_at_call 14;refine hu2.mono ?_;rintro e w5 ⟨rfl,hL5,hk5⟩)
     go_ret
     exact⟨B,b,cap,sl',ls',4,0,true,rfl,hL5,(hN4.lk hS4.1 hk5).weak (fun q hq _=>hSle.out q hq),rfl,rfl,rfl⟩
    | some q =>
     rw[b3s _ _ _ hf]at hRU3
     have hv:funV ks Go.Proofs.YtomniogfpfbolaaGreatDoor.W.main_=(q:Nat):=by rw[funV,hf]
     rw[hv]at hfn
     have hqk:q<ks.length:=by
      unfold funI at hf
      rw[List.findIdx?_eq_some_iff_getElem]at hf
      obtain⟨hq,_⟩:=hf
      simpa using hq
     obtain⟨y,hy⟩:∃y,ks[q]?=some y:=⟨_,List.getElem?_eq_getElem hqk⟩
     obtain⟨hyN,hy2⟩:=hkids.out q y hy
     simp only[hy]at hRU3
     have hu1:=a0q w B ⟨1,t0,n0,ks⟩ b cap sl' ls' 0 0 false true 4 0 wr hLo
     have hq0:(0:Int)<=(q:Int):=by omega
     have hq1:(q:Int)<(L:Int):=by have:=hL.out;omega
     go_wp2_with (first
      | (go_at_call 13;refine hfn.mono ?_;rintro e w3 ⟨rfl,rfl⟩)
      | (go_at_call_of 14 (Value.int IntKind.i64 4);refine hu1.mono ?_;rintro e w4 ⟨rfl,hL4,hk4⟩;refine Hid.out ?_))
     have hL4':Lo w B ⟨1,t0,n0,ks⟩ b cap sl' ls' 0 0 false w4:=hL4
     obtain⟨d8,_,_,_,_,_⟩:=hL4'.cells
     obtain⟨g4,ha4⟩:=hk4 t _ ha g
     have hN4:=hN1.lk hS1 hk4
     have hS4:=hS1.on hk4
     obtain⟨y0,y1,y2,y3,_,_,_,_⟩:=in4 g4
     simp only at y0 y1 y2 y3
     rw[hL.out]at y3
     obtain⟨gy,offy,by',cy,eb,v0,v1,v2,v3,_⟩:=KA.at (KA.of hN4) hy
     subst eb
     have hyk:y.kids≠[]:=fun e=>by
      obtain⟨yk,yt,yo,ys⟩:=y
      rw[isN]at hyN
      have h3:=hyN.1
      simp only at hy2 e
      subst hy2 e
      unfold a0r at h3
      simp at h3
     obtain⟨Ly,hLy⟩:=exq (y.kids.length)
     rw[hLy]at v3
     have hpb:a8u (some y)=decide (¬Ly=1):=by
      unfold a8u
      simp only
      rw[decide_eq_decide]
      have:=List.length_pos_iff.2 hyk
      omega
     rw[hpb]at hRU3
     have hu2:=fun qq=>a0q w B ⟨1,t0,n0,ks⟩ (some (Ad gy offy)) cap sl' ls' 0 0 false qq 6 0 w4 hL4'
     have hmx:max (q:Int) 0=(q:Int):=by omega
     clear hu1 hfn hL4
     by_cases h1:Ly=1
     ·subst h1
      rw[if_neg (by simp)]at hRU3
      subst hRU3
      refine Lib.hid ?_
      go_wp2_with (go_at_call 14;refine(hu2 true).mono ?_;rintro e w5 ⟨rfl,hL5,hk5⟩)
      go_ret
      exact⟨B,_,cap,sl',ls',0,0,false,rfl,hL5,(hN4.lk hS4.1 hk5).weak (fun q hq _=>hSle.out q hq),rfl,rfl,rfl,rfl⟩
     ·rw[if_pos (by simp[h1])]at hRU3
      subst hRU3
      have h1':((Ly:Int) == 1)=false:=by simp;omega
      refine Lib.hid ?_
      go_wp2_with (go_at_call 14;refine(hu2 false).mono ?_;rintro e w5 ⟨rfl,hL5,hk5⟩)
      go_ret
      exact⟨B,_,cap,sl',ls',6,0,true,rfl,hL5,(hN4.lk hS4.1 hk5).weak (fun q hq _=>hSle.out q hq),rfl,rfl,rfl⟩
  ·obtain⟨c8,_,_,_,_,_⟩:=hLo.cells
   have hRU3:=hRU2.out
   rw[hRe,b9k]at hRU3
   subst hRU3
   have hfn:=b2q w B ⟨1,t0,n0,ks⟩ b cap sl' ls' cd (at_:Nat) true Go.Proofs.YtomniogfpfbolaaGreatDoor.W.main_ S wr hLo hK1 (by simp only;omega)
   obtain⟨FV,hFV⟩:=exq (funV ks Go.Proofs.YtomniogfpfbolaaGreatDoor.W.main_)
   replace hfn:Cl 13 #[Po B 0,.string ⟨#[109,97,105,110]⟩] wr fun e W'=>e=.returned (vi FV)/\W'=wr:=by rw[<- hFV];exact hfn
   have hu1:=fun qq=>a0q w B ⟨1,t0,n0,ks⟩ b cap sl' ls' cd (at_:Nat) true qq 4 0 wr hLo
   clear hFV
   by_cases hlt:j<L
   ·have hlt':(j:Int)<(L:Int):=by omega
    go_wp2_with (first
     | (go_at_call 13;refine hfn.mono ?_;rintro e w3 ⟨rfl,rfl⟩)
     | (go_at_call_of 14 (Value.int IntKind.i64 4);refine(hu1 _).mono ?_;rintro e w4 ⟨rfl,hL4,hk4⟩;refine Hid.out ?_))
    have hL4':Lo w B ⟨1,t0,n0,ks⟩ b cap sl' ls' cd (at_:Nat) true w4:=by simpa[unl]using hL4
    obtain⟨d8,_,_,_,_,_⟩:=hL4'.cells
    obtain⟨g4,ha4⟩:=hk4 t _ ha g
    have hN4:=hN1.lk hS1 hk4
    have hS4:=hS1.on hk4
    obtain⟨y0,y1,y2,y3,_,_,_,_⟩:=in4 g4
    simp only at y0 y1 y2 y3
    have hu2:=a0q w B ⟨1,t0,n0,ks⟩ b cap sl' ls' cd (at_:Nat) true true 6 0 w4 hL4'
    clear hu1 hfn hL4
    refine Lib.hid ?_
    go_wp2_with (go_at_call 14;refine hu2.mono ?_;rintro e w5 ⟨rfl,hL5,hk5⟩)
    go_ret
    exact⟨B,b,cap,sl',ls',cd,(at_:Nat),true,rfl,hL5,(hN4.lk hS4.1 hk5).weak (fun q hq _=>hSle.out q hq),rfl,rfl,rfl⟩
   ·have hlt':¬(j:Int)<(L:Int):=by omega
    go_wp2_with (first
     | (go_at_call 13;refine hfn.mono ?_;rintro e w3 ⟨rfl,rfl⟩)
     | (go_at_call_of 14 (Value.int IntKind.i64 4);refine(hu1 _).mono ?_;rintro e w4 ⟨rfl,hL4,hk4⟩;refine Hid.out ?_))
    have hL4':Lo w B ⟨1,t0,n0,ks⟩ b cap sl' ls' cd (at_:Nat) true w4:=by simpa[unl]using hL4
    obtain⟨d8,_,_,_,_,_⟩:=hL4'.cells
    obtain⟨g4,ha4⟩:=hk4 t _ ha g
    have hN4:=hN1.lk hS1 hk4
    have hS4:=hS1.on hk4
    obtain⟨y0,y1,y2,y3,_,_,_,_⟩:=in4 g4
    simp only at y0 y1 y2 y3
    have hu2:=a0q w B ⟨1,t0,n0,ks⟩ b cap sl' ls' cd (at_:Nat) true true 6 0 w4 hL4'
    clear hu1 hfn hL4
    refine Lib.hid ?_
    go_wp2_with (go_at_call 14;refine hu2.mono ?_;rintro e w5 ⟨rfl,hL5,hk5⟩)
    go_ret
    exact⟨B,b,cap,sl',ls',cd,(at_:Nat),true,rfl,hL5,(hN4.lk hS4.1 hk5).weak (fun q hq _=>hSle.out q hq),rfl,rfl,rfl⟩
end Go.Proofs.YtomniogfpfbolaaGreatDoor
