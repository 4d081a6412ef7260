import Derived.Test.YtomniogfpfbolaaGreatDoorS24
import Derived.StillTailTactics
import Derived.Test.YtomniogfpfbolaaGreatDoorS15
namespace Go.Proofs.YtomniogfpfbolaaGreatDoor.V.C
open Go.RowKit Go
set_option maxRecDepth 100000
set_option maxHeartbeats 8000000
set_option linter.all false
variable {x p y:Pt} {b:Option Addr} {V:World}
section
variable {w1:World} {B nf:Nat} {D:Nat->Prop} {m:Ma} {W:World}
theorem c8c{n h:Nat}(hE:EC w1 B nf n)(p y:Pt)(b b1:Option Addr)(cap cap1:Nat)(hk:p.k=18)(hs:p.sl<30)(hp:Pq nf p)(hy:Pq nf y)(hky:a1i y.k)(h1:hgt y<=h)(hn:h<=n)(hK1:PK tt w1 y.kids b1 cap1)(hM:Mq w1 B D m W)(hi:Inv nf m)(hr:Rm m (8*h+8) (cnt p+cnt y+1)):Cl 61 #[pM B,ptv p b cap,ptv y b1 cap1] W (MZ w1 B nf D m W (4*(cnt p+cnt y+1)) (cnt p+cnt y+1) fun _ v=>v=.tuple #[]):=by
 obtain⟨sl,q⟩:∃sl:Nat,p.sl=sl:=⟨p.sl.toNat,by have:=hp.head.2.2.2.1 hk;omega⟩
 obtain⟨z,u⟩:∃z,(W.alloc (.cells #[vi p.k,.string p.t,vi p.n,vi p.sl,.slice b p.kids.length cap] 47)).alloc (.cells #[vi y.k,.string y.t,vi y.n,vi y.sl,.slice b1 y.kids.length cap1] 47)=z:=⟨_,rfl⟩
 have r:Bw W z:=by rw[<- u];exact q1z (q1z bz0 _) _
 have g0:z.heap[W.heap.size]?=some (pbx p b cap):=by rw[<- u];exact q4z _ (new1 _ _)
 have g1:z.heap[W.heap.size+1]?=some (pbx y b1 cap1):=by rw[<- u];exact new2 _ _ _
 have f:=hM.below r
 obtain⟨_,_,_,_,c⟩:=(f.below (Below.refl z.heap.size z).drew).mc
 have i:sl<m.pl.length:=by rw[hi.p30];omega
 have c5:=c.pl sl _ (List.getElem?_eq_getElem i)
 have s:=hi.pl _ (List.getElem_mem i)
 obtain⟨x,d⟩:∃x,m.pl[sl]=x:=⟨_,rfl⟩
 rw[d]at c5 s
 obtain⟨o0,_,_,_,_,_,_,_,_,_⟩:=in5 g0
 obtain⟨_,_,_,a3,_,_,_,_,_,_⟩:=in5 (W:=z.drew) g0
 obtain⟨z0,z1,z2,z3,z4,_,_,_,_,_⟩:=in5 (W:=z.drew) g1
 rw[q]at a3
 have l:=b2n p
 have a:=b9q hE x s y b1 cap1 (by omega) hy hky hK1 (f.below (Below.refl z.heap.size z).drew) hi (hr.on (Ex.refl m) (by omega) (by omega) (by omega))
 have w:∀e V,MZ w1 B nf D m z.drew (4*cnt y+1) (cnt y) (fun _ v=>v=.tuple #[]) e V->e=.returned (.tuple #[])/\MZ w1 B nf D m W (4*(cnt p+cnt y+1)) (cnt p+cnt y+1) (fun _ v=>v=.tuple #[]) (.returned (.tuple #[])) V:=fun e V hz=>by
  obtain⟨v,m',D',rfl,g,hI,hX,hC,rfl⟩:=hz
  exact⟨rfl,_,m',D',rfl,g,hI,hX.trans (Ex.refl m') (by omega) (by omega),(CK.below r.drew).trans hC,rfl⟩
 replace w:Hid _:=w
 have hd:(p.k == 18)=true:=by simpa using hk
 have z8:(0:Int)<=(sl:Int):=by omega
 have z9:(sl:Int)<30:=by omega
 simp only[a0x]at a⊢
 clear hE hp hy hky h1 hn hK1 hM hi hr r g0 g1 f c i s d hk hs q l
 go_enter Tryz.func61,Tryz.ntmps61
 go_wp2
 refine wp_region_still_tail 9 (by kernel_rfl) (by kernel_rfl) ?_
 change wpStill _ _ z.drew _ _ _
 simp only[List.take_succ_cons,List.take_zero,List.drop_succ_cons,List.drop_zero]
 repeat still_step
 refine wpStill_nil ?_
 go_wp2_with (go_at_call 91;refine a.mono ?_;intro e w3 hq;obtain⟨rfl,o⟩:=w.out _ _ hq)
 go_end0
 exact o
theorem c4e{n h:Nat}(hE:EC w1 B nf n)(p y y0 y1:Pt)(b b1:Option Addr)(cap cap1:Nat)(hk:p.k=20)(hks:p.kids=[y0,y1])(hk0:a1i y0.k)(hk1:a1i y1.k)(hp:Pq nf p)(hy:Pq nf y)(hky:a1i y.k)(h0:hgt p<=h)(h1:hgt y<=h)(hn:h<=n)(hK:PK tt w1 p.kids b cap)(hK1:PK tt w1 y.kids b1 cap1)(hM:Mq w1 B D m W)(hi:Inv nf m)(hr:Rm m (8*h+8) (cnt p+cnt y+1)):Cl 61 #[pM B,ptv p b cap,ptv y b1 cap1] W (MZ w1 B nf D m W (4*(cnt p+cnt y+1)) (cnt p+cnt y+1) fun _ v=>v=.tuple #[]):=by
 have l:p.kids[0]?=some y0:=by rw[hks];rfl
 have o:p.kids[1]?=some y1:=by rw[hks];rfl
 obtain⟨g,z,b0,r,rfl,v1,x9,w7⟩:=PK.kid hK l
 obtain⟨g',v2,b2,s,e1,_,y2,w8⟩:=PK.kid hK o
 cases e1
 have y3:=(hp.kid l).1
 have y4:=(hp.kid o).1
 have v5:=a1t l
 have v6:=a1t o
 have v4:cnt p=cnt y0+cnt y1+1:=by rw[a2v,hks,a1d,a1d,a3m];omega
 have w9:2<=cap:=by have:=hK.1.1;rw[hks]at this;exact this
 have v0:(2:Int)<=(cap:Int):=by omega
 have x8:p.kids.length=2:=by rw[hks];rfl
 obtain⟨w0,z8⟩:∃w0,(W.alloc (.cells #[vi p.k,.string p.t,vi p.n,vi p.sl,.slice (some (Ad g z)) 2 cap] 47)).alloc (.cells #[vi y.k,.string y.t,vi y.n,vi y.sl,.slice b1 y.kids.length cap1] 47)=w0:=⟨_,rfl⟩
 have w6:Bw W w0:=by rw[<- z8];exact q1z (q1z bz0 _) _
 have g0:w0.heap[W.heap.size]?=some (.cells #[vi p.k,.string p.t,vi p.n,vi p.sl,.slice (some (Ad g z)) 2 cap] 47):=by rw[<- z8];exact q4z _ (new1 _ _)
 have g1:w0.heap[W.heap.size+1]?=some (pbx y b1 cap1):=by rw[<- z8];exact new2 _ _ _
 obtain⟨o0,_,_,_,_,_,_,_,_,_⟩:=in5 g0
 obtain⟨os,i⟩:∃os:List (Nat×Obj),os=[(W.heap.size,.cells #[vi p.k,.string p.t,vi p.n,vi p.sl,.slice (some (Ad g z)) 2 cap] 47),(W.heap.size+1,pbx y b1 cap1)]:=⟨_,rfl⟩
 have hA:=At.begin (os:=os) hM hi w6 (fun q hq=>by rw[i]at hq;simp at hq;rcases hq with rfl|rfl;exact⟨g0,Nat.le_refl _⟩;exact⟨g1,by show W.heap.size<=W.heap.size+1;omega⟩)
 have x:∀{ko kc:Nat} {D1:Nat->Prop} {m1:Ma} {V:World},At w1 B nf D m W os ko kc D1 m1 V->V.cell? (Ad W.heap.size 4)=some (.slice (some (Ad g z)) 2 cap)/\KC V y0 g z b0 r/\KC V y1 g (z+5) b2 s/\KC V y (W.heap.size+1) 0 b1 cap1:=fun w=>by
  obtain⟨c0,c1,c2,c3,c4,_,_,_,_,_⟩:=in5 (w.at 1 (by rw[i];rfl))
  refine⟨q2z (w.at 0 (by rw[i];rfl)) rfl,?_,?_,⟨c0,c1,c2,c3,c4⟩⟩
  ·simpa using w7 _ w.mq.bl
  ·simpa using w8 _ w.mq.bl
 have s1:=fun V (hb:Bw w0 V)=>(hA.below hb).operand hE y0 b0 r (by omega) y3 hk0 x9 (hr.on (Ex.refl m) (by omega) (by omega) (by omega))
 have s2:=fun V (m1:Ma) (D1:Nat->Prop) (w:At w1 B nf D m W os (0+4*cnt y0) (0+cnt y0) D1 m1 V) (hu:m1.us<=m.us+1)=>w.operand hE y1 b2 s (by omega) y4 hk1 y2 (hr.on w.ex (by omega) (by omega) (by omega))
 have s3:=fun V (m1:Ma) (D1:Nat->Prop) (w:At w1 B nf D m W os (0+4*cnt y0+4*cnt y1) (0+cnt y0+cnt y1) D1 m1 V) (hu:m1.us<=m.us+1+1)=>w.operand hE y b1 cap1 (by omega) hy hky hK1 (hr.on w.ex (by omega) (by omega) (by omega))
 have s4:∀(V:World) (m1 m2 m3:Ma) (D3:Nat->Prop) (r1 r2 r3:Int),At w1 B nf D m W os (0+4*cnt y0+4*cnt y1+4*cnt y) (0+cnt y0+cnt y1+cnt y) D3 m3 V->rgO m1.rg r1->rgO m2.rg r2->rgO m3.rg r3->m1.rg<=m2.rg->m2.rg<=m3.rg->Cl 28 #[pM B,vi 5,vi r1,vi r2,vi r3] V fun e V1=>(∃v,e=.returned v)/\MZ w1 B nf D m W (4*(cnt p+cnt y+1)) (cnt p+cnt y+1) (fun _ v=>v=.tuple #[]) (.returned (.tuple #[])) V1:=fun V m1 m2 m3 D3 r1 r2 r3 w q1 q2 q3 v9 y8=>by
  have l1:=w.ex.lco
  have l2:=hr.co
  refine(w.order (by omega) ⟨5,r1,r2,r3⟩ (.inr (.inr (.inr (.inr (.inr (.inr (.inr ⟨.inr (.inl rfl),q1.mono (Nat.le_trans v9 y8),q2.mono y8,q3⟩)))))))).mono ?_
  rintro e V1 ⟨m4,D4,rfl,v3,_,_,_⟩
  exact⟨⟨_,rfl⟩,v3.done (by omega) (by omega) rfl⟩
 obtain⟨z9,⟨a0,a1,a2,a3,a4⟩,⟨z0,z1,z2,z3,z4⟩,⟨x0,a,c,d,f⟩⟩:=x hA.drew
 replace s1:Hid _:=s1
 replace s2:Hid _:=s2
 replace s3:Hid _:=s3
 replace s4:Hid _:=s4
 replace x:Hid _:=@x
 have hd:(p.k == 18)=false:=by rw[hk];rfl
 simp only[a0x,x8]at s1 s2 s3⊢
 clear hE hp hy hky h0 h1 hn hK hK1 hM hi hr w6 g0 g1 hks l o y3 y4 v5 v6 v4 w9 x8 hA i x9 y2 w7 w8 hk0 hk1 hk
 simp only[Nat.zero_add]at x0 a c d f
 go_enter Tryz.func61,Tryz.ntmps61
 go_wp2
 go_region_held3 (fun u=>u.cell? (Ad W.heap.size 4)=some (.slice (some (Ad g z)) 2 cap)/\u.cell? (Ad g z)=some (vi y0.k)/\u.cell? (Ad g (z+1))=some (.string y0.t)/\u.cell? (Ad g (z+2))=some (vi y0.n)/\u.cell? (Ad g (z+3))=some (vi y0.sl)/\u.cell? (Ad g (z+4))=some (.slice b0 y0.kids.length r)/\u.cell? (Ad g (z+5))=some (vi y1.k)/\u.cell? (Ad g (z+5+1))=some (.string y1.t)/\u.cell? (Ad g (z+5+2))=some (vi y1.n)/\u.cell? (Ad g (z+5+3))=some (vi y1.sl)/\u.cell? (Ad g (z+5+4))=some (.slice b2 y1.kids.length s)/\u.cell? (Ad (W.heap.size+1) 0)=some (vi y.k)/\u.cell? (Ad (W.heap.size+1) 1)=some (.string y.t)/\u.cell? (Ad (W.heap.size+1) 2)=some (vi y.n)/\u.cell? (Ad (W.heap.size+1) 3)=some (vi y.sl)/\u.cell? (Ad (W.heap.size+1) 4)=some (.slice b1 y.kids.length cap1)) (go_keep) (first|(go_at_call_of 65 y0;refine(s1.out _ bz0.drew).mono ?_;rintro e w2 ⟨r1,m1,D1,rfl,y9,v8,x5,z7⟩;obtain⟨z9,⟨a0,a1,a2,a3,a4⟩,⟨z0,z1,z2,z3,z4⟩,⟨x0,a,c,d,f⟩⟩:=x.out y9;simp only[Nat.zero_add]at x0 a c d f)|(go_at_call_of 65 y1;refine(s2.out _ _ _ y9 z7).mono ?_;rintro e w3 ⟨r2,m2,D2,rfl,z5,y6,x6,y5⟩;obtain⟨z9,⟨a0,a1,a2,a3,a4⟩,⟨z0,z1,z2,z3,z4⟩,⟨x0,a,c,d,f⟩⟩:=x.out z5;simp only[Nat.zero_add]at x0 a c d f)|(go_at_call_of 65 y;refine(s3.out _ _ _ z5 (Nat.le_trans y5 (Nat.add_le_add_right z7 1))).mono ?_;rintro e w4 ⟨r3,m3,D3,rfl,z6,y7,x7,v7⟩;obtain⟨z9,⟨a0,a1,a2,a3,a4⟩,⟨z0,z1,z2,z3,z4⟩,⟨x0,a,c,d,f⟩⟩:=x.out z6;simp only[Nat.zero_add]at x0 a c d f))
 have l4:=s4.out _ _ _ _ _ _ _ _ z6 x5 x6 x7 y6.rg y7.rg
 clear s1 s2 s3 s4 x y9 z5 z6 v8 y6 y7 z7 y5 v7 x5 x6 x7
 go_wp2_with (go_at_call 28;refine l4.mono ?_;rintro e w5 ⟨⟨v,rfl⟩,hq⟩)
 go_end0
 exact hq
end
def BC (w1:World) (B nf n:Nat):Prop:=∀(p:Pt) (b:Option Addr) (cap:Nat) (D:Nat->Prop) (m:Ma) (W:World),hgt p<=n->Pq nf p->p.k=4->PK tt w1 p.kids b cap->Mq w1 B D m W->Inv nf m->Rm m (8*hgt p+mxp p) (cnt p)->Cl 22 #[pM B,ptv p b cap] W (MZ w1 B nf D m W (4*cntL p.kids) (cntL p.kids) fun m' v=>v=.tuple #[]/\m'.us=m.us)
theorem d5t{l:List Nd}{x:Nd}(h:x∈l):mxN x<=mxN.go l:=by
 induction l with
 | nil=>simp at h
 | cons a l ih =>
  simp only[mxN.go]
  rcases List.mem_cons.1 h with rfl|h
  ·omega
  ·have:=ih h;omega
theorem c4f(h:p.k≠10):mxp p=max (dlK p.k) (mxN.go (p.kids.map era)):=by
 show mxN (era p)=_
 obtain⟨k,t,n,sl,kids⟩:=p
 rw[era,mxN,if_neg h,c2d]
theorem b6j{j:Nat}(h:p.k≠10)(hx:p.kids[j]?=some x):mxp x<=mxp p:=by
 rw[c4f h]
 have:era x∈p.kids.map era:=List.mem_map_of_mem (List.mem_of_getElem? hx)
 have:=d5t this
 show mxN (era x)<=_
 omega
theorem d2k{z:Pt}(h:p.k=10)(hks:p.kids=[x,y,z]):mxp p=1+mxp z:=by
 show mxN (era p)=_
 obtain⟨k,t,n,sl,kids⟩:=p
 simp only at h hks
 subst h hks
 rw[era,mxN,if_pos rfl,c2d]
 rfl
section
variable {w1:World} {B nf:Nat} {D0 D:Nat->Prop} {m0 m:Ma} {W0 W:World} {os:List (Nat×Obj)} {ko kc:Nat}
theorem At.block{n:Nat}(h:At w1 B nf D0 m0 W0 os ko kc D m W)(hB:BC w1 B nf n)(y:Pt)(b:Option Addr)(cap:Nat)(hn:hgt y<=n)(hp:Pq nf y)(hk:y.k=4)(hK:PK tt w1 y.kids b cap)(hr:Rm m (8*hgt y+mxp y) (cnt y)):Cl 22 #[pM B,ptv y b cap] W fun e V=>∃m1 D1,e=.returned (.tuple #[])/\At w1 B nf D0 m0 W0 os (ko+4*cntL y.kids) (kc+cntL y.kids) D1 m1 V/\Ex m m1 (4*cntL y.kids) (cntL y.kids)/\m1.us=m.us:=by
 refine(hB y b cap D m W hn hp hk hK h.mq h.iv hr).mono ?_
 rintro e V ⟨v,m1,D1,rfl,w,u,z,t,rfl,x⟩
 exact⟨m1,D1,rfl,h.step w u z t,z,x⟩
end
section
variable {w1:World} {B nf:Nat} {D:Nat->Prop} {m:Ma} {W:World}
abbrev SZ (w1:World) (B nf:Nat) (D:Nat->Prop) (m:Ma) (W:World) (p:Pt):Ending->World->Prop:=MZ w1 B nf D m W (4*cnt p) (cnt p) fun _ v=>v=.tuple #[]
theorem c4g{n:Nat}(hE:EC w1 B nf n)(hB:BC w1 B nf n)(p:Pt)(b:Option Addr)(cap:Nat)(hk:p.k=9)(hn:hgt p<=n+1)(hp:Pq nf p)(hK:PK tt w1 p.kids b cap)(h:Mq w1 B D m W)(hi:Inv nf m)(hr:Rm m (8*hgt p+mxp p) (cnt p)):Cl 63 #[pM B,ptv p b cap] W (SZ w1 B nf D m W p):=by
 have z8:p.kids.length=2:=by
  have:=hp.head.1
  unfold a0r at this
  omega
 obtain⟨y,z,s⟩:∃y z,p.kids=[y,z]:=by
  match s:p.kids,z8 with
  | [y,z],_=>exact⟨y,z,rfl⟩
 have c:p.kids[0]?=some y:=by rw[s];rfl
 have f:p.kids[1]?=some z:=by rw[s];rfl
 obtain⟨y9,f0⟩:=hp.kid c
 obtain⟨d,f1⟩:=hp.kid f
 have y4:a1i y.k:=by unfold a0w at f0;rw[hk]at f0;simpa using f0
 have y5:z.k=4:=by unfold a0w at f1;rw[hk]at f1;simpa using f1
 obtain⟨g,w,b0,z7,rfl,x0,y7,x8⟩:=PK.kid hK c
 obtain⟨g',v8,b1,u,e1,_,y8,x9⟩:=PK.kid hK f
 cases e1
 have x1:=a1t c
 have x2:=a1t f
 have x4:=b6j (by omega) f
 have w8:cnt p=cnt y+cnt z+1:=by rw[a2v,s,a1d,a1d,a3m];omega
 have y2:=a2v z
 have y3:2<=cap:=by have:=hK.1.1;rw[s]at this;exact this
 have v7:(2:Int)<=(cap:Int):=by omega
 obtain⟨w0,z2⟩:∃w0,W.alloc (.cells #[vi p.k,.string p.t,vi p.n,vi p.sl,.slice (some (Ad g w)) 2 cap] 47)=w0:=⟨_,rfl⟩
 have x7:Bw W w0:=by rw[<- z2];exact q1z bz0 _
 have g0:w0.heap[W.heap.size]?=some (.cells #[vi p.k,.string p.t,vi p.n,vi p.sl,.slice (some (Ad g w)) 2 cap] 47):=by rw[<- z2];exact new1 _ _
 obtain⟨os,z6⟩:∃os:List (Nat×Obj),os=[(W.heap.size,.cells #[vi p.k,.string p.t,vi p.n,vi p.sl,.slice (some (Ad g w)) 2 cap] 47)]:=⟨_,rfl⟩
 have hA:=At.begin (os:=os) h hi x7 (fun q hq=>by rw[z6]at hq;simp at hq;subst hq;exact⟨g0,Nat.le_refl _⟩)
 have z9:∀{ko kc:Nat} {D1:Nat->Prop} {m1:Ma} {V:World},At w1 B nf D m W os ko kc D1 m1 V->In5 V W.heap.size (vi p.k) (.string p.t) (vi p.n) (vi p.sl) (.slice (some (Ad g w)) 2 cap)/\KC V y g w b0 z7/\KC V z g (w+1*5) b1 u/\g<V.heap.size:=fun o=>by
  refine⟨in5 (o.at 0 (by rw[z6];rfl)),?_,x9 _ o.mq.bl,Nat.lt_of_lt_of_le x0 o.mq.bl.size⟩
  simpa using x8 _ o.mq.bl
 have l2:=hr.co
 have s1:=hA.test hE y b0 z7 (by omega) y9 y4 y7 (hr.on (Ex.refl m) (by omega) (by omega) (by omega))
 have s2:=fun V (hc:KC V z g (w+1*5) b1 u) (hg:g<V.heap.size)=>body_any p g w cap 1 z8 (by omega) z b1 u V hc hg
 have s3:=fun V (m1:Ma) (D1:Nat->Prop) (o:At w1 B nf D m W os (0+(4*cnt y+1)) (0+cnt y) D1 m1 V) (hu:m1.us=m.us)=>o.block hB z b1 u (by omega) d y5 y8 (hr.on o.ex (by omega) (by omega) (by omega))
 have s4:∀(V:World) (m1:Ma) (D1:Nat->Prop),At w1 B nf D m W os (0+(4*cnt y+1)+4*cntL z.kids) (0+cnt y+cntL z.kids) D1 m1 V->Cl 28 #[pM B,vi 10,vi (m.co.length:Nat),vi 0,vi 0] V fun e V1=>∃v m2 D2,e=.returned v/\At w1 B nf D m W os (0+(4*cnt y+1)+4*cntL z.kids+1) (0+cnt y+cntL z.kids) D2 m2 V1/\Ex m1 m2 1 0:=fun V m1 D1 o=>by
  have l1:=o.ex.lco
  refine(o.order (by omega) ⟨10,(m.co.length:Nat),0,0⟩ (.inr (.inr (.inl ⟨rfl,by show(0:Int)<=(m.co.length:Nat);omega,by show((m.co.length:Nat):Int)<=_;omega,rfl,rfl⟩)))).mono ?_
  rintro e V1 ⟨m2,D2,rfl,l,a,_,_⟩
  exact⟨_,m2,D2,rfl,l,a⟩
 have s5:∀(V:World) (m1:Ma) (D1:Nat->Prop) (i:Nat) (r:Int),At w1 B nf D m W os (0+(4*cnt y+1)+4*cntL z.kids+1) (0+cnt y+cntL z.kids) D1 m1 V->m.co.length<=i->m1.co[i]?=some ⟨9,r,0,0⟩->Cl 93 #[pM B,vi (i:Nat)] V fun e V1=>e=.returned (.tuple #[])/\SZ w1 B nf D m W p (.returned (.tuple #[])) V1:=fun V m1 D1 i r o hl hq=>by
  have l1:=o.ex.lco
  refine(o.landed hq (.inl rfl) (by omega) hl).mono ?_
  rintro e V1 ⟨x,m2,D2,rfl,l,_⟩
  exact⟨rfl,l.done (by omega) (by omega) rfl⟩
 obtain⟨⟨c0,c1,c2,c3,c4,_,_,_,_,_⟩,⟨a0,a1,a2,a3,a4⟩,_,_⟩:=z9 hA
 obtain⟨_,_,ia,ic,cM⟩:=hA.mq.mc
 have v9:=cM.co
 replace s2:Hid _:=s2
 replace s3:Hid _:=s3
 replace s4:Hid _:=s4
 replace s5:Hid _:=s5
 replace z9:Hid _:=@z9
 simp only[a0x,z8]at s1 s2 s3⊢
 obtain⟨n0,y6⟩:∃n0,m.co.length=n0:=⟨_,rfl⟩
 rw[y6]at s1 s4 s5 v9
 clear hE hB hp hn hK h hi hr x7 g0 s c f y9 d x1 x2 w8 y3 z8 hA z6 y7 y8 x8 x9 y4 y5 hk f0 f1 x4 y2 cM l2 y6
 go_enter Tryz.func63,Tryz.ntmps63
 go_wp2_with (go_at_call 92;refine s1.mono ?_;rintro e w2 ⟨m1,D1,i,r,rfl,z5,x5,z1,x3,d⟩;refine Hid.out ?_)
 obtain⟨⟨c0,c1,c2,c3,c4,_,_,_,_,_⟩,_,z4,w9⟩:=z9.out z5
 have l2:=s2.out w2 z4 w9
 clear s1 a0 a1 a2 a3 a4 x5
 refine Lib.hid ?_
 go_wp2_with (go_at_call 23;refine l2.mono ?_;rintro e w3 ⟨rfl,w7⟩;refine Hid.out ?_)
 have l3:=s3.out w3 m1 D1 (z5.below w7) z1
 clear l2 z5 c0 c1 c2 c3 c4 z4 z1
 refine Lib.hid ?_
 go_wp2_with (go_at_call 22;refine l3.mono ?_;rintro e w4 ⟨m2,D2,rfl,l,a,_⟩;refine Hid.out ?_)
 have l4:=s4.out _ _ _ l
 have z0:=a.get d
 clear l3 l a d s3
 refine Lib.hid ?_
 go_wp2_with (go_at_call 28;refine l4.mono ?_;rintro e w5 ⟨v,m3,D3,rfl,x6,z3⟩;refine Hid.out ?_)
 have l5:=s5.out _ _ _ i r x6 x3 (z3.get z0)
 clear l4 x6 z3 z0 s4
 refine Lib.hid ?_
 go_wp2_with (go_at_call 93;refine l5.mono ?_;rintro e w6 ⟨rfl,hq⟩)
 go_end0
 exact hq
end
section
variable {w1:World} {B nf:Nat} {D:Nat->Prop} {m:Ma} {W:World}
structure Ch (w1:World) (B nf n:Nat) (D:Nat->Prop) (m:Ma) (W:World) (p y0 y1:Pt) (g off cap L:Nat) (b0:Option Addr) (cap0:Nat) (b1:Option Addr) (cap1:Nat) (os:List (Nat×Obj)):Prop where
 r4:∀{ko kc:Nat} {D1:Nat->Prop} {m1:Ma} {V:World},At w1 B nf D m W os ko kc D1 m1 V->V.cell? (Ad W.heap.size 4)=some (.slice (some (Ad g off)) L cap)
 r0:∀{ko kc:Nat} {D1:Nat->Prop} {m1:Ma} {V:World},At w1 B nf D m W os ko kc D1 m1 V->KC V y0 g off b0 cap0
 r1:∀{ko kc:Nat} {D1:Nat->Prop} {m1:Ma} {V:World},At w1 B nf D m W os ko kc D1 m1 V->KC V y1 g (off+5) b1 cap1
 A:At w1 B nf D m W os 0 0 D m (W.alloc (.cells #[vi p.k,.string p.t,vi p.n,vi p.sl,.slice (some (Ad g off)) L cap] 47))
 s1:Cl 92 #[pM B,ptv y0 b0 cap0] (W.alloc (.cells #[vi p.k,.string p.t,vi p.n,vi p.sl,.slice (some (Ad g off)) L cap] 47)) fun e V=>∃(m1:Ma) (D1:Nat->Prop) (i:Nat) (r:Int),e=.returned (vi (i:Nat))/\At w1 B nf D m W os (0+(4*cnt y0+1)) (0+cnt y0) D1 m1 V/\m1.us=m.us/\m.co.length<=i/\m1.co[i]?=some ⟨9,r,0,0⟩
 s2:∀V (m1:Ma) (D1:Nat->Prop),At w1 B nf D m W os (0+(4*cnt y0+1)) (0+cnt y0) D1 m1 V->m1.us=m.us->Cl 22 #[pM B,ptv y1 b1 cap1] V fun e V=>∃m2 D2,e=.returned (.tuple #[])/\At w1 B nf D m W os (0+(4*cnt y0+1)+4*cntL y1.kids) (0+cnt y0+cntL y1.kids) D2 m2 V/\Ex m1 m2 (4*cntL y1.kids) (cntL y1.kids)/\m2.us=m.us
theorem d5u{n:Nat}(hE:EC w1 B nf n)(hB:BC w1 B nf n)(p:Pt)(g off cap:Nat)(y0 y1:Pt)(L:Nat)(hL:p.kids.length=L)(hy0:p.kids[0]?=some y0)(hy1:p.kids[1]?=some y1)(hc2:cnt y0+cnt y1+1<=cnt p)(hk:p.k=8)(hn:hgt p<=n+1)(hp:Pq nf p)(hK:PK tt w1 p.kids (some (Ad g off)) cap)(h:Mq w1 B D m W)(hi:Inv nf m)(hr:Rm m (8*hgt p+mxp p) (cnt p)):∃u y v z os,Ch w1 B nf n D m W p y0 y1 g off cap L u y v z os:=by
 obtain⟨l,f0⟩:=hp.kid hy0
 obtain⟨o,f1⟩:=hp.kid hy1
 have b:a1i y0.k:=by unfold a0w at f0;rw[hk]at f0;simpa using f0
 have c:y1.k=4:=by unfold a0w at f1;rw[hk]at f1;simpa using f1
 obtain⟨g',w,u,y,e0,z0,d,z9⟩:=PK.kid hK hy0
 cases e0
 obtain⟨g',w,v,z,e1,_,f,a⟩:=PK.kid hK hy1
 cases e1
 have z1:=a1t hy0
 have z2:=a1t hy1
 have z3:=b6j (by omega) hy1
 have z5:=a2v y1
 have z8:Bw W (W.alloc (.cells #[vi p.k,.string p.t,vi p.n,vi p.sl,.slice (some (Ad g off)) L cap] 47)):=q1z bz0 _
 have hA:=At.begin (os:=[(W.heap.size,.cells #[vi p.k,.string p.t,vi p.n,vi p.sl,.slice (some (Ad g off)) L cap] 47)]) h hi z8 (fun q hq=>by simp at hq;subst hq;exact⟨new1 _ _,Nat.le_refl _⟩)
 refine⟨u,y,v,z,_,fun x=>q2z (x.at 0 rfl) rfl,fun x=>by simpa using z9 _ x.mq.bl,fun x=>by simpa using a _ x.mq.bl,hA,?_,fun V m1 D1 x hu=>?_⟩
 ·refine(hA.test hE y0 u y (by omega) l b d (hr.on (Ex.refl m) (by omega) (by omega) (by omega))).mono ?_
  rintro e V ⟨m1,D1,i,r,rfl,z6,_,hu,hl,hq⟩
  exact⟨m1,D1,i,r,rfl,z6,hu,hl,hq⟩
 ·refine(x.block hB y1 v z (by omega) o c f (hr.on x.ex (by omega) (by omega) (by omega))).mono ?_
  rintro e V2 ⟨m2,D2,rfl,z7,s,z4⟩
  exact⟨m2,D2,rfl,z7,s,by omega⟩
theorem b9u{n:Nat}(hE:EC w1 B nf n)(hB:BC w1 B nf n)(p:Pt)(b:Option Addr)(cap:Nat)(y0 y1:Pt)(hks:p.kids=[y0,y1])(hk:p.k=8)(hn:hgt p<=n+1)(hp:Pq nf p)(hK:PK tt w1 p.kids b cap)(h:Mq w1 B D m W)(hi:Inv nf m)(hr:Rm m (8*hgt p+mxp p) (cnt p)):Cl 62 #[pM B,ptv p b cap] W (SZ w1 B nf D m W p):=by
 have v:p.kids.length=2:=by rw[hks];rfl
 have w:p.kids[0]?=some y0:=by rw[hks];rfl
 have u:p.kids[1]?=some y1:=by rw[hks];rfl
 have a:cnt p=cnt y0+cnt y1+1:=by rw[a2v,hks,a1d,a1d,a3m];omega
 have l:=a2v y1
 obtain⟨g,d,_,_,rfl,_,_,_⟩:=PK.kid hK w
 obtain⟨b0,z8,b1,z9,os,C⟩:=d5u hE hB p g d cap y0 y1 2 v w u (by omega) hk hn hp hK h hi hr
 have o:2<=cap:=by have:=hK.1.1;rw[hks]at this;exact this
 have z7:(2:Int)<=(cap:Int):=by omega
 have l2:=hr.co
 have s1:=C.s1
 have s2:=C.s2
 have f:∀(V:World) (m1:Ma) (D1:Nat->Prop) (i:Nat) (r:Int),At w1 B nf D m W os (0+(4*cnt y0+1)+4*cntL y1.kids) (0+cnt y0+cntL y1.kids) D1 m1 V->m.co.length<=i->m1.co[i]?=some ⟨9,r,0,0⟩->Cl 93 #[pM B,vi (i:Nat)] V fun e V1=>e=.returned (.tuple #[])/\SZ w1 B nf D m W p (.returned (.tuple #[])) V1:=fun V m1 D1 i r hV hl hq=>by
  have l1:=hV.ex.lco
  refine(hV.landed hq (.inl rfl) (by omega) hl).mono ?_
  rintro e V1 ⟨x,m2,D2,rfl,z,_⟩
  exact⟨rfl,z.done (by omega) (by omega) rfl⟩
 have c4:=C.r4 C.A
 obtain⟨a0,a1,a2,a3,a4⟩:=C.r0 C.A
 replace s2:Hid _:=s2
 replace f:Hid _:=f
 replace C:Hid _:=C
 simp only[a0x,v]at s1 s2⊢
 clear hE hB hp hn hK h hi hr hks w u a o v hk l l2
 go_enter Tryz.func62,Tryz.ntmps62
 go_wp2_with (go_at_call 92;refine s1.mono ?_;rintro e w2 ⟨m1,D1,i,r,rfl,y,s,c,q⟩;refine Hid.out ?_)
 have d4:=C.out.r4 y
 obtain⟨z0,z1,z2,z3,z4⟩:=C.out.r1 y
 have l3:=s2.out w2 m1 D1 y s
 clear s1 a0 a1 a2 a3 a4 c4 s y
 refine Lib.hid ?_
 go_wp2_with (go_at_call 22;refine l3.mono ?_;rintro e w4 ⟨m2,D2,rfl,z,t,_⟩;refine Hid.out ?_)
 have e4:=C.out.r4 z
 have l5:=f.out _ _ _ i r z c (t.get q)
 clear l3 z t q d4 z0 z1 z2 z3 z4
 refine Lib.hid ?_
 go_wp2_with (go_at_call 93;refine l5.mono ?_;rintro e w6 ⟨rfl,hq⟩)
 go_end0
 exact hq
theorem b4i{n:Nat}(hE:EC w1 B nf n)(hB:BC w1 B nf n)(p:Pt)(b:Option Addr)(cap:Nat)(y0 y1 y2:Pt)(hks:p.kids=[y0,y1,y2])(hk:p.k=8)(hn:hgt p<=n+1)(hp:Pq nf p)(hK:PK tt w1 p.kids b cap)(h:Mq w1 B D m W)(hi:Inv nf m)(hr:Rm m (8*hgt p+mxp p) (cnt p)):Cl 62 #[pM B,ptv p b cap] W (SZ w1 B nf D m W p):=by
 have y8:p.kids.length=3:=by rw[hks];rfl
 have z8:p.kids[0]?=some y0:=by rw[hks];rfl
 have y6:p.kids[1]?=some y1:=by rw[hks];rfl
 have v:p.kids[2]?=some y2:=by rw[hks];rfl
 have v6:cnt p=cnt y0+cnt y1+cnt y2+1:=by rw[a2v,hks,a1d,a1d,a1d,a3m];omega
 have w9:=a2v y1
 have x1:=a2v y2
 obtain⟨g,y7,_,_,rfl,_,_,_⟩:=PK.kid hK z8
 obtain⟨b0,v2,b1,v3,os,C⟩:=d5u hE hB p g y7 cap y0 y1 3 y8 z8 y6 (by omega) hk hn hp hK h hi hr
 obtain⟨z,f2⟩:=hp.kid v
 have x5:y2.k=4:=by unfold a0w at f2;rw[hk]at f2;simpa using f2
 obtain⟨g',v4,b2,z9,e2,_,x6,x0⟩:=PK.kid hK v
 cases e2
 have v7:=a1t v
 have v9:=b6j (by omega) v
 have x2:3<=cap:=by have:=hK.1.1;rw[hks]at this;exact this
 have v1:(3:Int)<=(cap:Int):=by omega
 have l2:=hr.co
 have s1:=C.s1
 have s2:=C.s2
 have s3:∀(V:World) (m1:Ma) (D1:Nat->Prop),At w1 B nf D m W os (0+(4*cnt y0+1)+4*cntL y1.kids) (0+cnt y0+cntL y1.kids) D1 m1 V->Cl 28 #[pM B,vi 8,vi 0,vi 0,vi 0] V fun e V1=>∃w D2,e=.returned (vi (m1.co.length:Nat))/\At w1 B nf D m W os (0+(4*cnt y0+1)+4*cntL y1.kids+1) (0+cnt y0+cntL y1.kids) D2 w V1/\w.us=m1.us/\w.co=m1.co++[⟨8,0,0,0⟩]/\m.co.length<=m1.co.length:=fun V m1 D1 o=>by
  have l1:=o.ex.lco
  refine(o.order (by omega) ⟨8,0,0,0⟩ okJ).mono ?_
  rintro e V2 ⟨w,D2,rfl,s,z7,u,x3⟩
  exact⟨w,D2,rfl,s,u,x3,l1.1⟩
 have s4:∀(V:World) (m1:Ma) (D1:Nat->Prop) (ko kc i:Nat) (q:Q4),At w1 B nf D m W os ko kc D1 m1 V->ko<=4*cnt p->m1.co[i]?=some q->(q.op=9\/q.op=8)->m.co.length<=i->Cl 93 #[pM B,vi (i:Nat)] V fun e V2=>∃x w D2,e=.returned (.tuple #[])/\At w1 B nf D m W os ko kc D2 w V2/\w={ m1 with co:=m1.co.set i x }:=fun V m1 D1 ko kc i q o hk hq ho hi=>by
  have l1:=o.ex.lco
  exact o.landed hq ho (by omega) hi
 have s5:=fun V (m1:Ma) (D1:Nat->Prop) (o:At w1 B nf D m W os (0+(4*cnt y0+1)+4*cntL y1.kids+1) (0+cnt y0+cntL y1.kids) D1 m1 V) (hu:m1.us=m.us)=>o.block hB y2 b2 z9 (by omega) z x5 x6 (hr.on o.ex (by omega) (by omega) (by omega))
 have r2:∀{ko kc:Nat} {D1:Nat->Prop} {m1:Ma} {V:World},At w1 B nf D m W os ko kc D1 m1 V->KC V y2 g (y7+10) b2 z9:=fun o=>by simpa using x0 _ o.mq.bl
 have k1:0+(4*cnt y0+1)+4*cntL y1.kids+1<=4*cnt p:=by omega
 have k2:0+(4*cnt y0+1)+4*cntL y1.kids+1+4*cntL y2.kids<=4*cnt p:=by omega
 have k3:0+cnt y0+cntL y1.kids+cntL y2.kids<=cnt p:=by omega
 have c4:=C.r4 C.A
 obtain⟨a0,a1,a2,a3,a4⟩:=C.r0 C.A
 replace s2:Hid _:=s2
 replace s3:Hid _:=s3
 replace s4:Hid _:=s4
 replace s5:Hid _:=s5
 replace C:Hid _:=C
 replace r2:Hid _:=@r2
 simp only[a0x,y8]at s1 s2 s5⊢
 clear hE hB hp hn hK h hi hr hks z8 y6 v v6 x2 y8 hk w9 x1 l2 z f2 x5 x6 x0 v7 v9
 go_enter Tryz.func62,Tryz.ntmps62
 go_wp2_with (go_at_call 92;refine s1.mono ?_;rintro e w2 ⟨m1,D1,i,r,rfl,a,y3,v8,x7⟩;refine Hid.out ?_)
 have d4:=C.out.r4 a
 obtain⟨z0,z1,z2,z3,z4⟩:=C.out.r1 a
 have l3:=s2.out w2 m1 D1 a y3
 clear s1 a0 a1 a2 a3 a4 c4 y3 a
 refine Lib.hid ?_
 go_wp2_with (go_at_call 22;refine l3.mono ?_;rintro e w4 ⟨w,D2,rfl,s,z7,u⟩;refine Hid.out ?_)
 have e4:=C.out.r4 s
 have l5:=s3.out _ _ _ s
 have z:=z7.get x7
 replace u:Hid _:=u
 clear l3 z7 x7 d4 z0 z1 z2 z3 z4 s
 refine Lib.hid ?_
 go_wp2_with (go_at_call 28;refine l5.mono ?_;rintro e w5 ⟨m3,D3,rfl,w0,z6,t,y⟩;refine Hid.out ?_)
 have x9:m3.co[i]?=some ⟨9,r,0,0⟩:=by rw[t,List.getElem?_append_left (List.getElem?_eq_some_iff.1 z).1];exact z
 have f:i<w.co.length:=(List.getElem?_eq_some_iff.1 z).1
 have l:m3.co[w.co.length]?=some ⟨8,0,0,0⟩:=by rw[t];exact a8b
 replace z6:Hid _:=z6
 obtain⟨i2,x4⟩:∃i2,w.co.length=i2:=⟨_,rfl⟩
 rw[x4]at l f y⊢
 have l4:=s4.out _ _ _ _ _ _ _ w0 k1 x9 (.inl rfl) v8
 clear l5 t z x4 e4 x9
 replace l:Hid _:=l
 replace f:Hid _:=f
 replace y:Hid _:=y
 refine Lib.hid ?_
 go_wp2_with (go_at_call 93;refine l4.mono ?_;rintro e w6 ⟨x,m4,D4,rfl,d,y9⟩;refine Hid.out ?_)
 have d4:=C.out.r4 d
 obtain⟨z0,z1,z2,z3,z4⟩:=r2.out d
 have y4:m4.us=m.us:=by have b:=u.out;have c:=z6.out;rw[y9];show m3.us=_;omega
 have z5:m4.co[i2]?=some ⟨8,0,0,0⟩:=by have:=f.out;rw[y9];show(m3.co.set i x)[i2]?=_;rw[List.getElem?_set_ne (by omega)];exact l.out
 have l6:=s5.out _ _ _ d y4
 clear l4 y9 w0 y4 d
 replace z5:Hid _:=z5
 refine Lib.hid ?_
 go_wp2_with (go_at_call 22;refine l6.mono ?_;rintro e w7 ⟨m5,D5,rfl,w3,y5,_⟩;refine Hid.out ?_)
 have l7:=s4.out _ _ _ _ _ _ _ w3 k2 (y5.get z5.out) (.inr rfl) y.out
 clear l6 y5 d4 z0 z1 z2 z3 z4 w3
 refine Lib.hid ?_
 go_wp2_with (go_at_call 93;refine l7.mono ?_;rintro e w8 ⟨x8,m6,D6,rfl,v5,_⟩)
 go_end0
 exact v5.done k2 k3 rfl
end
section
variable {w1:World} {B nf:Nat} {D:Nat->Prop} {m:Ma} {W:World}
theorem okA{r nc nl i:Nat}{op a b c:Int}(h:21<=op/\op<=29)(ha:rgO r a)(hb:rgO r b)(hc:rgO r c):okQ r nc nl i ⟨op,a,b,c⟩:=.inr (.inr (.inr (.inr (.inr (.inr (.inr ⟨.inr (.inr (.inr h)),ha,hb,hc⟩))))))
structure G3 (u:Nat) (fi la sp:Int) (m:Ma):Prop where
 a:rgO m.rg fi
 b:rgO m.rg la
 c:rgO m.rg sp
 u:m.us=u
theorem G3.on{u:Nat}{fi la sp:Int}{m m':Ma}{ko kc:Nat}(h:G3 u fi la sp m)(hx:Ex m m' ko kc)(hu:m'.us=m.us):G3 u fi la sp m':=⟨h.a.mono hx.rg,h.b.mono hx.rg,h.c.mono hx.rg,hu.trans h.u⟩
theorem c4h{n:Nat}(hE:EC w1 B nf n)(hB:BC w1 B nf n)(p:Pt)(b:Option Addr)(cap:Nat)(hk:p.k=10)(hn:hgt p<=n+1)(hp:Pq nf p)(hK:PK tt w1 p.kids b cap)(h:Mq w1 B D m W)(hi:Inv nf m)(hr:Rm m (8*hgt p+mxp p) (cnt p)):Cl 64 #[pM B,ptv p b cap] W (SZ w1 B nf D m W p):=by
 have t8:p.kids.length=3:=by
  have:=hp.head.1
  unfold a0r at this
  omega
 obtain⟨d,y1,y2,z7⟩:∃d y1 y2,p.kids=[d,y1,y2]:=by
  match z7:p.kids,t8 with
  | [d,y1,y2],_=>exact⟨d,y1,y2,rfl⟩
 have v0:p.kids[0]?=some d:=by rw[z7];rfl
 have v1:p.kids[1]?=some y1:=by rw[z7];rfl
 have v2:p.kids[2]?=some y2:=by rw[z7];rfl
 obtain⟨o5,f0⟩:=hp.kid v0
 obtain⟨o6,f1⟩:=hp.kid v1
 obtain⟨p0,f2⟩:=hp.kid v2
 have n6:a1i d.k:=by unfold a0w at f0;rw[hk]at f0;simpa using f0
 have n7:a1i y1.k:=by unfold a0w at f1;rw[hk]at f1;simpa using f1
 have n8:y2.k=4:=by unfold a0w at f2;rw[hk]at f2;simpa using f2
 obtain⟨g,z9,b0,v4,rfl,n3,o2,l0⟩:=PK.kid hK v0
 obtain⟨g',p6,b1,v5,e1,_,o3,l6⟩:=PK.kid hK v1
 cases e1
 obtain⟨g',p6,b2,z4,e2,_,o4,l7⟩:=PK.kid hK v2
 cases e2
 have h3:=a1t v0
 have h4:=a1t v1
 have h5:=a1t v2
 have h9:=d2k hk z7
 have q3:=hp.head.2.2.2.2.1 (.inr (.inr hk))
 have m0:cnt p=cnt d+cnt y1+cnt y2+1:=by rw[a2v,z7,a1d,a1d,a1d,a3m];omega
 have l8:=a2v y2
 have l:4*cnt p=4*cnt d+4*cnt y1+4*cntL y2.kids+8:=by omega
 have y9:cnt p=cnt d+cnt y1+cntL y2.kids+2:=by omega
 have l9:3<=cap:=by have:=hK.1.1;rw[z7]at this;exact this
 have f9:(3:Int)<=(cap:Int):=by omega
 obtain⟨w0,p1⟩:∃w0,W.alloc (.cells #[vi p.k,.string p.t,vi p.n,vi p.sl,.slice (some (Ad g z9)) 3 cap] 47)=w0:=⟨_,rfl⟩
 have k8:Bw W w0:=by rw[<- p1];exact q1z bz0 _
 have g0:w0.heap[W.heap.size]?=some (.cells #[vi p.k,.string p.t,vi p.n,vi p.sl,.slice (some (Ad g z9)) 3 cap] 47):=by rw[<- p1];exact new1 _ _
 obtain⟨os,q2⟩:∃os:List (Nat×Obj),os=[(W.heap.size,.cells #[vi p.k,.string p.t,vi p.n,vi p.sl,.slice (some (Ad g z9)) 3 cap] 47)]:=⟨_,rfl⟩
 have hA:=At.begin (os:=os) h hi k8 (fun q hq=>by rw[q2]at hq;simp at hq;subst hq;exact⟨g0,Nat.le_refl _⟩)
 have y7:∀{ko kc:Nat} {D1:Nat->Prop} {m1:Ma} {V:World},At w1 B nf D m W os ko kc D1 m1 V->In5 V W.heap.size (vi p.k) (.string p.t) (vi p.n) (vi p.sl) (.slice (some (Ad g z9)) 3 cap):=fun r=>in5 (r.at 0 (by rw[q2];rfl))
 have q7:∀{ko kc:Nat} {D1:Nat->Prop} {m1:Ma} {V:World},At w1 B nf D m W os ko kc D1 m1 V->KC V d g z9 b0 v4:=fun r=>by simpa using l0 _ r.mq.bl
 have q8:∀{ko kc:Nat} {D1:Nat->Prop} {m1:Ma} {V:World},At w1 B nf D m W os ko kc D1 m1 V->KC V y1 g (z9+5) b1 v5:=fun r=>by simpa using l6 _ r.mq.bl
 have l2:=hr.co
 have l3:=hr.us
 have l4:=hr.cs
 have s1:=hA.declare (by omega) p (some (Ad g z9)) cap q3.1 q3.2
 have s2:=fun V (m1:Ma) (D1:Nat->Prop) (r:At w1 B nf D m W os 0 0 D1 m1 V) (hu:m1.us<=m.us+2)=>r.take (by omega)
 have s4:∀V (m1:Ma) (D1:Nat->Prop) (o la w:Int),At w1 B nf D m W os 0 0 D1 m1 V->G3 (m.us+3) o la w m1->Cl 59 #[pM B,ptv d b0 v4,vi o] V fun e V2=>∃y D2,e=.returned (.tuple #[])/\At w1 B nf D m W os (0+4*cnt d) (0+cnt d) D2 y V2/\G3 (m.us+3) o la w y:=fun V m1 D1 o la w r hG=>by
  have hu:=hG.u
  refine(r.expr hE d b0 v4 o hG.a (by omega) o5 n6 o2 (hr.on r.ex (by omega) (by omega) (by omega))).mono ?_
  rintro e V2 ⟨y,D2,rfl,f,v,s⟩
  exact⟨y,D2,rfl,f,hG.on v s⟩
 have s5:∀V (m1:Ma) (D1:Nat->Prop) (o la w:Int),At w1 B nf D m W os (0+4*cnt d) (0+cnt d) D1 m1 V->G3 (m.us+3) o la w m1->Cl 59 #[pM B,ptv y1 b1 v5,vi la] V fun e V2=>∃y D2,e=.returned (.tuple #[])/\At w1 B nf D m W os (0+4*cnt d+4*cnt y1) (0+cnt d+cnt y1) D2 y V2/\G3 (m.us+3) o la w y:=fun V m1 D1 o la w r hG=>by
  have hu:=hG.u
  refine(r.expr hE y1 b1 v5 la hG.b (by omega) o6 n7 o3 (hr.on r.ex (by omega) (by omega) (by omega))).mono ?_
  rintro e V2 ⟨y,D2,rfl,f,v,s⟩
  exact⟨y,D2,rfl,f,hG.on v s⟩
 have sO:∀V (m1:Ma) (D1:Nat->Prop) (ko kc:Nat) (o la w:Int) (q:Q4),At w1 B nf D m W os ko kc D1 m1 V->G3 (m.us+3) o la w m1->ko+1<=4*cnt p->okQ m1.rg m1.cs.length (m1.co.length+1) m1.co.length q->Cl 28 #[pM B,vi q.op,vi q.a,vi q.b,vi q.c] V fun e V2=>∃y D2,e=.returned (vi (m1.co.length:Nat))/\At w1 B nf D m W os (ko+1) kc D2 y V2/\G3 (m.us+3) o la w y/\Ex m1 y 1 0/\y.co[m1.co.length]?=some q/\m.co.length<=m1.co.length:=fun V m1 D1 ko kc o la w q r hG h6 hq=>by
  have l1:=r.ex.lco
  refine(r.order (by omega) q hq).mono ?_
  rintro e V2 ⟨y,D2,rfl,f,v,s,h2⟩
  exact⟨y,D2,rfl,f,hG.on v s,v,by rw[h2];exact a8b,l1.1⟩
 have sB:=fun V (hc:KC V y2 g (z9+2*5) b2 z4) (hg:g<V.heap.size)=>body_any p g z9 cap 2 t8 (by omega) y2 b2 z4 V hc hg
 have q9:∀{ko kc:Nat} {D1:Nat->Prop} {m1:Ma} {V:World},At w1 B nf D m W os ko kc D1 m1 V->KC V y2 g (z9+2*5) b2 z4/\g<V.heap.size:=fun r=>⟨l7 _ r.mq.bl,Nat.lt_of_lt_of_le n3 r.mq.bl.size⟩
 have y5:∀V (m1:Ma) (D1:Nat->Prop) (o la w:Int),At w1 B nf D m W os (0+4*cnt d+4*cnt y1+1+1+1) (0+cnt d+cnt y1) D1 m1 V->G3 (m.us+3) o la w m1->Cl 22 #[pM B,ptv y2 b2 z4] V fun e V2=>∃y D2,e=.returned (.tuple #[])/\At w1 B nf D m W os (0+4*cnt d+4*cnt y1+1+1+1+4*cntL y2.kids) (0+cnt d+cnt y1+cntL y2.kids) D2 y V2/\G3 (m.us+3) o la w y/\Ex m1 y (4*cntL y2.kids) (cntL y2.kids):=fun V m1 D1 o la w r hG=>by
  have hu:=hG.u
  refine(r.block hB y2 b2 z4 (by omega) p0 n8 o4 (hr.on r.ex (by omega) (by omega) (by omega))).mono ?_
  rintro e V2 ⟨y,D2,rfl,f,v,s⟩
  exact⟨y,D2,rfl,f,hG.on v s,v⟩
 have v3:∀V (m1:Ma) (D1:Nat->Prop) (ko kc:Nat) (o la w:Int),At w1 B nf D m W os ko kc D1 m1 V->G3 (m.us+3) o la w m1->ko+1<=4*cnt p->kc+1<=cnt p->Cl 27 #[pM B,val 2 1 E0,vi w] V fun e V2=>∃y D2,e=.returned (.tuple #[])/\At w1 B nf D m W os (ko+1) (kc+1) D2 y V2/\G3 (m.us+3) o la w y/\Ex m1 y 1 1:=fun V m1 D1 ko kc o la w r hG h6 g1=>by
  have l1:=r.ex.lco
  have l5:=r.ex.lcs
  refine(r.const (intW 1 (by omega)) (c3j _ _) w hG.c (by omega) (by omega)).mono ?_
  rintro e V2 ⟨y,D2,rfl,f,v,s⟩
  exact⟨y,D2,rfl,f,hG.on v s,v⟩
 have sL:∀(V:World) (m1:Ma) (D1:Nat->Prop) (ko kc i:Nat) (q:Q4),At w1 B nf D m W os ko kc D1 m1 V->ko<=4*cnt p->m1.co[i]?=some q->(q.op=9\/q.op=8)->m.co.length<=i->Cl 93 #[pM B,vi (i:Nat)] V fun e V2=>∃x y D2,e=.returned (.tuple #[])/\At w1 B nf D m W os ko kc D2 y V2/\y={ m1 with co:=m1.co.set i x }:=fun V m1 D1 ko kc i q r hk hq ho hi=>by
  have l1:=r.ex.lco
  exact r.landed hq ho (by omega) hi
 have cI:=y7 hA
 obtain⟨c0,c1,c2,c3,c4,_,_,_,_,_⟩:=cI
 replace s2:Hid _:=s2
 replace s4:Hid _:=s4
 replace s5:Hid _:=s5
 replace sO:Hid _:=sO
 replace sB:Hid _:=sB
 replace y5:Hid _:=y5
 replace v3:Hid _:=v3
 replace sL:Hid _:=sL
 replace y7:Hid _:=@y7
 replace q7:Hid _:=@q7
 replace q8:Hid _:=@q8
 replace q9:Hid _:=@q9
 replace l:Hid _:=l
 replace y9:Hid _:=y9
 simp only[a0x,t8]at s1 s4 s5 sB y5⊢
 clear hE hB hp hn hK h hi hr k8 g0 z7 v0 v1 v2 o5 o6 p0 h3 h4 h5 h9 m0 l8 l9 t8 hA q2 o2 o3 o4 l0 l6 l7 n6 n7 n8 hk f0 f1 f2 l2 l3 l4 q3 n3
 go_enter Tryz.func64,Tryz.ntmps64
 go_wp2_with (go_at_call 21;refine s1.mono ?_;rintro e w1 ⟨m1,D1,rfl,j3,i3,x7,m9⟩;refine Hid.out ?_)
 have t2:=s2.out _ _ _ j3 (by omega)
 replace x7:Hid _:=x7
 clear s1 c0 c1 c2 c3 c4
 refine Lib.hid ?_
 go_wp2_with (go_at_call 26;refine t2.mono ?_;rintro e w2 ⟨y,D2,rfl,f,v,s,n0⟩;refine Hid.out ?_)
 have t3:=s2.out _ _ _ f (by have:=x7.out;omega)
 replace s:Hid _:=s
 clear t2
 refine Lib.hid ?_
 go_wp2_with (go_at_call 26;refine t3.mono ?_;rintro e w3 ⟨m3,D3,rfl,t6,q5,i2,n1⟩;refine Hid.out ?_)
 have p7:G3 (m.us+3) (m.us:Nat) (m1.us:Nat) (y.us:Nat) m3:=⟨m9.mono (Nat.le_trans v.rg q5.rg),n0.mono q5.rg,n1,by have a:=x7.out;have b:=s.out;omega⟩
 clear t3 s2 j3 f i3 v q5 x7 s i2 m9 n0 n1
 obtain⟨o,p9⟩:∃o:Int,((m.us:Nat):Int)=o:=⟨_,rfl⟩
 obtain⟨la,q0⟩:∃la:Int,((m1.us:Nat):Int)=la:=⟨_,rfl⟩
 obtain⟨w,q4⟩:∃w:Int,((y.us:Nat):Int)=w:=⟨_,rfl⟩
 rw[p9,q0,q4]at p7
 rw[p9,q0,q4]
 clear p9 q0 q4
 obtain⟨c0,c1,c2,c3,c4,_,_,_,_,_⟩:=y7.out t6
 obtain⟨k0,k1,k2,k3,k4⟩:=q7.out t6
 have z:=s4.out _ _ _ _ _ _ t6 p7
 clear p7 t6 s4
 refine Lib.hid ?_
 go_wp2_with (go_at_call 59;refine z.mono ?_;rintro e w4 ⟨m4,D4,rfl,t7,k6⟩;refine Hid.out ?_)
 clear z
 clear c0 c1 c2 c3 c4 k0 k1 k2 k3 k4
 obtain⟨c0,c1,c2,c3,c4,_,_,_,_,_⟩:=y7.out t7
 obtain⟨k0,k1,k2,k3,k4⟩:=q8.out t7
 have z:=s5.out _ _ _ _ _ _ t7 k6
 clear k6 t7 s5
 refine Lib.hid ?_
 go_wp2_with (go_at_call 59;refine z.mono ?_;rintro e w5 ⟨m5,D5,rfl,j6,v7⟩;refine Hid.out ?_)
 clear z
 clear c0 c1 c2 c3 c4 k0 k1 k2 k3 k4
 have z:=sO.out _ _ _ _ _ _ _ _ ⟨21,w,o,la⟩ j6 v7 (by have:=l.out;omega) (okA (by decide) v7.c v7.a v7.b)
 refine Lib.hid ?_
 go_wp2_with (go_at_call 28;refine z.mono ?_;rintro e w6 ⟨m6,D6,rfl,j7,v8,i4,i0,h7⟩;refine Hid.out ?_)
 clear z
 clear j6 v7 i4 i0 h7
 have z:=sO.out _ _ _ _ _ _ _ _ ⟨29,w,o,la⟩ j7 v8 (by have:=l.out;omega) (okA (by decide) v8.c v8.a v8.b)
 refine Lib.hid ?_
 go_wp2_with (go_at_call 28;refine z.mono ?_;rintro e w7 ⟨m7,D7,rfl,j8,p8,i5,i1,h8⟩;refine Hid.out ?_)
 clear z
 clear j7 v8 i5 i1 h8
 have z:=sO.out _ _ _ _ _ _ _ _ ⟨9,w,0,0⟩ j8 p8 (by have:=l.out;omega) (okT p8.c)
 refine Lib.hid ?_
 go_wp2_with (go_at_call 28;refine z.mono ?_;rintro e w8 ⟨m8,D8,rfl,y6,k7,i6,x6,t9⟩;refine Hid.out ?_)
 clear z
 clear j8 p8 i6
 obtain⟨i8,n5⟩:∃i8,m7.co.length=i8:=⟨_,rfl⟩
 rw[n5]at x6 t9⊢
 clear n5
 obtain⟨_,_,ia,ic,cM⟩:=y6.mq.mc
 have j2:=cM.co
 clear cM
 have n4:m.co.length<=m8.co.length:=y6.ex.lco.1
 obtain⟨hd,v9⟩:∃hd,m8.co.length=hd:=⟨_,rfl⟩
 rw[v9]at j2
 replace v9:Hid _:=v9
 replace x6:Hid _:=x6
 replace t9:Hid _:=t9
 replace n4:Hid _:=n4
 obtain⟨c0,c1,c2,c3,c4,_,_,_,_,_⟩:=y7.out y6
 obtain⟨kb,n2⟩:=q9.out y6
 have z:=sB.out _ kb n2
 clear kb n2 sB
 refine Lib.hid ?_
 go_wp2_with (go_at_call 23;refine z.mono ?_;rintro e w9 ⟨rfl,k9⟩;refine Hid.out ?_)
 clear z
 have j9:=y6.below k9
 have z:=y5.out _ _ _ _ _ _ j9 k7
 clear y6 k9 c0 c1 c2 c3 c4 j2 y5
 refine Lib.hid ?_
 go_wp2_with (go_at_call 22;refine z.mono ?_;rintro e g3 ⟨p2,e8,rfl,r0,z5,x8⟩;refine Hid.out ?_)
 clear z
 have t1:Hid _:=x8.get x6.out
 have s0:Hid (hd<=p2.co.length):=by have a:=x8.lco.1;have b:=v9.out;exact(by omega:hd<=p2.co.length)
 clear j9 k7 x8 x6 v9
 have z:=sO.out _ _ _ _ _ _ _ _ ⟨28,w,o,la⟩ r0 z5 (by have:=l.out;omega) (okA (by decide) z5.c z5.a z5.b)
 refine Lib.hid ?_
 go_wp2_with (go_at_call 28;refine z.mono ?_;rintro e g4 ⟨q6,e9,rfl,r1,v6,x9,o7,n9⟩;refine Hid.out ?_)
 clear z
 have z3:Hid _:=x9.get t1.out
 have s3:Hid (hd<=q6.co.length):=by have a:=x9.lco.1;have b:=s0.out;exact(by omega:hd<=q6.co.length)
 clear r0 z5 t1 x9 o7 n9 s0
 have z:=sO.out _ _ _ _ _ _ _ _ ⟨9,w,0,0⟩ r1 v6 (by have:=l.out;omega) (okT v6.c)
 refine Lib.hid ?_
 go_wp2_with (go_at_call 28;refine z.mono ?_;rintro e j0 ⟨p3,f3,rfl,r2,r7,y3,z8,z0⟩;refine Hid.out ?_)
 clear z
 obtain⟨y8,s9⟩:∃y8,q6.co.length=y8:=⟨_,rfl⟩
 have q1:Hid (i8<y8):=by have a:=(List.getElem?_eq_some_iff.1 z3.out).1;exact(by omega:i8<y8)
 rw[s9]at z8 z0⊢
 have x0:Hid _:=y3.get z3.out
 have s6:Hid (hd<=p3.co.length):=by have a:=y3.lco.1;have b:=s3.out;exact(by omega:hd<=p3.co.length)
 clear r1 v6 z3 y3 s3 s9
 replace z8:Hid _:=z8
 replace z0:Hid _:=z0
 have z:=number_any 1 j0
 refine Lib.hid ?_
 go_wp2_with (go_at_call 94;refine z.mono ?_;rintro e g5 ⟨rfl,r9⟩;refine Hid.out ?_)
 clear z
 have r3:=r2.below r9
 have z:=v3.out _ _ _ _ _ _ _ _ r3 r7 (by have:=l.out;omega) (by have:=y9.out;omega)
 clear r2 r9 v3
 refine Lib.hid ?_
 go_wp2_with (go_at_call 27;refine z.mono ?_;rintro e g6 ⟨p4,f4,rfl,r4,z6,z1⟩;refine Hid.out ?_)
 clear z
 have t4:Hid _:=z1.get x0.out
 have x1:Hid _:=z1.get z8.out
 have s7:Hid (hd<=p4.co.length):=by have a:=z1.lco.1;have b:=s6.out;exact(by omega:hd<=p4.co.length)
 clear r3 r7 z8 x0 z1 s6
 have z:=sO.out _ _ _ _ _ _ _ _ ⟨21,o,o,w⟩ r4 z6 (by have:=l.out;omega) (okA (by decide) z6.a z6.a z6.c)
 refine Lib.hid ?_
 go_wp2_with (go_at_call 28;refine z.mono ?_;rintro e g7 ⟨p5,f5,rfl,r5,r8,z2,o8,o0⟩;refine Hid.out ?_)
 clear z
 have x2:Hid _:=z2.get t4.out
 have x3:Hid _:=z2.get x1.out
 have s8:Hid (hd<=p5.co.length):=by have a:=z2.lco.1;have b:=s7.out;exact(by omega:hd<=p5.co.length)
 clear r4 z6 t4 x1 z2 s7 o8 o0
 have z:=sO.out _ _ _ _ _ _ _ _ ⟨10,(hd:Nat),0,0⟩ r5 r8 (by have:=l.out;omega) (.inr (.inr (.inl ⟨rfl,by show(0:Int)<=(hd:Nat);omega,by have:=s8.out;show((hd:Nat):Int)<=_;omega,rfl,rfl⟩)))
 refine Lib.hid ?_
 go_wp2_with (go_at_call 28;refine z.mono ?_;rintro e g8 ⟨i7,f6,rfl,r6,k5,y4,o9,o1⟩;refine Hid.out ?_)
 clear z
 have x4:=y4.get x2.out
 have x5:Hid _:=y4.get x3.out
 clear r5 r8 x2 x3 y4 s8 o9 o1 sO
 have z:=sL.out _ _ _ _ _ _ _ r6 (by have:=l.out;omega) x4 (.inl rfl) t9.out
 clear x4
 refine Lib.hid ?_
 go_wp2_with (go_at_call 93;refine z.mono ?_;rintro e g9 ⟨j1,i9,f7,rfl,j4,t0⟩;refine Hid.out ?_)
 clear z
 have t5:i9.co[y8]?=some ⟨9,w,0,0⟩:=by have:=q1.out;rw[t0];show(i7.co.set i8 j1)[y8]?=_;rw[List.getElem?_set_ne (by omega)];exact x5.out
 have z:=sL.out _ _ _ _ _ _ _ j4 (by have:=l.out;omega) t5 (.inl rfl) z0.out
 clear r6 k5 t0 x5 t5 sL
 refine Lib.hid ?_
 go_wp2_with (go_at_call 93;refine z.mono ?_;rintro e h0 ⟨h1,g2,f8,rfl,j5,_⟩)
 go_end0
 exact j5.done (by have:=l.out;omega) (by have:=y9.out;omega) rfl
end
structure Cb2 (D:Nat->Prop) (W:World) (B:Nat) (p:Pt) (b:Option Addr) (cap:Nat) (P M:Nat):Prop where
 p:W.heap[P]?=some (pbx p b cap)
 m:W.heap[M]?=some (.cells #[pM B] 64)
 np:¬D P
 nm:¬D M
abbrev cbo2 (B:Nat) (p:Pt) (b:Option Addr) (cap:Nat) (P M:Nat):List (Nat×Obj):=[(P,pbx p b cap),(M,.cells #[pM B] 64)]
abbrev clo2 (P M:Nat):Array Value:=#[Po P 0,Po M 0]
section
variable {w1:World} {B nf:Nat} {D:Nat->Prop} {m:Ma} {W:World}
theorem Cb2.at{cap:Nat}{P M:Nat}(h:Cb2 D W B p b cap P M)(hM:Mq w1 B D m W)(hi:Inv nf m):At w1 B nf D m W (cbo2 B p b cap P M) 0 0 D m W :=
 At.begin' hM hi fun q hq=>by
  simp at hq
  rcases hq with rfl|rfl
  ·exact⟨h.p,h.np⟩
  ·exact⟨h.m,h.nm⟩
structure Cr2 (V:World) (B:Nat) (p:Pt) (b:Option Addr) (cap:Nat) (P M:Nat):Prop where
 p0:V.cell? (Ad P 0)=some (vi p.k)
 p1:V.cell? (Ad P 1)=some (.string p.t)
 p2:V.cell? (Ad P 2)=some (vi p.n)
 p3:V.cell? (Ad P 3)=some (vi p.sl)
 p4:V.cell? (Ad P 4)=some (.slice b p.kids.length cap)
 m:V.cell? (Ad M 0)=some (Po B 0)
theorem At.cr2{D0 D1:Nat->Prop}{m0 m1:Ma}{W0:World}{ko kc:Nat}{cap:Nat}{P M:Nat}(h:At w1 B nf D0 m0 W0 (cbo2 B p b cap P M) ko kc D1 m1 V):Cr2 V B p b cap P M:=by
 obtain⟨c0,c1,c2,c3,c4,_,_,_,_,_⟩:=in5 (h.at 0 rfl)
 exact⟨c0,c1,c2,c3,c4,q2z (h.at 1 rfl) rfl⟩
theorem d5v{n:Nat}(hE:EC w1 B nf n)(hB:BC w1 B nf n){cap:Nat}(hk:p.k=8)(hn:hgt p<=n+1)(hp:Pq nf p)(hK:PK tt w1 p.kids b cap)(h:Mq w1 B D m W)(hi:Inv nf m)(hr:Rm m (8*hgt p+mxp p) (cnt p)):Cl 62 #[pM B,ptv p b cap] W (SZ w1 B nf D m W p):=by
 have z:p.kids.length=2\/p.kids.length=3:=by
  have:=hp.head.1
  unfold a0r at this
  omega
 match hks:p.kids,z with
 | [y0,y1],_=>exact b9u hE hB p b cap y0 y1 hks hk hn hp hK h hi hr
 | [y0,y1,y2],_=>exact b4i hE hB p b cap y0 y1 y2 hks hk hn hp hK h hi hr
theorem st_8{n:Nat}(hE:EC w1 B nf n)(hB:BC w1 B nf n){cap:Nat}{P M:Nat}(hk:p.k=8)(hn:hgt p<=n+1)(hp:Pq nf p)(hK:PK tt w1 p.kids b cap)(hc:Cb2 D W B p b cap P M)(h:Mq w1 B D m W)(hi:Inv nf m)(hr:Rm m (8*hgt p+mxp p) (cnt p)):Cl 60 (clo2 P M) W (SZ w1 B nf D m W p):=by
 obtain⟨p0,p1,p2,p3,p4,w⟩:=(hc.at h hi).cr2
 have y:=d5v hE hB hk hn hp hK h hi hr
 rw[hk]at p0
 simp only[a0x,hk]at y
 clear hp hc h hi hr hK hE hB hn
 go_enter Tryz.func60,Tryz.ntmps60
 go_wp2_with (go_at_call 62;refine y.mono ?_;intro e x hq;obtain⟨rfl,z⟩:=a8z hq)
 go_end0
 exact z
theorem st_9{n:Nat}(hE:EC w1 B nf n)(hB:BC w1 B nf n){cap:Nat}{P M:Nat}(hk:p.k=9)(hn:hgt p<=n+1)(hp:Pq nf p)(hK:PK tt w1 p.kids b cap)(hc:Cb2 D W B p b cap P M)(h:Mq w1 B D m W)(hi:Inv nf m)(hr:Rm m (8*hgt p+mxp p) (cnt p)):Cl 60 (clo2 P M) W (SZ w1 B nf D m W p):=by
 obtain⟨p0,p1,p2,p3,p4,w⟩:=(hc.at h hi).cr2
 have y:=c4g hE hB p b cap hk hn hp hK h hi hr
 rw[hk]at p0
 simp only[a0x,hk]at y
 clear hp hc h hi hr hK hE hB hn
 go_enter Tryz.func60,Tryz.ntmps60
 go_wp2_with (go_at_call 63;refine y.mono ?_;intro e x hq;obtain⟨rfl,z⟩:=a8z hq)
 go_end0
 exact z
theorem d8c{n:Nat}(hE:EC w1 B nf n)(hB:BC w1 B nf n){cap:Nat}{P M:Nat}(hk:p.k=10)(hn:hgt p<=n+1)(hp:Pq nf p)(hK:PK tt w1 p.kids b cap)(hc:Cb2 D W B p b cap P M)(h:Mq w1 B D m W)(hi:Inv nf m)(hr:Rm m (8*hgt p+mxp p) (cnt p)):Cl 60 (clo2 P M) W (SZ w1 B nf D m W p):=by
 obtain⟨p0,p1,p2,p3,p4,w⟩:=(hc.at h hi).cr2
 have y:=c4h hE hB p b cap hk hn hp hK h hi hr
 rw[hk]at p0
 simp only[a0x,hk]at y
 clear hp hc h hi hr hK hE hB hn
 go_enter Tryz.func60,Tryz.ntmps60
 go_wp2_with (go_at_call 64;refine y.mono ?_;intro e x hq;obtain⟨rfl,z⟩:=a8z hq)
 go_end0
 exact z
theorem st_6{n:Nat}(hE:EC w1 B nf n)(hB:BC w1 B nf n){cap:Nat}{P M:Nat}(hk:p.k=6)(hn:hgt p<=n+1)(hp:Pq nf p)(hK:PK tt w1 p.kids b cap)(hc:Cb2 D W B p b cap P M)(h:Mq w1 B D m W)(hi:Inv nf m)(hr:Rm m (8*hgt p+mxp p) (cnt p)):Cl 60 (clo2 P M) W (SZ w1 B nf D m W p):=by
 have d:p.kids.length=2:=by
  have:=hp.head.1
  unfold a0r at this
  omega
 obtain⟨y,z,t⟩:∃y z,p.kids=[y,z]:=by
  match t:p.kids,d with
  | [y,z],_=>exact⟨y,z,rfl⟩
 have s:p.kids[0]?=some y:=by rw[t];rfl
 have q:p.kids[1]?=some z:=by rw[t];rfl
 obtain⟨o,f0⟩:=hp.kid s
 obtain⟨i,f1⟩:=hp.kid q
 have c:a1i z.k:=by unfold a0w at f1;rw[hk]at f1;simpa using f1
 obtain⟨x,hx,z8⟩:=hp.head.2.2.2.2.2.1 hk
 rw[s]at hx
 cases hx
 obtain⟨g,z9,b0,u,rfl,x8,z7,y9⟩:=PK.kid hK s
 obtain⟨g',x5,b1,w,e1,_,f,z5⟩:=PK.kid hK q
 cases e1
 have x9:=a1t s
 have y2:=a1t q
 have x7:cnt p=cnt y+cnt z+1:=by rw[a2v,t,a1d,a1d,a3m];omega
 have z6:2<=cap:=by have:=hK.1.1;rw[t]at this;exact this
 have x4:(2:Int)<=(cap:Int):=by omega
 have a:=hc.at h hi
 have y3:=a6h y
 have l:Rm m (8*(hgt p-1)+8) (cnt y+cnt z+1):=hr.on (Ex.refl m) (by omega) (by omega) (by omega)
 have hg:Cl 61 #[pM B,ptv y b0 u,ptv z b1 w] W.drew (MZ w1 B nf D m W.drew (4*(cnt y+cnt z+1)) (cnt y+cnt z+1) fun _ v=>v=.tuple #[]):=by
  rcases z8 with e|e
  ·obtain⟨z0,z1,hz,y5,y6⟩:=a9h o (.inl e)
   exact c4e hE y z z0 z1 b0 b1 u w e hz y5 y6 o i c (h:=hgt p-1) (by omega) (by omega) (by omega) z7 f a.drew.mq hi l
  ·exact c8c hE y z b0 b1 u w e.1 e.2 o i c (h:=hgt p-1) (by omega) (by omega) f a.drew.mq hi l
 have r:∀e V,MZ w1 B nf D m W.drew (4*(cnt y+cnt z+1)) (cnt y+cnt z+1) (fun _ v=>v=.tuple #[]) e V->e=.returned (.tuple #[])/\SZ w1 B nf D m W p (.returned (.tuple #[])) V:=fun e V hz=>by
  obtain⟨v,m',D',rfl,x6,hI,hX,hC,rfl⟩:=hz
  exact⟨rfl,_,m',D',rfl,x6,hI,hX.trans (Ex.refl m') (by omega) (by omega),(CK.below bz0.drew).trans hC,rfl⟩
 obtain⟨o0,_,_,_,_,_⟩:=a.cr2
 obtain⟨p0,p1,p2,p3,p4,cm⟩:=a.drew.cr2
 have y7:KC W.drew y g z9 b0 u:=by simpa using y9 _ a.drew.mq.bl
 have y8:KC W.drew z g (z9+5) b1 w:=by simpa using z5 _ a.drew.mq.bl
 obtain⟨a0,a1,a2,a3,a4⟩:=y7
 obtain⟨z0,z1,z2,z3,z4⟩:=y8
 rw[hk]at o0
 rw[d]at p4
 simp only[a0x]at hg
 replace r:Hid _:=r
 clear hp hc h hi hr l hK hE hB hn t s q o i f0 f1 c z8 z7 f y9 z5 x9 y2 x7 z6 a y3 d p0 p1 p2 p3 x8
 go_enter Tryz.func60,Tryz.ntmps60
 go_wp2
 refine wp_region_still_tail 9 (by kernel_rfl) (by kernel_rfl) ?_
 change wpStill _ _ W.drew _ _ _
 simp only[List.take_succ_cons,List.take_zero,List.drop_succ_cons,List.drop_zero]
 repeat still_step
 refine wpStill_nil ?_
 go_wp2_with (go_at_call 61;refine hg.mono ?_;intro e w3 hq;obtain⟨rfl,y4⟩:=r.out _ _ hq)
 go_end0
 exact y4
theorem c4i{n:Nat}(hE:EC w1 B nf n){cap g off:Nat}{P M:Nat}(hks:p.kids=[y])(hy:a1i y.k)(hn:hgt p<=n+1)(hp:Pq nf p)(hK:PK tt w1 p.kids (some (Ad g off)) cap)(hc:Cb2 D W B p (some (Ad g off)) cap P M)(h:Mq w1 B D m W)(hi:Inv nf m)(hr:Rm m (8*hgt p+mxp p) (cnt p))(op:Int)(hop:op=12\/op=13):∃b' cap',(1:Int)<=cap /\
  (∀{ko kc:Nat} {D1:Nat->Prop} {m1:Ma} {V:World},At w1 B nf D m W (cbo2 B p (some (Ad g off)) cap P M) ko kc D1 m1 V->KC V y g off b' cap'/\V.cell? (Ad P 4)=some (.slice (some (Ad g off)) 1 cap)/\V.cell? (Ad M 0)=some (Po B 0)) /\
  (∀V,Bw W V->Cl 65 #[pM B,ptv y b' cap'] V fun e z=>∃r m1 D1,e=.returned (vi r)/\At w1 B nf D m W (cbo2 B p (some (Ad g off)) cap P M) (0+4*cnt y) (0+cnt y) D1 m1 z/\rgO m1.rg r) /\
  (∀(V:World) (m1:Ma) (D1:Nat->Prop) (r:Int),At w1 B nf D m W (cbo2 B p (some (Ad g off)) cap P M) (0+4*cnt y) (0+cnt y) D1 m1 V->rgO m1.rg r->Cl 28 #[pM B,vi op,vi r,vi 0,vi 0] V fun e z=>∃x D2,e=.returned (vi (m1.co.length:Nat))/\At w1 B nf D m W (cbo2 B p (some (Ad g off)) cap P M) (0+4*cnt y+1) (0+cnt y) D2 x z) /\
  (∀V,Bw W V->Cl 26 #[pM B] V fun e z=>∃m1 D1,e=.returned (vi (m.us:Nat))/\At w1 B nf D m W (cbo2 B p (some (Ad g off)) cap P M) 0 0 D1 m1 z/\m1.us=m.us+1/\rgO m1.rg (m.us:Nat)) /\
  (∀(V:World) (m1:Ma) (D1:Nat->Prop),At w1 B nf D m W (cbo2 B p (some (Ad g off)) cap P M) 0 0 D1 m1 V->m1.us=m.us+1->rgO m1.rg (m.us:Nat)->Cl 59 #[pM B,ptv y b' cap',vi (m.us:Nat)] V fun e z=>∃x D2,e=.returned (.tuple #[])/\At w1 B nf D m W (cbo2 B p (some (Ad g off)) cap P M) (0+4*cnt y) (0+cnt y) D2 x z/\x.us=m.us+1)/\0+4*cnt y+1<=4*cnt p/\0+cnt y<=cnt p:=by
 have v:p.kids[0]?=some y:=by rw[hks];rfl
 obtain⟨g',b,b',cap',e1,z6,o,d⟩:=PK.kid hK v
 cases e1
 have hA:=hc.at h hi
 have z5:cnt p=cnt y+1:=by rw[a2v,hks,a1d,a3m]
 have q:=(hp.kid v).1
 have z7:=a1t v
 have a:1<=cap:=by have:=hK.1.1;rw[hks]at this;exact this
 have i:Rm m (8*hgt y+1) (cnt y):=hr.on (Ex.refl m) (by omega) (by omega) (by omega)
 have z8:=hr.us
 refine⟨b',cap',by omega,fun w=>?_,fun V c=>?_,fun V m1 D1 r w f=>?_,fun V c=>?_,fun V m1 D1 w hu f=>?_,by omega,by omega⟩
 ·obtain⟨p0,p1,p2,p3,p4,cm⟩:=w.cr2
  rw[hks]at p4
  exact⟨by simpa using d _ w.mq.bl,p4,cm⟩
 ·refine((hA.below c).operand hE y b' cap' (by omega) q hy o i).mono ?_
  rintro e z ⟨r,m1,D1,rfl,s,_,u,_⟩
  exact⟨r,m1,D1,rfl,s,u⟩
 ·have l1:=w.ex.lco
  have l2:=hr.co
  refine(w.order (by omega) ⟨op,r,0,0⟩ (.inr (.inr (.inr (.inr (.inr (.inr (.inl ⟨by show op=3\/op=12\/op=13;omega,f,rfl,rfl⟩)))))))).mono ?_
  rintro e z ⟨x,D2,rfl,t,_,_,_⟩
  exact⟨x,D2,rfl,t⟩
 ·refine((hA.below c).take (by omega)).mono ?_
  rintro e z ⟨m1,D1,rfl,s,_,l,u⟩
  exact⟨m1,D1,rfl,s,l,u⟩
 ·refine(w.expr hE y b' cap' (m.us:Nat) f (by omega) q hy o (hr.on w.ex (by omega) (by omega) (by omega))).mono ?_
  rintro e z ⟨x,D2,rfl,t,_,z9⟩
  exact⟨x,D2,rfl,t,by omega⟩
theorem d8d{n:Nat}(hE:EC w1 B nf n)(hB:BC w1 B nf n){cap:Nat}{P M:Nat}(hk:p.k=11)(hn:hgt p<=n+1)(hp:Pq nf p)(hK:PK tt w1 p.kids b cap)(hc:Cb2 D W B p b cap P M)(h:Mq w1 B D m W)(hi:Inv nf m)(hr:Rm m (8*hgt p+mxp p) (cnt p)):Cl 60 (clo2 P M) W (SZ w1 B nf D m W p):=by
 obtain⟨y,w,hy⟩:=a7j hp (by omega)
 have o:p.kids[0]?=some y:=by rw[w];rfl
 obtain⟨g,z,_,_,rfl,_,_,_⟩:=PK.kid hK o
 obtain⟨b',cap',z9,x,s1,s2,c,q,f,i⟩:=c4i hE w hy hn hp hK hc h hi hr 12 (by omega)
 have d:=hc.at h hi
 obtain⟨p0,_,_,_,_,_⟩:=d.cr2
 obtain⟨⟨a0,a1,a2,a3,a4⟩,a,cm⟩:=x d.drew
 rw[hk]at p0
 simp only[a0x]at s1 q
 replace s1:Hid _:=s1
 replace s2:Hid _:=s2
 replace c:Hid _:=c
 replace q:Hid _:=q
 replace x:Hid _:=@x
 clear hp hc h hi hr hK hE hB hn w d
 go_enter Tryz.func60,Tryz.ntmps60
 go_wp2
 go_region_held3 (fun u=>u.cell? (Ad P 4)=some (.slice (some (Ad g z)) 1 cap)/\u.cell? (Ad M 0)=some (Po B 0)/\u.cell? (Ad g z)=some (vi y.k)/\u.cell? (Ad g (z+1))=some (.string y.t)/\u.cell? (Ad g (z+2))=some (vi y.n)/\u.cell? (Ad g (z+3))=some (vi y.sl)/\u.cell? (Ad g (z+4))=some (.slice b' y.kids.length cap')) (go_keep) (first|(go_at_call 65;refine(s1.out _ bz0.drew).mono ?_;rintro e w2 ⟨r,m1,D1,rfl,s,l⟩;obtain⟨⟨a0,a1,a2,a3,a4⟩,a,cm⟩:=x.out s)|(go_at_call 28;refine(s2.out _ _ _ _ s l).mono ?_;rintro e w3 ⟨m2,D2,rfl,v⟩;obtain⟨⟨a0,a1,a2,a3,a4⟩,a,cm⟩:=x.out v))
 go_wp2
 go_end0
 exact v.done f i rfl
theorem d8e{n:Nat}(hE:EC w1 B nf n)(hB:BC w1 B nf n){cap:Nat}{P M:Nat}(hk:p.k=12)(hn:hgt p<=n+1)(hp:Pq nf p)(hK:PK tt w1 p.kids b cap)(hc:Cb2 D W B p b cap P M)(h:Mq w1 B D m W)(hi:Inv nf m)(hr:Rm m (8*hgt p+mxp p) (cnt p)):Cl 60 (clo2 P M) W (SZ w1 B nf D m W p):=by
 obtain⟨y,w,hy⟩:=a7j hp (by omega)
 have o:p.kids[0]?=some y:=by rw[w];rfl
 obtain⟨g,z,_,_,rfl,_,_,_⟩:=PK.kid hK o
 obtain⟨b',cap',z9,x,s1,s2,c,q,f,i⟩:=c4i hE w hy hn hp hK hc h hi hr 13 (by omega)
 have d:=hc.at h hi
 obtain⟨p0,_,_,_,_,_⟩:=d.cr2
 obtain⟨⟨a0,a1,a2,a3,a4⟩,a,cm⟩:=x d.drew
 rw[hk]at p0
 simp only[a0x]at s1 q
 replace s1:Hid _:=s1
 replace s2:Hid _:=s2
 replace c:Hid _:=c
 replace q:Hid _:=q
 replace x:Hid _:=@x
 clear hp hc h hi hr hK hE hB hn w d
 go_enter Tryz.func60,Tryz.ntmps60
 go_wp2
 go_region_held3 (fun u=>u.cell? (Ad P 4)=some (.slice (some (Ad g z)) 1 cap)/\u.cell? (Ad M 0)=some (Po B 0)/\u.cell? (Ad g z)=some (vi y.k)/\u.cell? (Ad g (z+1))=some (.string y.t)/\u.cell? (Ad g (z+2))=some (vi y.n)/\u.cell? (Ad g (z+3))=some (vi y.sl)/\u.cell? (Ad g (z+4))=some (.slice b' y.kids.length cap')) (go_keep) (first|(go_at_call 65;refine(s1.out _ bz0.drew).mono ?_;rintro e w2 ⟨r,m1,D1,rfl,s,l⟩;obtain⟨⟨a0,a1,a2,a3,a4⟩,a,cm⟩:=x.out s)|(go_at_call 28;refine(s2.out _ _ _ _ s l).mono ?_;rintro e w3 ⟨m2,D2,rfl,v⟩;obtain⟨⟨a0,a1,a2,a3,a4⟩,a,cm⟩:=x.out v))
 go_wp2
 go_end0
 exact v.done f i rfl
theorem st_7{n:Nat}(hE:EC w1 B nf n)(hB:BC w1 B nf n){cap:Nat}{P M:Nat}(hk:p.k=7)(hn:hgt p<=n+1)(hp:Pq nf p)(hK:PK tt w1 p.kids b cap)(hc:Cb2 D W B p b cap P M)(h:Mq w1 B D m W)(hi:Inv nf m)(hr:Rm m (8*hgt p+mxp p) (cnt p)):Cl 60 (clo2 P M) W (SZ w1 B nf D m W p):=by
 obtain⟨y,v,hy⟩:=a7j hp (by omega)
 have i:p.kids[0]?=some y:=by rw[v];rfl
 obtain⟨g,z,_,_,rfl,_,_,_⟩:=PK.kid hK i
 obtain⟨b',cap',z8,x,s1,s2,l,o,z9,d⟩:=c4i hE v hy hn hp hK hc h hi hr 12 (by omega)
 have c:=hc.at h hi
 obtain⟨p0,_,_,_,_,_⟩:=c.cr2
 obtain⟨⟨a0,a1,a2,a3,a4⟩,a,cm⟩:=x c.drew
 rw[hk]at p0
 simp only[a0x]at s1 o
 replace s1:Hid _:=s1
 replace s2:Hid _:=s2
 replace l:Hid _:=l
 replace o:Hid _:=o
 replace x:Hid _:=@x
 clear hp hc h hi hr hK hE hB hn v c
 go_enter Tryz.func60,Tryz.ntmps60
 go_wp2
 go_region_held3 (fun u=>u.cell? (Ad P 4)=some (.slice (some (Ad g z)) 1 cap)/\u.cell? (Ad M 0)=some (Po B 0)/\u.cell? (Ad g z)=some (vi y.k)/\u.cell? (Ad g (z+1))=some (.string y.t)/\u.cell? (Ad g (z+2))=some (vi y.n)/\u.cell? (Ad g (z+3))=some (vi y.sl)/\u.cell? (Ad g (z+4))=some (.slice b' y.kids.length cap')) (go_keep) (first|(go_at_call 26;refine(l.out _ bz0.drew).mono ?_;rintro e w2 ⟨m1,D1,rfl,q,w,f⟩;replace w:Hid _:=w;obtain⟨⟨a0,a1,a2,a3,a4⟩,a,cm⟩:=x.out q)|(go_at_call 59;refine(o.out _ _ _ q w.out f).mono ?_;rintro e w3 ⟨m2,D2,rfl,r,s⟩;replace s:Hid _:=s;obtain⟨⟨a0,a1,a2,a3,a4⟩,a,cm⟩:=x.out r))
 go_wp2
 go_end0
 exact r.done (by omega) d rfl
theorem d2l{n:Nat}(hE:EC w1 B nf n)(hB:BC w1 B nf n){cap:Nat}{P M:Nat}(hk:6<=p.k/\p.k<=12)(hn:hgt p<=n+1)(hp:Pq nf p)(hK:PK tt w1 p.kids b cap)(hc:Cb2 D W B p b cap P M)(h:Mq w1 B D m W)(hi:Inv nf m)(hr:Rm m (8*hgt p+mxp p) (cnt p)):Cl 60 (clo2 P M) W (SZ w1 B nf D m W p):=by
 obtain⟨k1,k2⟩:=hk
 rcases(show p.k=6\/p.k=7\/p.k=8\/p.k=9\/p.k=10\/p.k=11\/p.k=12 by omega)with e|e|e|e|e|e|e
 ·exact st_6 hE hB e hn hp hK hc h hi hr
 ·exact st_7 hE hB e hn hp hK hc h hi hr
 ·exact st_8 hE hB e hn hp hK hc h hi hr
 ·exact st_9 hE hB e hn hp hK hc h hi hr
 ·exact d8c hE hB e hn hp hK hc h hi hr
 ·exact d8d hE hB e hn hp hK hc h hi hr
 ·exact d8e hE hB e hn hp hK hc h hi hr
end
def SC (w1:World) (B nf n:Nat):Prop:=∀(p:Pt) (b:Option Addr) (cap:Nat) (D:Nat->Prop) (m:Ma) (W:World),hgt p<=n->Pq nf p->b0t p.k->PK tt w1 p.kids b cap->Mq w1 B D m W->Inv nf m->Rm m (8*hgt p+mxp p) (cnt p)->Cl 39 #[pM B,ptv p b cap] W (MZ w1 B nf D m W (4*cnt p) (cnt p) fun m' v=>v=.tuple #[]/\m'.us=m.us+dlK p.k)
def dsum (l:List Pt):Nat:=(l.map fun x=>dlK x.k).sum
theorem c4j:∀(l:List Pt) (j:Nat) (x:Pt),l[j]?=some x->dsum (l.take j)+mxp x<=mxN.go (l.map era)
 | [],j,x,h=>by simp at h
 | a::l,0,x,h=>by
  simp at h
  subst h
  simp only[List.map_cons,mxN.go,List.take_zero]
  show 0+mxN (era a)<=_
  omega
 | a::l,j+1,x,h=>by
  have:=c4j l j x (by simpa using h)
  simp only[List.map_cons,mxN.go,List.take_succ_cons]
  have e:dsum (a::l.take j)=dlK a.k+dsum (l.take j):=by simp[dsum]
  have z:=c7l a
  rw[e,z]
  omega
theorem c4k{l:List Pt}{j:Nat}(h:l[j]?=some y):dsum (l.take (j+1))=dsum (l.take j)+dlK y.k:=by
 rw[List.take_add_one,h]
 show dsum (l.take j++[y])=_
 simp[dsum]
section
variable {w1:World} {B nf:Nat} {D:Nat->Prop} {m:Ma} {W:World}
theorem d2m{n:Nat}(hE:EC w1 B nf n)(hB:BC w1 B nf n):SC w1 B nf (n+1):=by
 intro p b cap D m W hn hp hk hK h hi hr
 obtain⟨s,c⟩:∃s,(W.alloc (.cells #[Po B 0] 64)).alloc (.cells #[vi p.k,.string p.t,vi p.n,vi p.sl,.slice b p.kids.length cap] 47)=s:=⟨_,rfl⟩
 have i:Bw W s:=by rw[<- c];exact q1z (q1z bz0 _) _
 have g0:s.heap[W.heap.size]?=some (.cells #[pM B] 64):=by rw[<- c];exact q4z _ (new1 _ _)
 have g1:s.heap[W.heap.size+1]?=some (pbx p b cap):=by rw[<- c];exact new2 _ _ _
 have h0:=h.below i
 have z9:Cb2 D s B p b cap (W.heap.size+1) W.heap.size:=⟨g1,g0,h.new (by omega),h.new (by omega)⟩
 have hA:=z9.at h0 hi
 obtain⟨p0,p1,p2,p3,p4,cm⟩:=hA.cr2
 by_cases h5:p.k=5
 ·have l:dlK p.k=1:=by rw[h5];rfl
  have x:∀(e:Ending) (V:World) (ko kc:Nat) (D2:Nat->Prop) (r:Ma),At w1 B nf D m s (cbo2 B p b cap (W.heap.size+1) W.heap.size) ko kc D2 r V->ko<=4*cnt p->kc<=cnt p->r.us=m.us+1->MZ w1 B nf D m W (4*cnt p) (cnt p) (fun m' v=>v=.tuple #[]/\m'.us=m.us+dlK p.k) (.returned (.tuple #[])) V:=fun e V ko kc D2 r f h1 h2 hu =>
   ⟨_,r,D2,rfl,f.mq,f.iv,f.ex.trans (Ex.refl r) (by omega) (by omega),(CK.below i).trans f.ck,rfl,by rw[l];exact hu⟩
  obtain⟨y,o,hy⟩:=a7j hp (by omega)
  have d:p.kids[0]?=some y:=by rw[o];rfl
  obtain⟨g,z,b',cap',rfl,y6,z4,z3⟩:=PK.kid hK d
  have y4:cnt p=cnt y+1:=by rw[a2v,o,a1d,a3m]
  have z5:=(hp.kid d).1
  have y7:=a1t d
  have z2:1<=cap:=by have:=hK.1.1;rw[o]at this;exact this
  have y8:1<=mxp p:=by rw[c4f (by omega),h5];exact Nat.le_trans (by decide:1<=dlK 5) (Nat.le_max_left _ _)
  have z0:=hr.us
  have z6:=hp.head.2.2.2.2.1 (.inr (.inl h5))
  have w:p.kids.length=1:=by rw[o];rfl
  have s1:=fun V (hb:Bw s V)=>(hA.below hb).declare (by omega) p (some (Ad g z)) cap z6.1 z6.2
  have s2:∀(V:World) (m1:Ma) (D1:Nat->Prop),At w1 B nf D m s (cbo2 B p (some (Ad g z)) cap (W.heap.size+1) W.heap.size) 0 0 D1 m1 V->m1.us=m.us+1->rgO m1.rg (m.us:Nat)->Cl 59 #[pM B,ptv y b' cap',vi (m.us:Nat)] V fun e V1=>∃r D2,e=.returned (.tuple #[])/\At w1 B nf D m s (cbo2 B p (some (Ad g z)) cap (W.heap.size+1) W.heap.size) (0+4*cnt y) (0+cnt y) D2 r V1/\r.us=m.us+1:=fun V m1 D1 f hu hg=>by
   refine(f.expr hE y b' cap' (m.us:Nat) hg (by omega) z5 hy z4 (hr.on f.ex (by omega) (by omega) (by omega))).mono ?_
   rintro e V1 ⟨r,D2,rfl,z8,_,a⟩
   exact⟨r,D2,rfl,z8,by omega⟩
  have q:∀{ko kc:Nat} {D1:Nat->Prop} {m1:Ma} {V:World},At w1 B nf D m s (cbo2 B p (some (Ad g z)) cap (W.heap.size+1) W.heap.size) ko kc D1 m1 V->KC V y g z b' cap'/\Cr2 V B p (some (Ad g z)) cap (W.heap.size+1) W.heap.size:=fun f=>⟨by simpa using z3 _ f.mq.bl,f.cr2⟩
  obtain⟨⟨a0,a1,a2,a3,a4⟩,⟨q0,q1,q2,q3,q4,qm⟩⟩:=q hA.drew
  have y1:(1:Int)<=(cap:Int):=by omega
  have y2:0+4*cnt y<=4*cnt p:=by omega
  have y3:0+cnt y<=cnt p:=by omega
  rw[h5]at p0
  rw[w]at q4
  simp only[a0x,w,h5]at s1 s2 c⊢
  rw[h5]at q0
  replace q:Hid _:=@q
  replace s1:Hid _:=s1
  replace s2:Hid _:=s2
  replace x:Hid _:=x
  replace h5:Hid _:=h5
  replace w:Hid _:=w
  clear hE hB hn hp hk hK h hi hr i g0 g1 h0 z9 hA o d z4 z3 y4 z5 y7 z2 y8 z0 z6 l y6
  go_enter Tryz.func39,Tryz.ntmps39
  go_wp2
  go_region_held3 (fun u=>u.cell? (Ad (W.heap.size+1) 0)=some (vi 5)/\u.cell? (Ad (W.heap.size+1) 1)=some (.string p.t)/\u.cell? (Ad (W.heap.size+1) 2)=some (vi p.n)/\u.cell? (Ad (W.heap.size+1) 3)=some (vi p.sl)/\u.cell? (Ad (W.heap.size+1) 4)=some (.slice (some (Ad g z)) 1 cap)/\u.cell? (Ad W.heap.size 0)=some (Po B 0)/\u.cell? (Ad g z)=some (vi y.k)/\u.cell? (Ad g (z+1))=some (.string y.t)/\u.cell? (Ad g (z+2))=some (vi y.n)/\u.cell? (Ad g (z+3))=some (vi y.sl)/\u.cell? (Ad g (z+4))=some (.slice b' y.kids.length cap')) (go_keep) (first|(go_at_call 21;refine(s1.out _ bz0.drew).mono ?_;rintro e w2 ⟨m1,D1,rfl,z1,_,z7,y5⟩;replace z7:Hid _:=z7;obtain⟨⟨a0,a1,a2,a3,a4⟩,⟨q0,q1,q2,q3,q4,qm⟩⟩:=q.out z1;rw[w.out]at q4;rw[h5.out]at q0)|(go_at_call 59;refine(s2.out _ _ _ z1 z7.out y5).mono ?_;rintro e w3 ⟨r,D2,rfl,z8,a⟩;replace a:Hid _:=a;obtain⟨⟨a0,a1,a2,a3,a4⟩,⟨q0,q1,q2,q3,q4,qm⟩⟩:=q.out z8;rw[w.out]at q4;rw[h5.out]at q0))
  go_wp2
  go_end0
  have hz:=x.out (.returned (.tuple #[])) _ _ _ _ _ z8 y2 y3 a.out
  rw[h5.out]at hz
  exact hz
 ·have l:dlK p.k=0:=by unfold dlK;rw[if_neg];rintro(e|e);have:=hk.1;omega;exact h5 e
  have hg:=c2t (clo2 (W.heap.size+1) W.heap.size) h0 hi (d2l hE hB ⟨by have:=hk.1;omega,hk.2⟩ hn hp hK z9 h0 hi hr)
  have x:∀(e:Ending) (V:World),MZ w1 B nf D m s (4*cnt p) (cnt p) (fun m' v=>v=.tuple #[]/\m'.us=m.us) e V->e=.returned (.tuple #[])/\MZ w1 B nf D m W (4*cnt p) (cnt p) (fun m' v=>v=.tuple #[]/\m'.us=m.us+dlK p.k) (.returned (.tuple #[])) V:=fun e V hz=>by
   obtain⟨v,m',D',rfl,hM,hI,hX,hC,rfl,hu⟩:=hz
   exact⟨rfl,_,m',D',rfl,hM,hI,hX,(CK.below i).trans hC,rfl,by rw[l];exact hu⟩
  have hd:(p.k == 5)=false:=by simpa using h5
  replace x:Hid _:=x
  rw[a0x]
  clear hE hB hn hp hk hK h hi hr i g0 g1 h0 z9 hA h5 l
  go_enter Tryz.func39,Tryz.ntmps39
  go_wp2_with (go_at_call 24;refine hg.mono ?_;intro e w3 hq;obtain⟨rfl,y9⟩:=x.out _ _ hq)
  go_end0
  exact y9
theorem b9v{n:Nat}(hS:SC w1 B nf n){cap:Nat}{P M:Nat}(hk:p.k=4)(hn:hgt p<=n+1)(hp:Pq nf p)(hK:PK tt w1 p.kids b cap)(hc:Cb2 D W B p b cap P M)(h:Mq w1 B D m W)(hi:Inv nf m)(hr:Rm m (8*hgt p+mxp p) (cnt p)):Cl 38 (clo2 P M) W (MZ w1 B nf D m W (4*cntL p.kids) (cntL p.kids) fun _ v=>v=.tuple #[]):=by
 have hA:=hc.at h hi
 have hks:=hK.1
 have hct:=a2v p
 obtain⟨ks,hkse⟩:∃ks,p.kids=ks:=⟨_,rfl⟩
 obtain⟨L,hL⟩:∃L,ks.length=L:=⟨_,rfl⟩
 obtain⟨os,hos⟩:∃os:List (Nat×Obj),os=cbo2 B p b cap P M:=⟨_,rfl⟩
 rw[<- hos]at hA
 have hrd:∀{ko kc:Nat} {D1:Nat->Prop} {m1:Ma} {V:World},At w1 B nf D m W os ko kc D1 m1 V->V.cell? (Ad P 4)=some (.slice b L cap)/\V.cell? (Ad M 0)=some (Po B 0):=fun hV=>by
  rw[hos]at hV
  have:=hV.cr2
  exact⟨by rw[<- hL,<- hkse];exact this.p4,this.m⟩
 have hst:∀(V:World) (m1:Ma) (D1:Nat->Prop) (j:Nat) (y:Pt) (b':Option Addr) (cap':Nat) (os':List (Nat×Obj)),ks[j]?=some y->PK tt w1 y.kids b' cap'->At w1 B nf D m W os' (4*cntL (ks.take j)) (cntL (ks.take j)) D1 m1 V->m1.us=m.us+dsum (ks.take j)->Cl 39 #[pM B,ptv y b' cap'] V fun e V2=>∃m2 D2,e=.returned (.tuple #[])/\At w1 B nf D m W os' (4*cntL (ks.take (j+1))) (cntL (ks.take (j+1))) D2 m2 V2/\m2.us=m.us+dsum (ks.take (j+1)):=fun V m1 D1 j y b' cap' os' hy hpy hV hu=>by
  rw[<- hkse]at hy hV hu⊢
  have h1:=hp.kid hy
  have hsy:b0t y.k:=by
   have h2:=h1.2
   unfold a0w at h2
   rw[hk]at h2
   simpa using h2
  have h3:=a1t hy
  have h4:=c4j _ _ _ hy
  have h5:=c4f (p:=p) (by omega)
  have h6:=b2l hy
  have h7:=b0g hy
  have h8:=c4k hy
  refine(hS y b' cap' D1 m1 V (by omega) h1.1 hsy hpy hV.mq hV.iv (hr.on hV.ex (by omega) (by omega) (by omega))).mono ?_
  rintro e V2 ⟨v,m2,D2,rfl,hM2,hI2,hX2,hC2,rfl,hu2⟩
  have:=hV.step hM2 hI2 hX2 hC2
  rw[h7,Nat.mul_add]
  exact⟨m2,D2,rfl,this,by omega⟩
 rw[hkse]at hK hks hct⊢
 rw[hL]at hks
 have hLc:(L:Int)<=(cap:Int):=by omega
 have hLm:L<=9223372036854775807:=by unfold maxLen at hks;omega
 obtain⟨c4,cm⟩:=hrd hA
 have hI:Hid (At w1 B nf D m W os (4*cntL (ks.take 0)) (cntL (ks.take 0)) D m W/\m.us=m.us+dsum (ks.take 0)):=⟨hA,rfl⟩
 replace hK:Hid _:=hK
 replace hL:Hid _:=hL
 replace hst:Hid _:=hst
 replace hrd:Hid _:=@hrd
 clear hA hp h hkse hn hi hr hct hk hos hc hS
 go_enter Tryz.func38,Tryz.ntmps38
 go_wp2
 go_loopw [7] (fun ix wr=>∃j:Nat,j<=L/\ix=vi (j:Nat)/\∃D1 m1,At w1 B nf D m W os (4*cntL (ks.take j)) (cntL (ks.take j)) D1 m1 wr/\m1.us=m.us+dsum (ks.take j)) (fun ix _=>L-(intOf ix).toNat)
 case atStart=>exact⟨0,Nat.zero_le _,rfl,D,m,hI.out⟩
 case round =>
  obtain⟨j,hj,rfl,D1,m1,hA1,hu1⟩:=hrel
  clear hI
  by_cases hlt:j<L
  ·have hlt':(j:Int)<(L:Int):=by omega
   have hge:(0:Int)<=(j:Int):=by omega
   have hjk:j<ks.length:=by have:=hL.out;omega
   obtain⟨y,hy⟩:∃y,ks[j]?=some y:=⟨_,List.getElem?_eq_getElem hjk⟩
   obtain⟨g,off,b',cap',rfl,hgl,hpy,hcy⟩:=PK.kid hK.out hy
   obtain⟨v0,v1,v2,v3,v4⟩:=hcy wr hA1.mq.bl
   have hb1:=q1z (Below.refl wr.heap.size wr) (pbx y b' cap')
   obtain⟨d4,dm⟩:=hrd.out (hA1.below hb1)
   have hs2:=hst.out _ _ _ j y b' cap' _ hy hpy (hA1.below hb1) hu1
   have hj1:Hid (j+1<=L):=hlt
   simp only[a0x]at hs2
   replace hu1:Hid _:=hu1
   replace dm:(wr.alloc (.cells #[vi y.k,.string y.t,vi y.n,vi y.sl,.slice b' y.kids.length cap'] 47)).cell? (Ad M 0)=some (Po B 0):=dm
   replace d4:Hid _:=d4
   have hM2:=(hrd.out hA1).2
   clear hy hA1 hcy hpy hb1 hst
   go_wp2_with (go_at_call 39;refine hs2.mono ?_;rintro e w2 ⟨m2,D2,rfl,hA2,hu2⟩;replace hu2:Hid _:=hu2)
   go_roundw
   case rel=>exact⟨j+1,hj1.out,by go_num,D2,m2,hA2,hu2.out⟩
   case measure =>
    have:=hj1.out
    simp[intOf];omega
  ·have hlt':¬(j:Int)<(L:Int):=by omega
   have hjL:j=L:=by omega
   subst hjL
   rw[List.take_of_length_le (Nat.le_of_eq hL.out)]at hA1
   clear hst hrd hu1
   go_wp2
   go_end0
   exact hA1.done (Nat.le_refl _) (Nat.le_refl _) rfl
theorem d2n{n:Nat}(hS:SC w1 B nf n):BC w1 B nf (n+1):=by
 intro p b cap D m W hn l i g h r o
 obtain⟨y,x⟩:∃y,(W.alloc (.cells #[Po B 0] 64)).alloc (.cells #[vi p.k,.string p.t,vi p.n,vi p.sl,.slice b p.kids.length cap] 47)=y:=⟨_,rfl⟩
 have w:Bw W y:=by rw[<- x];exact q1z (q1z bz0 _) _
 have g0:y.heap[W.heap.size]?=some (.cells #[pM B] 64):=by rw[<- x];exact q4z _ (new1 _ _)
 have g1:y.heap[W.heap.size+1]?=some (pbx p b cap):=by rw[<- x];exact new2 _ _ _
 have c0:y.cell? (Ad W.heap.size 0)=some (Po B 0):=q2z g0 rfl
 have q:=h.below w
 have u:Cb2 D y B p b cap (W.heap.size+1) W.heap.size:=⟨g1,g0,h.new (by omega),h.new (by omega)⟩
 have c:=c2s (clo2 (W.heap.size+1) W.heap.size) q r (b9v hS i hn l g u q r o)
 have z:∀(e:Ending) (V:World),MZ w1 B nf D m y (4*cntL p.kids) (cntL p.kids) (fun m' v=>v=.tuple #[]/\m'.us=m.us) e V->e=.returned (.tuple #[])/\MZ w1 B nf D m W (4*cntL p.kids) (cntL p.kids) (fun m' v=>v=.tuple #[]/\m'.us=m.us) (.returned (.tuple #[])) V:=fun e V f=>by
  obtain⟨v,m',D',rfl,hM,hI,a,hC,rfl,d⟩:=f
  exact⟨rfl,_,m',D',rfl,hM,hI,a,(CK.below w).trans hC,rfl,d⟩
 replace z:Hid _:=z
 rw[a0x]
 clear hS hn l i g h r o w g0 g1 q u
 go_enter Tryz.func22,Tryz.ntmps22
 go_wp2_with (go_at_call 24;refine c.mono ?_;intro e w3 hq;obtain⟨rfl,s⟩:=z.out _ _ hq)
 go_end0
 exact s
theorem c4l(hnf:nf<=12):∀n,BC w1 B nf n/\SC w1 B nf n
 | 0=>⟨fun p b cap D m W hn=>by have:=a6h p;omega,fun p b cap D m W hn=>by have:=a6h p;omega⟩
 | n+1=>⟨d2n (c4l hnf n).2,d2m (d0d hnf n) (c4l hnf n).1⟩
end
abbrev toQ (x:Od):Q4:=⟨x.op,x.a,x.b,x.c⟩
theorem d5w:∀l:List Q4,(∀q∈l,(-1<=q.op/\q.op<=4000)/\(-1<=q.a/\q.a<=4000)/\(-1<=q.b/\q.b<=4000)/\(-1<=q.c/\q.c<=4000))->∃is:List Od,is.map toQ=l
 | [],_=>⟨[],rfl⟩
 | q::l,h=>by
  obtain⟨is,e⟩:=d5w l (fun x z=>h x (List.mem_cons_of_mem _ z))
  obtain⟨h1,h2,h3,h4⟩:=h q (by simp)
  exact⟨⟨q.op,q.a,q.b,q.c,WalkArith.wf_i64 (by omega),WalkArith.wf_i64 (by omega),WalkArith.wf_i64 (by omega),WalkArith.wf_i64 (by omega)⟩::is,by rw[List.map_cons,e]⟩
theorem a3n{r:Nat}{x:Int}(h:rgO r x)(h1:1<=r):belB x r=true:=by
 obtain⟨a,b⟩:=h
 simp[belB]
 omega
theorem b7x{x e:Int}(h0:0<=x)(h1:x<e):belB x e=true:=by simp[belB,h0,h1]
theorem b7y(f:Fd)(x:Od)(i nl r:Nat)(h:okQ r f.cs.length nl i (toQ x))(hr:f.r=r)(h1:1<=r)(h250:r<=250)(hnl:nl<f.is.length):a1r f x i=true:=by
 unfold a1r a4b
 rw[hr]
 rcases h with⟨a,b,c,d,e⟩|⟨a,b,c,d,e⟩|⟨a,b,c,d,e⟩|⟨a,b,c,d,e⟩|⟨a,b,c,d,e,g⟩|⟨a,b,c,d⟩|⟨a,b,c,d⟩|⟨a,b,c,d⟩ <;> simp only[toQ]at *
 ·simp[a,d,e,b7x b (show x.a<(f.is.length:Int) by omega)]
 ·simp[a,e,a3n b h1,b7x c (show x.b<(f.is.length:Int) by omega)]
 ·simp[a,d,e,frB,b,c]
 ·simp[a,e,a3n b h1,b7x c d]
 ·have z:wrap64 (x.b+x.c)=x.b+x.c:=by have:=c.1;unfold wrap64;omega
  have y:belB (x.b+x.c) r=true:=b7x (by have:=c.1;omega) g
  simp[a,a3n b h1,a3n c h1,argB,frB,d,e,z,y,hr]
 ·rcases a with a|a|a|a <;> simp[a,d,a3n b h1,a3n c h1]
 ·rcases a with a|a|a <;> simp[a,c,d,a3n b h1]
 ·rcases a with a|a|a|a
  ·simp[a,a3n b h1,a3n c h1,a3n d h1]
  ·simp[a,a3n b h1,a3n c h1,a3n d h1]
  ·simp[a,a3n b h1,a3n c h1,a3n d h1]
  ·rcases(show x.op=21\/x.op=22\/x.op=23\/x.op=24\/x.op=25\/x.op=26\/x.op=27\/x.op=28\/x.op=29 by omega)with e|e|e|e|e|e|e|e|e <;> simp[e,a3n b h1,a3n c h1,a3n d h1]
def FinQ (nf:Nat) (m':Ma):Prop:=∃m1 r,Inv nf m1/\m'.co=m1.co++[⟨12,r,0,0⟩]/\m'.cs=m1.cs/\m'.rg=m1.rg/\rgO m1.rg r/\1<=m1.rg
theorem d2o{r nc nl i:Nat}{q:Q4}(h:okQ r nc nl i q)(hr:r<=250)(hc:nc<=700)(hl:nl<=3000)(hi:i<=3000):(-1<=q.op/\q.op<=4000)/\(-1<=q.a/\q.a<=4000)/\(-1<=q.b/\q.b<=4000)/\(-1<=q.c/\q.c<=4000):=by
 have rg:∀{x:Int},rgO r x->-1<=x/\x<=4000:=fun h=>by have a:=h.1;have b:=h.2;omega
 rcases h with⟨a,b,c,d,e⟩|⟨a,b,c,d,e⟩|⟨a,b,c,d,e⟩|⟨a,b,c,d,e⟩|⟨a,b,c,d,e,g⟩|⟨a,b,c,d⟩|⟨a,b,c,d⟩|⟨a,b,c,d⟩
 ·refine⟨?_,?_,?_,?_⟩ <;> omega
 ·exact⟨by omega,rg b,by omega,by omega⟩
 ·refine⟨?_,?_,?_,?_⟩ <;> omega
 ·exact⟨by omega,rg b,by omega,by omega⟩
 ·exact⟨by omega,rg b,rg c,by omega⟩
 ·exact⟨by omega,rg b,rg c,by omega⟩
 ·exact⟨by omega,rg b,by omega,by omega⟩
 ·exact⟨by omega,rg b,rg c,rg d⟩
theorem d8f{nf:Nat}{m:Ma}(hF:FinQ nf m)(np:Nat)(hpa:m.pa=(np:Nat))(hnp:np<=5)(hpr:np<=m.rg)(hco:m.co.length<=3000)(hcs:m.cs.length<=700)(ca:Option Addr)(cc:Nat)(ia:Option Addr)(ic:Nat):∃f:Fd,f.v=.agg #[vi m.pa,vi (m.rg:Nat),.slice ca m.cs.length cc,.slice ia m.co.length ic]/\f.ca=ca/\f.cc=cc/\f.ia=ia/\f.ic=ic/\f.cs=m.cs/\f.is.map toQ=m.co/\f.p=(np:Nat)/\fnB nf f=true:=by
 obtain⟨m1,r,o,e1,e2,e3,u,l⟩:=hF
 have z9:m1.co.length+1=m.co.length:=by rw[e1];simp
 have h:∀q∈m.co,(-1<=q.op/\q.op<=4000)/\(-1<=q.a/\q.a<=4000)/\(-1<=q.b/\q.b<=4000)/\(-1<=q.c/\q.c<=4000):=fun q hq=>by
  rw[e1]at hq
  rcases List.mem_append.1 hq with hq|hq
  ·obtain⟨i,hi⟩:=List.getElem?_of_mem hq
   have:=(List.getElem?_eq_some_iff.1 hi).1
   exact d2o (o.co i q hi) o.rg (by rw[<- e2];exact hcs) (by omega) (by omega)
  ·simp at hq
   subst hq
   have a:=u.1
   have b:=u.2
   have c:=o.rg
   refine⟨?_,?_,?_,?_⟩ <;> simp only <;> omega
 obtain⟨is,y⟩:=d5w m.co h
 have g:is.length=m.co.length:=by rw[<- y,List.length_map]
 have w:=o.rg
 have n:(Lit.int .i64 m.pa).wf=true:=by rw[hpa];exact WalkArith.wf_i64 (by omega)
 refine⟨⟨m.pa,(m.rg:Nat),n,WalkArith.wf_i64 (by omega),ca,cc,m.cs,ia,ic,is⟩,?_,rfl,rfl,rfl,rfl,rfl,y,hpa,?_⟩
 ·show Value.agg #[_,_,_,.slice ia is.length ic]=_
  rw[g]
 ·have s:a7w ⟨m.pa,(m.rg:Nat),n,WalkArith.wf_i64 (by omega),ca,cc,m.cs,ia,ic,is⟩=true:=by
   simp only[a7w,frB,hpa,g,Bool.and_eq_true,decide_eq_true_eq]
   refine⟨⟨⟨⟨by omega,by omega⟩,⟨by omega,by omega⟩⟩,by omega⟩,⟨by omega,by omega⟩⟩
  have d:allB (fun _=>a3y (nf:Nat)) m.cs=true:=a5h fun j x _ hx=>by
   have hm:x∈m1.cs:=by rw[<- e2];exact List.mem_of_getElem? hx
   obtain⟨a,b,c⟩:=o.cs x hm
   simp only[a3y,a,Bool.true_and,Bool.and_eq_true,Bool.not_eq_true',beq_eq_false_iff_ne,Bool.and_eq_false_imp,beq_iff_eq,decide_eq_false_iff_not]
   exact⟨b,fun e=>by have:=c e;omega⟩
  unfold fnB b0u
  rw[s,d]
  simp only[Bool.true_and,Bool.and_eq_true]
  refine⟨a5h fun j x _ hx=>?_,?_⟩
  ·have hq:m.co[j]?=some (toQ x):=by rw[<- y,List.getElem?_map,hx];rfl
   by_cases hj:j<m1.co.length
   ·rw[e1,List.getElem?_append_left hj]at hq
    refine b7y _ x j m1.co.length m1.rg (by show okQ _ m.cs.length _ _ _;rw[e2];exact o.co j _ hq) (by show((m.rg:Nat):Int)=_;rw[e3]) l w (by show m1.co.length<is.length;omega)
   ·rw[e1,List.getElem?_append_right (by omega)]at hq
    have h0:j-m1.co.length=0:=by
     have:=(List.getElem?_eq_some_iff.1 hq).1
     simp at this
     omega
    rw[h0]at hq
    have t:(⟨12,r,0,0⟩:Q4)=toQ x:=by simpa using hq
    refine b7y _ x j m1.co.length m1.rg (by rw[<- t];exact .inr (.inr (.inr (.inr (.inr (.inr (.inl ⟨.inr (.inl rfl),u,rfl,rfl⟩))))))) (by show((m.rg:Nat):Int)=_;rw[e3]) l w (by show m1.co.length<is.length;omega)
  ·have z:is[is.length-1]?=some is[is.length-1]:=List.getElem?_eq_getElem (by omega)
   show(match is[is.length-1]? with|some x=>b3m x|none=>false)=true
   rw[z]
   have hq:m.co[is.length-1]?=some (toQ is[is.length-1]):=by rw[<- y,List.getElem?_map,z];rfl
   rw[e1,List.getElem?_append_right (by omega),show is.length-1-m1.co.length=0 by omega]at hq
   have t:(⟨12,r,0,0⟩:Q4)=toQ is[is.length-1]:=by simpa using hq
   have:is[is.length-1].op=12:=(congrArg Q4.op t).symm
   simp[b3m,this]
section
variable {w1:World} {B nf:Nat} {D:Nat->Prop} {m:Ma} {W:World}
def FZ (w1:World) (B nf:Nat) (D:Nat->Prop) (m:Ma) (W V:World):Prop:=∃m' D',Mq w1 B D' m' V/\Ex m m' 2 1/\CK D W D' V/\FinQ nf m'
theorem c8d{M:Nat}(gM:W.heap[M]?=some (.cells #[pM B] 64))(nM:¬D M)(h:Mq w1 B D m W)(hi:Inv nf m)(hr:Rm m 1 1):Cl 25 #[Po M 0] W fun e V=>e=.returned (.tuple #[])/\FZ w1 B nf D m W V:=by
 have b:=At.begin' (os:=[(M,.cells #[pM B] 64)]) h hi (fun q hq=>by simp at hq;subst hq;exact⟨gM,nM⟩)
 have r1:=hr.us
 have r2:=hr.co
 have r3:=hr.cs
 have s1:=b.take (by omega)
 have s2:∀(V:World) (m1:Ma) (D1:Nat->Prop),At w1 B nf D m W [(M,.cells #[pM B] 64)] 0 0 D1 m1 V->rgO m1.rg (m.us:Nat)->Cl 27 #[pM B,val 0 0 E0,vi (m.us:Nat)] V fun e p=>∃z D2,e=.returned (.tuple #[])/\At w1 B nf D m W [(M,.cells #[pM B] 64)] (0+1) (0+1) D2 z p/\Ex m1 z 1 1:=fun V m1 D1 w o=>by
  have l1:=w.ex.lco
  have l2:=w.ex.lcs
  refine(w.const nilW c3i (m.us:Nat) o (by omega) (by omega)).mono ?_
  rintro e p ⟨z,D2,rfl,x,y,_⟩
  exact⟨z,D2,rfl,x,y⟩
 have n:∀(V:World) (z:Ma) (D2:Nat->Prop),At w1 B nf D m W [(M,.cells #[pM B] 64)] (0+1) (0+1) D2 z V->rgO z.rg (m.us:Nat)->1<=z.rg->Cl 28 #[pM B,vi 12,vi (m.us:Nat),vi 0,vi 0] V fun e p=>(∃v,e=.returned v)/\FZ w1 B nf D m W p:=fun V z D2 w o h1=>by
  have l1:=w.ex.lco
  refine(a7x w.mq w.iv (by omega) ⟨12,(m.us:Nat),0,0⟩ (.inr (.inr (.inr (.inr (.inr (.inr (.inl ⟨.inr (.inl rfl),o,rfl,rfl⟩)))))))).mono ?_
  rintro e p ⟨v,m3,D3,rfl,f,z9,g,d,_,t⟩
  exact⟨⟨_,rfl⟩,m3,D3,f,w.ex.trans g (by omega) (by omega),w.ck.trans d,z,(m.us:Nat),w.iv,by rw[t],by rw[t],by rw[t],o,h1⟩
 have c0:W.cell? (Ad M 0)=some (Po B 0):=q2z gM rfl
 replace s2:Hid _:=s2
 replace n:Hid _:=n
 clear b h hi hr gM nM r1 r2 r3
 go_enter Tryz.func25,Tryz.ntmps25
 go_wp2_with (go_at_call 26;refine s1.mono ?_;rintro e w2 ⟨m1,D1,rfl,u,l,i,s⟩;refine Hid.out ?_)
 have d0:w2.cell? (Ad M 0)=some (Po B 0):=q2z (u.at 0 rfl) rfl
 have c:=s2.out _ _ _ u s
 have r:1<=m1.rg:=by have:=u.iv.us;omega
 clear s1 c0 l i u
 refine Lib.hid ?_
 go_wp2_with (go_at_call 27;refine c.mono ?_;rintro e a ⟨z,D2,rfl,x,y⟩;refine Hid.out ?_)
 have d1:a.cell? (Ad M 0)=some (Po B 0):=q2z (x.at 0 rfl) rfl
 have t3:=n.out _ _ _ x (s.mono y.rg) (Nat.le_trans r y.rg)
 clear c d0 x s r y
 refine Lib.hid ?_
 go_wp2_with (go_at_call 28;refine t3.mono ?_;rintro e w4 ⟨⟨v,rfl⟩,hq⟩)
 go_end0
 exact⟨rfl,hq⟩
theorem d2p{W':World}(hz:FZ w1 B nf D m W W'):(∃x,W'.cell? (Ad B 4)=some (vi x))/\W'.frozen? (Ad B 4)=false/\FZ w1 B nf D m W (W'.setCell (Ad B 4) (vi (m.us:Nat))):=by
 obtain⟨m',D',y,z,v,w⟩:=hz
 obtain⟨_,_,_,_,c⟩:=y.mc
 obtain⟨a,b⟩:=y.setUs m.us
 exact⟨⟨_,c.us⟩,c.fz _,_,D',a,⟨z.pa,z.rg,z.co,z.cs⟩,v.trans b,w⟩
theorem c8e(fr:Array Value)(h:Mq w1 B D m W)(hc:Cl 25 fr W fun e V=>e=.returned (.tuple #[])/\FZ w1 B nf D m W V):Cl 24 #[pM B,.func (.func 25) #[] fr] W fun e V=>e=.returned (.tuple #[])/\FZ w1 B nf D m W V:=by
 obtain⟨ca,cc,ia,ic,c⟩:=h.mc
 have c4:=c.us
 clear c h
 go_enter Tryz.func24,Tryz.ntmps24
 go_wp2_with (go_at_call 25;refine hc.mono ?_;rintro e y ⟨rfl,z⟩;obtain⟨⟨x,w⟩,f4,hf⟩:=d2p z;replace hf:Hid _:=hf;clear z)
 go_end0
 exact⟨rfl,hf.out⟩
end
theorem params_any(a b c d:Value)(g off m cap L:Nat)(hL:L=m+1)(hc:m+1<=cap)(hmm:cap<=maxLen)(W:World):Cl 20 #[.agg #[a,b,c,d,.slice (some (Ad g off)) L cap]] W fun t W'=>t=.returned (.slice (some (Ad g off)) m cap)/\Bw W W':=by
 obtain⟨z,y⟩:∃z,W.alloc (.cells #[a,b,c,d,.slice (some (Ad g off)) L cap] 47)=z:=⟨_,rfl⟩
 have u:Bw W z:=by rw[<- y];exact q1z bz0 _
 have g1:z.heap[W.heap.size]?=some (.cells #[a,b,c,d,.slice (some (Ad g off)) L cap] 47):=by rw[<- y];exact new1 _ _
 obtain⟨_,_,_,_,p4,_,_,_,_,_⟩:=in5 g1
 have x:IntKind.i64.wrap ((L:Int)-1)=(m:Int):=by unfold maxLen at hmm;rw[IntKind.wrap_i64];omega
 have v:(0:Int)<=(m:Int):=by omega
 have w:(m:Int)<=(cap:Int):=by omega
 clear g1 hL hc
 go_enter Tryz.func20,Tryz.ntmps20
 go_wp2
 go_ret
 refine⟨?_,u⟩
 rfl
abbrev m0:Ma:=⟨0,0,0,List.replicate 30 0,[],[]⟩
theorem d5x{W:World}{B:Nat}(z:Bw W V)(hB:W.heap.size<=B)(g:V.heap[B]?=some (.cells (mkL m0 (.slice none 0 0) (.slice none 0 0)).toArray 67)):Mq W B (fun k=>k=B) m0 V :=
 ⟨⟨none,0,none,0,g,⟨rfl,.inl ⟨rfl,rfl⟩⟩,⟨rfl,.inl ⟨rfl,rfl⟩⟩,fun b z=>by simp[Value.ownBlock]at z,fun b z=>by simp[Value.ownBlock]at z⟩,rfl,fun k e=>by subst e;exact⟨hB,q5z g⟩,z⟩
theorem d2q(nf:Nat):Inv nf m0:=⟨Nat.le_refl _,by decide,rfl,fun x z=>by have:=List.eq_of_mem_replicate z;subst this;exact⟨Int.le_refl _,.inr rfl⟩,fun v y=>by simp at y,fun i q hq=>by simp at hq⟩
theorem res9{tm:Array Value}{W:World}{B:Nat}{a b c d:Value}(h:tm[2]?.getD undef=Po B 0)(hx:W.heap[B]?=some (.cells #[a,b,c,d] 43)):(results Tryz.f9 tm).run Tryz.prog W=.ok (.agg #[a,b,c,d]) W:=by
 have c0:=q2z (i:=0) (v:=a) hx rfl
 have c1:=q2z (i:=1) (v:=b) hx rfl
 have c2:=q2z (i:=2) (v:=c) hx rfl
 have c3:=q2z (i:=3) (v:=d) hx rfl
 simp[results,Tryz.results9,go_sem,h,c0,c1,c2,c3]
abbrev put4 (W:World) (B:Nat) (a b c d:Value):World:=(((W.setCell (Ad B 0) a).setCell (Ad B 1) b).setCell (Ad B 2) c).setCell (Ad B 3) d
def FnZ (nf np:Nat) (W:World) (f:Fd) (V:World):Prop:=V.ownsRow W.heap.size 75 3 f.cv f.cs.length (flat f.cs)/\V.ownsRow W.heap.size 93 4 f.iv f.is.length (a3p (f.is.map toQ))/\f.p=(np:Nat)/\fnB nf f=true/\Bw W V
theorem function_any{nf:Nat}(hnf:nf<=12)(p z:Pt)(ps:List Pt)(b:Option Addr)(cap:Nat)(W:World)(hk:p.k=2)(hks:p.kids=ps++[z])(hnp:ps.length<=5)(hp:Pq nf p)(hF:FnC p)(h600:cnt p<=600)(hsl:∀(j:Nat) (x:Pt),ps[j]?=some x->0<=x.sl/\x.sl<30)(hK:PK tt W p.kids b cap):Cl 9 #[ptv p b cap] W fun e V=>∃f:Fd,e=.returned f.v/\FnZ nf ps.length W f V:=by
 obtain⟨np,hnpe⟩:∃np,ps.length=np:=⟨_,rfl⟩
 have hL:p.kids.length=np+1:=by rw[hks];simp[hnpe]
 have hz:p.kids[np]?=some z:=by rw[hks,<- hnpe];simp
 have hpj:∀j,j<np->∃x,p.kids[j]?=some x/\ps[j]?=some x:=fun j hj=>by
  have hl:j<ps.length:=by omega
  exact⟨ps[j],by rw[hks,List.getElem?_append_left hl,List.getElem?_eq_getElem hl],List.getElem?_eq_getElem hl⟩
 obtain⟨hqz,fz⟩:=hp.kid hz
 have hkz:z.k=4:=by unfold a0w at fz;rw[hk,hL]at fz;simpa using fz
 obtain⟨g,off,bz,capz,rfl,hgl,hpz,hcz⟩:=PK.kid hK hz
 have hhz:=a1t hz
 have h13:=hF.h
 have hmz:=hF.m ps z hks
 have hctz:cnt z+1<=cnt p:=by
  have:=b2l hz
  have:=a2v p
  omega
 have hczl:=a2v z
 have hcap:=hK.1
 rw[hL]at hcap
 obtain⟨B,hBe⟩:∃B,W.heap.size+1+1=B:=⟨_,rfl⟩
 have hB:=(c4l (w1:=W) (B:=B) (nf:=nf) hnf 13).1
 rw[hnpe]at hnp hmz
 rw[a0x,hL,hnpe]
 obtain⟨w0,hw0⟩:∃w0,(((W.alloc (.cells #[vi p.k,.string p.t,vi p.n,vi p.sl,.slice (some (Ad g off)) (np+1) cap] 47)).alloc (.cells #[vi 0,vi 0,.slice none 0 0,.slice none 0 0] 43)).alloc (.cells #[vi 0,vi 0,.slice none 0 0,.slice none 0 0,vi 0,vi 0,vi 0,vi 0,vi 0,vi 0,vi 0,vi 0,vi 0,vi 0,vi 0,vi 0,vi 0,vi 0,vi 0,vi 0,vi 0,vi 0,vi 0,vi 0,vi 0,vi 0,vi 0,vi 0,vi 0,vi 0,vi 0,vi 0,vi 0,vi 0,vi 0] 67)).alloc (.cells #[Po (W.heap.size+1+1) 0] 64)=w0:=⟨_,rfl⟩
 have hb0:Bw W w0:=by rw[<- hw0];exact q1z (q1z (q1z (q1z bz0 _) _) _) _
 have gP:w0.heap[W.heap.size]?=some (.cells #[vi p.k,.string p.t,vi p.n,vi p.sl,.slice (some (Ad g off)) (np+1) cap] 47):=by rw[<- hw0];exact q4z _ (q4z _ (q4z _ (new1 _ _)))
 have gR:w0.heap[W.heap.size+1]?=some (.cells #[vi 0,vi 0,.slice none 0 0,.slice none 0 0] 43):=by rw[<- hw0];exact q4z _ (q4z _ (new2 _ _ _))
 have gB:w0.heap[B]?=some (.cells (mkL m0 (.slice none 0 0) (.slice none 0 0)).toArray 67):=by rw[<- hw0,<- hBe];exact q4z _ (new3 _ _ _ _)
 have gM:w0.heap[W.heap.size+1+1+1]?=some (.cells #[pM B] 64):=by
  rw[<- hw0,<- hBe]
  have:=new1 (((W.alloc (.cells #[vi p.k,.string p.t,vi p.n,vi p.sl,.slice (some (Ad g off)) (np+1) cap] 47)).alloc (.cells #[vi 0,vi 0,.slice none 0 0,.slice none 0 0] 43)).alloc (.cells #[vi 0,vi 0,.slice none 0 0,.slice none 0 0,vi 0,vi 0,vi 0,vi 0,vi 0,vi 0,vi 0,vi 0,vi 0,vi 0,vi 0,vi 0,vi 0,vi 0,vi 0,vi 0,vi 0,vi 0,vi 0,vi 0,vi 0,vi 0,vi 0,vi 0,vi 0,vi 0,vi 0,vi 0,vi 0,vi 0,vi 0] 67)) (.cells #[pM (W.heap.size+1+1)] 64)
  simpa using this
 obtain⟨M,hMe⟩:∃M,W.heap.size+1+1+1=M:=⟨_,rfl⟩
 rw[hMe]at gM
 obtain⟨os,hos⟩:∃os:List (Nat×Obj),os=[(W.heap.size,.cells #[vi p.k,.string p.t,vi p.n,vi p.sl,.slice (some (Ad g off)) (np+1) cap] 47),(W.heap.size+1,.cells #[vi 0,vi 0,.slice none 0 0,.slice none 0 0] 43),(M,.cells #[pM B] 64)]:=⟨_,rfl⟩
 have i1:os[1]?=some (W.heap.size+1,.cells #[vi 0,vi 0,.slice none 0 0,.slice none 0 0] 43):=by rw[hos];rfl
 have i2:os[2]?=some (M,.cells #[pM B] 64):=by rw[hos];rfl
 have hM0:=d5x hb0 (by omega) gB
 have hA:=At.begin' (os:=os) hM0 (d2q nf) (fun q hq=>by rw[hos]at hq;simp at hq;rcases hq with rfl|rfl|rfl;exact⟨gP,by show ¬W.heap.size=B;omega⟩;exact⟨gR,by show ¬W.heap.size+1=B;omega⟩;exact⟨gM,by show ¬M=B;omega⟩)
 have hrd:∀{D0:Nat->Prop} {mm:Ma} {W0:World} {ko kc:Nat} {D1:Nat->Prop} {m1:Ma} {V:World},At W B nf D0 mm W0 os ko kc D1 m1 V->In5 V W.heap.size (vi p.k) (.string p.t) (vi p.n) (vi p.sl) (.slice (some (Ad g off)) (np+1) cap)/\V.heap[W.heap.size+1]?=some (.cells #[vi 0,vi 0,.slice none 0 0,.slice none 0 0] 43)/\V.cell? (Ad M 0)=some (Po B 0):=fun hV=>by
  exact⟨in5 (hV.at 0 (by rw[hos];rfl)),hV.at 1 i1,q2z (hV.at 2 i2) rfl⟩
 have s1:=fun V=>params_any (vi p.k) (.string p.t) (vi p.n) (vi p.sl) g off np cap (np+1) rfl hcap.1 hcap.2 V
 have hdc:∀(V:World) (m1:Ma) (D1:Nat->Prop) (os':List (Nat×Obj)) (j:Nat),j<np->At W B nf (fun k=>k=B) m0 w0 os' 0 0 D1 m1 V->m1.us=j->∃y b' cap',KC V y g (off+j*5) b' cap'/\(∀V2,Bw V V2->Cl 21 #[pM B,ptv y b' cap'] V2 fun e V3=>∃m2 D2,e=.returned (vi (m1.us:Nat))/\At W B nf (fun k=>k=B) m0 w0 os' 0 0 D2 m2 V3/\m2.us=j+1):=fun V m1 D1 os' j hj hV hu=>by
  obtain⟨x,hx1,hx2⟩:=hpj j hj
  obtain⟨g',off',b',cap',e1,_,_,hc⟩:=PK.kid hK hx1
  cases e1
  have hs:=hsl j x hx2
  refine⟨x,b',cap',hc V hV.mq.bl,fun V2 hb2=>?_⟩
  refine((hV.below hb2).declare (by omega) x b' cap' hs.1 hs.2).mono ?_
  rintro e V3 ⟨m2,D2,rfl,hA2,_,hu2,_⟩
  exact⟨m2,D2,rfl,hA2,by omega⟩
 -- behind the parameters
 have hset:∀(V:World) (m1:Ma) (D1:Nat->Prop),At W B nf (fun k=>k=B) m0 w0 os 0 0 D1 m1 V->m1.us=np->(∃x,V.cell? (Ad B 0)=some (vi x))/\V.frozen? (Ad B 0)=false/\V.cell? (Ad B 4)=some (vi (np:Nat))/\At W B nf D1 { m1 with pa:=(np:Nat) } (V.setCell (Ad B 0) (vi (np:Nat))) os 0 0 D1 { m1 with pa:=(np:Nat) } (V.setCell (Ad B 0) (vi (np:Nat)))/\CK (fun k=>k=B) w0 D1 (V.setCell (Ad B 0) (vi (np:Nat)))/\m1.co=[]/\m1.cs=[]:=fun V m1 D1 hV hu=>by
  obtain⟨_,_,_,_,c⟩:=hV.mq.mc
  obtain⟨a,b⟩:=hV.mq.setPa (np:Nat)
  have cu:=c.us
  rw[hu]at cu
  obtain⟨l,e1,e2⟩:=hV.ex.co
  obtain⟨l',e3,e4⟩:=hV.ex.cs
  have i:=hV.iv
  refine⟨⟨_,c.pa⟩,c.fz _,cu,At.begin' a ⟨i.us,i.rg,i.p30,i.pl,i.cs,i.co⟩ (fun q hq=>b.box (hV.bo q hq).1 (hV.bo q hq).2),hV.ck.trans b,?_,?_⟩
  ·rw[e1,List.length_eq_zero_iff.1 (Nat.le_zero.1 e2)];rfl
  ·rw[e3,List.length_eq_zero_iff.1 (Nat.le_zero.1 e4)];rfl
 have sB:=fun V (hb:Bw W V)=>body_any p g off cap np hL (by have:=hcap;unfold maxLen at this;omega) z bz capz V (hcz V hb) (Nat.lt_of_lt_of_le hgl hb.size)
 have sK:∀(V:World) (D1:Nat->Prop) (m1:Ma) (U:World),At W B nf D1 { m1 with pa:=(np:Nat) } U os 0 0 D1 { m1 with pa:=(np:Nat) } V->m1.us=np->m1.co=[]->m1.cs=[]->Cl 22 #[pM B,ptv z bz capz] V fun e V2=>∃m2 D2,e=.returned (.tuple #[])/\At W B nf D1 { m1 with pa:=(np:Nat) } U os (0+4*cntL z.kids) (0+cntL z.kids) D2 m2 V2/\m2.us=np:=fun V D1 m1 U hV hu h1 h2=>by
  refine(hV.block hB z bz capz (by omega) hqz hkz hpz ⟨by show m1.us+_<=250;omega,by show m1.co.length+_<=3000;rw[h1];show 0+_<=3000;omega,by show m1.cs.length+_<=700;rw[h2];show 0+_<=700;omega⟩).mono ?_
  rintro e V2 ⟨m2,D2,rfl,hA2,_,hu2⟩
  exact⟨m2,D2,rfl,hA2,by rw[hu2];exact hu⟩
 have sF:∀(V:World) (D1 D2:Nat->Prop) (m1 m2:Ma) (U:World),At W B nf D1 { m1 with pa:=(np:Nat) } U os (0+4*cntL z.kids) (0+cntL z.kids) D2 m2 V->m2.us=np->m1.co=[]->m1.cs=[]->Cl 24 #[pM B,.func (.func 25) #[] #[Po M 0]] V fun e V2=>e=.returned (.tuple #[])/\FZ W B nf D2 m2 V V2:=fun V D1 D2 m1 m2 U hV hu h1 h2=>by
  have l1:=hV.ex.lco
  have l2:=hV.ex.lcs
  rw[h1]at l1
  rw[h2]at l2
  simp only[List.length_nil]at l1 l2
  exact c8e _ hV.mq (c8d (hV.at 2 i2) ((hV.bo _ (List.mem_of_getElem? i2)).2) hV.mq hV.iv ⟨by omega,by omega,by omega⟩)
 have sE:∀(V V2:World) (D1 D2:Nat->Prop) (m1 m2:Ma) (U:World),CK (fun k=>k=B) w0 D1 U->At W B nf D1 { m1 with pa:=(np:Nat) } U os (0+4*cntL z.kids) (0+cntL z.kids) D2 m2 V->m2.us=np->m1.co=[]->m1.cs=[]->FZ W B nf D2 m2 V V2->∃f:Fd,V2.cell? (Ad B 0)=some (vi f.p)/\V2.cell? (Ad B 1)=some (vi f.r)/\V2.cell? (Ad B 2)=some (.slice f.ca f.cs.length f.cc)/\V2.cell? (Ad B 3)=some (.slice f.ia f.is.length f.ic)/\V2.cell? (Ad M 0)=some (Po B 0)/\V2.heap[W.heap.size+1]?=some (.cells #[vi 0,vi 0,.slice none 0 0,.slice none 0 0] 43)/\FnZ nf np W f (put4 V2 (W.heap.size+1) (vi f.p) (vi f.r) f.cv f.iv):=fun V V2 D1 D2 m1 m2 U hcu hV hu h1 h2 hz=>by
  obtain⟨m3,D3,hM3,hX3,hC3,hF3⟩:=hz
  have l1:=(hV.ex.trans hX3 (Nat.le_refl _) (Nat.le_refl _)).lco
  have l2:=(hV.ex.trans hX3 (Nat.le_refl _) (Nat.le_refl _)).lcs
  rw[h1]at l1
  rw[h2]at l2
  simp only[List.length_nil]at l1 l2
  have hrg:=hX3.rg
  have hus:=hV.iv.us
  obtain⟨ca,cc,ia,ic,g1,g2,g3,g4,g5⟩:=hM3.mem
  have hpa:m3.pa=(np:Nat):=hX3.pa.trans hV.ex.pa
  obtain⟨f,f1,f2,f3,f4,f5,f6,f7,f8,f9⟩:=d8f hF3 np hpa hnp (by omega) (by omega) (by omega) ca cc ia ic
  have fl:f.is.length=m3.co.length:=by rw[<- f7,List.length_map]
  have c:=d4t g1
  have hr0:(f.r:Int)=(m3.rg:Nat):=by
   have:=congrArg (fun v=>match v with|Value.agg x=>x[1]? | _=>none) f1
   simpa using this
  obtain⟨gR3,nR3⟩:=hC3.box (hV.at 1 i1) (hV.bo _ (List.mem_of_getElem? i1)).2
  have gM3:=(hC3.box (hV.at 2 i2) (hV.bo _ (List.mem_of_getElem? i2)).2).1
  have hck:CK (fun k=>k=B) w0 D3 V2:=(hcu.trans hV.ck).trans hC3
  have hbl:Bw W V2:=a0b.toBelow hb0 hck.k (fun k e=>by subst e;omega)
  have hk4:a0b (fun q=>q=W.heap.size+1) V2 (put4 V2 (W.heap.size+1) (vi f.p) (vi f.r) f.cv f.iv):=(((a1u _ _ _ _).trans (a1u _ _ _ _)).trans (a1u _ _ _ _)).trans (a1u _ _ _ _)
  have hoth:∀k,D3 k->(put4 V2 (W.heap.size+1) (vi f.p) (vi f.r) f.cv f.iv).heap[k]?=V2.heap[k]?:=fun k hk=>hk4.block k (hM3.lo k hk).2 (fun e=>nR3 (e▸hk))
  refine⟨f,by rw[f8,<- hpa];exact c.pa,by rw[hr0];exact c.rg,by rw[f2,f3,f6];exact c.cs,by rw[f4,f5,fl];exact c.co,q2z gM3 rfl,gR3,?_,?_,f8,f9,a0b.toBelow hbl hk4 (fun k e=>by subst e;omega)⟩
  ·show World.ownsRow _ _ _ _ (.slice f.ca f.cs.length f.cc) f.cs.length (flat f.cs)
   rw[f2,f3,f6]
   exact a2b g2 fun b hb=>hoth b (g4 b hb).1
  ·show World.ownsRow _ _ _ _ (.slice f.ia f.is.length f.ic) f.is.length (a3p (f.is.map toQ))
   rw[f4,f5,f7,fl]
   exact a2b g3 fun b hb=>hoth b (g5 b hb).1
 have hkid:∀(V:World),Bw W V->g<V.heap.size:=fun V hb=>Nat.lt_of_lt_of_le hgl hb.size
 obtain⟨⟨c0,c1,c2,c3,c4,_,_,_,_,_⟩,_,cm⟩:=hrd hA
 have hBl:W.heap.size+1<B:=by omega
 have hI:Hid (∀V,Bw w0 V->At W B nf (fun k=>k=B) m0 w0 os 0 0 (fun k=>k=B) m0 V):=fun V hb=>hA.below hb
 replace hdc:Hid _:=hdc
 replace hset:Hid _:=hset
 replace sB:Hid _:=sB
 replace sK:Hid _:=sK
 replace sF:Hid _:=sF
 replace sE:Hid _:=sE
 replace hrd:Hid _:=@hrd
 replace hk:Hid _:=hk
 have hnc:(np:Int)<=(cap:Int):=by omega
 simp only[a0x,hL]at sB sK
 subst hBe
 subst hMe
 clear i1 i2 hp hF hsl hK hB hA hM0 gP gR gB gM hb0 hos hks hL hz hpj hqz fz hkz hpz hcz hhz h13 hmz hctz hczl hcap hnf h600 hnpe
 go_enter Tryz.func9,Tryz.ntmps9
 go_wp2_with (go_at_call 20;refine(s1 _).mono ?_;rintro e w2 ⟨rfl,hb2⟩;refine Hid.out ?_)
 have hI2:=hI.out w2 hb2
 clear hI s1 c0 c1 c2 c3 c4 cm hb2 hw0
 replace hI2:Hid _:=hI2
 refine Lib.hid ?_
 go_wp2
 go_loopw [11] (fun ix wr=>∃j:Nat,j<=np/\ix=vi (j:Nat)/\∃D1 m1,At W (W.heap.size+1+1) nf (fun k=>k=(W.heap.size+1+1)) m0 w0 os 0 0 D1 m1 wr/\m1.us=j) (fun ix _=>np-(intOf ix).toNat)
 case atStart=>exact⟨0,Nat.zero_le _,rfl,_,m0,hI2.out,rfl⟩
 case round =>
  obtain⟨j,hj,rfl,D1,m1,hA1,hu1⟩:=hrel
  clear hI2
  by_cases hlt:j<np
  ·obtain⟨y,b',cap',⟨v0,v1,v2,v3,v4⟩,hdec⟩:=hdc.out wr m1 D1 os j hlt hA1 hu1
   have hb1:=q1z (Below.refl wr.heap.size wr) (pbx y b' cap')
   have hd:=hdec _ hb1
   obtain⟨_,_,cm⟩:=hrd.out (hA1.below hb1)
   replace cm:(wr.alloc (.cells #[vi y.k,.string y.t,vi y.n,vi y.sl,.slice b' y.kids.length cap'] 47)).cell? (Ad (W.heap.size+1+1+1) 0)=some (Po (W.heap.size+1+1) 0):=cm
   have hM2:=(hrd.out hA1).2.2
   have hlt':(j:Int)<(np:Int):=by omega
   have hge:(0:Int)<=(j:Int):=by omega
   have hj1:Hid (j+1<=np):=hlt
   simp only[a0x]at hd
   replace hu1:Hid _:=hu1
   clear hA1 hdec hdc hset sB sK sF sE hb1
   go_wp2_with (go_at_call 21;refine hd.mono ?_;rintro e w3 ⟨m2,D2,rfl,hA2,hu2⟩;replace hu2:Hid _:=hu2)
   go_roundw
   case rel=>exact⟨j+1,hj1.out,by go_num,D2,m2,hA2,hu2.out⟩
   case measure =>
    have:=hj1.out
    simp[intOf];omega
  ·have hlt':¬(j:Int)<(np:Int):=by omega
   have hjL:j=np:=by omega
   subst hjL
   obtain⟨⟨x,e0⟩,f0,e4,hA2,hck,hco,hcs⟩:=hset.out _ _ _ hA1 hu1
   obtain⟨_,_,cm⟩:=hrd.out hA1
   obtain⟨U,hU⟩:∃U,wr.setCell (Ad (W.heap.size+1+1) 0) (vi (j:Nat))=U:=⟨_,rfl⟩
   rw[hU]at hA2 hck
   replace hck:=hck.trans (CK.refl (D:=D1) (W:=U))
   obtain⟨⟨c0,c1,c2,c3,c4,_,_,_,_,_⟩,_,cmU⟩:=hrd.out hA2.drew.drew
   have tB':∀V,Below U.drew.heap.size U.drew V->_:=fun V hb=>sB.out V (hA2.drew.below hb).mq.bl
   have hcr:∀{V:World},Below U.drew.heap.size U.drew V->_:=fun hb=>hrd.out (hA2.drew.below hb)
   have tK:∀V,Below U.drew.heap.size U.drew V->_:=fun V hb=>sK.out V _ _ _ (hA2.drew.below hb) hu1 hco hcs
   replace hu1:Hid _:=hu1
   replace hco:Hid _:=hco
   replace hcs:Hid _:=hcs
   replace tB':Hid _:=tB'
   replace tK:Hid _:=tK
   replace hcr:Hid _:=@hcr
   replace hck:Hid _:=hck
   clear hA1 hdc hset sB sK hA2
   go_wp2
   go_region
   go_wp2
   go_region_held3 (fun u=>u.cell? (Ad W.heap.size 0)=some (vi p.k)/\u.cell? (Ad W.heap.size 1)=some (.string p.t)/\u.cell? (Ad W.heap.size 2)=some (vi p.n)/\u.cell? (Ad W.heap.size 3)=some (vi p.sl)/\u.cell? (Ad W.heap.size 4)=some (.slice (some (Ad g off)) (j+1) cap)/\u.cell? (Ad (W.heap.size+1+1+1) 0)=some (Po (W.heap.size+1+1) 0)) (go_keep) (first|(go_at_call 23;refine(tB'.out _ bz0.drew).mono ?_;rintro e w4 ⟨rfl,hb4⟩;replace hb4:=q3z (Below.refl U.drew.heap.size U.drew).drew hb4;obtain⟨⟨c0,c1,c2,c3,c4,_,_,_,_,_⟩,_,cmU⟩:=hcr.out hb4)|(go_at_call 22;refine(tK.out _ hb4).mono ?_;rintro e w5 ⟨m2,D2,rfl,hA3,hu2⟩;obtain⟨⟨c0,c1,c2,c3,c4,_,_,_,_,_⟩,_,cmU⟩:=hrd.out hA3))
   have t4:=sF.out _ _ _ _ _ _ hA3 hu2 hco.out hcs.out
   have t5:=fun V2 hz=>sE.out _ V2 _ _ _ _ _ (hck.out.trans (CK.below bz0)) hA3 hu2 hco.out hcs.out hz
   replace t5:Hid _:=t5
   replace hu2:Hid _:=hu2
   clear sF sE tB' tK hcr hck c0 c1 c2 c3 c4 hA3
   go_wp2_with (go_at_call 24;refine t4.mono ?_;rintro e w6 ⟨rfl,hz⟩;refine Hid.out ?_)
   obtain⟨f,q0,q1,q2,q3,qm,gR,hfin⟩:=t5.out _ hz
   have d0:=q2z (i:=0) (v:=vi 0) gR rfl
   have d1:=q2z (i:=1) (v:=vi 0) gR rfl
   have d2:=q2z (i:=2) (v:=.slice none 0 0) gR rfl
   have d3:=q2z (i:=3) (v:=.slice none 0 0) gR rfl
   have f0:w6.frozen? (Ad (W.heap.size+1) 0)=false:=q6z gR
   have f1:w6.frozen? (Ad (W.heap.size+1) 1)=false:=q6z gR
   have f2:w6.frozen? (Ad (W.heap.size+1) 2)=false:=q6z gR
   have f3:w6.frozen? (Ad (W.heap.size+1) 3)=false:=q6z gR
   have gS:(put4 w6 (W.heap.size+1) (vi f.p) (vi f.r) f.cv f.iv).heap[W.heap.size+1]?=some (.cells #[vi f.p,vi f.r,f.cv,f.iv] 43):=q7z _ (q7z _ (q7z _ (q7z _ gR)))
   replace hfin:Hid _:=hfin
   clear t4 t5 hz cmU gR
   refine Lib.hid ?_
   go_wp2
   exact bodyPost_ret (res9 (B:=W.heap.size+1) rfl gS) rfl ⟨f,rfl,hfin.out⟩
abbrev c4m:ByteArray:=⟨#[109,97,105,110]⟩
theorem c4n(a c d x:Value)(t:ByteArray)(W:World)(ht:¬t=(⟨#[109,97,105,110]⟩:ByteArray)):Cl 19 #[.agg #[a,.string t,c,d,x]] W fun w W'=>w=.returned (.bool false)/\Bw W W':=by
 have y:=q1z (Below.refl W.heap.size W) (.cells #[a,.string t,c,d,x] 47)
 go_enter Tryz.func19,Tryz.ntmps19
 have z:¬t.toList=[109,97,105,110]:=fun h=>ht (by obtain⟨d⟩:=t;rw[ByteArray.toList_eq]at h;congr 1;exact Array.ext' h)
 go_wp2
 go_ret
 refine⟨?_,y⟩
 simp[z]
theorem b9w(a c d x:Value)(W:World):Cl 19 #[.agg #[a,.string ⟨#[109,97,105,110]⟩,c,d,x]] W fun y W'=>y=.returned (.bool true)/\Bw W W':=by
 have z:=q1z (Below.refl W.heap.size W) (.cells #[a,.string ⟨#[109,97,105,110]⟩,c,d,x] 47)
 go_enter Tryz.func19,Tryz.ntmps19
 go_wp2
 go_ret
 exact⟨rfl,z⟩
theorem b9x(w1:World)(ks:List Pt)(b:Option Addr)(cap j:Nat)(q:Pt)(W:World)(hb:Bw w1 W)(hk:PK tt w1 ks b cap)(hj:ks[j]?=some q)(hq:q.t=c4m)(hlt:∀(i:Nat) (y:Pt),i<j->ks[i]?=some y->y.t≠c4m):Cl 18 #[.slice b ks.length cap,.func (.func 19) #[] #[]] W fun en W'=>en=.returned (vi (j:Nat))/\Bw W W':=by
 have hks:=hk.1
 have hjl:j<ks.length:=(List.getElem?_eq_some_iff.1 hj).1
 obtain⟨L,hL⟩:∃L,ks.length=L:=⟨_,rfl⟩
 rw[hL]at hks hjl⊢
 have hLc:(L:Int)<=(cap:Int):=by omega
 have hLm:L<=9223372036854775807:=by unfold maxLen at hks;omega
 have hround:∀i wr,i<=j->Bw W wr->∃(y:Pt) (g off:Nat) (b':Option Addr) (cap':Nat),b=some (Ad g off)/\KC wr y g (off+i*5) b' cap'/\((i<j/\¬y.t=(⟨#[109,97,105,110]⟩:ByteArray))\/(i=j/\y.t=⟨#[109,97,105,110]⟩)):=fun i wr hi hbr=>by
  have hil:i<ks.length:=by omega
  obtain⟨y,hy⟩:∃y,ks[i]?=some y:=⟨_,List.getElem?_eq_getElem hil⟩
  obtain⟨g,off,b',cap',rfl,_,_,hc⟩:=PK.kid hk hy
  refine⟨y,g,off,b',cap',rfl,hc wr (q3z hb hbr),?_⟩
  by_cases hij:i=j
  ·subst hij
   rw[hj]at hy
   cases hy
   exact .inr ⟨rfl,hq⟩
  ·exact .inl ⟨by omega,hlt i y (by omega) hy⟩
 replace hround:Hid _:=hround
 have hI:=Below.refl W.heap.size W
 clear hk hj hq hlt hL hb
 go_enter Tryz.func18,Tryz.ntmps18
 go_wp2
 go_loopw [8] (fun ix wr=>∃i:Nat,i<=j/\ix=vi (i:Nat)/\Bw W wr) (fun ix _=>L-(intOf ix).toNat)
 case atStart=>exact⟨0,Nat.zero_le _,rfl,hI⟩
 case round =>
  obtain⟨i,hi,rfl,hbr⟩:=hrel
  clear hI
  obtain⟨y,g,off,b',cap',rfl,⟨c0,c1,c2,c3,c4⟩,hy⟩:=hround.out i _ hi hbr
  have hlt':(i:Int)<(L:Int):=by omega
  have hge:(0:Int)<=(i:Int):=by omega
  rcases hy with⟨hij,ht⟩|⟨rfl,ht⟩
  ·have hj1:Hid (i+1<=j/\i<L):=⟨hij,by omega⟩
   clear hround
   go_wp2_with (go_at_call 19;refine(c4n _ _ _ _ _ _ ht).mono ?_;rintro en w2 ⟨rfl,hb2⟩)
   go_roundw
   case rel=>exact⟨i+1,hj1.out.1,by go_num,q3z hbr hb2⟩
   case measure =>
    have hj2:=hj1.out
    simp[intOf];omega
  ·rw[ht]at c1
   clear hround
   go_wp2_with (go_at_call 19;refine(b9w _ _ _ _ _).mono ?_;rintro en w2 ⟨rfl,hb2⟩)
   go_ret
   exact⟨rfl,q3z hbr hb2⟩
theorem c8f(w1:World)(u:Pt)(b:Option Addr)(cap j:Nat)(q:Pt)(W:World)(hb:Bw w1 W)(hk:PK tt w1 u.kids b cap)(hj:u.kids[j]?=some q)(hq:q.t=c4m)(hlt:∀(i:Nat) (y:Pt),i<j->u.kids[i]?=some y->y.t≠c4m):Cl 8 #[ptv u b cap] W fun r W'=>r=.returned (vi (j:Nat))/\Bw W W':=by
 have x:=q1z (Below.refl W.heap.size W) (pbx u b cap)
 have w:=b9x w1 u.kids b cap j q _ (q3z hb x) hk hj hq hlt
 obtain⟨L,s⟩:∃L,u.kids.length=L:=⟨_,rfl⟩
 rw[a0x]
 rw[s]at w⊢
 have z:pbx u b cap=.cells #[vi u.k,.string u.t,vi u.n,vi u.sl,.slice b L cap] 47:=by unfold pbx;rw[s]
 rw[z]at w x
 clear s hk hj hq hlt z hb
 go_enter Tryz.func8,Tryz.ntmps8
 go_wp2_with (go_at_call 18;refine w.mono ?_;rintro r p ⟨rfl,v⟩)
 go_ret
 exact⟨rfl,q3z x v⟩
end Go.Proofs.YtomniogfpfbolaaGreatDoor.V.C
