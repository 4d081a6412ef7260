/- A run of the model: statements (an expression that is done, what is given back). -/
import Derived.Test.YtfbpdbndejefdaaGreatDoorS48
namespace Go.Proofs.YtfbpdbndejefdaaGreatDoor.V
open Go.RowKit Go
set_option maxRecDepth 100000
set_option maxHeartbeats 8000000
set_option linter.all false
variable {n i:Nat}
section
variable [DecidableEq Vl]
section
variable {F:Int->Vl->Vl->Vl×Int} {e:En} {D:Nat->Prop} {C:Nat} {l:List Vl} {r:Rn Tb} {W:World}
theorem zs_7(t:ByteArray)(nn sl:Int)(ks:List Pt)(l:List Vl)(r:Rn Tb)(h:r.st<=e.lim):ZX F e 1 ⟨7,t,nn,sl,ks⟩ 0 0 l r=tick e.lim l r fun l r=>exX (zE F e) ks[0]? l r:=(a3r F e 1 _ 0 0 l r h).trans rfl
theorem d8l(hE:EC F e n)(hn:e.lim<(n+1)+r.st)(t:ByteArray)(nn sl:Int)(ks:List Pt)(b:Option Addr)(cap:Nat)(hw:Wf (nf e) ⟨7,t,nn,sl,ks⟩)(hk:PK tt e.w1 ks b cap)(h:St e D C l r W):Cl 33 #[pC C,ptv ⟨7,t,nn,sl,ks⟩ b cap] W (XQ g0 e D C W r.tb.length (ZX F e 1 ⟨7,t,nn,sl,ks⟩ 0 0 l r)):=by
 obtain⟨y3,w0,y8,i,z⟩:=b4l (.cells #[vi 7,.string t,vi nn,vi sl,.slice b ks.length cap] 34) h (zs_7 t nn sl ks l r h.rq.gd.st)
 generalize ZX F e 1 ⟨7,t,nn,sl,ks⟩ 0 0 l r=R at z⊢
 generalize r.tb.length=nt at z⊢
 show Cl 33 #[pC C,.agg #[vi 7,.string t,vi nn,vi sl,.slice b ks.length cap]] W _
 clear h
 go_enter Tryz.func33,Tryz.ntmps33
 go_wp2_with (go_at_call 48;refine z.mono ?_;rintro en w1 (⟨rfl,hx⟩|⟨rfl,r1,j,y7,f,o,y⟩);(exact⟨rfl,hx⟩);refine Hid.out ?_)
 try dsimp only at o
 obtain⟨p0,p1,p2,p3,p4,_,_,_,_,_⟩:=in5 (y.at 0 rfl)
 have z6:=y.st.ptr
 clear z i
 replace j:Hid _:=j
 obtain⟨s,u,z3⟩:=a6v hw (by omega)
 obtain⟨g,y5,b0,q,rfl,z5,z2⟩:=PK.kid hk u
 have hL:0<ks.length:=(List.getElem?_eq_some_iff.1 u).1
 have y9:=hk.1
 have z7:=(hw.kid u).2
 obtain⟨L,z0⟩:=exq (ks.length)
 rw[z0]at hL y9 p4
 have y2:(0:Int)<(L:Int):=by omega
 have y6:(L:Int)<=(cap:Int):=by omega
 have v:∀V,Bw w1 V->Cl 49 #[pC C,.agg #[vi s.k,.string s.t,vi s.n,vi s.sl,.slice b0 s.kids.length q]] V (XQ (gV e) e D C V r1.tb.length (ZX F e 0 s 0 0 l r1)):=fun V hb=>hE s b0 q C l r1 D V (by omega) z7 z3 z5 (y.below hb).st
 rw[u]at o
 replace o:ZX F e 0 s 0 0 l r1=R:=o
 have hc:=v w1 (Below.refl _ _)
 obtain⟨_,j0,j1,j2,j3,j4⟩:=z2 w1 y.st.rq.bl
 simp only[Nat.zero_mul,Nat.add_zero]at j0 j1 j2 j3 j4
 replace y:Hid _:=y
 clear v
 refine Lib.hid ?_
 go_wp2_with (go_at_call 49;refine hc.mono ?_;intro en w2 hq;rcases hq.par with⟨pv,rfl,z1⟩|⟨a,l2,r2,D2,vv,m,rfl,z9,z8,z4,rfl,y4⟩;(exact⟨rfl,.inl ⟨pv,rfl,(y.out.bad z1).eq o.symm⟩⟩);refine Hid.out ?_)
 have p:=y.out.step z9 z8
 have d:XQ g0 e D C W nt R (.returned (.tuple #[])) w2:=.inr ⟨a,l2,r2,D2,_,o.symm.trans m,rfl,p.st,p.ck,Nat.le_trans f z4,rfl⟩
 clear p y m z9 z8 hc hE hk hw
 refine Lib.hid ?_
 go_wp2
 go_end0
 exact d
theorem e0e(t:ByteArray)(nn sl:Int)(ks:List Pt)(l:List Vl)(r:Rn Tb)(h:r.st<=e.lim):ZX F e 1 ⟨11,t,nn,sl,ks⟩ 0 0 l r=tick e.lim l r fun l r=>(exX (zE F e) ks[0]? l r).bind fun v _ r=>Res.ret v r:=(a3r F e 1 _ 0 0 l r h).trans rfl
theorem d4q(hE:EC F e n)(hn:e.lim<(n+1)+r.st)(t:ByteArray)(nn sl:Int)(ks:List Pt)(b:Option Addr)(cap:Nat)(hw:Wf (nf e) ⟨11,t,nn,sl,ks⟩)(hk:PK tt e.w1 ks b cap)(h:St e D C l r W):Cl 33 #[pC C,ptv ⟨11,t,nn,sl,ks⟩ b cap] W (XQ g0 e D C W r.tb.length (ZX F e 1 ⟨11,t,nn,sl,ks⟩ 0 0 l r)):=by
 obtain⟨y2,w0,y8,f,z⟩:=b4l (.cells #[vi 11,.string t,vi nn,vi sl,.slice b ks.length cap] 34) h (e0e t nn sl ks l r h.rq.gd.st)
 generalize ZX F e 1 ⟨11,t,nn,sl,ks⟩ 0 0 l r=R at z⊢
 generalize r.tb.length=nt at z⊢
 show Cl 33 #[pC C,.agg #[vi 11,.string t,vi nn,vi sl,.slice b ks.length cap]] W _
 clear h
 go_enter Tryz.func33,Tryz.ntmps33
 go_wp2_with (go_at_call 48;refine z.mono ?_;rintro en w1 (⟨rfl,hx⟩|⟨rfl,r1,i,y7,y6,m,y⟩);(exact⟨rfl,hx⟩);refine Hid.out ?_)
 try dsimp only at m
 obtain⟨p0,p1,p2,p3,p4,_,_,_,_,_⟩:=in5 (y.at 0 rfl)
 have z5:=y.st.ptr
 clear z f
 replace i:Hid _:=i
 obtain⟨q,s,z3⟩:=a6v hw (by omega)
 obtain⟨g,y4,b0,p,rfl,z4,z2⟩:=PK.kid hk s
 have hL:0<ks.length:=(List.getElem?_eq_some_iff.1 s).1
 have y9:=hk.1
 have z7:=(hw.kid s).2
 obtain⟨L,z0⟩:=exq (ks.length)
 rw[z0]at hL y9 p4
 have y1:(0:Int)<(L:Int):=by omega
 have y5:(L:Int)<=(cap:Int):=by omega
 have u:∀V,Bw w1 V->Cl 49 #[pC C,.agg #[vi q.k,.string q.t,vi q.n,vi q.sl,.slice b0 q.kids.length p]] V (XQ (gV e) e D C V r1.tb.length (ZX F e 0 q 0 0 l r1)):=fun V hb=>hE q b0 p C l r1 D V (by omega) z7 z3 z4 (y.below hb).st
 rw[s]at m
 replace m:((ZX F e 0 q 0 0 l r1).bind fun v _ r=>Res.ret v r)=R:=m
 have hc:=u w1 (Below.refl _ _)
 obtain⟨_,j0,j1,j2,j3,j4⟩:=z2 w1 y.st.rq.bl
 simp only[Nat.zero_mul,Nat.add_zero]at j0 j1 j2 j3 j4
 replace y:Hid _:=y
 clear u
 refine Lib.hid ?_
 go_wp2_with (go_at_call 49;refine hc.mono ?_;intro en w2 hq;rcases hq.par with⟨pv,rfl,z1⟩|⟨a,l2,r2,D2,vv,j,rfl,z9,z8,y3,rfl,z6⟩;(exact⟨rfl,.inl ⟨pv,rfl,((y.out.bad z1).bind _).eq m.symm⟩⟩);refine Hid.out ?_)
 have o:=y.out.step z9 z8
 have d:XQ g0 e D C W nt R (.panicked (pan (retV a))) w2:=.inl ⟨_,rfl,D2,o.ck,.inr ⟨a,r2,by rw[<- m,j];rfl,d0d _,o.st.rq,z6⟩⟩
 clear o y j z9 z8 hc hE hk hw
 refine Lib.hid ?_
 go_wp2
 exact⟨rfl,d⟩
structure InL (V:World) (C i:Nat) (v:Vl):Prop where
 c0:V.cell? (Ad C (1+i*3))=some (vi v.k)
 c1:V.cell? (Ad C (1+i*3+1))=some (vi v.n)
 c2:V.cell? (Ad C (1+i*3+2))=some (.string v.s)
 f0:V.frozen? (Ad C (1+i*3))=false
 f1:V.frozen? (Ad C (1+i*3+1))=false
 f2:V.frozen? (Ad C (1+i*3+2))=false
theorem St.inl(h:St e D C l r W)(hi:i<30):∃v,InL W C i v:=by
 obtain⟨v,hv,_⟩:=d7y h hi
 obtain⟨c0,c1,c2⟩:=h.get hv
 exact⟨v,c0,c1,c2,h.froz _,h.froz _,h.froz _⟩
theorem kL{w:World}{C c o:Nat}{v:Vl}(h:c≠C):(putL w C i v).cell? (Ad c o)=w.cell? (Ad c o):=World.cell?_of_block (a:=(Ad c o)) ((set1_other _ _ h).trans ((set1_other _ _ h).trans (set1_other _ _ h)))
theorem zs_5(t:ByteArray)(nn sl:Int)(ks:List Pt)(l:List Vl)(r:Rn Tb)(h:r.st<=e.lim):ZX F e 1 ⟨5,t,nn,sl,ks⟩ 0 0 l r=tick e.lim l r fun l r=>(exX (zE F e) ks[0]? l r).bind fun v l r=>Res.ok nilV (l.set sl.toNat v) r:=(a3r F e 1 _ 0 0 l r h).trans rfl
theorem stat_5(hE:EC F e n)(hn:e.lim<(n+1)+r.st)(t:ByteArray)(nn sl:Int)(ks:List Pt)(b:Option Addr)(cap:Nat)(hw:Wf (nf e) ⟨5,t,nn,sl,ks⟩)(hk:PK tt e.w1 ks b cap)(h:St e D C l r W):Cl 33 #[pC C,ptv ⟨5,t,nn,sl,ks⟩ b cap] W (XQ g0 e D C W r.tb.length (ZX F e 1 ⟨5,t,nn,sl,ks⟩ 0 0 l r)):=by
 obtain⟨w5,w0,x0,y6,o⟩:=b4l (.cells #[vi 5,.string t,vi nn,vi sl,.slice b ks.length cap] 34) h (zs_5 t nn sl ks l r h.rq.gd.st)
 generalize ZX F e 1 ⟨5,t,nn,sl,ks⟩ 0 0 l r=R at o⊢
 generalize r.tb.length=nt at o⊢
 show Cl 33 #[pC C,.agg #[vi 5,.string t,vi nn,vi sl,.slice b ks.length cap]] W _
 clear h
 go_enter Tryz.func33,Tryz.ntmps33
 go_wp2_with (go_at_call 48;refine o.mono ?_;rintro en w1 (⟨rfl,hx⟩|⟨rfl,r1,z4,w9,y5,hR,s⟩);(exact⟨rfl,hx⟩);refine Hid.out ?_)
 try dsimp only at hR
 obtain⟨p0,p1,p2,p3,p4,_,_,_,_,_⟩:=in5 (s.at 0 rfl)
 have x6:=s.st.ptr
 clear o y6
 replace z4:Hid _:=z4
 obtain⟨u,j,x4⟩:=a6v hw (by omega)
 have w6:0<=sl/\sl<30:=by rw[Wf]at hw;exact hw.2.2.2.2.1 (.inl rfl)
 obtain⟨i,rfl⟩:∃i:Nat,sl=i:=⟨sl.toNat,by omega⟩
 have hi:i<30:=by omega
 obtain⟨g,z,b0,p,rfl,x5,z6⟩:=PK.kid hk j
 have hL:0<ks.length:=(List.getElem?_eq_some_iff.1 j).1
 have x2:=hk.1
 have x7:=(hw.kid j).2
 obtain⟨L,y9⟩:=exq (ks.length)
 rw[y9]at hL x2 p4
 have w3:(0:Int)<(L:Int):=by omega
 have w7:(L:Int)<=(cap:Int):=by omega
 have m:∀V,Bw w1 V->Cl 49 #[pC C,.agg #[vi u.k,.string u.t,vi u.n,vi u.sl,.slice b0 u.kids.length p]] V (XQ (gV e) e D C V r1.tb.length (ZX F e 0 u 0 0 l r1)):=fun V hb=>hE u b0 p C l r1 D V (by omega) x7 x4 x5 (s.below hb).st
 rw[j]at hR
 replace hR:((ZX F e 0 u 0 0 l r1).bind fun v l r=>Res.ok nilV (l.set i v) r)=R:=hR
 have z9:∀V V' pv,Bw w1 V->Bd (fun q=>q=C) e D V (ZX F e 0 u 0 0 l r1) pv V'->XQ g0 e D C W nt R (.panicked pv) V':=fun V V' pv hb z2=>.inl ⟨pv,rfl,(((s.below hb).bad z2).bind _).eq hR.symm⟩
 have d:∀V V' a l2 r2 D2,Bw w1 V->ZX F e 0 u 0 0 l r1=Res.ok a l2 r2->St e D2 C l2 r2 V'->CK (fun q=>q=C) D V D2 V'->r1.tb.length<=r2.tb.length->VG r2.tb.length (nf e) a->(∃x,InL V' C i x)/\XQ g0 e D C W nt R (.returned (.tuple #[])) (putL V' C i a):=fun V V' a l2 r2 D2 hb hx hS hK z3 z5=>by
  have y7:=(s.below hb).step hS hK
  exact⟨hS.inl hi,.inr ⟨nilV,l2.set i a,r2,D2,_,by rw[<- hR,hx];rfl,rfl,hS.put i z5,y7.ck.local,Nat.le_trans y5 z3,rfl⟩⟩
 have y2:∀V,Bw w1 V->Ce V W.heap.size 3 (vi (i:Nat))/\Ce V W.heap.size 4 (.slice (some (Ad g z)) L cap)/\Ce V g z (vi u.k)/\Ce V g (z+1) (.string u.t)/\Ce V g (z+2) (vi u.n)/\Ce V g (z+3) (vi u.sl)/\Ce V g (z+4) (.slice b0 u.kids.length p):=fun V hb=>by
  have k3:=z6 V (s.below hb).st.rq.bl
  simp only[Nat.zero_mul,Nat.add_zero]at k3
  exact⟨a3s hb p3,a3s hb p4,k3.c0,k3.c1,k3.c2,k3.c3,k3.c4⟩
 have z1:∀V V' l2 r2 D2,Bw w1 V->St e D2 C l2 r2 V'->CK (fun q=>q=C) D V D2 V'->(fun V=>Ce V W.heap.size 3 (vi (i:Nat))/\Ce V W.heap.size 4 (.slice (some (Ad g z)) L cap)/\Ce V g z (vi u.k)/\Ce V g (z+1) (.string u.t)/\Ce V g (z+2) (vi u.n)/\Ce V g (z+3) (vi u.sl)/\Ce V g (z+4) (.slice b0 u.kids.length p)) V':=fun V V' l2 r2 D2 hb hS hK=>by
  have y7:=(s.below hb).step hS hK
  have k1:=in5 (y7.at 0 rfl)
  have k3:=z6 V' hS.rq.bl
  simp only[Nat.zero_mul,Nat.add_zero]at k3
  exact⟨k1.c3,by rw[<- y9];exact k1.c4,k3.c0,k3.c1,k3.c2,k3.c3,k3.c4⟩
 have x9:W.heap.size≠C:=(s.bo _ (List.Mem.head _)).2.2.1
 have f:g≠C:=by have:=(z6 w1 s.st.rq.bl).lt;have:=s.st.lo;omega
 have z0:∀V y,(fun V=>Ce V W.heap.size 3 (vi (i:Nat))/\Ce V W.heap.size 4 (.slice (some (Ad g z)) L cap)/\Ce V g z (vi u.k)/\Ce V g (z+1) (.string u.t)/\Ce V g (z+2) (vi u.n)/\Ce V g (z+3) (vi u.sl)/\Ce V g (z+4) (.slice b0 u.kids.length p)) V->(fun V=>Ce V W.heap.size 3 (vi (i:Nat))/\Ce V W.heap.size 4 (.slice (some (Ad g z)) L cap)/\Ce V g z (vi u.k)/\Ce V g (z+1) (.string u.t)/\Ce V g (z+2) (vi u.n)/\Ce V g (z+3) (vi u.sl)/\Ce V g (z+4) (.slice b0 u.kids.length p)) (putL V C i y):=fun V y ⟨h0,h1,h2,h3,h4,h5,h6⟩=>⟨(kL x9).trans h0,(kL x9).trans h1,(kL f).trans h2,(kL f).trans h3,(kL f).trans h4,(kL f).trans h5,(kL f).trans h6⟩
 have z7:Bw w1 w1.drew:=(Below.refl _ _).drew
 have y3:=y2 _ z7
 have w4:(0:Int)<=(i:Int):=by omega
 have w8:(i:Int)<30:=by omega
 replace m:Hid _:=m
 replace z9:Hid _:=z9
 replace d:Hid _:=d
 replace z1:Hid _:=z1
 replace z0:Hid _:=z0
 clear s hR hE hk hw y9 y2 z6 j z4
 refine Lib.hid ?_
 go_wp2
 refine wp_region_held_drew (S:=fun V=>Ce V W.heap.size 3 (vi (i:Nat))/\Ce V W.heap.size 4 (.slice (some (Ad g z)) L cap)/\Ce V g z (vi u.k)/\Ce V g (z+1) (.string u.t)/\Ce V g (z+2) (vi u.n)/\Ce V g (z+3) (vi u.sl)/\Ce V g (z+4) (.slice b0 u.kids.length p)) (by kernel_rfl) y3 (fun z8=>?_)
 change wpAnyH _ _ _ _ _ 13 _ _ _
 iterate 8 (refine tkH 0 (by simp only[nx,gq1,gq2,gq3];rfl) (by kernel_rfl) (by rfl) z8 ⟨_,by intro w ⟨_,_,_,_,_,_,_⟩;go_simp;try with_reducible rfl,by exact fun _ _ _ h=>h,?_⟩;try simp only[Act.put,sq1,sq2,sq3])
 iterate 2 (refine tkH 1 (by simp only[nx,gq1,gq2,gq3];rfl) (by kernel_rfl) (by rfl) z8 ⟨_,by intro w ⟨_,_,_,_,_,_,_⟩;go_simp;try with_reducible rfl,by exact fun _ _ _ h=>h,?_⟩;try simp only[Act.put,sq1,sq2,sq3])
 refine wpAnyH_ready (rs:=[8]) (by kernel_rfl) (by simp) ?_
 refine AllReadyH.cons rfl (fun K hK=>?_) .nil
 go_simp
 go_at_call 49
 refine(m.out _ z7).mono ?_
 intro en w2 hq
 rcases hq.par with⟨pv,rfl,z2⟩|⟨a,l2,r2,D2,vv,x8,rfl,y4,y1,z3,rfl,z5⟩
 ·exact⟨rfl,z9.out _ _ _ z7 z2⟩
 have y8:=z1.out _ _ _ _ _ z7 y4 y1
 obtain⟨⟨x,x3⟩,hf⟩:=d.out _ _ _ _ _ _ z7 x8 y4 y1 z3 z5
 obtain⟨v0,v1,v2,v3,v4,v5⟩:=x3
 refine hK.out _ _ y8 (fun _=>?_)
 clear hK K
 try simp only[Act.put,sq1,sq2,sq3]
 iterate 1 (refine tkH 0 (by simp only[nx,gq1,gq2,gq3];rfl) (by kernel_rfl) (by rfl) y8 ⟨_,by intro w ⟨_,_,_,_,_,_,_⟩;go_simp;try with_reducible rfl,by exact fun _ _ _ h=>h,?_⟩;try simp only[Act.put,sq1,sq2,sq3])
 refine wpAnyH_ready (rs:=[12]) (by kernel_rfl) (by simp) ?_
 refine AllReadyH.cons rfl (fun K hK=>?_) .nil
 go_simp
 have x1:=z0.out _ a y8
 refine hK.out _ _ x1 (fun _=>?_)
 clear hK K
 try simp only[Act.put,sq1,sq2,sq3]
 refine wpAnyH_done (by kernel_rfl) ?_ _
 go_wp2
 go_end0
 exact hf
end
section
variable {F:Int->Vl->Vl->Vl×Int} {e:En} {D:Nat->Prop} {C:Nat} {l:List Vl} {r:Rn Tb} {W:World}
theorem c8p(hE:EC F e n)(hn:e.lim<n+r.st)(q y:Pt)(hq18:q.k=18)(i:Nat)(hi:i<30)(hqs:q.sl=i)(bq:Option Addr)(cq:Nat)(b1:Option Addr)(cap1:Nat)(hw:Wf (nf e) y)(hky:a2s y.k)(hk:PK tt e.w1 y.kids b1 cap1)(h:St e D C l r W):Cl 50 #[pC C,ptv q bq cq,ptv y b1 cap1] W (XQ g0 e D C W r.tb.length ((zE F e y l r).bind fun v l r=>Res.ok nilV (l.set i v) r)):=by
 obtain⟨w1,m⟩:=exq ((W.alloc (.cells #[vi 18,.string q.t,vi q.n,vi (i:Nat),.slice bq q.kids.length cq] 34)).alloc (.cells #[vi y.k,.string y.t,vi y.n,vi y.sl,.slice b1 y.kids.length cap1] 34))
 have z1:Bw W w1:=by rw[<- m];exact ext_alloc (ext_alloc (Below.refl _ _) _) _
 have y0:=h.size
 have u:=Ac.begin (os:=[(W.heap.size,.cells #[vi 18,.string q.t,vi q.n,vi (i:Nat),.slice bq q.kids.length cq] 34),(W.heap.size+1,pbx y b1 cap1)]) h z1 (fun p hp=>by simp at hp;rcases hp with rfl|rfl;exact⟨by rw[<- m];exact block_alloc _ (new1 _ _),Nat.le_refl _⟩;exact⟨by rw[<- m];exact new2 _ _ _,by omega⟩)
 obtain⟨R,hR⟩:=exq ((zE F e y l r).bind (fun v l r=>Res.ok nilV (l.set i v) r))
 rw[hR]
 replace hR:((ZX F e 0 y 0 0 l r).bind fun v l r=>Res.ok nilV (l.set i v) r)=R:=hR
 have s:∀V,Bw w1 V->Cl 49 #[pC C,.agg #[vi y.k,.string y.t,vi y.n,vi y.sl,.slice b1 y.kids.length cap1]] V (XQ (gV e) e D C V r.tb.length (ZX F e 0 y 0 0 l r)):=fun V hb=>hE y b1 cap1 C l r D V hn hw hky hk (u.below hb).st
 obtain⟨nt,z2⟩:=exq (r.tb.length)
 rw[z2]at s⊢
 have g:∀V V' pv,Bw w1 V->Bd (fun q=>q=C) e D V (ZX F e 0 y 0 0 l r) pv V'->XQ g0 e D C W nt R (.panicked pv) V':=fun V V' pv hb z6=>.inl ⟨pv,rfl,(((u.below hb).bad z6).bind _).eq hR.symm⟩
 have j:∀V V' a l2 r2 D2,Bw w1 V->ZX F e 0 y 0 0 l r=Res.ok a l2 r2->St e D2 C l2 r2 V'->CK (fun q=>q=C) D V D2 V'->nt<=r2.tb.length->VG r2.tb.length (nf e) a->(∃x,InL V' C i x)/\XQ g0 e D C W nt R (.returned (.tuple #[])) (putL V' C i a):=fun V V' a l2 r2 D2 hb hx hS hK z7 z8=>by
  have z9:=(u.below hb).step hS hK
  exact⟨hS.inl hi,.inr ⟨nilV,l2.set i a,r2,D2,_,by rw[<- hR,hx];rfl,rfl,hS.put i z8,z9.ck.local,z7,rfl⟩⟩
 have y8:∀V,Bw w1 V->Ce V W.heap.size 3 (vi (i:Nat))/\Ce V (W.heap.size+1) 0 (vi y.k)/\Ce V (W.heap.size+1) 1 (.string y.t)/\Ce V (W.heap.size+1) 2 (vi y.n)/\Ce V (W.heap.size+1) 3 (vi y.sl)/\Ce V (W.heap.size+1) 4 (.slice b1 y.kids.length cap1):=fun V hb=>by
  have k1:=in5 (block_below hb (u.at 0 rfl))
  have k2:=in5 (block_below hb (u.at 1 rfl))
  exact⟨k1.c3,k2.c0,k2.c1,k2.c2,k2.c3,k2.c4⟩
 have z5:∀V V' l2 r2 D2,Bw w1 V->St e D2 C l2 r2 V'->CK (fun q=>q=C) D V D2 V'->(fun V=>Ce V W.heap.size 3 (vi (i:Nat))/\Ce V (W.heap.size+1) 0 (vi y.k)/\Ce V (W.heap.size+1) 1 (.string y.t)/\Ce V (W.heap.size+1) 2 (vi y.n)/\Ce V (W.heap.size+1) 3 (vi y.sl)/\Ce V (W.heap.size+1) 4 (.slice b1 y.kids.length cap1)) V':=fun V V' l2 r2 D2 hb hS hK=>by
  have z9:=(u.below hb).step hS hK
  have k1:=in5 (z9.at 0 rfl)
  have k2:=in5 (z9.at 1 rfl)
  exact⟨k1.c3,k2.c0,k2.c1,k2.c2,k2.c3,k2.c4⟩
 have y3:W.heap.size≠C:=(u.bo _ (List.Mem.head _)).2.2.1
 have o:W.heap.size+1≠C:=(u.bo _ (List.Mem.tail _ (List.Mem.head _))).2.2.1
 have z4:∀V z,(fun V=>Ce V W.heap.size 3 (vi (i:Nat))/\Ce V (W.heap.size+1) 0 (vi y.k)/\Ce V (W.heap.size+1) 1 (.string y.t)/\Ce V (W.heap.size+1) 2 (vi y.n)/\Ce V (W.heap.size+1) 3 (vi y.sl)/\Ce V (W.heap.size+1) 4 (.slice b1 y.kids.length cap1)) V->(fun V=>Ce V W.heap.size 3 (vi (i:Nat))/\Ce V (W.heap.size+1) 0 (vi y.k)/\Ce V (W.heap.size+1) 1 (.string y.t)/\Ce V (W.heap.size+1) 2 (vi y.n)/\Ce V (W.heap.size+1) 3 (vi y.sl)/\Ce V (W.heap.size+1) 4 (.slice b1 y.kids.length cap1)) (putL V C i z):=fun V z ⟨h0,h1,h2,h3,h4,h5⟩=>⟨(kL y3).trans h0,(kL o).trans h1,(kL o).trans h2,(kL o).trans h3,(kL o).trans h4,(kL o).trans h5⟩
 have d:Bw w1 w1.drew:=(Below.refl _ _).drew
 have y9:=y8 _ d
 have x9:(0:Int)<=(i:Int):=by omega
 have y1:(i:Int)<30:=by omega
 obtain⟨p0,_,_,_,_,_,_,_,_,_⟩:=in5 (u.at 0 rfl)
 have y2:=u.st.ptr
 show Cl 50 #[pC C,.agg #[vi q.k,.string q.t,vi q.n,vi q.sl,.slice bq q.kids.length cq],.agg #[vi y.k,.string y.t,vi y.n,vi y.sl,.slice b1 y.kids.length cap1]] W _
 rw[hq18,hqs]
 replace s:Hid _:=s
 replace g:Hid _:=g
 replace j:Hid _:=j
 replace z5:Hid _:=z5
 replace z4:Hid _:=z4
 clear u hR hE hk hw y8 h z2 hq18 hqs z1
 go_enter Tryz.func50,Tryz.ntmps50
 go_wp2
 refine wp_region_held_drew (S:=fun V=>Ce V W.heap.size 3 (vi (i:Nat))/\Ce V (W.heap.size+1) 0 (vi y.k)/\Ce V (W.heap.size+1) 1 (.string y.t)/\Ce V (W.heap.size+1) 2 (vi y.n)/\Ce V (W.heap.size+1) 3 (vi y.sl)/\Ce V (W.heap.size+1) 4 (.slice b1 y.kids.length cap1)) (by kernel_rfl) y9 (fun f=>?_)
 change wpAnyH _ _ _ _ _ 10 _ _ _
 iterate 5 (refine tkH 0 (by simp only[nx,gq1,gq2,gq3];rfl) (by kernel_rfl) (by rfl) f ⟨_,by intro w ⟨_,_,_,_,_,_⟩;go_simp;try with_reducible rfl,by exact fun _ _ _ h=>h,?_⟩;try simp only[Act.put,sq1,sq2,sq3])
 iterate 2 (refine tkH 1 (by simp only[nx,gq1,gq2,gq3];rfl) (by kernel_rfl) (by rfl) f ⟨_,by intro w ⟨_,_,_,_,_,_⟩;go_simp;try with_reducible rfl,by exact fun _ _ _ h=>h,?_⟩;try simp only[Act.put,sq1,sq2,sq3])
 refine wpAnyH_ready (rs:=[5]) (by kernel_rfl) (by simp) ?_
 refine AllReadyH.cons rfl (fun K hK=>?_) .nil
 go_simp
 go_at_call 49
 refine(s.out _ d).mono ?_
 intro en w2 hq
 rcases hq.par with⟨pv,rfl,z6⟩|⟨a,l2,r2,D2,vv,y6,rfl,z0,y7,z7,rfl,z8⟩
 ·exact⟨rfl,g.out _ _ _ d z6⟩
 have z3:=z5.out _ _ _ _ _ d z0 y7
 obtain⟨⟨x,y5⟩,hf⟩:=j.out _ _ _ _ _ _ d y6 z0 y7 z7 z8
 obtain⟨v0,v1,v2,v3,v4,v5⟩:=y5
 refine hK.out _ _ z3 (fun _=>?_)
 clear hK K
 try simp only[Act.put,sq1,sq2,sq3]
 iterate 1 (refine tkH 0 (by simp only[nx,gq1,gq2,gq3];rfl) (by kernel_rfl) (by rfl) z3 ⟨_,by intro w ⟨_,_,_,_,_,_⟩;go_simp;try with_reducible rfl,by exact fun _ _ _ h=>h,?_⟩;try simp only[Act.put,sq1,sq2,sq3])
 refine wpAnyH_ready (rs:=[9]) (by kernel_rfl) (by simp) ?_
 refine AllReadyH.cons rfl (fun K hK=>?_) .nil
 go_simp
 have y4:=z4.out _ a z3
 refine hK.out _ _ y4 (fun _=>?_)
 clear hK K
 try simp only[Act.put,sq1,sq2,sq3]
 refine wpAnyH_done (by kernel_rfl) ?_ _
 go_wp2
 go_end0
 exact hf
end
section
variable {F:Int->Vl->Vl->Vl×Int} {e:En} {D:Nat->Prop} {C:Nat} {l:List Vl} {r:Rn Tb} {W:World}
def putX (F:Int->Vl->Vl->Vl×Int) (a k v:Vl) (l:List Vl) (r:Rn Tb):Res Vl Tb Vl:=need (if a.k=4 then 0 else 3) r (need ((Oz F).set (tabAt (Oz F) r a) k v).2 r (Res.ok nilV l { r with tb:=r.tb.set a.n.toNat ((Oz F).set (tabAt (Oz F) r a) k v).1 }))
structure In2 (W:World) (B:Nat) (a b:Value):Prop where
 c0:W.cell? (Ad B 0)=some a
 c1:W.cell? (Ad B 1)=some b
 f0:W.frozen? (Ad B 0)=false
 f1:W.frozen? (Ad B 1)=false
theorem d4r(hE:EC F e n)(hn:e.lim<n+r.st)(q y:Pt)(hq20:q.k=20)(bq:Option Addr)(cq:Nat)(b1:Option Addr)(cap1:Nat)(hwq:Wf (nf e) q){y0 y1:Pt}(hy0:q.kids[0]?=some y0)(hy1:q.kids[1]?=some y1)(hk0:a2s y0.k)(hk1:a2s y1.k)(hkq:PK tt e.w1 q.kids bq cq)(hw:Wf (nf e) y)(hky:a2s y.k)(hk:PK tt e.w1 y.kids b1 cap1)(h:St e D C l r W):Cl 50 #[pC C,ptv q bq cq,ptv y b1 cap1] W (XQ g0 e D C W r.tb.length ((a4k (zE F e) q l r).bind fun z l r=>(zE F e y l r).bind fun v l r=>putX F z.1 z.2 v l r)):=by
 obtain⟨w1,v7⟩:=exq ((W.alloc (.cells #[vi 20,.string q.t,vi q.n,vi q.sl,.slice bq q.kids.length cq] 34)).alloc (.cells #[vi y.k,.string y.t,vi y.n,vi y.sl,.slice b1 y.kids.length cap1] 34))
 have r0:Bw W w1:=by rw[<- v7];exact ext_alloc (ext_alloc (Below.refl _ _) _) _
 have o5:=h.size
 have x9:=Ac.begin (os:=[(W.heap.size,.cells #[vi 20,.string q.t,vi q.n,vi q.sl,.slice bq q.kids.length cq] 34),(W.heap.size+1,pbx y b1 cap1)]) h r0 (fun p hp=>by simp at hp;rcases hp with rfl|rfl;exact⟨by rw[<- v7];exact block_alloc _ (new1 _ _),Nat.le_refl _⟩;exact⟨by rw[<- v7];exact new2 _ _ _,by omega⟩)
 obtain⟨R,hR⟩:=exq ((a4k (zE F e) q l r).bind (fun z l r=>(zE F e y l r).bind fun v l r=>putX F z.1 z.2 v l r))
 rw[hR]
 have w8:∀z l' r',a4k (zE F e) q l r=Res.ok z l' r'->e.lim<n+r'.st:=fun z l' r' hz=>by
  have hG:Gr e.lim r (a4k (zE F e) q l r):=by
   unfold a4k
   refine(Gr.ex (fun p l r=>grow (O:=Oz F) (prog:=e.u.kids) (lim:=e.lim) (2*e.lim+3) 0 p 0 0 l r) _ l r).bind fun _ l r=>?_
   exact(Gr.ex (fun p l r=>grow (O:=Oz F) (prog:=e.u.kids) (lim:=e.lim) (2*e.lim+3) 0 p 0 0 l r) _ l r).bind fun _ _ _=>Gr.ok rfl (List.prefix_refl _)
  rw[hz]at hG
  have:r.st<=r'.st:=hG.1
  omega
 have hc:=a9h hE q bq cq hn hwq hy0 hy1 hk0 hk1 hkq x9.st
 replace hc:Cl 76 #[pC C,.agg #[vi q.k,.string q.t,vi q.n,vi q.sl,.slice bq q.kids.length cq]] w1 _:=hc
 rw[hq20]at hc
 obtain⟨nt,r5⟩:=exq (r.tb.length)
 rw[r5]at hc⊢
 obtain⟨p0,p1,p2,p3,p4,_,_,_,_,_⟩:=in5 (x9.at 0 rfl)
 show Cl 50 #[pC C,.agg #[vi q.k,.string q.t,vi q.n,vi q.sl,.slice bq q.kids.length cq],.agg #[vi y.k,.string y.t,vi y.n,vi y.sl,.slice b1 y.kids.length cap1]] W _
 rw[hq20]
 replace x9:Hid _:=x9
 replace w8:Hid _:=w8
 replace hE:Hid (EC F e n):=hE
 clear h r5 hq20 r0
 go_enter Tryz.func50,Tryz.ntmps50
 go_wp2_with (go_at_call 76;refine hc.mono ?_;intro en w2 hq;rcases hq.par with⟨pv,rfl,t1⟩|⟨⟨a,k⟩,l2,r2,D2,vv,t4,rfl,q9,q6,p8,rfl,y6,y7⟩;(exact⟨rfl,.inl ⟨pv,rfl,((x9.out.bad t1).bind _).eq hR.symm⟩⟩);refine Hid.out ?_)
 have s5:=x9.out.step q9 q6
 have z7:=s5.two a k
 have r7:=w8.out _ _ _ t4
 rw[t4]at hR
 replace hR:((ZX F e 0 y 0 0 l2 r2).bind fun v l r=>putX F a k v l r)=R:=hR
 replace y6:VG r2.tb.length (nf e) a:=y6
 replace y7:VG r2.tb.length (nf e) k:=y7
 have o8:W.heap.size+1<w2.heap.size:=block_lt (s5.at 1 rfl)
 obtain⟨w3,q0⟩:=exq ((w2.alloc (.cells #[vi a.k,vi a.n,.string a.s] 52)).alloc (.cells #[vi k.k,vi k.n,.string k.s] 52))
 obtain⟨A,p5⟩:=exq (w2.heap.size)
 replace z7:Ac e C D W [(A+1,bx k),(A,bx a),(W.heap.size,.cells #[vi 20,.string q.t,vi q.n,vi q.sl,.slice bq q.kids.length cq] 34),(W.heap.size+1,pbx y b1 cap1)] D2 l2 r2 w3:=by rw[<- q0,<- p5];exact z7
 have v5:=hE.out y b1 cap1 C l2 r2 D2 w3 r7 hw hky hk z7.st
 replace v5:Cl 49 #[pC C,.agg #[vi y.k,.string y.t,vi y.n,vi y.sl,.slice b1 y.kids.length cap1]] w3 _:=v5
 obtain⟨s0,s1,s2,s3,s4,_,_,_,_,_⟩:=in5 (z7.at 3 rfl)
 replace z7:Hid _:=z7
 clear x9 s5 t4 q9 q6 hc p0 p1 p2 p3 p4
 refine Lib.hid ?_
 go_wp2_with (go_at_call 49;refine v5.mono ?_;intro en x5 hq;rcases hq.par with⟨pv,rfl,t1⟩|⟨v,l3,r3,D3,vv,t5,rfl,s7,s6,t2,rfl,t3⟩;(exact⟨rfl,.inl ⟨pv,rfl,((z7.out.bad t1).bind _).eq hR.symm⟩⟩);refine Hid.out ?_)
 have t9:=z7.out.step s7 s6
 have o:=t9.add (ext_alloc (Below.refl x5.heap.size x5) (bx v)) (Nat.le_refl _) (new1 x5 (bx v))
 rw[t5]at hR
 replace hR:putX F a k v l3 r3=R:=hR
 replace y6:=y6.mono t2
 replace y7:=y7.mono t2
 have r6:=Nat.le_trans p8 t2
 have o7:A+1<x5.heap.size:=block_lt (t9.at 0 rfl)
 obtain⟨w4,q1⟩:=exq (x5.alloc (.cells #[vi v.k,vi v.n,.string v.s] 52))
 obtain⟨B,p6⟩:=exq (x5.heap.size)
 replace o:Ac e C D W [(B,bx v),(A+1,bx k),(A,bx a),(W.heap.size,.cells #[vi 20,.string q.t,vi q.n,vi q.sl,.slice bq q.kids.length cq] 34),(W.heap.size+1,pbx y b1 cap1)] D3 l3 r3 w4:=by rw[<- q1,<- p6];exact o
 obtain⟨T,tc,ta,v8,tv,j⟩:=o.st.rq.tv y6
 have z6:∀V,Bw w4 V->Cl 78 #[pR e,.agg #[vi a.k,vi a.n,.string a.s]] V (TabA T a V):=fun V hb=>a7t e.R T tc r3.tb.length a V (fun h4=>(j.on o.st.rq hb h4).1) j.bd j.n
 have v1:∀V,Bw w4 V->Ce V C 0 (pR e)/\Ce V A 0 (vi a.k)/\Ce V A 1 (vi a.n)/\Ce V A 2 (.string a.s):=fun V hb=>by
  have k1:=in3 (block_below hb (o.at 2 rfl))
  exact⟨(o.below hb).st.ptr,k1.1,k1.2,k1.3⟩
 have u7:Bw w4 w4.drew:=(Below.refl _ _).drew
 have t6:=v1 _ u7
 by_cases h4:a.k=4
 ·obtain⟨Z,hZ⟩:=exq (setT tv.ks tv.vs k v)
  obtain⟨zs,z5⟩:=Z
  obtain⟨ti,w9⟩:=exq (a.n.toNat*2)
  have x7:∀V,Bw w4 V->Cl 83 #[.agg #[ta,v8],.agg #[vi k.k,vi k.n,.string k.s],.agg #[vi v.k,vi v.n,.string v.s]] V fun en V'=>∃xa xm xc ya ym yc,en=.returned (.tuple #[.agg #[.slice xa xm xc,.slice ya ym yc],vi z5])/\Own2 V.heap.size V' (.slice xa xm xc) (.slice ya ym yc) (a0g zs) (a1d zs)/\Bw V V':=fun V hb=>by
   obtain⟨_,_,_,c3⟩:=j.on o.st.rq hb h4
   have:=d2s ta v8 tv.ks tv.vs k v V c3
   rw[hZ]at this
   exact this
  have d:∀V,Bw w4 V->Ce V T ti ta/\Ce V T (ti+1) v8/\Ce V (A+1) 0 (vi k.k)/\Ce V (A+1) 1 (vi k.n)/\Ce V (A+1) 2 (.string k.s)/\Ce V B 0 (vi v.k)/\Ce V B 1 (vi v.n)/\Ce V B 2 (.string v.s):=fun V hb=>by
   obtain⟨_,c1,c2,_⟩:=j.on o.st.rq hb h4
   rw[w9]at c1 c2
   have k1:=in3 (block_below hb (o.at 1 rfl))
   have k2:=in3 (block_below hb (o.at 0 rfl))
   exact⟨c1,c2,k1.1,k1.2,k1.3,k2.1,k2.2,k2.3⟩
  have m:∀X TB sa sb,X.heap[TB]?=some (.cells #[sa,sb] 143)->In2 X TB sa sb:=fun X TB sa sb hx=>⟨cell_block hx rfl,cell_block hx rfl,frozen_block hx,frozen_block hx⟩
  have u5:∀X,Bw w4 X->Ce X C 0 (pR e)/\Ce X T ti ta/\Ce X T (ti+1) v8/\X.frozen? (Ad T ti)=false/\X.frozen? (Ad T (ti+1))=false:=fun X hb=>by
   obtain⟨_,c1,c2,_⟩:=j.on o.st.rq hb h4
   have hT:=j.tab h4
   have s8:=World.block_lt_of_cell? _ _ hT.ca
   simp only at s8
   have f1:=hT.fa
   have f2:=hT.fb
   rw[w9]at c1 c2 f1 f2
   refine⟨(o.below hb).st.ptr,c1,c2,?_,?_⟩
   ·unfold World.frozen? at f1⊢
    rw[hb.block T s8]
    exact f1
   ·unfold World.frozen? at f2⊢
    rw[hb.block T s8]
    exact f2
  have u6:z5≠0->∀X,Bw w4 X->XQ g0 e D C W nt R (.panicked (pan (endV 2 z5))) X:=fun hc X hb=>.inl ⟨_,rfl,((o.below hb).stop 2 z5).eq (by rw[<- hR];unfold putX;rw[if_pos h4,j.eq F h4];show need (setT tv.ks tv.vs k v).2 _ _=_;rw[hZ];unfold need;rw[if_neg hc])⟩
  have x8:z5=0->∀X sa sb,Bw w4 X->Own2 w4.heap.size X sa sb (a0g zs) (a1d zs)->XQ g0 e D C W nt R (.returned (.tuple #[])) ((X.setCell (Ad T ti) sa).setCell (Ad T (ti+1)) sb):=fun hc X sa sb hb ho=>by
   have r8:=TG.set (j.tg h4) y7 t3 (by rw[hZ];exact hc)
   rw[hZ]at r8
   obtain⟨D5,q8,q7⟩:=(j.tab h4).rt X ⟨a0g zs,a1d zs⟩ sa sb hb ho r8
   rw[w9]at q8 q7
   have q3:=o.re q8 q7 (by simp)
   exact .inr ⟨nilV,l3,_,D5,_,by rw[<- hR];unfold putX;rw[if_pos h4,j.eq F h4];show need 0 _ (need (setT tv.ks tv.vs k v).2 _ (Res.ok nilV l3 { r3 with tb:=r3.tb.set a.n.toNat ⟨a0g (setT tv.ks tv.vs k v).1,a1d (setT tv.ks tv.vs k v).1⟩ }))=_;rw[hZ,hc];rfl,rfl,q3.st,q3.ck,by simpa using r6,rfl⟩
  have r4:=b3b (pR e) z5
  replace x7:Hid _:=x7
  replace v1:Hid _:=v1
  replace d:Hid _:=d
  replace m:Hid _:=m
  replace u5:Hid _:=u5
  replace u6:Hid _:=u6
  replace x8:Hid _:=x8
  replace z6:Hid _:=z6
  replace w9:Hid _:=w9
  have o9:Hid (a.k=4):=h4
  clear z7 t9 o t5 s7 s6 v5 hR j h4 hZ y7 t3 y6 s0 s1 s2 s3 s4
  refine Lib.hid ?_
  go_wp2
  refine wp_region_held_drew (S:=fun V=>Ce V C 0 (pR e)/\Ce V A 0 (vi a.k)/\Ce V A 1 (vi a.n)/\Ce V A 2 (.string a.s)) (by kernel_rfl) t6 (fun y3=>?_)
  change wpAnyH _ _ _ _ _ 7 _ _ _
  iterate 5 (refine tkH 0 (by simp only[nx,gq1,gq2,gq3];rfl) (by kernel_rfl) (by rfl) y3 ⟨_,by intro w ⟨_,_,_,_⟩;go_simp;try with_reducible rfl,by exact fun _ _ _ h=>h,?_⟩;try simp only[Act.put,sq1,sq2,sq3])
  refine wpAnyH_ready (rs:=[5]) (by kernel_rfl) (by simp) ?_
  refine AllReadyH.cons rfl (fun K hK=>?_) .nil
  go_simp
  go_at_call 78
  refine(z6.out _ u7).mono ?_
  rintro en w5 ⟨t0,(⟨h4,_⟩|⟨_,rfl⟩)⟩
  ·exact absurd o9.out h4
  rw[w9.out]
  have E5:=ext_trans u7 t0
  have q4:=v1.out _ E5
  refine hK.out _ _ q4 (fun _=>?_)
  clear hK K
  try simp only[Act.put,sq1,sq2,sq3]
  iterate 1 (refine tkH 0 (by simp only[nx,gq1,gq2,gq3];rfl) (by kernel_rfl) (by rfl) q4 ⟨_,by intro w ⟨_,_,_,_⟩;go_simp;try with_reducible rfl,by exact fun _ _ _ h=>h,?_⟩;try simp only[Act.put,sq1,sq2,sq3])
  refine wpAnyH_done (by kernel_rfl) ?_ _
  go_wp2
  have y2:Bw w4 w5.drew:=E5.drew
  have t7:=d.out _ y2
  refine wp_region_held_drew (S:=fun V=>Ce V T ti ta/\Ce V T (ti+1) v8/\Ce V (A+1) 0 (vi k.k)/\Ce V (A+1) 1 (vi k.n)/\Ce V (A+1) 2 (.string k.s)/\Ce V B 0 (vi v.k)/\Ce V B 1 (vi v.n)/\Ce V B 2 (.string v.s)) (by kernel_rfl) t7 (fun x6=>?_)
  change wpAnyH _ _ _ _ _ 12 _ _ _
  obtain⟨wd,r9⟩:=exq (w5.drew)
  rw[r9]at y2 x6⊢
  clear r9 t7
  iterate 5 (refine tkH 0 (by simp only[nx,gq1,gq2,gq3];rfl) (by kernel_rfl) (by rfl) x6 ⟨_,by intro w ⟨_,_,_,_,_,_,_,_⟩;go_simp;try with_reducible rfl,by exact fun _ _ _ h=>h,?_⟩;try simp only[Act.put,sq1,sq2,sq3])
  refine wpAnyH_ready (rs:=[5,9]) (by kernel_rfl) (by simp) ?_
  refine AllReadyH.cons rfl (fun K hK=>?_) ?_
  ·go_simp
   go_at_call 83
   refine(x7.out _ y2).mono ?_
   rintro en w6 ⟨xa,xm,xc,ya,ym,yc,rfl,g,u4⟩
   have v9:=ext_trans y2 u4
   have u8:=d.out _ v9
   have y5:w4.heap.size<=(wd).heap.size:=(y2).size
   refine hK.out _ _ u8 (fun _=>?_)
   clear hK K
   try simp only[Act.put,sq1,sq2,sq3]
   iterate 3 (refine tkH 0 (by simp only[nx,gq1,gq2,gq3];rfl) (by kernel_rfl) (by rfl) u8 ⟨_,by intro w ⟨_,_,_,_,_,_,_,_⟩;go_simp;try with_reducible rfl,by exact fun _ _ _ h=>h,?_⟩;try simp only[Act.put,sq1,sq2,sq3])
   refine wpAnyH_ready (rs:=[9]) (by kernel_rfl) (by simp) ?_
   refine AllReadyH.cons rfl (fun K hK=>?_) .nil
   go_simp
   have z8:=ext_alloc v9 (.cells #[.slice none 0 0,.slice none 0 0] 143)
   have z9:=d.out _ z8
   refine hK.out _ _ z9 (fun _=>?_)
   clear hK K
   try simp only[Act.put,sq1,sq2,sq3]
   have y9:=new1 (w6) (.cells #[.slice none 0 0,.slice none 0 0] 143)
   have r1:=ext_alloc (Below.refl (w6).heap.size (w6)) (.cells #[.slice none 0 0,.slice none 0 0] 143)
   obtain⟨UA,w0⟩:=exq (World.alloc (w6) (.cells #[.slice none 0 0,.slice none 0 0] 143))
   obtain⟨TB,i⟩:=exq ((w6).heap.size)
   have v6:=g.below r1
   have v2:∀q,(Value.ownBlock (.slice xa xm xc)=some q\/Value.ownBlock (.slice ya ym yc)=some q)->q≠TB:=fun q hq ee=>by
    rcases hq with hq|hq
    ·have:=(own_ge g.k hq).2.1;omega
    ·have:=(own_ge g.v hq).2.1;omega
   rw[w0]at v6
   have z4:=z8
   have u9:=z9
   rw[w0]at z4 y9 u9⊢
   rw[i]at y9
   skip
   rw[i]
   have y4:w4.heap.size<=TB:=by rw[<- i];exact v9.size
   clear w0 z8 z9 u9
   have q5:=d.out _ z4
   refine wpAnyH_ready (rs:=[10]) (by kernel_rfl) (by simp) ?_
   refine AllReadyH.cons rfl (fun K hK=>?_) .nil
   obtain⟨z0,z1,z2,z3⟩:=m.out _ _ _ _ y9
   go_simp
   have v3:=put2_same (p':=.slice xa xm xc) (q':=.slice ya ym yc) y9
   have f:=put2_below (.slice xa xm xc) (.slice ya ym yc) z4 y4
   have v4:=(v6.weak (show w4.heap.size<=_ from y5)).kept (W':=(UA.setCell (Ad TB 0) (.slice xa xm xc)).setCell (Ad TB 1) (.slice ya ym yc)) (fun q hq=>put2_other _ _ _ (v2 q hq))
   have v0:=d.out _ f
   refine hK.out _ _ v0 (fun _=>?_)
   clear hK K
   try simp only[Act.put,sq1,sq2,sq3]
   iterate 1 (refine tkH 0 (by simp only[nx,gq1,gq2,gq3];rfl) (by kernel_rfl) (by rfl) v0 ⟨_,by intro w ⟨_,_,_,_,_,_,_,_⟩;go_simp;try with_reducible rfl,by exact fun _ _ _ h=>h,?_⟩;try simp only[Act.put,sq1,sq2,sq3])
   refine wpAnyH_done (by kernel_rfl) ?_ _
   obtain⟨X,hX⟩:=exq ((UA.setCell (Ad TB 0) (.slice xa xm xc)).setCell (Ad TB 1) (.slice ya ym yc))
   rw[hX]at v3 f v4
   have s9:Hid _:=hX
   clear hX
   try rw[s9.out]
   obtain⟨u0,u1,u2,u3⟩:=m.out _ _ _ _ v3
   obtain⟨x0,x1,x2,x3,x4⟩:=u5.out _ f
   go_wp2_with (go_at_call 32;refine(r4 _).mono ?_;rintro en w7 ⟨(⟨hc,rfl⟩|⟨hc,rfl⟩),y8⟩;(rw[y8];exact⟨rfl,u6.out hc _ f⟩);rw[y8];clear y8)
   go_end0
   exact x8.out hc _ _ _ f v4
  refine AllReadyH.cons rfl (fun K hK=>?_) .nil
  go_simp
  have z8:=ext_alloc y2 (.cells #[.slice none 0 0,.slice none 0 0] 143)
  have z9:=d.out _ z8
  refine hK.out _ _ z9 (fun _=>?_)
  clear hK K
  try simp only[Act.put,sq1,sq2,sq3]
  have y9:=new1 (wd) (.cells #[.slice none 0 0,.slice none 0 0] 143)
  have r1:=ext_alloc (Below.refl (wd).heap.size (wd)) (.cells #[.slice none 0 0,.slice none 0 0] 143)
  obtain⟨UA,w0⟩:=exq (World.alloc (wd) (.cells #[.slice none 0 0,.slice none 0 0] 143))
  obtain⟨TB,i⟩:=exq ((wd).heap.size)
  have z4:=z8
  have u9:=z9
  rw[w0]at z4 y9 u9⊢
  rw[i]at y9
  have p7:(wd).heap.size=TB:=i
  rw[i]
  have y4:w4.heap.size<=TB:=by rw[<- i];exact y2.size
  clear w0 z8 z9 u9
  have q5:=d.out _ z4
  refine wpAnyH_ready (rs:=[5]) (by kernel_rfl) (by simp) ?_
  refine AllReadyH.cons rfl (fun K hK=>?_) .nil
  go_simp
  go_at_call 83
  refine(x7.out _ z4).mono ?_
  rintro en w6 ⟨xa,xm,xc,ya,ym,yc,rfl,g,u4⟩
  have v9:=ext_trans z4 u4
  have u8:=d.out _ v9
  have y5:w4.heap.size<=(UA).heap.size:=(z4).size
  have q2:=block_below u4 y9
  have v2:∀q,(Value.ownBlock (.slice xa xm xc)=some q\/Value.ownBlock (.slice ya ym yc)=some q)->q≠TB:=fun q hq ee=>by
   have o6:=block_lt y9
   rcases hq with hq|hq
   ·have:=(own_ge g.k hq).1;omega
   ·have:=(own_ge g.v hq).1;omega
  refine hK.out _ _ u8 (fun _=>?_)
  clear hK K
  try simp only[Act.put,sq1,sq2,sq3]
  iterate 3 (refine tkH 0 (by simp only[nx,gq1,gq2,gq3];rfl) (by kernel_rfl) (by rfl) u8 ⟨_,by intro w ⟨_,_,_,_,_,_,_,_⟩;go_simp;try with_reducible rfl,by exact fun _ _ _ h=>h,?_⟩;try simp only[Act.put,sq1,sq2,sq3])
  refine wpAnyH_ready (rs:=[10]) (by kernel_rfl) (by simp) ?_
  refine AllReadyH.cons rfl (fun K hK=>?_) .nil
  obtain⟨z0,z1,z2,z3⟩:=m.out _ _ _ _ q2
  go_simp
  have v3:=put2_same (p':=.slice xa xm xc) (q':=.slice ya ym yc) q2
  have f:=put2_below (.slice xa xm xc) (.slice ya ym yc) v9 y4
  have v4:=(g.weak (show w4.heap.size<=_ from y5)).kept (W':=(w6.setCell (Ad TB 0) (.slice xa xm xc)).setCell (Ad TB 1) (.slice ya ym yc)) (fun q hq=>put2_other _ _ _ (v2 q hq))
  have v0:=d.out _ f
  refine hK.out _ _ v0 (fun _=>?_)
  clear hK K
  try simp only[Act.put,sq1,sq2,sq3]
  iterate 1 (refine tkH 0 (by simp only[nx,gq1,gq2,gq3];rfl) (by kernel_rfl) (by rfl) v0 ⟨_,by intro w ⟨_,_,_,_,_,_,_,_⟩;go_simp;try with_reducible rfl,by exact fun _ _ _ h=>h,?_⟩;try simp only[Act.put,sq1,sq2,sq3])
  refine wpAnyH_done (by kernel_rfl) ?_ _
  obtain⟨X,hX⟩:=exq ((w6.setCell (Ad TB 0) (.slice xa xm xc)).setCell (Ad TB 1) (.slice ya ym yc))
  rw[hX]at v3 f v4
  have s9:Hid _:=hX
  clear hX
  try rw[s9.out]
  obtain⟨u0,u1,u2,u3⟩:=m.out _ _ _ _ v3
  obtain⟨x0,x1,x2,x3,x4⟩:=u5.out _ f
  go_wp2_with (go_at_call 32;refine(r4 _).mono ?_;rintro en w7 ⟨(⟨hc,rfl⟩|⟨hc,rfl⟩),y8⟩;(rw[y8];exact⟨rfl,u6.out hc _ f⟩);rw[y8];clear y8)
  go_end0
  exact x8.out hc _ _ _ f v4
 ·have t8:∀V,Bw w4 V->XQ g0 e D C W nt R (.panicked (pan (endV 2 3))) V:=fun V hb=>.inl ⟨_,rfl,((o.below hb).stop 2 3).eq (by rw[<- hR];unfold putX;rw[if_neg h4];rfl)⟩
  clear w8
  have w8:Hid _:=t8
  replace z6:Hid _:=z6
  have p9:Hid (¬a.k=4):=h4
  clear z7 t9 o t5 s7 s6 v5 hR j h4 y7 t3 y6 s0 s1 s2 s3 s4 v1 t8
  refine Lib.hid ?_
  go_wp2
  refine wp_region_held_drew (S:=fun V=>Ce V C 0 (pR e)/\Ce V A 0 (vi a.k)/\Ce V A 1 (vi a.n)/\Ce V A 2 (.string a.s)) (by kernel_rfl) t6 (fun y3=>?_)
  change wpAnyH _ _ _ _ _ 7 _ _ _
  iterate 5 (refine tkH 0 (by simp only[nx,gq1,gq2,gq3];rfl) (by kernel_rfl) (by rfl) y3 ⟨_,by intro w ⟨_,_,_,_⟩;go_simp;try with_reducible rfl,by exact fun _ _ _ h=>h,?_⟩;try simp only[Act.put,sq1,sq2,sq3])
  refine wpAnyH_ready (rs:=[5]) (by kernel_rfl) (by simp) ?_
  refine AllReadyH.cons rfl (fun K hK=>?_) .nil
  go_simp
  go_at_call 78
  refine(z6.out _ u7).mono ?_
  rintro en w5 ⟨t0,(⟨_,rfl⟩|⟨h4,_⟩)⟩
  ·exact⟨rfl,w8.out _ (ext_trans u7 t0)⟩
  exact absurd h4 p9.out
end
end
end Go.Proofs.YtfbpdbndejefdaaGreatDoor.V
