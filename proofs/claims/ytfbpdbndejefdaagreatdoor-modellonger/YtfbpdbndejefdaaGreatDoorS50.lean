/- A run of the model: expressions (operations of two values). -/
import Derived.Test.YtfbpdbndejefdaaGreatDoorS48
namespace Go.Proofs.YtfbpdbndejefdaaGreatDoor.V
open Go.RowKit Go
set_option maxRecDepth 100000
set_option maxHeartbeats 8000000
set_option linter.all false
variable {n:Nat}
section
variable [DecidableEq Vl]
section
variable {F:Int->Vl->Vl->Vl×Int} {e:En} {D:Nat->Prop} {C:Nat} {l:List Vl} {r:Rn Tb} {W:World}
theorem d8k(t:ByteArray)(nn sl:Int)(ks:List Pt)(l:List Vl)(r:Rn Tb)(h:r.st<=e.lim):ZX F e 0 ⟨22,t,nn,sl,ks⟩ 0 0 l r=tick e.lim l r fun l r=>(exX (zE F e) ks[0]? l r).bind fun a l r=>if nn=20\/nn=21 then b0x F e ⟨22,t,nn,sl,ks⟩ a l r else a5c F e ⟨22,t,nn,sl,ks⟩ a l r:=(a3r F e 0 _ 0 0 l r h).trans rfl
theorem c8n(hE:EC F e n)(hn:e.lim<(n+1)+r.st)(t:ByteArray)(nn sl:Int)(ks:List Pt)(b:Option Addr)(cap:Nat)(hnn:nn=20\/nn=21)(hw:Wf (nf e) ⟨22,t,nn,sl,ks⟩)(hk:PK tt e.w1 ks b cap)(h:St e D C l r W):Cl 49 #[pC C,ptv ⟨22,t,nn,sl,ks⟩ b cap] W (XQ (gV e) e D C W r.tb.length (ZX F e 0 ⟨22,t,nn,sl,ks⟩ 0 0 l r)):=by
 obtain⟨v1,w0,u1,x5,m⟩:=a6u (.cells #[vi 22,.string t,vi nn,vi sl,.slice b ks.length cap] 34) h (d8k t nn sl ks l r h.rq.gd.st)
 generalize ZX F e 0 ⟨22,t,nn,sl,ks⟩ 0 0 l r=R at m⊢
 generalize r.tb.length=nt at m⊢
 show Cl 49 #[pC C,.agg #[vi 22,.string t,vi nn,vi sl,.slice b ks.length cap]] W _
 clear h
 go_enter Tryz.func49,Tryz.ntmps49
 go_wp2_with (go_at_call 48;refine m.mono ?_;rintro en w1 (⟨rfl,hx⟩|⟨rfl,r1,v6,t9,x3,hR,o⟩);(exact⟨rfl,hx⟩);refine Hid.out ?_)
 try dsimp only at hR
 obtain⟨p0,p1,p2,p3,p4,_,_,_,_,_⟩:=in5 (o.at 1 rfl)
 obtain⟨d0,d1,d2,f0,f1,f2⟩:=in3 (o.at 0 rfl)
 have v5:=o.st.ptr
 clear m x5 v6
 obtain⟨y0,y1,z8,x7,u9,v0⟩:=a7w hw (by omega)
 obtain⟨g,z,b0,y9,rfl,v4,x2⟩:=PK.kid hk z8
 have hL:0<ks.length:=(List.getElem?_eq_some_iff.1 z8).1
 have u5:=hk.1
 have v8:=(hw.kid z8).2
 obtain⟨L,z3⟩:=exq (ks.length)
 rw[z3]at hL u5 p4
 have t7:(0:Int)<(L:Int):=by omega
 have t8:(L:Int)<=(cap:Int):=by omega
 have z6:∀V,Bw w1 V->Cl 49 #[pC C,.agg #[vi y0.k,.string y0.t,vi y0.n,vi y0.sl,.slice b0 y0.kids.length y9]] V (XQ (gV e) e D C V r1.tb.length (ZX F e 0 y0 0 0 l r1)):=fun V hb=>hE y0 b0 y9 C l r1 D V (by omega) v8 u9 v4 (o.below hb).st
 rw[z8]at hR
 replace hR:((ZX F e 0 y0 0 0 l r1).bind fun a l r=>if nn=20\/nn=21 then b0x F e ⟨22,t,nn,sl,ks⟩ a l r else a5c F e ⟨22,t,nn,sl,ks⟩ a l r)=R:=hR
 have hc:=z6 w1 (Below.refl _ _)
 obtain⟨_,j0,j1,j2,j3,j4⟩:=x2 w1 o.st.rq.bl
 simp only[Nat.zero_mul,Nat.add_zero]at j0 j1 j2 j3 j4
 replace o:Hid _:=o
 clear z6
 refine Lib.hid ?_
 go_wp2_with (go_at_call 49;refine hc.mono ?_;intro en w2 hq;rcases hq.par with⟨pv,rfl,z5⟩|⟨a,l2,r2,D2,vv,y8,rfl,x1,w8,v2,rfl,x6⟩;(exact⟨rfl,.inl ⟨pv,rfl,((o.out.bad z5).bind _).eq hR.symm⟩⟩);refine Hid.out ?_)
 have hB:=o.out.step x1 w8
 have f:=hB.add (ext_alloc (Below.refl w2.heap.size w2) (bx a)) (Nat.le_refl _) (new1 w2 (bx a))
 have u0:=a5b y8
 rw[y8]at hR
 replace hR:(fun(a:Vl) (l:List Vl) (r:Rn Tb)=>if nn=20\/nn=21 then b0x F e ⟨22,t,nn,sl,ks⟩ a l r else a5c F e ⟨22,t,nn,sl,ks⟩ a l r) a l2 r2=R:=hR
 have v7:W.heap.size+1<w2.heap.size:=block_lt (hB.at 0 rfl)
 obtain⟨u,v9⟩:=exq (w2.alloc (.cells #[vi a.k,vi a.n,.string a.s] 52))
 replace f:Ac e C D W [(w2.heap.size,bx a),(W.heap.size+1,bx nilV),(W.heap.size,.cells #[vi 22,.string t,vi nn,vi sl,.slice (some (Ad g z)) ks.length cap] 34)] D2 l2 r2 u:=by rw[<- v9];exact f
 obtain⟨A,u2⟩:=exq (w2.heap.size)
 rw[u2]at f v7
 have hS:∀V,Bw u V->Ce V W.heap.size 0 (vi 22)/\Ce V W.heap.size 1 (.string t)/\Ce V W.heap.size 2 (vi nn)/\Ce V W.heap.size 3 (vi sl)/\Ce V W.heap.size 4 (.slice (some (Ad g z)) L cap)/\Ce V A 0 (vi a.k)/\Ce V A 1 (vi a.n)/\Ce V A 2 (.string a.s):=fun V hb=>by
  have k1:=in5 (block_below hb (f.at 2 rfl))
  have k2:=in3 (block_below hb (f.at 0 rfl))
  exact⟨k1.c0,k1.c1,k1.c2,k1.c3,by rw[<- z3];exact k1.c4,k2.1,k2.2,k2.3⟩
 have z0:∀(j:Nat) (p:Nat×Obj),[(A,bx a),(W.heap.size+1,bx nilV),(W.heap.size,Obj.cells #[vi 22,.string t,vi nn,vi sl,.slice (some (Ad g z)) ks.length cap] 34)][j]?=some p->j≠1->p.1≠W.heap.size+1:=fun j p hj v3=>by
  match j,hj with
  | 0,hj=>cases hj;show A≠_;omega
  | 1,hj=>exact absurd rfl v3
  | 2,hj=>cases hj;show W.heap.size≠_;omega
 have y5:∀V y,(fun V=>Ce V W.heap.size 0 (vi 22)/\Ce V W.heap.size 1 (.string t)/\Ce V W.heap.size 2 (vi nn)/\Ce V W.heap.size 3 (vi sl)/\Ce V W.heap.size 4 (.slice (some (Ad g z)) L cap)/\Ce V A 0 (vi a.k)/\Ce V A 1 (vi a.n)/\Ce V A 2 (.string a.s)) V->(fun V=>Ce V W.heap.size 0 (vi 22)/\Ce V W.heap.size 1 (.string t)/\Ce V W.heap.size 2 (vi nn)/\Ce V W.heap.size 3 (vi sl)/\Ce V W.heap.size 4 (.slice (some (Ad g z)) L cap)/\Ce V A 0 (vi a.k)/\Ce V A 1 (vi a.n)/\Ce V A 2 (.string a.s)) (put3 V (W.heap.size+1) y):=fun V y ⟨h0,h1,h2,h3,h4,h5,h6,h7⟩=>⟨(k3 (by omega)).trans h0,(k3 (by omega)).trans h1,(k3 (by omega)).trans h2,(k3 (by omega)).trans h3,(k3 (by omega)).trans h4,(k3 (by omega)).trans h5,(k3 (by omega)).trans h6,(k3 (by omega)).trans h7⟩
 have x4:=Nat.le_trans x3 v2
 have d:∀V,Cl 80 #[pC C,.agg #[vi 22,.string t,vi nn,vi sl,.slice (some (Ad g z)) L cap]] V fun en V'=>en=.returned (.func (.func 110) #[] #[Po (V.heap.size+1) 0,Po V.heap.size 0])/\V'.heap[V.heap.size]?=some (.cells #[pC C] 65)/\V'.heap[V.heap.size+1]?=some (pbx ⟨22,t,nn,sl,ks⟩ (some (Ad g z)) cap)/\Bw V V':=fun V=>by
  have:=a9i ⟨22,t,nn,sl,ks⟩ (some (Ad g z)) cap C V
  rw[<- z3]
  have u8:cloV ⟨22,t,nn,sl,ks⟩ V.heap.size=.func (.func 110) #[] #[Po (V.heap.size+1) 0,Po V.heap.size 0]:=by unfold cloV;show(if (22:Int)=23 then _ else if (22:Int)=24 then _ else if nn=20\/nn=21 then _ else _)=_;rw[if_neg (by decide),if_neg (by decide),if_pos hnn]
  rw[u8]at this
  exact this
 have w9:b0x F e ⟨22,t,nn,sl,ks⟩ a l2 r2=R:=by rw[<- hR];exact(if_pos hnn).symm
 have z7:∀V V',Bw u V->Bw u V'->V'.heap[V.heap.size]?=some (.cells #[pC C] 65)->V'.heap[V.heap.size+1]?=some (pbx ⟨22,t,nn,sl,ks⟩ (some (Ad g z)) cap)->Cl 110 #[.agg #[vi a.k,vi a.n,.string a.s],Po (V.heap.size+1) 0,Po V.heap.size 0] V' (XQ (gV e) e D2 C V' r2.tb.length R):=fun V V' hb u6 x8 x9=>by
  have:=d8h hE ⟨22,t,nn,sl,ks⟩ (some (Ad g z)) cap (by omega) hw x7 v0 hk (f.below u6).st a x6 (V.heap.size+1) V.heap.size x9 x8
  rw[w9]at this
  exact this
 have z4:∀V V2 pv,Bw u V->Bd (fun q=>q=C) e D2 V R pv V2->XQ (gV e) e D C W nt R (.panicked pv) V2:=fun V V2 pv hb z5=>.inl ⟨pv,rfl,(f.below hb).bad z5⟩
 have z9:∀V V2 rv l3 r3 D3,Bw u V->R=Res.ok rv l3 r3->St e D3 C l3 r3 V2->CK (fun q=>q=C) D2 V D3 V2->r2.tb.length<=r3.tb.length->VG r3.tb.length (nf e) rv->(V2.heap[W.heap.size+1]?=some (bx nilV)/\XQ (gV e) e D C W nt R (.returned rv.v) (put3 V2 (W.heap.size+1) rv))/\(fun V=>Ce V W.heap.size 0 (vi 22)/\Ce V W.heap.size 1 (.string t)/\Ce V W.heap.size 2 (vi nn)/\Ce V W.heap.size 3 (vi sl)/\Ce V W.heap.size 4 (.slice (some (Ad g z)) L cap)/\Ce V A 0 (vi a.k)/\Ce V A 1 (vi a.n)/\Ce V A 2 (.string a.s)) V2:=fun V V2 rv l3 r3 D3 hb hx y4 y3 y6 y7=>by
  have z1:=(f.below hb).step y4 y3
  have w6:=z1.put (i:=1) rv v1 rfl z0
  have k1:=in5 (z1.at 2 rfl)
  have k2:=in3 (z1.at 0 rfl)
  exact⟨⟨z1.at 1 rfl,.inr ⟨rv,l3,r3,D3,_,hx,rfl,w6.st,w6.ck,Nat.le_trans x4 y6,rfl,y7⟩⟩,k1.c0,k1.c1,k1.c2,k1.c3,by rw[<- z3];exact k1.c4,k2.1,k2.2,k2.3⟩
 replace z4:Hid _:=z4
 replace z9:Hid _:=z9
 have y2:Bw u u.drew:=(Below.refl _ _).drew
 have x0:=hS _ y2
 replace hS:Hid _:=hS
 replace y5:Hid _:=y5
 replace d:Hid _:=d
 replace z7:Hid _:=z7
 clear o hB y8 x1 w8 hc f z0 hE hk hw z3 x2 z8 hR x6 w9 x7
 refine Lib.hid ?_
 go_wp2
 refine wp_region_held_drew (S:=fun V=>Ce V W.heap.size 0 (vi 22)/\Ce V W.heap.size 1 (.string t)/\Ce V W.heap.size 2 (vi nn)/\Ce V W.heap.size 3 (vi sl)/\Ce V W.heap.size 4 (.slice (some (Ad g z)) L cap)/\Ce V A 0 (vi a.k)/\Ce V A 1 (vi a.n)/\Ce V A 2 (.string a.s)) (by kernel_rfl) x0 (fun z2=>?_)
 change wpAnyH _ _ _ _ _ 6 _ _ _
 iterate 2 (refine tkH 0 (by simp only[nx,gq1,gq2,gq3];rfl) (by kernel_rfl) (by rfl) z2 ⟨_,by intro w ⟨_,_,_,_,_,_,_,_⟩;go_simp;try with_reducible rfl,by exact fun _ _ _ h=>h,?_⟩;try simp only[Act.put,sq1,sq2,sq3])
 iterate 1 (refine tkH 1 (by simp only[nx,gq1,gq2,gq3];rfl) (by kernel_rfl) (by rfl) z2 ⟨_,by intro w ⟨_,_,_,_,_,_,_,_⟩;go_simp;try with_reducible rfl,by exact fun _ _ _ h=>h,?_⟩;try simp only[Act.put,sq1,sq2,sq3])
 refine wpAnyH_ready (rs:=[2]) (by kernel_rfl) (by simp) ?_
 refine AllReadyH.cons rfl (fun K hK=>?_) .nil
 go_simp
 go_at_call 80
 refine(d.out _).mono ?_
 rintro en w4 ⟨rfl,x8,x9,u7⟩
 have E4:=ext_trans y2 u7
 have u3:=hS.out _ E4
 refine hK.out _ _ u3 (fun _=>?_)
 clear hK K
 try simp only[Act.put,sq1,sq2,sq3]
 refine wpAnyH_ready (rs:=[4]) (by kernel_rfl) (by simp) ?_
 refine AllReadyH.cons rfl (fun K hK=>?_) .nil
 go_simp
 go_at_call 110
 refine(z7.out _ _ y2 E4 x8 x9).mono ?_
 intro en w5 hq
 rcases hq.par with⟨pv,rfl,z5⟩|⟨rv,l3,r3,D3,vv,w3,rfl,y4,y3,y6,rfl,y7⟩
 ·exact⟨rfl,z4.out _ _ _ E4 z5⟩
 obtain⟨⟨gR,hf⟩,w7⟩:=z9.out _ _ _ _ _ _ E4 w3 y4 y3 y6 y7
 obtain⟨t0,t1,t2,k0,k1,k2⟩:=in3 gR
 refine hK.out _ _ w7 (fun _=>?_)
 clear hK K
 try simp only[Act.put,sq1,sq2,sq3]
 refine wpAnyH_ready (rs:=[5]) (by kernel_rfl) (by simp) ?_
 refine AllReadyH.cons rfl (fun K hK=>?_) .nil
 go_simp
 have u4:=y5.out _ rv w7
 refine hK.out _ _ u4 (fun _=>?_)
 clear hK K
 try simp only[Act.put,sq1,sq2,sq3]
 refine wpAnyH_done (by kernel_rfl) ?_ _
 go_wp2
 exact bodyPost_ret (res49 (B:=W.heap.size+1) rfl (put3_same _ gR)) rfl hf
theorem c8o(hF:OpF F)(hg:Pg e)(hE:EC F e n)(hn:e.lim<(n+1)+r.st)(t:ByteArray)(nn sl:Int)(ks:List Pt)(b:Option Addr)(cap:Nat)(hnn:¬(nn=20\/nn=21))(hw:Wf (nf e) ⟨22,t,nn,sl,ks⟩)(hk:PK tt e.w1 ks b cap)(h:St e D C l r W):Cl 49 #[pC C,ptv ⟨22,t,nn,sl,ks⟩ b cap] W (XQ (gV e) e D C W r.tb.length (ZX F e 0 ⟨22,t,nn,sl,ks⟩ 0 0 l r)):=by
 obtain⟨v1,w0,u1,x6,f⟩:=a6u (.cells #[vi 22,.string t,vi nn,vi sl,.slice b ks.length cap] 34) h (d8k t nn sl ks l r h.rq.gd.st)
 generalize ZX F e 0 ⟨22,t,nn,sl,ks⟩ 0 0 l r=R at f⊢
 generalize r.tb.length=nt at f⊢
 show Cl 49 #[pC C,.agg #[vi 22,.string t,vi nn,vi sl,.slice b ks.length cap]] W _
 clear h
 go_enter Tryz.func49,Tryz.ntmps49
 go_wp2_with (go_at_call 48;refine f.mono ?_;rintro en w1 (⟨rfl,hx⟩|⟨rfl,r1,v6,t9,x4,hR,m⟩);(exact⟨rfl,hx⟩);refine Hid.out ?_)
 try dsimp only at hR
 obtain⟨p0,p1,p2,p3,p4,_,_,_,_,_⟩:=in5 (m.at 1 rfl)
 obtain⟨d0,d1,d2,f0,f1,f2⟩:=in3 (m.at 0 rfl)
 have v5:=m.st.ptr
 clear f x6 v6
 obtain⟨y0,y1,z8,x7,u9,v0⟩:=a7w hw (by omega)
 obtain⟨g,z,b0,y9,rfl,v4,x3⟩:=PK.kid hk z8
 have hL:0<ks.length:=(List.getElem?_eq_some_iff.1 z8).1
 have u5:=hk.1
 have v9:=(hw.kid z8).2
 obtain⟨L,z3⟩:=exq (ks.length)
 rw[z3]at hL u5 p4
 have t7:(0:Int)<(L:Int):=by omega
 have t8:(L:Int)<=(cap:Int):=by omega
 have z6:∀V,Bw w1 V->Cl 49 #[pC C,.agg #[vi y0.k,.string y0.t,vi y0.n,vi y0.sl,.slice b0 y0.kids.length y9]] V (XQ (gV e) e D C V r1.tb.length (ZX F e 0 y0 0 0 l r1)):=fun V hb=>hE y0 b0 y9 C l r1 D V (by omega) v9 u9 v4 (m.below hb).st
 rw[z8]at hR
 replace hR:((ZX F e 0 y0 0 0 l r1).bind fun a l r=>if nn=20\/nn=21 then b0x F e ⟨22,t,nn,sl,ks⟩ a l r else a5c F e ⟨22,t,nn,sl,ks⟩ a l r)=R:=hR
 have hc:=z6 w1 (Below.refl _ _)
 obtain⟨_,j0,j1,j2,j3,j4⟩:=x3 w1 m.st.rq.bl
 simp only[Nat.zero_mul,Nat.add_zero]at j0 j1 j2 j3 j4
 replace m:Hid _:=m
 clear z6
 refine Lib.hid ?_
 go_wp2_with (go_at_call 49;refine hc.mono ?_;intro en w2 hq;rcases hq.par with⟨pv,rfl,z5⟩|⟨a,l2,r2,D2,vv,y8,rfl,x2,w9,v2,rfl,v8⟩;(exact⟨rfl,.inl ⟨pv,rfl,((m.out.bad z5).bind _).eq hR.symm⟩⟩);refine Hid.out ?_)
 have hB:=m.out.step x2 w9
 have u:=hB.add (ext_alloc (Below.refl w2.heap.size w2) (bx a)) (Nat.le_refl _) (new1 w2 (bx a))
 have u0:=a5b y8
 rw[y8]at hR
 replace hR:(fun(a:Vl) (l:List Vl) (r:Rn Tb)=>if nn=20\/nn=21 then b0x F e ⟨22,t,nn,sl,ks⟩ a l r else a5c F e ⟨22,t,nn,sl,ks⟩ a l r) a l2 r2=R:=hR
 have v7:W.heap.size+1<w2.heap.size:=block_lt (hB.at 0 rfl)
 obtain⟨o,w3⟩:=exq (w2.alloc (.cells #[vi a.k,vi a.n,.string a.s] 52))
 replace u:Ac e C D W [(w2.heap.size,bx a),(W.heap.size+1,bx nilV),(W.heap.size,.cells #[vi 22,.string t,vi nn,vi sl,.slice (some (Ad g z)) ks.length cap] 34)] D2 l2 r2 o:=by rw[<- w3];exact u
 obtain⟨A,u2⟩:=exq (w2.heap.size)
 rw[u2]at u v7
 have hS:∀V,Bw o V->Ce V W.heap.size 0 (vi 22)/\Ce V W.heap.size 1 (.string t)/\Ce V W.heap.size 2 (vi nn)/\Ce V W.heap.size 3 (vi sl)/\Ce V W.heap.size 4 (.slice (some (Ad g z)) L cap)/\Ce V A 0 (vi a.k)/\Ce V A 1 (vi a.n)/\Ce V A 2 (.string a.s):=fun V hb=>by
  have k1:=in5 (block_below hb (u.at 2 rfl))
  have k2:=in3 (block_below hb (u.at 0 rfl))
  exact⟨k1.c0,k1.c1,k1.c2,k1.c3,by rw[<- z3];exact k1.c4,k2.1,k2.2,k2.3⟩
 have z0:∀(j:Nat) (p:Nat×Obj),[(A,bx a),(W.heap.size+1,bx nilV),(W.heap.size,Obj.cells #[vi 22,.string t,vi nn,vi sl,.slice (some (Ad g z)) ks.length cap] 34)][j]?=some p->j≠1->p.1≠W.heap.size+1:=fun j p hj v3=>by
  match j,hj with
  | 0,hj=>cases hj;show A≠_;omega
  | 1,hj=>exact absurd rfl v3
  | 2,hj=>cases hj;show W.heap.size≠_;omega
 have y5:∀V y,(fun V=>Ce V W.heap.size 0 (vi 22)/\Ce V W.heap.size 1 (.string t)/\Ce V W.heap.size 2 (vi nn)/\Ce V W.heap.size 3 (vi sl)/\Ce V W.heap.size 4 (.slice (some (Ad g z)) L cap)/\Ce V A 0 (vi a.k)/\Ce V A 1 (vi a.n)/\Ce V A 2 (.string a.s)) V->(fun V=>Ce V W.heap.size 0 (vi 22)/\Ce V W.heap.size 1 (.string t)/\Ce V W.heap.size 2 (vi nn)/\Ce V W.heap.size 3 (vi sl)/\Ce V W.heap.size 4 (.slice (some (Ad g z)) L cap)/\Ce V A 0 (vi a.k)/\Ce V A 1 (vi a.n)/\Ce V A 2 (.string a.s)) (put3 V (W.heap.size+1) y):=fun V y ⟨h0,h1,h2,h3,h4,h5,h6,h7⟩=>⟨(k3 (by omega)).trans h0,(k3 (by omega)).trans h1,(k3 (by omega)).trans h2,(k3 (by omega)).trans h3,(k3 (by omega)).trans h4,(k3 (by omega)).trans h5,(k3 (by omega)).trans h6,(k3 (by omega)).trans h7⟩
 have x5:=Nat.le_trans x4 v2
 have d:∀V,Cl 80 #[pC C,.agg #[vi 22,.string t,vi nn,vi sl,.slice (some (Ad g z)) L cap]] V fun en V'=>en=.returned (.func (.func 111) #[] #[Po V.heap.size 0,Po (V.heap.size+1) 0])/\V'.heap[V.heap.size]?=some (.cells #[pC C] 65)/\V'.heap[V.heap.size+1]?=some (pbx ⟨22,t,nn,sl,ks⟩ (some (Ad g z)) cap)/\Bw V V':=fun V=>by
  have:=a9i ⟨22,t,nn,sl,ks⟩ (some (Ad g z)) cap C V
  rw[<- z3]
  have u8:cloV ⟨22,t,nn,sl,ks⟩ V.heap.size=.func (.func 111) #[] #[Po V.heap.size 0,Po (V.heap.size+1) 0]:=by unfold cloV;show(if (22:Int)=23 then _ else if (22:Int)=24 then _ else if nn=20\/nn=21 then _ else _)=_;rw[if_neg (by decide),if_neg (by decide),if_neg hnn]
  rw[u8]at this
  exact this
 have x0:a5c F e ⟨22,t,nn,sl,ks⟩ a l2 r2=R:=by rw[<- hR];exact(if_neg hnn).symm
 have z7:∀V V',Bw o V->Bw o V'->V'.heap[V.heap.size]?=some (.cells #[pC C] 65)->V'.heap[V.heap.size+1]?=some (pbx ⟨22,t,nn,sl,ks⟩ (some (Ad g z)) cap)->Cl 111 #[.agg #[vi a.k,vi a.n,.string a.s],Po V.heap.size 0,Po (V.heap.size+1) 0] V' (XQ (gV e) e D2 C V' r2.tb.length R):=fun V V' hb u6 x8 x9=>by
  have:=d8i hF hg hE ⟨22,t,nn,sl,ks⟩ (some (Ad g z)) cap (by omega) hw x7 v0 hk (u.below u6).st a (V.heap.size+1) V.heap.size x9 x8 (u.below hb |>.st.new (by omega)) (u.below hb |>.st.new (Nat.le_refl _)) (show -9223372036854775808<=nn/\nn<=9223372036854775807 from by rw[Wf]at hw;have h8:=hw.2.2.2.2.2.2.2.1 rfl;clear hw;omega)
  rw[x0]at this
  exact this
 have z4:∀V V2 pv,Bw o V->Bd (fun q=>q=C) e D2 V R pv V2->XQ (gV e) e D C W nt R (.panicked pv) V2:=fun V V2 pv hb z5=>.inl ⟨pv,rfl,(u.below hb).bad z5⟩
 have z9:∀V V2 rv l3 r3 D3,Bw o V->R=Res.ok rv l3 r3->St e D3 C l3 r3 V2->CK (fun q=>q=C) D2 V D3 V2->r2.tb.length<=r3.tb.length->VG r3.tb.length (nf e) rv->(V2.heap[W.heap.size+1]?=some (bx nilV)/\XQ (gV e) e D C W nt R (.returned rv.v) (put3 V2 (W.heap.size+1) rv))/\(fun V=>Ce V W.heap.size 0 (vi 22)/\Ce V W.heap.size 1 (.string t)/\Ce V W.heap.size 2 (vi nn)/\Ce V W.heap.size 3 (vi sl)/\Ce V W.heap.size 4 (.slice (some (Ad g z)) L cap)/\Ce V A 0 (vi a.k)/\Ce V A 1 (vi a.n)/\Ce V A 2 (.string a.s)) V2:=fun V V2 rv l3 r3 D3 hb hx y4 y3 y6 y7=>by
  have z1:=(u.below hb).step y4 y3
  have w7:=z1.put (i:=1) rv v1 rfl z0
  have k1:=in5 (z1.at 2 rfl)
  have k2:=in3 (z1.at 0 rfl)
  exact⟨⟨z1.at 1 rfl,.inr ⟨rv,l3,r3,D3,_,hx,rfl,w7.st,w7.ck,Nat.le_trans x5 y6,rfl,y7⟩⟩,k1.c0,k1.c1,k1.c2,k1.c3,by rw[<- z3];exact k1.c4,k2.1,k2.2,k2.3⟩
 replace z4:Hid _:=z4
 replace z9:Hid _:=z9
 have y2:Bw o o.drew:=(Below.refl _ _).drew
 have x1:=hS _ y2
 replace hS:Hid _:=hS
 replace y5:Hid _:=y5
 replace d:Hid _:=d
 replace z7:Hid _:=z7
 clear m hB y8 x2 w9 hc u z0 hE hk hw z3 x3 z8 hR v8 x0 x7
 refine Lib.hid ?_
 go_wp2
 refine wp_region_held_drew (S:=fun V=>Ce V W.heap.size 0 (vi 22)/\Ce V W.heap.size 1 (.string t)/\Ce V W.heap.size 2 (vi nn)/\Ce V W.heap.size 3 (vi sl)/\Ce V W.heap.size 4 (.slice (some (Ad g z)) L cap)/\Ce V A 0 (vi a.k)/\Ce V A 1 (vi a.n)/\Ce V A 2 (.string a.s)) (by kernel_rfl) x1 (fun z2=>?_)
 change wpAnyH _ _ _ _ _ 6 _ _ _
 iterate 2 (refine tkH 0 (by simp only[nx,gq1,gq2,gq3];rfl) (by kernel_rfl) (by rfl) z2 ⟨_,by intro w ⟨_,_,_,_,_,_,_,_⟩;go_simp;try with_reducible rfl,by exact fun _ _ _ h=>h,?_⟩;try simp only[Act.put,sq1,sq2,sq3])
 iterate 1 (refine tkH 1 (by simp only[nx,gq1,gq2,gq3];rfl) (by kernel_rfl) (by rfl) z2 ⟨_,by intro w ⟨_,_,_,_,_,_,_,_⟩;go_simp;try with_reducible rfl,by exact fun _ _ _ h=>h,?_⟩;try simp only[Act.put,sq1,sq2,sq3])
 refine wpAnyH_ready (rs:=[2]) (by kernel_rfl) (by simp) ?_
 refine AllReadyH.cons rfl (fun K hK=>?_) .nil
 go_simp
 go_at_call 80
 refine(d.out _).mono ?_
 rintro en w4 ⟨rfl,x8,x9,u7⟩
 have E4:=ext_trans y2 u7
 have u3:=hS.out _ E4
 refine hK.out _ _ u3 (fun _=>?_)
 clear hK K
 try simp only[Act.put,sq1,sq2,sq3]
 refine wpAnyH_ready (rs:=[4]) (by kernel_rfl) (by simp) ?_
 refine AllReadyH.cons rfl (fun K hK=>?_) .nil
 go_simp
 go_at_call 111
 refine(z7.out _ _ y2 E4 x8 x9).mono ?_
 intro en w5 hq
 rcases hq.par with⟨pv,rfl,z5⟩|⟨rv,l3,r3,D3,vv,w6,rfl,y4,y3,y6,rfl,y7⟩
 ·exact⟨rfl,z4.out _ _ _ E4 z5⟩
 obtain⟨⟨gR,hf⟩,w8⟩:=z9.out _ _ _ _ _ _ E4 w6 y4 y3 y6 y7
 obtain⟨t0,t1,t2,k0,k1,k2⟩:=in3 gR
 refine hK.out _ _ w8 (fun _=>?_)
 clear hK K
 try simp only[Act.put,sq1,sq2,sq3]
 refine wpAnyH_ready (rs:=[5]) (by kernel_rfl) (by simp) ?_
 refine AllReadyH.cons rfl (fun K hK=>?_) .nil
 go_simp
 have u4:=y5.out _ rv w8
 refine hK.out _ _ u4 (fun _=>?_)
 clear hK K
 try simp only[Act.put,sq1,sq2,sq3]
 refine wpAnyH_done (by kernel_rfl) ?_ _
 go_wp2
 exact bodyPost_ret (res49 (B:=W.heap.size+1) rfl (put3_same _ gR)) rfl hf
end
section
variable {F:Int->Vl->Vl->Vl×Int} {e:En} {D:Nat->Prop} {C:Nat} {l:List Vl} {r:Rn Tb} {W:World}
theorem e0c(t:ByteArray)(nn sl:Int)(ks:List Pt)(l:List Vl)(r:Rn Tb)(h:r.st<=e.lim):ZX F e 0 ⟨23,t,nn,sl,ks⟩ 0 0 l r=tick e.lim l r fun l r=>(exX (zE F e) ks[0]? l r).bind fun a l r=>a1q (Oz F) 10 a (Oz F).nil l r:=(a3r F e 0 _ 0 0 l r h).trans rfl
theorem d4o(hF:OpF F)(hg:Pg e)(hE:EC F e n)(hn:e.lim<(n+1)+r.st)(t:ByteArray)(nn sl:Int)(ks:List Pt)(b:Option Addr)(cap:Nat)(hw:Wf (nf e) ⟨23,t,nn,sl,ks⟩)(hk:PK tt e.w1 ks b cap)(h:St e D C l r W):Cl 49 #[pC C,ptv ⟨23,t,nn,sl,ks⟩ b cap] W (XQ (gV e) e D C W r.tb.length (ZX F e 0 ⟨23,t,nn,sl,ks⟩ 0 0 l r)):=by
 obtain⟨v7,w0,u8,y5,m⟩:=a6u (.cells #[vi 23,.string t,vi nn,vi sl,.slice b ks.length cap] 34) h (e0c t nn sl ks l r h.rq.gd.st)
 generalize ZX F e 0 ⟨23,t,nn,sl,ks⟩ 0 0 l r=R at m⊢
 generalize r.tb.length=nt at m⊢
 show Cl 49 #[pC C,.agg #[vi 23,.string t,vi nn,vi sl,.slice b ks.length cap]] W _
 clear h
 go_enter Tryz.func49,Tryz.ntmps49
 go_wp2_with (go_at_call 48;refine m.mono ?_;rintro en w1 (⟨rfl,hx⟩|⟨rfl,r1,w7,u6,y2,hR,o⟩);(exact⟨rfl,hx⟩);refine Hid.out ?_)
 try dsimp only at hR
 obtain⟨p0,p1,p2,p3,p4,_,_,_,_,_⟩:=in5 (o.at 1 rfl)
 obtain⟨d0,d1,d2,f0,f1,f2⟩:=in3 (o.at 0 rfl)
 have w6:=o.st.ptr
 clear m y5 w7
 obtain⟨y0,z8,v6⟩:=a6v hw (by omega)
 obtain⟨g,u,b0,z2,rfl,w3,y1⟩:=PK.kid hk z8
 have hL:0<ks.length:=(List.getElem?_eq_some_iff.1 z8).1
 have v3:=hk.1
 have x0:=(hw.kid z8).2
 obtain⟨L,z4⟩:=exq (ks.length)
 rw[z4]at hL v3 p4
 have u4:(0:Int)<(L:Int):=by omega
 have u5:(L:Int)<=(cap:Int):=by omega
 have z6:∀V,Bw w1 V->Cl 49 #[pC C,.agg #[vi y0.k,.string y0.t,vi y0.n,vi y0.sl,.slice b0 y0.kids.length z2]] V (XQ (gV e) e D C V r1.tb.length (ZX F e 0 y0 0 0 l r1)):=fun V hb=>hE y0 b0 z2 C l r1 D V (by omega) x0 v6 w3 (o.below hb).st
 rw[z8]at hR
 replace hR:((ZX F e 0 y0 0 0 l r1).bind fun a l r=>a1q (Oz F) 10 a (Oz F).nil l r)=R:=hR
 have hc:=z6 w1 (Below.refl _ _)
 obtain⟨_,j0,j1,j2,j3,j4⟩:=y1 w1 o.st.rq.bl
 simp only[Nat.zero_mul,Nat.add_zero]at j0 j1 j2 j3 j4
 replace o:Hid _:=o
 clear z6
 refine Lib.hid ?_
 go_wp2_with (go_at_call 49;refine hc.mono ?_;intro en w2 hq;rcases hq.par with⟨pv,rfl,v5⟩|⟨a,l2,r2,D2,vv,z1,rfl,x7,x5,v8,rfl,w9⟩;(exact⟨rfl,.inl ⟨pv,rfl,((o.out.bad v5).bind _).eq hR.symm⟩⟩);refine Hid.out ?_)
 have hB:=o.out.step x7 x5
 have q:=hB.add (ext_alloc (Below.refl w2.heap.size w2) (bx a)) (Nat.le_refl _) (new1 w2 (bx a))
 have u7:=a5b z1
 rw[z1]at hR
 replace hR:(fun(a:Vl) (l:List Vl) (r:Rn Tb)=>a1q (Oz F) 10 a (Oz F).nil l r) a l2 r2=R:=hR
 have w8:W.heap.size+1<w2.heap.size:=block_lt (hB.at 0 rfl)
 obtain⟨z,x1⟩:=exq (w2.alloc (.cells #[vi a.k,vi a.n,.string a.s] 52))
 replace q:Ac e C D W [(w2.heap.size,bx a),(W.heap.size+1,bx nilV),(W.heap.size,.cells #[vi 23,.string t,vi nn,vi sl,.slice (some (Ad g u)) ks.length cap] 34)] D2 l2 r2 z:=by rw[<- x1];exact q
 obtain⟨A,u9⟩:=exq (w2.heap.size)
 rw[u9]at q w8
 have hS:∀V,Bw z V->Ce V W.heap.size 0 (vi 23)/\Ce V W.heap.size 1 (.string t)/\Ce V W.heap.size 2 (vi nn)/\Ce V W.heap.size 3 (vi sl)/\Ce V W.heap.size 4 (.slice (some (Ad g u)) L cap)/\Ce V A 0 (vi a.k)/\Ce V A 1 (vi a.n)/\Ce V A 2 (.string a.s):=fun V hb=>by
  have k1:=in5 (block_below hb (q.at 2 rfl))
  have k2:=in3 (block_below hb (q.at 0 rfl))
  exact⟨k1.c0,k1.c1,k1.c2,k1.c3,by rw[<- z4];exact k1.c4,k2.1,k2.2,k2.3⟩
 have z3:∀(j:Nat) (p:Nat×Obj),[(A,bx a),(W.heap.size+1,bx nilV),(W.heap.size,Obj.cells #[vi 23,.string t,vi nn,vi sl,.slice (some (Ad g u)) ks.length cap] 34)][j]?=some p->j≠1->p.1≠W.heap.size+1:=fun j p hj v9=>by
  match j,hj with
  | 0,hj=>cases hj;show A≠_;omega
  | 1,hj=>exact absurd rfl v9
  | 2,hj=>cases hj;show W.heap.size≠_;omega
 have y9:∀V y,(fun V=>Ce V W.heap.size 0 (vi 23)/\Ce V W.heap.size 1 (.string t)/\Ce V W.heap.size 2 (vi nn)/\Ce V W.heap.size 3 (vi sl)/\Ce V W.heap.size 4 (.slice (some (Ad g u)) L cap)/\Ce V A 0 (vi a.k)/\Ce V A 1 (vi a.n)/\Ce V A 2 (.string a.s)) V->(fun V=>Ce V W.heap.size 0 (vi 23)/\Ce V W.heap.size 1 (.string t)/\Ce V W.heap.size 2 (vi nn)/\Ce V W.heap.size 3 (vi sl)/\Ce V W.heap.size 4 (.slice (some (Ad g u)) L cap)/\Ce V A 0 (vi a.k)/\Ce V A 1 (vi a.n)/\Ce V A 2 (.string a.s)) (put3 V (W.heap.size+1) y):=fun V y ⟨h0,h1,h2,h3,h4,h5,h6,h7⟩=>⟨(k3 (by omega)).trans h0,(k3 (by omega)).trans h1,(k3 (by omega)).trans h2,(k3 (by omega)).trans h3,(k3 (by omega)).trans h4,(k3 (by omega)).trans h5,(k3 (by omega)).trans h6,(k3 (by omega)).trans h7⟩
 have y3:=Nat.le_trans y2 v8
 have f:∀V,Cl 80 #[pC C,.agg #[vi 23,.string t,vi nn,vi sl,.slice (some (Ad g u)) L cap]] V fun en V'=>en=.returned (.func (.func 107) #[] #[Po V.heap.size 0])/\V'.heap[V.heap.size]?=some (.cells #[pC C] 65)/\V'.heap[V.heap.size+1]?=some (pbx ⟨23,t,nn,sl,ks⟩ (some (Ad g u)) cap)/\Bw V V':=fun V=>by
  have:=a9i ⟨23,t,nn,sl,ks⟩ (some (Ad g u)) cap C V
  rw[<- z4]
  exact this
 have y4:∀V,Bw z V->PTab V:=fun V hb=>hg.pt.on (q.below hb).st.rq.bl
 obtain⟨Rv,d⟩:=exq (F 10 a nilV)
 obtain⟨rv,rc⟩:=Rv
 have z7:∀V V',Bw z V->Bw z V'->V'.heap[V.heap.size]?=some (.cells #[pC C] 65)->V'.heap[V.heap.size+1]?=some (pbx ⟨23,t,nn,sl,ks⟩ (some (Ad g u)) cap)->Cl 107 #[.agg #[vi a.k,vi a.n,.string a.s],Po V.heap.size 0] V' fun en V2=>((rc≠0/\en=.panicked (pan (endV 2 rc)))\/(rc=0/\en=.returned rv.v))/\Bw V' V2:=fun V V' _ x8 y7 _=>by
  have:=d8e hF a V' V.heap.size y7 (q.below x8).st.ptr (y4 V' x8)
  unfold OpA at this
  rw[d]at this
  exact this
 have z0:∀V,rc≠0->Bw z V->XQ (gV e) e D C W nt R (.panicked (pan (endV 2 rc))) V:=fun V hc hb=>.inl ⟨_,rfl,((q.below hb).stop 2 rc).eq (by rw[<- hR];show(if (F 10 a nilV).2=0 then _ else Res.stop 2 (F 10 a nilV).2 r2)=_;rw[d,if_neg hc])⟩
 have z9:∀V,rc=0->Bw z V->V.heap[W.heap.size+1]?=some (bx nilV)/\XQ (gV e) e D C W nt R (.returned rv.v) (put3 V (W.heap.size+1) rv):=fun V hc hb=>by
  have x2:=q.below hb
  have x3:=x2.put (i:=1) rv v7 rfl z3
  have y6:=VG.op (nt:=r2.tb.length) (nf:=nf e) hF (op:=10) (x:=a) (y:=nilV) (by rw[d];exact hc)
  rw[d]at y6
  exact⟨x2.at 1 rfl,.inr ⟨rv,l2,r2,D2,_,by rw[<- hR];show(if (F 10 a nilV).2=0 then Res.ok (F 10 a nilV).1 l2 r2 else _)=_;rw[d,if_pos hc],rfl,x3.st,x3.ck,y3,rfl,y6⟩⟩
 replace z0:Hid _:=z0
 replace z9:Hid _:=z9
 have y8:Bw z z.drew:=(Below.refl _ _).drew
 have x6:=hS _ y8
 replace hS:Hid _:=hS
 replace y9:Hid _:=y9
 replace f:Hid _:=f
 replace z7:Hid _:=z7
 clear o hB z1 x7 x5 hc q z3 hE hk hw z4 y1 z8 hR w9 d y4
 refine Lib.hid ?_
 go_wp2
 refine wp_region_held_drew (S:=fun V=>Ce V W.heap.size 0 (vi 23)/\Ce V W.heap.size 1 (.string t)/\Ce V W.heap.size 2 (vi nn)/\Ce V W.heap.size 3 (vi sl)/\Ce V W.heap.size 4 (.slice (some (Ad g u)) L cap)/\Ce V A 0 (vi a.k)/\Ce V A 1 (vi a.n)/\Ce V A 2 (.string a.s)) (by kernel_rfl) x6 (fun z5=>?_)
 change wpAnyH _ _ _ _ _ 6 _ _ _
 iterate 2 (refine tkH 0 (by simp only[nx,gq1,gq2,gq3];rfl) (by kernel_rfl) (by rfl) z5 ⟨_,by intro w ⟨_,_,_,_,_,_,_,_⟩;go_simp;try with_reducible rfl,by exact fun _ _ _ h=>h,?_⟩;try simp only[Act.put,sq1,sq2,sq3])
 iterate 1 (refine tkH 1 (by simp only[nx,gq1,gq2,gq3];rfl) (by kernel_rfl) (by rfl) z5 ⟨_,by intro w ⟨_,_,_,_,_,_,_,_⟩;go_simp;try with_reducible rfl,by exact fun _ _ _ h=>h,?_⟩;try simp only[Act.put,sq1,sq2,sq3])
 refine wpAnyH_ready (rs:=[2]) (by kernel_rfl) (by simp) ?_
 refine AllReadyH.cons rfl (fun K hK=>?_) .nil
 go_simp
 go_at_call 80
 refine(f.out _).mono ?_
 rintro en w4 ⟨rfl,y7,v0,v4⟩
 have E4:=ext_trans y8 v4
 have v1:=hS.out _ E4
 refine hK.out _ _ v1 (fun _=>?_)
 clear hK K
 try simp only[Act.put,sq1,sq2,sq3]
 refine wpAnyH_ready (rs:=[4]) (by kernel_rfl) (by simp) ?_
 refine AllReadyH.cons rfl (fun K hK=>?_) .nil
 go_simp
 go_at_call 107
 refine(z7.out _ _ y8 E4 y7 v0).mono ?_
 rintro en w5 ⟨(⟨hc,rfl⟩|⟨hc,rfl⟩),x9⟩
 ·exact⟨rfl,z0.out _ hc (ext_trans E4 x9)⟩
 have E5:=ext_trans E4 x9
 obtain⟨gR,hf⟩:=z9.out _ hc E5
 obtain⟨t0,t1,t2,k0,k1,k2⟩:=in3 gR
 have x4:=hS.out _ E5
 refine hK.out _ _ x4 (fun _=>?_)
 clear hK K
 try simp only[Act.put,sq1,sq2,sq3]
 refine wpAnyH_ready (rs:=[5]) (by kernel_rfl) (by simp) ?_
 refine AllReadyH.cons rfl (fun K hK=>?_) .nil
 go_simp
 have v2:=y9.out _ rv x4
 refine hK.out _ _ v2 (fun _=>?_)
 clear hK K
 try simp only[Act.put,sq1,sq2,sq3]
 refine wpAnyH_done (by kernel_rfl) ?_ _
 go_wp2
 exact bodyPost_ret (res49 (B:=W.heap.size+1) rfl (put3_same _ gR)) rfl hf
theorem e0d(t:ByteArray)(nn sl:Int)(ks:List Pt)(l:List Vl)(r:Rn Tb)(h:r.st<=e.lim):ZX F e 0 ⟨24,t,nn,sl,ks⟩ 0 0 l r=tick e.lim l r fun l r=>(exX (zE F e) ks[0]? l r).bind fun a l r=>a1q (Oz F) 11 a (Oz F).nil l r:=(a3r F e 0 _ 0 0 l r h).trans rfl
theorem d4p(hF:OpF F)(hg:Pg e)(hE:EC F e n)(hn:e.lim<(n+1)+r.st)(t:ByteArray)(nn sl:Int)(ks:List Pt)(b:Option Addr)(cap:Nat)(hw:Wf (nf e) ⟨24,t,nn,sl,ks⟩)(hk:PK tt e.w1 ks b cap)(h:St e D C l r W):Cl 49 #[pC C,ptv ⟨24,t,nn,sl,ks⟩ b cap] W (XQ (gV e) e D C W r.tb.length (ZX F e 0 ⟨24,t,nn,sl,ks⟩ 0 0 l r)):=by
 obtain⟨v7,w0,u8,y5,m⟩:=a6u (.cells #[vi 24,.string t,vi nn,vi sl,.slice b ks.length cap] 34) h (e0d t nn sl ks l r h.rq.gd.st)
 generalize ZX F e 0 ⟨24,t,nn,sl,ks⟩ 0 0 l r=R at m⊢
 generalize r.tb.length=nt at m⊢
 show Cl 49 #[pC C,.agg #[vi 24,.string t,vi nn,vi sl,.slice b ks.length cap]] W _
 clear h
 go_enter Tryz.func49,Tryz.ntmps49
 go_wp2_with (go_at_call 48;refine m.mono ?_;rintro en w1 (⟨rfl,hx⟩|⟨rfl,r1,w7,u6,y2,hR,o⟩);(exact⟨rfl,hx⟩);refine Hid.out ?_)
 try dsimp only at hR
 obtain⟨p0,p1,p2,p3,p4,_,_,_,_,_⟩:=in5 (o.at 1 rfl)
 obtain⟨d0,d1,d2,f0,f1,f2⟩:=in3 (o.at 0 rfl)
 have w6:=o.st.ptr
 clear m y5 w7
 obtain⟨y0,z8,v6⟩:=a6v hw (by omega)
 obtain⟨g,u,b0,z2,rfl,w3,y1⟩:=PK.kid hk z8
 have hL:0<ks.length:=(List.getElem?_eq_some_iff.1 z8).1
 have v3:=hk.1
 have x0:=(hw.kid z8).2
 obtain⟨L,z4⟩:=exq (ks.length)
 rw[z4]at hL v3 p4
 have u4:(0:Int)<(L:Int):=by omega
 have u5:(L:Int)<=(cap:Int):=by omega
 have z6:∀V,Bw w1 V->Cl 49 #[pC C,.agg #[vi y0.k,.string y0.t,vi y0.n,vi y0.sl,.slice b0 y0.kids.length z2]] V (XQ (gV e) e D C V r1.tb.length (ZX F e 0 y0 0 0 l r1)):=fun V hb=>hE y0 b0 z2 C l r1 D V (by omega) x0 v6 w3 (o.below hb).st
 rw[z8]at hR
 replace hR:((ZX F e 0 y0 0 0 l r1).bind fun a l r=>a1q (Oz F) 11 a (Oz F).nil l r)=R:=hR
 have hc:=z6 w1 (Below.refl _ _)
 obtain⟨_,j0,j1,j2,j3,j4⟩:=y1 w1 o.st.rq.bl
 simp only[Nat.zero_mul,Nat.add_zero]at j0 j1 j2 j3 j4
 replace o:Hid _:=o
 clear z6
 refine Lib.hid ?_
 go_wp2_with (go_at_call 49;refine hc.mono ?_;intro en w2 hq;rcases hq.par with⟨pv,rfl,v5⟩|⟨a,l2,r2,D2,vv,z1,rfl,x7,x5,v8,rfl,w9⟩;(exact⟨rfl,.inl ⟨pv,rfl,((o.out.bad v5).bind _).eq hR.symm⟩⟩);refine Hid.out ?_)
 have hB:=o.out.step x7 x5
 have q:=hB.add (ext_alloc (Below.refl w2.heap.size w2) (bx a)) (Nat.le_refl _) (new1 w2 (bx a))
 have u7:=a5b z1
 rw[z1]at hR
 replace hR:(fun(a:Vl) (l:List Vl) (r:Rn Tb)=>a1q (Oz F) 11 a (Oz F).nil l r) a l2 r2=R:=hR
 have w8:W.heap.size+1<w2.heap.size:=block_lt (hB.at 0 rfl)
 obtain⟨z,x1⟩:=exq (w2.alloc (.cells #[vi a.k,vi a.n,.string a.s] 52))
 replace q:Ac e C D W [(w2.heap.size,bx a),(W.heap.size+1,bx nilV),(W.heap.size,.cells #[vi 24,.string t,vi nn,vi sl,.slice (some (Ad g u)) ks.length cap] 34)] D2 l2 r2 z:=by rw[<- x1];exact q
 obtain⟨A,u9⟩:=exq (w2.heap.size)
 rw[u9]at q w8
 have hS:∀V,Bw z V->Ce V W.heap.size 0 (vi 24)/\Ce V W.heap.size 1 (.string t)/\Ce V W.heap.size 2 (vi nn)/\Ce V W.heap.size 3 (vi sl)/\Ce V W.heap.size 4 (.slice (some (Ad g u)) L cap)/\Ce V A 0 (vi a.k)/\Ce V A 1 (vi a.n)/\Ce V A 2 (.string a.s):=fun V hb=>by
  have k1:=in5 (block_below hb (q.at 2 rfl))
  have k2:=in3 (block_below hb (q.at 0 rfl))
  exact⟨k1.c0,k1.c1,k1.c2,k1.c3,by rw[<- z4];exact k1.c4,k2.1,k2.2,k2.3⟩
 have z3:∀(j:Nat) (p:Nat×Obj),[(A,bx a),(W.heap.size+1,bx nilV),(W.heap.size,Obj.cells #[vi 24,.string t,vi nn,vi sl,.slice (some (Ad g u)) ks.length cap] 34)][j]?=some p->j≠1->p.1≠W.heap.size+1:=fun j p hj v9=>by
  match j,hj with
  | 0,hj=>cases hj;show A≠_;omega
  | 1,hj=>exact absurd rfl v9
  | 2,hj=>cases hj;show W.heap.size≠_;omega
 have y9:∀V y,(fun V=>Ce V W.heap.size 0 (vi 24)/\Ce V W.heap.size 1 (.string t)/\Ce V W.heap.size 2 (vi nn)/\Ce V W.heap.size 3 (vi sl)/\Ce V W.heap.size 4 (.slice (some (Ad g u)) L cap)/\Ce V A 0 (vi a.k)/\Ce V A 1 (vi a.n)/\Ce V A 2 (.string a.s)) V->(fun V=>Ce V W.heap.size 0 (vi 24)/\Ce V W.heap.size 1 (.string t)/\Ce V W.heap.size 2 (vi nn)/\Ce V W.heap.size 3 (vi sl)/\Ce V W.heap.size 4 (.slice (some (Ad g u)) L cap)/\Ce V A 0 (vi a.k)/\Ce V A 1 (vi a.n)/\Ce V A 2 (.string a.s)) (put3 V (W.heap.size+1) y):=fun V y ⟨h0,h1,h2,h3,h4,h5,h6,h7⟩=>⟨(k3 (by omega)).trans h0,(k3 (by omega)).trans h1,(k3 (by omega)).trans h2,(k3 (by omega)).trans h3,(k3 (by omega)).trans h4,(k3 (by omega)).trans h5,(k3 (by omega)).trans h6,(k3 (by omega)).trans h7⟩
 have y3:=Nat.le_trans y2 v8
 have f:∀V,Cl 80 #[pC C,.agg #[vi 24,.string t,vi nn,vi sl,.slice (some (Ad g u)) L cap]] V fun en V'=>en=.returned (.func (.func 109) #[] #[Po V.heap.size 0])/\V'.heap[V.heap.size]?=some (.cells #[pC C] 65)/\V'.heap[V.heap.size+1]?=some (pbx ⟨24,t,nn,sl,ks⟩ (some (Ad g u)) cap)/\Bw V V':=fun V=>by
  have:=a9i ⟨24,t,nn,sl,ks⟩ (some (Ad g u)) cap C V
  rw[<- z4]
  exact this
 have y4:∀V,Bw z V->PTab V:=fun V hb=>hg.pt.on (q.below hb).st.rq.bl
 obtain⟨Rv,d⟩:=exq (F 11 a nilV)
 obtain⟨rv,rc⟩:=Rv
 have z7:∀V V',Bw z V->Bw z V'->V'.heap[V.heap.size]?=some (.cells #[pC C] 65)->V'.heap[V.heap.size+1]?=some (pbx ⟨24,t,nn,sl,ks⟩ (some (Ad g u)) cap)->Cl 109 #[.agg #[vi a.k,vi a.n,.string a.s],Po V.heap.size 0] V' fun en V2=>((rc≠0/\en=.panicked (pan (endV 2 rc)))\/(rc=0/\en=.returned rv.v))/\Bw V' V2:=fun V V' _ x8 y7 _=>by
  have:=d8f hF a V' V.heap.size y7 (q.below x8).st.ptr (y4 V' x8)
  unfold OpA at this
  rw[d]at this
  exact this
 have z0:∀V,rc≠0->Bw z V->XQ (gV e) e D C W nt R (.panicked (pan (endV 2 rc))) V:=fun V hc hb=>.inl ⟨_,rfl,((q.below hb).stop 2 rc).eq (by rw[<- hR];show(if (F 11 a nilV).2=0 then _ else Res.stop 2 (F 11 a nilV).2 r2)=_;rw[d,if_neg hc])⟩
 have z9:∀V,rc=0->Bw z V->V.heap[W.heap.size+1]?=some (bx nilV)/\XQ (gV e) e D C W nt R (.returned rv.v) (put3 V (W.heap.size+1) rv):=fun V hc hb=>by
  have x2:=q.below hb
  have x3:=x2.put (i:=1) rv v7 rfl z3
  have y6:=VG.op (nt:=r2.tb.length) (nf:=nf e) hF (op:=11) (x:=a) (y:=nilV) (by rw[d];exact hc)
  rw[d]at y6
  exact⟨x2.at 1 rfl,.inr ⟨rv,l2,r2,D2,_,by rw[<- hR];show(if (F 11 a nilV).2=0 then Res.ok (F 11 a nilV).1 l2 r2 else _)=_;rw[d,if_pos hc],rfl,x3.st,x3.ck,y3,rfl,y6⟩⟩
 replace z0:Hid _:=z0
 replace z9:Hid _:=z9
 have y8:Bw z z.drew:=(Below.refl _ _).drew
 have x6:=hS _ y8
 replace hS:Hid _:=hS
 replace y9:Hid _:=y9
 replace f:Hid _:=f
 replace z7:Hid _:=z7
 clear o hB z1 x7 x5 hc q z3 hE hk hw z4 y1 z8 hR w9 d y4
 refine Lib.hid ?_
 go_wp2
 refine wp_region_held_drew (S:=fun V=>Ce V W.heap.size 0 (vi 24)/\Ce V W.heap.size 1 (.string t)/\Ce V W.heap.size 2 (vi nn)/\Ce V W.heap.size 3 (vi sl)/\Ce V W.heap.size 4 (.slice (some (Ad g u)) L cap)/\Ce V A 0 (vi a.k)/\Ce V A 1 (vi a.n)/\Ce V A 2 (.string a.s)) (by kernel_rfl) x6 (fun z5=>?_)
 change wpAnyH _ _ _ _ _ 6 _ _ _
 iterate 2 (refine tkH 0 (by simp only[nx,gq1,gq2,gq3];rfl) (by kernel_rfl) (by rfl) z5 ⟨_,by intro w ⟨_,_,_,_,_,_,_,_⟩;go_simp;try with_reducible rfl,by exact fun _ _ _ h=>h,?_⟩;try simp only[Act.put,sq1,sq2,sq3])
 iterate 1 (refine tkH 1 (by simp only[nx,gq1,gq2,gq3];rfl) (by kernel_rfl) (by rfl) z5 ⟨_,by intro w ⟨_,_,_,_,_,_,_,_⟩;go_simp;try with_reducible rfl,by exact fun _ _ _ h=>h,?_⟩;try simp only[Act.put,sq1,sq2,sq3])
 refine wpAnyH_ready (rs:=[2]) (by kernel_rfl) (by simp) ?_
 refine AllReadyH.cons rfl (fun K hK=>?_) .nil
 go_simp
 go_at_call 80
 refine(f.out _).mono ?_
 rintro en w4 ⟨rfl,y7,v0,v4⟩
 have E4:=ext_trans y8 v4
 have v1:=hS.out _ E4
 refine hK.out _ _ v1 (fun _=>?_)
 clear hK K
 try simp only[Act.put,sq1,sq2,sq3]
 refine wpAnyH_ready (rs:=[4]) (by kernel_rfl) (by simp) ?_
 refine AllReadyH.cons rfl (fun K hK=>?_) .nil
 go_simp
 go_at_call 109
 refine(z7.out _ _ y8 E4 y7 v0).mono ?_
 rintro en w5 ⟨(⟨hc,rfl⟩|⟨hc,rfl⟩),x9⟩
 ·exact⟨rfl,z0.out _ hc (ext_trans E4 x9)⟩
 have E5:=ext_trans E4 x9
 obtain⟨gR,hf⟩:=z9.out _ hc E5
 obtain⟨t0,t1,t2,k0,k1,k2⟩:=in3 gR
 have x4:=hS.out _ E5
 refine hK.out _ _ x4 (fun _=>?_)
 clear hK K
 try simp only[Act.put,sq1,sq2,sq3]
 refine wpAnyH_ready (rs:=[5]) (by kernel_rfl) (by simp) ?_
 refine AllReadyH.cons rfl (fun K hK=>?_) .nil
 go_simp
 have v2:=y9.out _ rv x4
 refine hK.out _ _ v2 (fun _=>?_)
 clear hK K
 try simp only[Act.put,sq1,sq2,sq3]
 refine wpAnyH_done (by kernel_rfl) ?_ _
 go_wp2
 exact bodyPost_ret (res49 (B:=W.heap.size+1) rfl (put3_same _ gR)) rfl hf
end
end
end Go.Proofs.YtfbpdbndejefdaaGreatDoor.V
