/- A run of the model: operations that do their second expression. -/
import Derived.Test.YtfbpdbndejefdaaGreatDoorS46
import Derived.StillTailTactics
import Derived.Test.YtfbpdbndejefdaaGreatDoorS47
namespace Go.Proofs.YtfbpdbndejefdaaGreatDoor.V
open Go.RowKit Go
set_option maxRecDepth 100000
set_option maxHeartbeats 8000000
set_option linter.all false
variable {g B n:Nat} {tm:Array Value} {x:Vl} {y1 y:Pt} {k nn sl:Int} {t:ByteArray} {ks ys:List Pt}
section
variable [DecidableEq Vl]
section
variable {F:Int->Vl->Vl->Vl×Int} {e:En} {D:Nat->Prop} {C:Nat} {l:List Vl} {r:Rn Tb} {W:World}
theorem a3s{V V':World}{o:Nat}{v:Value}(hb:Bw V V')(h:V.cell? (Ad g o)=some v):V'.cell? (Ad g o)=some v:=(hb.cell (p:=(Ad g o)) (World.block_lt_of_cell? _ _ h)).trans h
theorem PTab.on'{w w':World}(h:PTab w)(hb:Bw w w'):PTab w':=h.on hb
theorem d0e{W:World}(h:tm[4]?.getD undef=Po B 0)(hx:W.heap[B]?=some (bx x)):(results Tryz.f110 tm).run Tryz.prog W=.ok x.v W:=by
 obtain⟨c0,c1,c2,_,_,_⟩:=in3 hx
 simp[results,Tryz.results110,go_sem,h,c0,c1,c2]
theorem d8g{W:World}(h:tm[4]?.getD undef=Po B 0)(hx:W.heap[B]?=some (bx x)):(results Tryz.f111 tm).run Tryz.prog W=.ok x.v W:=by
 obtain⟨c0,c1,c2,_,_,_⟩:=in3 hx
 simp[results,Tryz.results111,go_sem,h,c0,c1,c2]
def b0x (F:Int->Vl->Vl->Vl×Int) (e:En) (q:Pt) (x:Vl) (l:List Vl) (r:Rn Tb):Res Vl Tb Vl:=if tr x=(q.n == 21) then Res.ok x l r else exX (zE F e) q.kids[1]? l r
theorem d8h(hE:EC F e n)(q:Pt)(b:Option Addr)(cap:Nat)(hn:e.lim<n+r.st)(hw:Wf (nf e) q)(hy1:q.kids[1]?=some y1)(hk1:a2s y1.k)(hk:PK tt e.w1 q.kids b cap)(h:St e D C l r W)(x:Vl)(hx:VG r.tb.length (nf e) x)(Bp Bc:Nat)(hBp:W.heap[Bp]?=some (pbx q b cap))(hBc:W.heap[Bc]?=some (.cells #[pC C] 65)):Cl 110 #[x.v,Po Bp 0,Po Bc 0] W (XQ (gV e) e D C W r.tb.length (b0x F e q x l r)):=by
 obtain⟨g,z6,b1,z9,rfl,x9,z0⟩:=PK.kid hk hy1
 have hL:1<q.kids.length:=(List.getElem?_eq_some_iff.1 hy1).1
 have x7:=hk.1
 have y0:=(hw.kid hy1).2
 obtain⟨w0,z4⟩:=exq ((W.alloc (.cells #[vi x.k,vi x.n,.string x.s] 52)).alloc (.cells #[vi 0,vi 0,.string ⟨#[]⟩] 52))
 have hb:Bw W w0:=by rw[<- z4];exact ext_alloc (ext_alloc (Below.refl _ _) _) _
 have g1:w0.heap[W.heap.size+1]?=some (bx nilV):=by rw[<- z4];exact new2 _ _ _
 have g2:w0.heap[W.heap.size]?=some (bx x):=by rw[<- z4];exact block_alloc _ (new1 _ _)
 have hA:=Ac.begin (os:=[(W.heap.size+1,bx nilV)]) h hb (fun p hp=>by simp at hp;subst hp;exact⟨g1,by omega⟩)
 have gP:=block_below hb hBp
 have gC:=block_below hb hBc
 have y4:=h.size
 have ht:=a7p x.k x.n x.s
 obtain⟨tb,m⟩:=exq (truthB x.k x.n x.s)
 rw[m]at ht
 obtain⟨L,z8⟩:=exq (q.kids.length)
 rw[z8]at hL x7
 have y5:w0.heap[Bp]?=some (.cells #[vi q.k,.string q.t,vi q.n,vi q.sl,.slice (some (Ad g z6)) L cap] 34):=by rw[<- z8];exact gP
 obtain⟨_,_,p2,_,p4,_,_,_,_,_⟩:=in5 y5
 have c0:Ce w0 Bc 0 (pC C):=cell_block gC rfl
 obtain⟨a0,a1,a2,_,_,_⟩:=in3 g2
 obtain⟨R,hR⟩:=exq (b0x F e q x l r)
 rw[hR]
 have x4:(1:Int)<(L:Int):=by omega
 have z7:=block_lt y5
 have x5:(L:Int)<=(cap:Int):=by omega
 by_cases hs:tb=(q.n == 21)
 ·have hd:(tb == (q.n == 21))=true:=by simpa using hs
  have y:∀V,Bw w0 V->XQ (gV e) e D C W r.tb.length R (.returned x.v) (put3 V (W.heap.size+1) x):=fun V z=>by
   have d:=(hA.below z).put (i:=0) x y4 rfl (fun j p hj z2=>by match j,hj with|0,hj=>exact absurd rfl z2)
   exact .inr ⟨x,l,r,D,_,by rw[<- hR];unfold b0x;rw[if_pos (by rw[<- hs,<- m])],rfl,d.st,d.ck,Nat.le_refl _,rfl,hx⟩
  have y9:∀V,Bw w0 V->In3 V W.heap.size x/\V.heap[W.heap.size+1]?=some (bx nilV):=fun V z=>⟨in3 (block_below z g2),block_below z g1⟩
  replace y:Hid _:=y
  replace y9:Hid _:=y9
  clear hE h hA hR hs m hBp hBc gP gC hx hk z0 hw z8 g1 g2
  go_enter Tryz.func110,Tryz.ntmps110
  go_wp2
  go_region_with (go_at_call 84;refine(ht _).mono ?_;rintro en w1 ⟨rfl,y7⟩;have E1:=ext_trans ((Below.refl w0.heap.size w0).drew) y7;have y2:Ce w1 Bp 2 (vi q.n):=(E1.cell (p:=(Ad Bp 2)) z7).trans p2;obtain⟨⟨s0,s1,s2,_,_,_⟩,sR⟩:=y9.out w1 E1;obtain⟨t0,t1,t2,k0,k1,k2⟩:=in3 sR)
  all_goals
   go_wp2
   exact bodyPost_ret (d0e (B:=W.heap.size+1) rfl (put3_same x sR)) rfl (y.out _ E1)
 ·have hd:(tb == (q.n == 21))=false:=by simpa using hs
  have o:∀V,Bw w0 V->Cl 49 #[pC C,.agg #[vi y1.k,.string y1.t,vi y1.n,vi y1.sl,.slice b1 y1.kids.length z9]] V (XQ (gV e) e D C V r.tb.length (ZX F e 0 y1 0 0 l r)):=fun V z=>hE y1 b1 z9 C l r D V hn y0 hk1 x9 (hA.below z).st
  have y6:R=ZX F e 0 y1 0 0 l r:=by rw[<- hR];unfold b0x;rw[if_neg (by rw[show tr x=tb from m];exact hs),hy1];rfl
  have f:∀V V' pv,Bw w0 V->Bd (fun q=>q=C) e D V (ZX F e 0 y1 0 0 l r) pv V'->XQ (gV e) e D C W r.tb.length R (.panicked pv) V':=fun V V' pv z y8=>.inl ⟨pv,rfl,((hA.below z).bad y8).eq y6⟩
  have y:∀V V' a l1 r1 D1,Bw w0 V->ZX F e 0 y1 0 0 l r=Res.ok a l1 r1->St e D1 C l1 r1 V'->CK (fun q=>q=C) D V D1 V'->r.tb.length<=r1.tb.length->VG r1.tb.length (nf e) a->V'.heap[W.heap.size+1]?=some (bx nilV)/\XQ (gV e) e D C W r.tb.length R (.returned a.v) (put3 V' (W.heap.size+1) a):=fun V V' a l1 r1 D1 z z5 hS hK z1 z3=>by
   have y3:=(hA.below z).step hS hK
   have d:=y3.put (i:=0) a y4 rfl (fun j p hj z2=>by match j,hj with|0,hj=>exact absurd rfl z2)
   exact⟨y3.at 0 rfl,.inr ⟨a,l1,r1,D1,_,y6.trans z5,rfl,d.st,d.ck,z1,rfl,z3⟩⟩
  have u:∀V,Bw w0 V->Ce V Bc 0 (pC C)/\In5 V Bp (vi q.k) (.string q.t) (vi q.n) (vi q.sl) (.slice (some (Ad g z6)) L cap)/\KC e V y1 g (z6+5) b1 z9:=fun V z=>⟨cell_block (block_below z gC) rfl,in5 (block_below z y5),by have:=z0 V (hA.below z).st.rq.bl;simpa using this⟩
  replace o:Hid _:=o
  replace f:Hid _:=f
  replace y:Hid _:=y
  replace u:Hid _:=u
  clear hE h hA hR hs m hBp hBc gP gC hx hk z0 hw z8 g1 g2 y6
  go_enter Tryz.func110,Tryz.ntmps110
  go_wp2
  go_region_with (go_at_call 84;refine(ht _).mono ?_;rintro en w1 ⟨rfl,y7⟩;have E1:=ext_trans ((Below.refl w0.heap.size w0).drew) y7;have y2:Ce w1 Bp 2 (vi q.n):=(E1.cell (p:=(Ad Bp 2)) z7).trans p2)
  all_goals
   obtain⟨s0,⟨_,_,_,_,s4,_,_,_,_,_⟩,_,j0,j1,j2,j3,j4⟩:=u.out w1 E1
   clear p2 p4 c0 a0 a1 a2
   go_wp2
   refine wp_region_still_tail 5 (by kernel_rfl) (by kernel_rfl) ?_
   change wpStill _ _ w1.drew _ _ _
   simp only[List.take_succ_cons,List.take_zero,List.drop_succ_cons,List.drop_zero]
   repeat still_step
   refine wpStill_nil ?_
   go_wp2_with (go_at_call 49;refine(o.out _ E1.drew).mono ?_;intro en w2 hq;rcases hq.par with⟨pv,rfl,y8⟩|⟨a,l1,r1,D1,vv,z5,rfl,x8,x6,z1,rfl,z3⟩;(exact⟨rfl,f.out _ _ _ E1.drew y8⟩);obtain⟨gR,hf⟩:=y.out _ _ _ _ _ _ E1.drew z5 x8 x6 z1 z3;obtain⟨t0,t1,t2,k0,k1,k2⟩:=in3 gR)
   exact bodyPost_ret (d0e (B:=W.heap.size+1) rfl (put3_same a gR)) rfl hf
def a5c (F:Int->Vl->Vl->Vl×Int) (e:En) (q:Pt) (x:Vl) (l:List Vl) (r:Rn Tb):Res Vl Tb Vl:=(exX (zE F e) q.kids[1]? l r).bind fun y l r=>a1q (Oz F) q.n x y l r
theorem d8i(hF:OpF F)(hg:Pg e)(hE:EC F e n)(q:Pt)(b:Option Addr)(cap:Nat)(hn:e.lim<n+r.st)(hw:Wf (nf e) q)(hy1:q.kids[1]?=some y1)(hk1:a2s y1.k)(hk:PK tt e.w1 q.kids b cap)(h:St e D C l r W)(x:Vl)(Bp Bc:Nat)(hBp:W.heap[Bp]?=some (pbx q b cap))(hBc:W.heap[Bc]?=some (.cells #[pC C] 65))(hnP:¬D Bp/\Bp≠C)(hnC:¬D Bc/\Bc≠C)(hq64:-9223372036854775808<=q.n/\q.n<=9223372036854775807):Cl 111 #[x.v,Po Bc 0,Po Bp 0] W (XQ (gV e) e D C W r.tb.length (a5c F e q x l r)):=by
 obtain⟨g,z,b1,o,rfl,w7,z6⟩:=PK.kid hk hy1
 have hL:1<q.kids.length:=(List.getElem?_eq_some_iff.1 hy1).1
 have w4:=hk.1
 have w8:=(hw.kid hy1).2
 obtain⟨w0,y9⟩:=exq ((W.alloc (.cells #[vi x.k,vi x.n,.string x.s] 52)).alloc (.cells #[vi 0,vi 0,.string ⟨#[]⟩] 52))
 have hb:Bw W w0:=by rw[<- y9];exact ext_alloc (ext_alloc (Below.refl _ _) _) _
 have g1:w0.heap[W.heap.size+1]?=some (bx nilV):=by rw[<- y9];exact new2 _ _ _
 have g2:w0.heap[W.heap.size]?=some (bx x):=by rw[<- y9];exact block_alloc _ (new1 _ _)
 have hA:=Ac.begin (os:=[(W.heap.size+1,bx nilV)]) h hb (fun p hp=>by simp at hp;subst hp;exact⟨g1,by omega⟩)
 have gP:=block_below hb hBp
 have gC:=block_below hb hBc
 have w5:=h.size
 obtain⟨L,x8⟩:=exq (q.kids.length)
 rw[x8]at hL w4
 have z1:w0.heap[Bp]?=some (.cells #[vi q.k,.string q.t,vi q.n,vi q.sl,.slice (some (Ad g z)) L cap] 34):=by rw[<- x8];exact gP
 obtain⟨_,_,p2,_,p4,_,_,_,_,_⟩:=in5 z1
 have c0:Ce w0 Bc 0 (pC C):=cell_block gC rfl
 obtain⟨a0,a1,a2,_,_,_⟩:=in3 g2
 obtain⟨_,j0,j1,j2,j3,j4⟩:=z6 w0 hA.st.rq.bl
 simp only[Nat.one_mul]at j0 j1 j2 j3 j4
 have v5:(1:Int)<(L:Int):=by omega
 have v7:(L:Int)<=(cap:Int):=by omega
 obtain⟨R,hR⟩:=exq (a5c F e q x l r)
 rw[hR]
 have z3:R=(ZX F e 0 y1 0 0 l r).bind fun y l r=>a1q (Oz F) q.n x y l r:=by rw[<- hR];unfold a5c;rw[hy1];rfl
 have z9:∀V,Bw w0 V->Cl 49 #[pC C,.agg #[vi y1.k,.string y1.t,vi y1.n,vi y1.sl,.slice b1 y1.kids.length o]] V (XQ (gV e) e D C V r.tb.length (ZX F e 0 y1 0 0 l r)):=fun V u=>hE y1 b1 o C l r D V hn w8 hk1 w7 (hA.below u).st
 have z5:∀V V' pv,Bw w0 V->Bd (fun q=>q=C) e D V (ZX F e 0 y1 0 0 l r) pv V'->XQ (gV e) e D C W r.tb.length R (.panicked pv) V':=fun V V' pv u y5=>.inl ⟨pv,rfl,(((hA.below u).bad y5).bind _).eq z3⟩
 have y8:∀V V' a l1 r1 D1,Bw w0 V->ZX F e 0 y1 0 0 l r=Res.ok a l1 r1->St e D1 C l1 r1 V'->CK (fun q=>q=C) D V D1 V'->Cl 108 #[pC C,vi q.n,.agg #[vi x.k,vi x.n,.string x.s],.agg #[vi a.k,vi a.n,.string a.s]] V' (OpA F q.n x a V'):=fun V V' a l1 r1 D1 u m hS d=>a6t hF q.n x a V' C hS.ptr (hg.pt.on' hS.rq.bl)
 have y7:∀V V' V2 a l1 r1 D1,Bw w0 V->ZX F e 0 y1 0 0 l r=Res.ok a l1 r1->St e D1 C l1 r1 V'->CK (fun q=>q=C) D V D1 V'->Bw V' V2->(F q.n x a).2≠0->XQ (gV e) e D C W r.tb.length R (.panicked (pan (endV 2 (F q.n x a).2))) V2:=fun V V' V2 a l1 r1 D1 u m hS d y3 hc=>.inl ⟨_,rfl,((((hA.below u).step hS d).below y3).stop 2 _).eq (by rw[z3,m];show a1q (Oz F) q.n x a l1 r1=_;show(if (F q.n x a).2=0 then _ else Res.stop 2 (F q.n x a).2 r1)=_;rw[if_neg hc])⟩
 have z7:∀V V' V2 a l1 r1 D1,Bw w0 V->ZX F e 0 y1 0 0 l r=Res.ok a l1 r1->St e D1 C l1 r1 V'->CK (fun q=>q=C) D V D1 V'->r.tb.length<=r1.tb.length->Bw V' V2->V2.heap[W.heap.size+1]?=some (bx nilV)/\((F q.n x a).2=0->XQ (gV e) e D C W r.tb.length R (.returned (F q.n x a).1.v) (put3 V2 (W.heap.size+1) (F q.n x a).1)):=fun V V' V2 a l1 r1 D1 u m hS d y6 y3=>by
  have w9:=((hA.below u).step hS d).below y3
  refine⟨w9.at 0 rfl,fun hc=>?_⟩
  have x0:=w9.put (i:=0) (F q.n x a).1 w5 rfl (fun j p hj w6=>by match j,hj with|0,hj=>exact absurd rfl w6)
  exact .inr ⟨_,l1,r1,D1,_,by rw[z3,m];show a1q (Oz F) q.n x a l1 r1=_;show(if (F q.n x a).2=0 then Res.ok (F q.n x a).1 l1 r1 else _)=_;rw[if_pos hc],rfl,x0.st,x0.ck,y6,rfl,VG.op hF hc⟩
 have v8:IntKind.i64.wrap q.n=q.n:=by rw[IntKind.wrap_i64];omega
 have x3:∀V,Bw w0 V->Ce V Bc 0 (pC C)/\Ce V Bp 2 (vi q.n)/\Ce V Bp 4 (.slice (some (Ad g z)) L cap)/\Ce V W.heap.size 0 (vi x.k)/\Ce V W.heap.size 1 (vi x.n)/\Ce V W.heap.size 2 (.string x.s)/\Ce V g (z+5) (vi y1.k)/\Ce V g (z+5+1) (.string y1.t)/\Ce V g (z+5+2) (vi y1.n)/\Ce V g (z+5+3) (vi y1.sl)/\Ce V g (z+5+4) (.slice b1 y1.kids.length o):=fun V u=>by
  have k1:=in5 (block_below u z1)
  have k2:=in3 (block_below u g2)
  have k3:=z6 V (hA.below u).st.rq.bl
  simp only[Nat.one_mul]at k3
  exact⟨cell_block (block_below u gC) rfl,k1.c2,k1.c4,k2.1,k2.2,k2.3,k3.c0,k3.c1,k3.c2,k3.c3,k3.c4⟩
 have y2:∀V V' l1 r1 D1,Bw w0 V->St e D1 C l1 r1 V'->CK (fun q=>q=C) D V D1 V'->(fun V=>Ce V Bc 0 (pC C)/\Ce V Bp 2 (vi q.n)/\Ce V Bp 4 (.slice (some (Ad g z)) L cap)/\Ce V W.heap.size 0 (vi x.k)/\Ce V W.heap.size 1 (vi x.n)/\Ce V W.heap.size 2 (.string x.s)/\Ce V g (z+5) (vi y1.k)/\Ce V g (z+5+1) (.string y1.t)/\Ce V g (z+5+2) (vi y1.n)/\Ce V g (z+5+3) (vi y1.sl)/\Ce V g (z+5+4) (.slice b1 y1.kids.length o)) V':=fun V V' l1 r1 D1 u hS d=>by
  have k1:=in5 (d.box (block_below u z1) hnP.1 hnP.2).1
  have k2:=in3 (d.box (block_below u g2) (h.new (Nat.le_refl _)).1 (h.new (Nat.le_refl _)).2).1
  have k3:=z6 V' hS.rq.bl
  simp only[Nat.one_mul]at k3
  exact⟨cell_block (d.box (block_below u gC) hnC.1 hnC.2).1 rfl,k1.c2,k1.c4,k2.1,k2.2,k2.3,k3.c0,k3.c1,k3.c2,k3.c3,k3.c4⟩
 have x9:∀V V',Bw V V'->(fun V=>Ce V Bc 0 (pC C)/\Ce V Bp 2 (vi q.n)/\Ce V Bp 4 (.slice (some (Ad g z)) L cap)/\Ce V W.heap.size 0 (vi x.k)/\Ce V W.heap.size 1 (vi x.n)/\Ce V W.heap.size 2 (.string x.s)/\Ce V g (z+5) (vi y1.k)/\Ce V g (z+5+1) (.string y1.t)/\Ce V g (z+5+2) (vi y1.n)/\Ce V g (z+5+3) (vi y1.sl)/\Ce V g (z+5+4) (.slice b1 y1.kids.length o)) V->(fun V=>Ce V Bc 0 (pC C)/\Ce V Bp 2 (vi q.n)/\Ce V Bp 4 (.slice (some (Ad g z)) L cap)/\Ce V W.heap.size 0 (vi x.k)/\Ce V W.heap.size 1 (vi x.n)/\Ce V W.heap.size 2 (.string x.s)/\Ce V g (z+5) (vi y1.k)/\Ce V g (z+5+1) (.string y1.t)/\Ce V g (z+5+2) (vi y1.n)/\Ce V g (z+5+3) (vi y1.sl)/\Ce V g (z+5+4) (.slice b1 y1.kids.length o)) V':=fun V V' hb ⟨h0,h1,h2,h3,h4,h5,h6,h7,h8,h9,x6⟩=>⟨a3s hb h0,a3s hb h1,a3s hb h2,a3s hb h3,a3s hb h4,a3s hb h5,a3s hb h6,a3s hb h7,a3s hb h8,a3s hb h9,a3s hb x6⟩
 have x5:Bc≠W.heap.size+1:=by have:=block_lt hBc;omega
 have z0:Bp≠W.heap.size+1:=by have:=block_lt hBp;omega
 have f:g≠W.heap.size+1:=by have:=(z6 w0 hA.st.rq.bl).lt;omega
 have y0:∀V y,(fun V=>Ce V Bc 0 (pC C)/\Ce V Bp 2 (vi q.n)/\Ce V Bp 4 (.slice (some (Ad g z)) L cap)/\Ce V W.heap.size 0 (vi x.k)/\Ce V W.heap.size 1 (vi x.n)/\Ce V W.heap.size 2 (.string x.s)/\Ce V g (z+5) (vi y1.k)/\Ce V g (z+5+1) (.string y1.t)/\Ce V g (z+5+2) (vi y1.n)/\Ce V g (z+5+3) (vi y1.sl)/\Ce V g (z+5+4) (.slice b1 y1.kids.length o)) V->(fun V=>Ce V Bc 0 (pC C)/\Ce V Bp 2 (vi q.n)/\Ce V Bp 4 (.slice (some (Ad g z)) L cap)/\Ce V W.heap.size 0 (vi x.k)/\Ce V W.heap.size 1 (vi x.n)/\Ce V W.heap.size 2 (.string x.s)/\Ce V g (z+5) (vi y1.k)/\Ce V g (z+5+1) (.string y1.t)/\Ce V g (z+5+2) (vi y1.n)/\Ce V g (z+5+3) (vi y1.sl)/\Ce V g (z+5+4) (.slice b1 y1.kids.length o)) (put3 V (W.heap.size+1) y):=fun V y ⟨h0,h1,h2,h3,h4,h5,h6,h7,h8,h9,x6⟩=>⟨(k3 x5).trans h0,(k3 z0).trans h1,(k3 z0).trans h2,(k3 (by omega)).trans h3,(k3 (by omega)).trans h4,(k3 (by omega)).trans h5,(k3 f).trans h6,(k3 f).trans h7,(k3 f).trans h8,(k3 f).trans h9,(k3 f).trans x6⟩
 replace z9:Hid _:=z9
 replace z5:Hid _:=z5
 replace y8:Hid _:=y8
 replace y7:Hid _:=y7
 replace z7:Hid _:=z7
 have z8:Bw w0 w0.drew:=(Below.refl _ _).drew
 have x4:=x3 _ z8
 replace y2:Hid _:=y2
 replace x9:Hid _:=x9
 replace y0:Hid _:=y0
 clear hE h hA hR hBp hBc gP gC z1 hk z6 hw x8 g1 g2 z3 x3 hnP hnC
 go_enter Tryz.func111,Tryz.ntmps111
 go_wp2
 refine wp_region_held_drew (S:=fun V=>Ce V Bc 0 (pC C)/\Ce V Bp 2 (vi q.n)/\Ce V Bp 4 (.slice (some (Ad g z)) L cap)/\Ce V W.heap.size 0 (vi x.k)/\Ce V W.heap.size 1 (vi x.n)/\Ce V W.heap.size 2 (.string x.s)/\Ce V g (z+5) (vi y1.k)/\Ce V g (z+5+1) (.string y1.t)/\Ce V g (z+5+2) (vi y1.n)/\Ce V g (z+5+3) (vi y1.sl)/\Ce V g (z+5+4) (.slice b1 y1.kids.length o)) (by kernel_rfl) x4 (fun x7=>?_)
 change wpAnyH _ _ _ _ _ 12 _ _ _
 iterate 9 (refine tkH 0 (by simp only[nx,gq1,gq2,gq3];rfl) (by kernel_rfl) (by rfl) x7 ⟨_,by intro w ⟨_,_,_,_,_,_,_,_,_,_,_⟩;go_simp;try with_reducible rfl,by exact fun _ _ _ h=>h,?_⟩;try simp only[Act.put,sq1,sq2,sq3])
 refine wpAnyH_ready (rs:=[9]) (by kernel_rfl) (by simp) ?_
 refine AllReadyH.cons rfl (fun K d=>?_) .nil
 go_simp
 go_at_call 49
 refine(z9.out _ z8).mono ?_
 intro en w2 hq
 rcases hq.par with⟨pv,rfl,y5⟩|⟨a,l1,r1,D1,vv,m,rfl,z4,z2,y6,rfl,v6⟩
 ·exact⟨rfl,z5.out _ _ _ z8 y5⟩
 have x1:=y2.out _ _ _ _ _ z8 z4 z2
 refine d.out _ _ x1 (fun _=>?_)
 clear d K
 try simp only[Act.put,sq1,sq2,sq3]
 refine wpAnyH_ready (rs:=[10]) (by kernel_rfl) (by simp) ?_
 refine AllReadyH.cons rfl (fun K d=>?_) .nil
 go_simp
 go_at_call 108
 refine(y8.out _ _ _ _ _ _ z8 m z4 z2).mono ?_
 rintro en w3 ⟨(⟨hc,rfl⟩|⟨hc,rfl⟩),y4⟩
 ·exact⟨rfl,y7.out _ _ _ _ _ _ _ z8 m z4 z2 y4 hc⟩
 obtain⟨gR,hf⟩:=z7.out _ _ _ _ _ _ _ z8 m z4 z2 y6 y4
 have x2:=x9.out _ _ y4 x1
 obtain⟨t0,t1,t2,k0,k1,k2⟩:=in3 gR
 refine d.out _ _ x2 (fun _=>?_)
 clear d K
 try simp only[Act.put,sq1,sq2,sq3]
 refine wpAnyH_ready (rs:=[11]) (by kernel_rfl) (by simp) ?_
 refine AllReadyH.cons rfl (fun K d=>?_) .nil
 go_simp
 have v9:=y0.out _ (F q.n x a).1 x2
 refine d.out _ _ v9 (fun _=>?_)
 clear d K
 try simp only[Act.put,sq1,sq2,sq3]
 refine wpAnyH_done (by kernel_rfl) ?_ _
 go_wp2
 exact bodyPost_ret (d8g (B:=W.heap.size+1) rfl (put3_same _ gR)) rfl (hf hc)
end
section
variable {F:Int->Vl->Vl->Vl×Int} {e:En} {D:Nat->Prop} {C:Nat} {l:List Vl} {r:Rn Tb} {W:World}
theorem res49{W:World}(h:tm[4]?.getD undef=Po B 0)(hx:W.heap[B]?=some (bx x)):(results Tryz.f49 tm).run Tryz.prog W=.ok x.v W:=by
 obtain⟨c0,c1,c2,_,_,_⟩:=in3 hx
 simp[results,Tryz.results49,go_sem,h,c0,c1,c2]
theorem d9r(t:ByteArray)(nn sl:Int)(ks:List Pt)(l:List Vl)(r:Rn Tb)(h:r.st<=e.lim):ZX F e 0 ⟨13,t,nn,sl,ks⟩ 0 0 l r=tick e.lim l r fun l r=>Res.ok (intV nn) l r:=(a3r F e 0 _ 0 0 l r h).trans rfl
theorem d3z(t:ByteArray)(nn sl:Int)(ks:List Pt)(b:Option Addr)(cap:Nat)(hw:Wf (nf e) ⟨13,t,nn,sl,ks⟩)(_hk:PK tt e.w1 ks b cap)(h:St e D C l r W):Cl 49 #[pC C,ptv ⟨13,t,nn,sl,ks⟩ b cap] W (XQ (gV e) e D C W r.tb.length (ZX F e 0 ⟨13,t,nn,sl,ks⟩ 0 0 l r)):=by
 obtain⟨g,w0,a,s,z⟩:=a6u (.cells #[vi 13,.string t,vi nn,vi sl,.slice b ks.length cap] 34) h (d9r t nn sl ks l r h.rq.gd.st)
 generalize ZX F e 0 ⟨13,t,nn,sl,ks⟩ 0 0 l r=R at z⊢
 generalize r.tb.length=nt at z⊢
 show Cl 49 #[pC C,.agg #[vi 13,.string t,vi nn,vi sl,.slice b ks.length cap]] W _
 clear h
 go_enter Tryz.func49,Tryz.ntmps49
 go_wp2_with (go_at_call 48;refine z.mono ?_;rintro en w1 (⟨rfl,hx⟩|⟨rfl,r1,m,z9,q,d,u⟩);(exact⟨rfl,hx⟩);refine Hid.out ?_)
 try dsimp only at d
 obtain⟨p0,p1,p2,p3,p4,_,_,_,_,_⟩:=in5 (u.at 1 rfl)
 obtain⟨d0,d1,d2,f0,f1,f2⟩:=in3 (u.at 0 rfl)
 have j:=u.st.ptr
 clear z s m
 have n:(Lit.int .i64 nn).wf=true:=WalkArith.wf_i64 (by rw[Wf]at hw;have:=hw.2.2.1 rfl;omega)
 have hc:=b6g nn n
 have y:∀V,Bw w1 V->V.heap[W.heap.size+1]?=some (bx nilV)/\XQ (gV e) e D C W nt R (.returned (intV nn).v) (put3 V (W.heap.size+1) (intV nn)):=fun V hb=>by
  have o:=u.below hb
  have p:=o.put (i:=0) (intV nn) g rfl hd_e
  exact⟨o.at 0 rfl,.inr ⟨intV nn,l,r1,D,_,d.symm,rfl,p.st,p.ck,q,rfl,VG.num _⟩⟩
 replace y:Hid _:=y
 clear u d
 refine Lib.hid ?_
 go_wp2_with (go_at_call 72;refine(hc _).mono ?_;rintro en w2 ⟨rfl,f⟩;obtain⟨gR,hf⟩:=y.out _ f;obtain⟨t0,t1,t2,k0,k1,k2⟩:=in3 gR)
 exact bodyPost_ret (res49 (B:=W.heap.size+1) rfl (put3_same _ gR)) rfl hf
theorem d9s(t:ByteArray)(nn sl:Int)(ks:List Pt)(l:List Vl)(r:Rn Tb)(h:r.st<=e.lim):ZX F e 0 ⟨14,t,nn,sl,ks⟩ 0 0 l r=tick e.lim l r fun l r=>Res.ok (txtV t) l r:=(a3r F e 0 _ 0 0 l r h).trans rfl
theorem d4a(t:ByteArray)(nn sl:Int)(ks:List Pt)(b:Option Addr)(cap:Nat)(hw:Wf (nf e) ⟨14,t,nn,sl,ks⟩)(_hk:PK tt e.w1 ks b cap)(h:St e D C l r W):Cl 49 #[pC C,ptv ⟨14,t,nn,sl,ks⟩ b cap] W (XQ (gV e) e D C W r.tb.length (ZX F e 0 ⟨14,t,nn,sl,ks⟩ 0 0 l r)):=by
 obtain⟨j,w0,f,s,z⟩:=a6u (.cells #[vi 14,.string t,vi nn,vi sl,.slice b ks.length cap] 34) h (d9s t nn sl ks l r h.rq.gd.st)
 generalize ZX F e 0 ⟨14,t,nn,sl,ks⟩ 0 0 l r=R at z⊢
 generalize r.tb.length=nt at z⊢
 show Cl 49 #[pC C,.agg #[vi 14,.string t,vi nn,vi sl,.slice b ks.length cap]] W _
 clear h
 go_enter Tryz.func49,Tryz.ntmps49
 go_wp2_with (go_at_call 48;refine z.mono ?_;rintro en w1 (⟨rfl,hx⟩|⟨rfl,r1,n,d,q,g,u⟩);(exact⟨rfl,hx⟩);refine Hid.out ?_)
 try dsimp only at g
 obtain⟨p0,p1,p2,p3,p4,_,_,_,_,_⟩:=in5 (u.at 1 rfl)
 obtain⟨d0,d1,d2,f0,f1,f2⟩:=in3 (u.at 0 rfl)
 have m:=u.st.ptr
 clear z s n
 have ek:txtV t=⟨3,0,t,by decide,by decide,by rw[Wf]at hw;have:=hw.2.1 rfl;unfold maxLen;omega⟩:=by rw[Wf]at hw;have:=hw.2.1 rfl;unfold txtV;rw[dif_pos this]
 have y:∀V,Bw w1 V->V.heap[W.heap.size+1]?=some (bx nilV)/\XQ (gV e) e D C W nt R (.returned (txtV t).v) (put3 V (W.heap.size+1) (txtV t)):=fun V hb=>by
  have o:=u.below hb
  have p:=o.put (i:=0) (txtV t) j rfl hd_e
  exact⟨o.at 0 rfl,.inr ⟨txtV t,l,r1,D,_,g.symm,rfl,p.st,p.ck,q,rfl,VG.txt _⟩⟩
 replace y:Hid _:=y
 clear u g
 refine Lib.hid ?_
 obtain⟨gR,hf⟩:=y.out _ (Below.refl _ _)
 have a:=put3_same (txtV t) gR
 rw[ek]at hf a
 clear y
 go_wp2
 exact bodyPost_ret (res49 (B:=W.heap.size+1) rfl a) rfl hf
theorem d9t(t:ByteArray)(nn sl:Int)(ks:List Pt)(l:List Vl)(r:Rn Tb)(h:r.st<=e.lim):ZX F e 0 ⟨15,t,nn,sl,ks⟩ 0 0 l r=tick e.lim l r fun l r=>Res.ok nilV l r:=(a3r F e 0 _ 0 0 l r h).trans rfl
theorem d4b(t:ByteArray)(nn sl:Int)(ks:List Pt)(b:Option Addr)(cap:Nat)(_hw:Wf (nf e) ⟨15,t,nn,sl,ks⟩)(_hk:PK tt e.w1 ks b cap)(h:St e D C l r W):Cl 49 #[pC C,ptv ⟨15,t,nn,sl,ks⟩ b cap] W (XQ (gV e) e D C W r.tb.length (ZX F e 0 ⟨15,t,nn,sl,ks⟩ 0 0 l r)):=by
 obtain⟨g,w0,d,s,z⟩:=a6u (.cells #[vi 15,.string t,vi nn,vi sl,.slice b ks.length cap] 34) h (d9t t nn sl ks l r h.rq.gd.st)
 generalize ZX F e 0 ⟨15,t,nn,sl,ks⟩ 0 0 l r=R at z⊢
 generalize r.tb.length=nt at z⊢
 show Cl 49 #[pC C,.agg #[vi 15,.string t,vi nn,vi sl,.slice b ks.length cap]] W _
 clear h
 go_enter Tryz.func49,Tryz.ntmps49
 go_wp2_with (go_at_call 48;refine z.mono ?_;rintro en w1 (⟨rfl,hx⟩|⟨rfl,r1,m,a,q,f,u⟩);(exact⟨rfl,hx⟩);refine Hid.out ?_)
 try dsimp only at f
 obtain⟨p0,p1,p2,p3,p4,_,_,_,_,_⟩:=in5 (u.at 1 rfl)
 obtain⟨d0,d1,d2,f0,f1,f2⟩:=in3 (u.at 0 rfl)
 have j:=u.st.ptr
 clear z s m
 have y:∀V,Bw w1 V->V.heap[W.heap.size+1]?=some (bx nilV)/\XQ (gV e) e D C W nt R (.returned (nilV).v) (put3 V (W.heap.size+1) (nilV)):=fun V hb=>by
  have n:=u.below hb
  have o:=n.put (i:=0) (nilV) g rfl hd_e
  exact⟨n.at 0 rfl,.inr ⟨nilV,l,r1,D,_,f.symm,rfl,o.st,o.ck,q,rfl,VG.nil _ _⟩⟩
 replace y:Hid _:=y
 clear u f
 refine Lib.hid ?_
 obtain⟨gR,hf⟩:=y.out _ (Below.refl _ _)
 obtain⟨X,p⟩:=exq (((w1.setCell (Ad (W.heap.size+1) 0) (vi 0)).setCell (Ad (W.heap.size+1) 1) (vi 0)).setCell (Ad (W.heap.size+1) 2) (.string ⟨#[]⟩))
 have gS:X.heap[W.heap.size+1]?=some (bx nilV):=by rw[<- p];exact put3_same nilV gR
 replace hf:XQ (gV e) e D C W nt R (.returned (.agg #[vi 0,vi 0,.string ⟨#[]⟩])) X:=by rw[<- p];exact hf
 replace p:Hid _:=p
 clear y
 go_wp2
 rw[p.out]
 exact bodyPost_ret (res49 (B:=W.heap.size+1) (x:=nilV) rfl gS) rfl hf
theorem d9u(t:ByteArray)(nn sl:Int)(ks:List Pt)(l:List Vl)(r:Rn Tb)(h:r.st<=e.lim):ZX F e 0 ⟨16,t,nn,sl,ks⟩ 0 0 l r=tick e.lim l r fun l r=>Res.ok (booV true) l r:=(a3r F e 0 _ 0 0 l r h).trans rfl
theorem d4c(t:ByteArray)(nn sl:Int)(ks:List Pt)(b:Option Addr)(cap:Nat)(_hw:Wf (nf e) ⟨16,t,nn,sl,ks⟩)(_hk:PK tt e.w1 ks b cap)(h:St e D C l r W):Cl 49 #[pC C,ptv ⟨16,t,nn,sl,ks⟩ b cap] W (XQ (gV e) e D C W r.tb.length (ZX F e 0 ⟨16,t,nn,sl,ks⟩ 0 0 l r)):=by
 obtain⟨j,w0,d,s,z⟩:=a6u (.cells #[vi 16,.string t,vi nn,vi sl,.slice b ks.length cap] 34) h (d9u t nn sl ks l r h.rq.gd.st)
 generalize ZX F e 0 ⟨16,t,nn,sl,ks⟩ 0 0 l r=R at z⊢
 generalize r.tb.length=nt at z⊢
 show Cl 49 #[pC C,.agg #[vi 16,.string t,vi nn,vi sl,.slice b ks.length cap]] W _
 clear h
 go_enter Tryz.func49,Tryz.ntmps49
 go_wp2_with (go_at_call 48;refine z.mono ?_;rintro en w1 (⟨rfl,hx⟩|⟨rfl,r1,n,a,q,f,u⟩);(exact⟨rfl,hx⟩);refine Hid.out ?_)
 try dsimp only at f
 obtain⟨p0,p1,p2,p3,p4,_,_,_,_,_⟩:=in5 (u.at 1 rfl)
 obtain⟨d0,d1,d2,f0,f1,f2⟩:=in3 (u.at 0 rfl)
 have m:=u.st.ptr
 clear z s n
 have hc:=b7y true
 have y:∀V,Bw w1 V->V.heap[W.heap.size+1]?=some (bx nilV)/\XQ (gV e) e D C W nt R (.returned (booV true).v) (put3 V (W.heap.size+1) (booV true)):=fun V hb=>by
  have o:=u.below hb
  have p:=o.put (i:=0) (booV true) j rfl hd_e
  exact⟨o.at 0 rfl,.inr ⟨booV true,l,r1,D,_,f.symm,rfl,p.st,p.ck,q,rfl,VG.boo _⟩⟩
 replace y:Hid _:=y
 clear u f
 refine Lib.hid ?_
 go_wp2_with (go_at_call 73;refine(hc _).mono ?_;rintro en w2 ⟨rfl,g⟩;obtain⟨gR,hf⟩:=y.out _ g;obtain⟨t0,t1,t2,k0,k1,k2⟩:=in3 gR)
 exact bodyPost_ret (res49 (B:=W.heap.size+1) rfl (put3_same _ gR)) rfl hf
theorem d9v(t:ByteArray)(nn sl:Int)(ks:List Pt)(l:List Vl)(r:Rn Tb)(h:r.st<=e.lim):ZX F e 0 ⟨17,t,nn,sl,ks⟩ 0 0 l r=tick e.lim l r fun l r=>Res.ok (booV false) l r:=(a3r F e 0 _ 0 0 l r h).trans rfl
theorem d4d(t:ByteArray)(nn sl:Int)(ks:List Pt)(b:Option Addr)(cap:Nat)(_hw:Wf (nf e) ⟨17,t,nn,sl,ks⟩)(_hk:PK tt e.w1 ks b cap)(h:St e D C l r W):Cl 49 #[pC C,ptv ⟨17,t,nn,sl,ks⟩ b cap] W (XQ (gV e) e D C W r.tb.length (ZX F e 0 ⟨17,t,nn,sl,ks⟩ 0 0 l r)):=by
 obtain⟨j,w0,d,s,z⟩:=a6u (.cells #[vi 17,.string t,vi nn,vi sl,.slice b ks.length cap] 34) h (d9v t nn sl ks l r h.rq.gd.st)
 generalize ZX F e 0 ⟨17,t,nn,sl,ks⟩ 0 0 l r=R at z⊢
 generalize r.tb.length=nt at z⊢
 show Cl 49 #[pC C,.agg #[vi 17,.string t,vi nn,vi sl,.slice b ks.length cap]] W _
 clear h
 go_enter Tryz.func49,Tryz.ntmps49
 go_wp2_with (go_at_call 48;refine z.mono ?_;rintro en w1 (⟨rfl,hx⟩|⟨rfl,r1,n,a,q,f,u⟩);(exact⟨rfl,hx⟩);refine Hid.out ?_)
 try dsimp only at f
 obtain⟨p0,p1,p2,p3,p4,_,_,_,_,_⟩:=in5 (u.at 1 rfl)
 obtain⟨d0,d1,d2,f0,f1,f2⟩:=in3 (u.at 0 rfl)
 have m:=u.st.ptr
 clear z s n
 have hc:=b7y false
 have y:∀V,Bw w1 V->V.heap[W.heap.size+1]?=some (bx nilV)/\XQ (gV e) e D C W nt R (.returned (booV false).v) (put3 V (W.heap.size+1) (booV false)):=fun V hb=>by
  have o:=u.below hb
  have p:=o.put (i:=0) (booV false) j rfl hd_e
  exact⟨o.at 0 rfl,.inr ⟨booV false,l,r1,D,_,f.symm,rfl,p.st,p.ck,q,rfl,VG.boo _⟩⟩
 replace y:Hid _:=y
 clear u f
 refine Lib.hid ?_
 go_wp2_with (go_at_call 73;refine(hc _).mono ?_;rintro en w2 ⟨rfl,g⟩;obtain⟨gR,hf⟩:=y.out _ g;obtain⟨t0,t1,t2,k0,k1,k2⟩:=in3 gR)
 exact bodyPost_ret (res49 (B:=W.heap.size+1) rfl (put3_same _ gR)) rfl hf
theorem d9w(t:ByteArray)(nn sl:Int)(ks:List Pt)(l:List Vl)(r:Rn Tb)(h:r.st<=e.lim):ZX F e 0 ⟨18,t,nn,sl,ks⟩ 0 0 l r=tick e.lim l r fun l r=>Res.ok (nmV F sl l) l r:=(a3r F e 0 _ 0 0 l r h).trans rfl
theorem d4e(hn12:nf e<=12)(t:ByteArray)(nn sl:Int)(ks:List Pt)(b:Option Addr)(cap:Nat)(hw:Wf (nf e) ⟨18,t,nn,sl,ks⟩)(_hk:PK tt e.w1 ks b cap)(h:St e D C l r W):Cl 49 #[pC C,ptv ⟨18,t,nn,sl,ks⟩ b cap] W (XQ (gV e) e D C W r.tb.length (ZX F e 0 ⟨18,t,nn,sl,ks⟩ 0 0 l r)):=by
 obtain⟨d,w0,z9,p,z⟩:=a6u (.cells #[vi 18,.string t,vi nn,vi sl,.slice b ks.length cap] 34) h (d9w t nn sl ks l r h.rq.gd.st)
 generalize ZX F e 0 ⟨18,t,nn,sl,ks⟩ 0 0 l r=R at z⊢
 generalize r.tb.length=nt at z⊢
 show Cl 49 #[pC C,.agg #[vi 18,.string t,vi nn,vi sl,.slice b ks.length cap]] W _
 clear h
 go_enter Tryz.func49,Tryz.ntmps49
 go_wp2_with (go_at_call 48;refine z.mono ?_;rintro en w1 (⟨rfl,hx⟩|⟨rfl,r1,g,z8,o,j,y⟩);(exact⟨rfl,hx⟩);refine Hid.out ?_)
 try dsimp only at j
 obtain⟨p0,p1,p2,p3,p4,_,_,_,_,_⟩:=in5 (y.at 1 rfl)
 obtain⟨d0,d1,d2,f0,f1,f2⟩:=in3 (y.at 0 rfl)
 have f:=y.st.ptr
 clear z p g
 have q:0<=sl/\sl<30+nf e:=by rw[Wf]at hw;exact hw.2.2.2.1 rfl
 have hc:=c4j F y.st sl q.1 q.2 hn12
 obtain⟨v,hv⟩:=exq (nmV F sl l)
 rw[hv]at j hc
 have u:∀V,VG r1.tb.length (nf e) v->Bw w1 V->V.heap[W.heap.size+1]?=some (bx nilV)/\XQ (gV e) e D C W nt R (.returned v.v) (put3 V (W.heap.size+1) v):=fun V s hb=>by
  have m:=y.below hb
  have n:=m.put (i:=0) v d rfl hd_e
  exact⟨m.at 0 rfl,.inr ⟨v,l,r1,D,_,j.symm,rfl,n.st,n.ck,o,rfl,s⟩⟩
 replace u:Hid _:=u
 clear y j hv
 refine Lib.hid ?_
 go_wp2_with (go_at_call 74;refine hc.mono ?_;rintro en w2 ⟨rfl,s,a⟩;obtain⟨gR,hf⟩:=u.out _ s a;obtain⟨t0,t1,t2,k0,k1,k2⟩:=in3 gR)
 exact bodyPost_ret (res49 (B:=W.heap.size+1) rfl (put3_same _ gR)) rfl hf
theorem d9x(t:ByteArray)(nn sl:Int)(ks:List Pt)(l:List Vl)(r:Rn Tb)(h:r.st<=e.lim):ZX F e 0 ⟨19,t,nn,sl,ks⟩ 0 0 l r=tick e.lim l r fun l r=>newX l r:=(a3r F e 0 _ 0 0 l r h).trans rfl
theorem d4f(t:ByteArray)(nn sl:Int)(ks:List Pt)(b:Option Addr)(cap:Nat)(_hw:Wf (nf e) ⟨19,t,nn,sl,ks⟩)(_hk:PK tt e.w1 ks b cap)(h:St e D C l r W):Cl 49 #[pC C,ptv ⟨19,t,nn,sl,ks⟩ b cap] W (XQ (gV e) e D C W r.tb.length (ZX F e 0 ⟨19,t,nn,sl,ks⟩ 0 0 l r)):=by
 obtain⟨z6,w0,z4,j,z⟩:=a6u (.cells #[vi 19,.string t,vi nn,vi sl,.slice b ks.length cap] 34) h (d9x t nn sl ks l r h.rq.gd.st)
 generalize ZX F e 0 ⟨19,t,nn,sl,ks⟩ 0 0 l r=R at z⊢
 generalize r.tb.length=nt at z⊢
 show Cl 49 #[pC C,.agg #[vi 19,.string t,vi nn,vi sl,.slice b ks.length cap]] W _
 clear h
 go_enter Tryz.func49,Tryz.ntmps49
 go_wp2_with (go_at_call 48;refine z.mono ?_;rintro en w1 (⟨rfl,q⟩|⟨rfl,r1,z8,z3,g,hR,y⟩);(exact⟨rfl,q⟩);refine Hid.out ?_)
 try dsimp only at hR
 obtain⟨p0,p1,p2,p3,p4,_,_,_,_,_⟩:=in5 (y.at 1 rfl)
 obtain⟨d0,d1,d2,f0,f1,f2⟩:=in3 (y.at 0 rfl)
 have z7:=y.st.ptr
 clear z j z8
 have hc:=new_any y.st.rq l
 have s:∀V pv,Bd ff e D w1 (newX l r1) pv V->XQ (gV e) e D C W nt R (.panicked pv) V:=fun V pv m=>.inl ⟨pv,rfl,(y.bad (m.mono fun _ _ x=>x.elim)).eq hR.symm⟩
 have u:∀V a l2 o D2,newX l r1=Res.ok a l2 o->Rq e D2 o V->CK ff D w1 D2 V->r1.tb.length<=o.tb.length->VG o.tb.length (nf e) a->V.heap[W.heap.size+1]?=some (bx nilV)/\XQ (gV e) e D C W nt R (.returned a.v) (put3 V (W.heap.size+1) a):=fun V a l2 o D2 q hr hK p n=>by
  have hl:l=l2:=by
   unfold newX need at q
   by_cases h2:(if r1.tb.length=200 then (1:Int) else 0)=0
   ·rw[if_pos h2]at q;cases q;rfl
   ·rw[if_neg h2]at q;cases q
  subst hl
  have d:=y.re hr hK p
  have f:=d.put (i:=0) a z6 rfl hd_e
  exact⟨d.at 0 rfl,.inr ⟨a,l,o,D2,_,hR.symm.trans q,rfl,f.st,f.ck,Nat.le_trans g p,rfl,n⟩⟩
 replace u:Hid _:=u
 replace s:Hid _:=s
 clear y hR
 refine Lib.hid ?_
 go_wp2_with (go_at_call 75;refine hc.mono ?_;rintro en w2 (⟨pv,rfl,m⟩|⟨a,l2,o,D2,vv,q,rfl,z9,z5,p,rfl,n⟩);(exact⟨rfl,s.out _ _ m⟩);obtain⟨gR,hf⟩:=u.out _ _ _ _ _ q z9 z5 p n;obtain⟨t0,t1,t2,k0,k1,k2⟩:=in3 gR)
 exact bodyPost_ret (res49 (B:=W.heap.size+1) rfl (put3_same _ gR)) rfl hf
end
section
variable {F:Int->Vl->Vl->Vl×Int} {e:En} {D:Nat->Prop} {C:Nat} {l:List Vl} {r:Rn Tb} {W:World}
theorem a7w{nf:Nat}(hw:Wf nf ⟨k,t,nn,sl,ks⟩)(hk:k=20\/k=22\/k=26):∃v y,ks[0]?=some v/\ks[1]?=some y/\a2s v.k/\a2s y.k:=by
 have z:=hw
 rw[Wf]at z
 have h1:=z.1
 clear z
 have h2:ks.length=2:=by unfold a0w at h1;omega
 match ks,h2 with
 | [v,y],_ =>
  have k0:=(hw.kid (j:=0) (x:=v) rfl).1
  have k1:=(hw.kid (j:=1) (x:=y) rfl).1
  refine⟨v,y,rfl,rfl,?_,?_⟩
  ·unfold a0z at k0
   simp only at k0
   rw[if_neg (by omega),if_neg (by omega),if_neg (by omega),if_neg (by omega),if_neg (by omega)]at k0
   exact k0
  ·unfold a0z at k1
   simp only at k1
   rw[if_neg (by omega),if_neg (by omega),if_neg (by omega),if_neg (by omega),if_neg (by omega)]at k1
   exact k1
theorem a6v{nf:Nat}(hw:Wf nf ⟨k,t,nn,sl,ks⟩)(hk:k=23\/k=24\/k=25\/k=5\/k=7\/k=11\/k=12):∃y,ks[0]?=some y/\a2s y.k:=by
 have z:=hw
 rw[Wf]at z
 have h1:=z.1
 clear z
 have h2:ks.length=1:=by unfold a0w at h1;omega
 match ks,h2 with
 | [y],_ =>
  have k0:=(hw.kid (j:=0) (x:=y) rfl).1
  refine⟨y,rfl,?_⟩
  unfold a0z at k0
  simp only at k0
  rw[if_neg (by omega),if_neg (by omega),if_neg (by omega),if_neg (by omega),if_neg (by omega)]at k0
  exact k0
theorem d9y(t:ByteArray)(nn sl:Int)(ks:List Pt)(l:List Vl)(r:Rn Tb)(h:r.st<=e.lim):ZX F e 0 ⟨26,t,nn,sl,ks⟩ 0 0 l r=tick e.lim l r fun l r=>(a4k (zE F e) ⟨26,t,nn,sl,ks⟩ l r).bind fun z l r=>b4n F z.1 z.2 l r:=(a3r F e 0 _ 0 0 l r h).trans (congrArg (tick e.lim l r) (funext fun l=>funext fun r=>a7u (zE F e) ⟨26,t,nn,sl,ks⟩ l r (b4n F)))
theorem d4g(hE:EC F e n)(hn:e.lim<(n+1)+r.st)(t:ByteArray)(nn sl:Int)(ks:List Pt)(b:Option Addr)(cap:Nat)(hw:Wf (nf e) ⟨26,t,nn,sl,ks⟩)(hk:PK tt e.w1 ks b cap)(h:St e D C l r W):Cl 49 #[pC C,ptv ⟨26,t,nn,sl,ks⟩ b cap] W (XQ (gV e) e D C W r.tb.length (ZX F e 0 ⟨26,t,nn,sl,ks⟩ 0 0 l r)):=by
 obtain⟨z3,w0,y8,f,z⟩:=a6u (.cells #[vi 26,.string t,vi nn,vi sl,.slice b ks.length cap] 34) h (d9y t nn sl ks l r h.rq.gd.st)
 generalize ZX F e 0 ⟨26,t,nn,sl,ks⟩ 0 0 l r=R at z⊢
 generalize r.tb.length=nt at z⊢
 show Cl 49 #[pC C,.agg #[vi 26,.string t,vi nn,vi sl,.slice b ks.length cap]] W _
 clear h
 go_enter Tryz.func49,Tryz.ntmps49
 go_wp2_with (go_at_call 48;refine z.mono ?_;rintro en w1 (⟨rfl,g⟩|⟨rfl,r1,z5,y7,d,hR,y⟩);(exact⟨rfl,g⟩);refine Hid.out ?_)
 try dsimp only at hR
 obtain⟨p0,p1,p2,p3,p4,_,_,_,_,_⟩:=in5 (y.at 1 rfl)
 obtain⟨d0,d1,d2,f0,f1,f2⟩:=in3 (y.at 0 rfl)
 have z4:=y.st.ptr
 clear z f z5
 obtain⟨y0,y1,z6,z7,z1,z2⟩:=a7w hw (by omega)
 have hc:=c4n hE ⟨26,t,nn,sl,ks⟩ b cap (by omega) hw z6 z7 z1 z2 hk y.st
 replace hc:Cl 82 #[pC C,.agg #[vi 26,.string t,vi nn,vi sl,.slice b ks.length cap]] w1 (XQ (gV e) e D C w1 r1.tb.length R):=by rw[<- hR];exact hc
 have s:∀V pv,Bd (fun q=>q=C) e D w1 R pv V->XQ (gV e) e D C W nt R (.panicked pv) V:=fun V pv j=>.inl ⟨pv,rfl,y.bad j⟩
 have u:∀V a l2 p D2,R=Res.ok a l2 p->St e D2 C l2 p V->CK (fun q=>q=C) D w1 D2 V->r1.tb.length<=p.tb.length->VG p.tb.length (nf e) a->V.heap[W.heap.size+1]?=some (bx nilV)/\XQ (gV e) e D C W nt R (.returned a.v) (put3 V (W.heap.size+1) a):=fun V a l2 p D2 g hS hK m o=>by
  have z8:=y.step hS hK
  have z9:=z8.put (i:=0) a z3 rfl hd_e
  exact⟨z8.at 0 rfl,.inr ⟨a,l2,p,D2,_,g,rfl,z9.st,z9.ck,Nat.le_trans d m,rfl,o⟩⟩
 replace u:Hid _:=u
 replace s:Hid _:=s
 clear y hR hE
 refine Lib.hid ?_
 go_wp2_with (go_at_call 82;refine hc.mono ?_;intro en w2 hq;rcases hq.par with⟨pv,rfl,j⟩|⟨a,l2,p,D2,vv,g,rfl,z0,y9,m,rfl,o⟩;(exact⟨rfl,s.out _ _ j⟩);obtain⟨gR,hf⟩:=u.out _ _ _ _ _ g z0 y9 m o;obtain⟨t0,t1,t2,k0,k1,k2⟩:=in3 gR)
 exact bodyPost_ret (res49 (B:=W.heap.size+1) rfl (put3_same _ gR)) rfl hf
def idxX (F:Int->Vl->Vl->Vl×Int) (a k:Vl) (l:List Vl) (r:Rn Tb):Res Vl Tb Vl:=need (if a.k=4 then 0 else 3) r (Res.ok ((Oz F).get (tabAt (Oz F) r a) k) l r)
theorem d9z(t:ByteArray)(nn sl:Int)(ks:List Pt)(l:List Vl)(r:Rn Tb)(h:r.st<=e.lim):ZX F e 0 ⟨20,t,nn,sl,ks⟩ 0 0 l r=tick e.lim l r fun l r=>(a4k (zE F e) ⟨20,t,nn,sl,ks⟩ l r).bind fun z l r=>idxX F z.1 z.2 l r:=(a3r F e 0 _ 0 0 l r h).trans (congrArg (tick e.lim l r) (funext fun l=>funext fun r=>a7u (zE F e) ⟨20,t,nn,sl,ks⟩ l r (idxX F)))
theorem d4h(hE:EC F e n)(hn:e.lim<(n+1)+r.st)(t:ByteArray)(nn sl:Int)(ks:List Pt)(b:Option Addr)(cap:Nat)(hw:Wf (nf e) ⟨20,t,nn,sl,ks⟩)(hk:PK tt e.w1 ks b cap)(h:St e D C l r W):Cl 49 #[pC C,ptv ⟨20,t,nn,sl,ks⟩ b cap] W (XQ (gV e) e D C W r.tb.length (ZX F e 0 ⟨20,t,nn,sl,ks⟩ 0 0 l r)):=by
 obtain⟨v1,w0,u2,x9,f⟩:=a6u (.cells #[vi 20,.string t,vi nn,vi sl,.slice b ks.length cap] 34) h (d9z t nn sl ks l r h.rq.gd.st)
 generalize ZX F e 0 ⟨20,t,nn,sl,ks⟩ 0 0 l r=R at f⊢
 generalize r.tb.length=nt at f⊢
 show Cl 49 #[pC C,.agg #[vi 20,.string t,vi nn,vi sl,.slice b ks.length cap]] W _
 clear h
 go_enter Tryz.func49,Tryz.ntmps49
 go_wp2_with (go_at_call 48;refine f.mono ?_;rintro en w1 (⟨rfl,hx⟩|⟨rfl,r1,v5,u1,x7,hR,m⟩);(exact⟨rfl,hx⟩);refine Hid.out ?_)
 try dsimp only at hR
 obtain⟨p0,p1,p2,p3,p4,_,_,_,_,_⟩:=in5 (m.at 1 rfl)
 obtain⟨d0,d1,d2,f0,f1,f2⟩:=in3 (m.at 0 rfl)
 have v4:=m.st.ptr
 clear f x9 v5
 obtain⟨y0,y1,v8,v9,u9,v0⟩:=a7w hw (by omega)
 have hc:=a9h hE ⟨20,t,nn,sl,ks⟩ b cap (by omega) hw v8 v9 u9 v0 hk m.st
 replace hc:Cl 76 #[pC C,.agg #[vi 20,.string t,vi nn,vi sl,.slice b ks.length cap]] w1 _:=hc
 replace m:Hid _:=m
 clear hE
 refine Lib.hid ?_
 go_wp2_with (go_at_call 76;refine hc.mono ?_;intro en w2 hq;rcases hq.par with⟨pv,rfl,u8⟩|⟨⟨a,k⟩,l1,r2,D1,vv,z2,rfl,y6,y5,v2,rfl,z1,y3⟩;(exact⟨rfl,.inl ⟨pv,rfl,((m.out.bad u8).bind _).eq hR.symm⟩⟩);refine Hid.out ?_)
 have hB:=(m.out.step y6 y5)
 have z:=hB.two a k
 rw[z2]at hR
 replace hR:idxX F a k l1 r2=R:=hR
 replace z1:VG r2.tb.length (nf e) a:=z1
 have v6:W.heap.size+1<w2.heap.size:=block_lt (hB.at 0 rfl)
 obtain⟨u,v7⟩:=exq ((w2.alloc (.cells #[vi a.k,vi a.n,.string a.s] 52)).alloc (.cells #[vi k.k,vi k.n,.string k.s] 52))
 replace z:Ac e C D W [(w2.heap.size+1,bx k),(w2.heap.size,bx a),(W.heap.size+1,bx nilV),(W.heap.size,.cells #[vi 20,.string t,vi nn,vi sl,.slice b ks.length cap] 34)] D1 l1 r2 u:=by rw[<- v7];exact z
 obtain⟨T,tc,ta,z9,tv,o⟩:=z.st.rq.tv z1
 obtain⟨A,u4⟩:=exq (w2.heap.size)
 have y4:=v6
 rw[u4]at z y4
 have g:∀V,Bw u V->Cl 78 #[pR e,.agg #[vi a.k,vi a.n,.string a.s]] V (TabA T a V):=fun V hb=>a7t e.R T tc r2.tb.length a V (fun h4=>(o.on z.st.rq hb h4).1) o.bd o.n
 have hS:∀V,Bw u V->Ce V C 0 (pR e)/\Ce V A 0 (vi a.k)/\Ce V A 1 (vi a.n)/\Ce V A 2 (.string a.s)/\Ce V (A+1) 0 (vi k.k)/\Ce V (A+1) 1 (vi k.n)/\Ce V (A+1) 2 (.string k.s):=fun V hb=>by
  have k1:=in3 (block_below hb (z.at 1 rfl))
  have k2:=in3 (block_below hb (z.at 0 rfl))
  exact⟨a3s hb z.st.ptr,k1.1,k1.2,k1.3,k2.1,k2.2,k2.3⟩
 have z6:∀(j:Nat) (p:Nat×Obj),[(A+1,bx k),(A,bx a),(W.heap.size+1,bx nilV),(W.heap.size,Obj.cells #[vi 20,.string t,vi nn,vi sl,.slice b ks.length cap] 34)][j]?=some p->j≠2->p.1≠W.heap.size+1:=fun j p hj y9=>by
  match j,hj with
  | 0,hj=>cases hj;show A+1≠_;omega
  | 1,hj=>cases hj;show A≠_;omega
  | 2,hj=>exact absurd rfl y9
  | 3,hj=>cases hj;show W.heap.size≠_;omega
 have x8:=Nat.le_trans x7 v2
 by_cases h4:a.k=4
 ·obtain⟨gv,z3⟩:=exq (getT tv.ks tv.vs k)
  have y2:VG r2.tb.length (nf e) gv:=by rw[<- z3];exact VG.get (o.tg h4) k
  have z8:∀V,Bw u V->V.heap[W.heap.size+1]?=some (bx nilV)/\XQ (gV e) e D C W nt R (.returned gv.v) (put3 V (W.heap.size+1) gv):=fun V hb=>by
   have w5:=z.below hb
   have w6:=w5.put (i:=2) gv v1 rfl z6
   exact⟨w5.at 2 rfl,.inr ⟨gv,l1,r2,D1,_,by rw[<- hR];unfold idxX;rw[if_pos h4,o.eq F h4];show need 0 _ (Res.ok (getT tv.ks tv.vs k) l1 r2)=_;rw[z3];rfl,rfl,w6.st,w6.ck,x8,rfl,y2⟩⟩
  obtain⟨ti,z4⟩:=exq (a.n.toNat*2)
  have z7:∀V,Bw u V->Cl 77 #[.agg #[ta,z9],.agg #[vi k.k,vi k.n,.string k.s]] V fun en V'=>en=.returned gv.v/\Bw V V':=fun V hb=>by
   obtain⟨_,_,_,c3⟩:=o.on z.st.rq hb h4
   have:=d2g ta z9 tv.ks tv.vs k V c3
   rw[z3]at this
   exact this
  replace hS:∀V,Bw u V->Ce V C 0 (pR e)/\Ce V A 0 (vi a.k)/\Ce V A 1 (vi a.n)/\Ce V A 2 (.string a.s)/\Ce V (A+1) 0 (vi k.k)/\Ce V (A+1) 1 (vi k.n)/\Ce V (A+1) 2 (.string k.s)/\Ce V T ti ta/\Ce V T (ti+1) z9:=fun V hb=>by
   obtain⟨x0,x1,x2,x3,x4,x5,x6⟩:=hS V hb
   obtain⟨_,c1,c2,_⟩:=o.on z.st.rq hb h4
   rw[z4]at c1 c2
   exact⟨x0,x1,x2,x3,x4,x5,x6,c1,c2⟩
  have w9:T≠W.heap.size+1:=fun ee=>by
   obtain⟨_,v3,_,_⟩:=z.bo (W.heap.size+1,bx nilV) (by simp)
   exact v3 (ee▸(o.tab h4).dT)
  have u5:C≠W.heap.size+1:=fun ee=>(z.bo (W.heap.size+1,bx nilV) (by simp)).2.2.1 ee.symm
  have y7:∀V y,(fun V=>Ce V C 0 (pR e)/\Ce V A 0 (vi a.k)/\Ce V A 1 (vi a.n)/\Ce V A 2 (.string a.s)/\Ce V (A+1) 0 (vi k.k)/\Ce V (A+1) 1 (vi k.n)/\Ce V (A+1) 2 (.string k.s)/\Ce V T ti ta/\Ce V T (ti+1) z9) V->(fun V=>Ce V C 0 (pR e)/\Ce V A 0 (vi a.k)/\Ce V A 1 (vi a.n)/\Ce V A 2 (.string a.s)/\Ce V (A+1) 0 (vi k.k)/\Ce V (A+1) 1 (vi k.n)/\Ce V (A+1) 2 (.string k.s)/\Ce V T ti ta/\Ce V T (ti+1) z9) (put3 V (W.heap.size+1) y):=fun V y ⟨h0,h1,h2,h3,h4,h5,h6,h7,h8⟩=>⟨(k3 u5).trans h0,(k3 (by omega)).trans h1,(k3 (by omega)).trans h2,(k3 (by omega)).trans h3,(k3 (by omega)).trans h4,(k3 (by omega)).trans h5,(k3 (by omega)).trans h6,(k3 w9).trans h7,(k3 w9).trans h8⟩
  have d:Bw u u.drew:=(Below.refl _ _).drew
  have z5:=hS _ d
  replace hS:Hid _:=hS
  replace y7:Hid _:=y7
  replace z8:Hid _:=z8
  replace z7:Hid _:=z7
  replace g:Hid _:=g
  replace z4:Hid _:=z4
  have u3:Hid (a.k=4):=h4
  clear m hB z2 y6 y5 y3 hc hR o z z6 z3 y2 h4
  refine Lib.hid ?_
  go_wp2
  refine wp_region_held_drew (S:=fun V=>Ce V C 0 (pR e)/\Ce V A 0 (vi a.k)/\Ce V A 1 (vi a.n)/\Ce V A 2 (.string a.s)/\Ce V (A+1) 0 (vi k.k)/\Ce V (A+1) 1 (vi k.n)/\Ce V (A+1) 2 (.string k.s)/\Ce V T ti ta/\Ce V T (ti+1) z9) (by kernel_rfl) z5 (fun q=>?_)
  change wpAnyH _ _ _ _ _ 11 _ _ _
  iterate 5 (refine tkH 0 (by simp only[nx,gq1,gq2,gq3];rfl) (by kernel_rfl) (by rfl) q ⟨_,by intro w ⟨_,_,_,_,_,_,_,_,_⟩;go_simp;try with_reducible rfl,by exact fun _ _ _ h=>h,?_⟩;try simp only[Act.put,sq1,sq2,sq3])
  iterate 1 (refine tkH 3 (by simp only[nx,gq1,gq2,gq3];rfl) (by kernel_rfl) (by rfl) q ⟨_,by intro w ⟨_,_,_,_,_,_,_,_,_⟩;go_simp;try with_reducible rfl,by exact fun _ _ _ h=>h,?_⟩;try simp only[Act.put,sq1,sq2,sq3])
  refine wpAnyH_ready (rs:=[5]) (by kernel_rfl) (by simp) ?_
  refine AllReadyH.cons rfl (fun K hK=>?_) .nil
  go_simp
  go_at_call 78
  refine(g.out _ d).mono ?_
  rintro en w3 ⟨y8,(⟨h4,_⟩|⟨_,rfl⟩)⟩
  ·exact absurd u3.out h4
  rw[z4.out]
  have E3:=ext_trans d y8
  have w7:=hS.out _ E3
  refine hK.out _ _ w7 (fun _=>?_)
  clear hK K
  try simp only[Act.put,sq1,sq2,sq3]
  iterate 2 (refine tkH 0 (by simp only[nx,gq1,gq2,gq3];rfl) (by kernel_rfl) (by rfl) w7 ⟨_,by intro w ⟨_,_,_,_,_,_,_,_,_⟩;go_simp;try with_reducible rfl,by exact fun _ _ _ h=>h,?_⟩;try simp only[Act.put,sq1,sq2,sq3])
  refine wpAnyH_ready (rs:=[9]) (by kernel_rfl) (by simp) ?_
  refine AllReadyH.cons rfl (fun K hK=>?_) .nil
  go_simp
  go_at_call 77
  refine(z7.out _ E3).mono ?_
  rintro en w4 ⟨rfl,u7⟩
  have E4:=ext_trans E3 u7
  have w8:=hS.out _ E4
  obtain⟨gR,hf⟩:=z8.out _ E4
  obtain⟨t0,t1,t2,k0,k1,k2⟩:=in3 gR
  refine hK.out _ _ w8 (fun _=>?_)
  clear hK K
  try simp only[Act.put,sq1,sq2,sq3]
  refine wpAnyH_ready (rs:=[10]) (by kernel_rfl) (by simp) ?_
  refine AllReadyH.cons rfl (fun K hK=>?_) .nil
  go_simp
  have u6:=y7.out _ gv w8
  refine hK.out _ _ u6 (fun _=>?_)
  clear hK K
  try simp only[Act.put,sq1,sq2,sq3]
  refine wpAnyH_done (by kernel_rfl) ?_ _
  go_wp2
  exact bodyPost_ret (res49 (B:=W.heap.size+1) rfl (put3_same _ gR)) rfl hf
 ·have z0:∀V,Bw u V->XQ (gV e) e D C W nt R (.panicked (pan (endV 2 3))) V:=fun V hb=>.inl ⟨_,rfl,((z.below hb).stop 2 3).eq (by rw[<- hR];unfold idxX;rw[if_neg h4];rfl)⟩
  have d:Bw u u.drew:=(Below.refl _ _).drew
  have z5:=hS _ d
  replace z0:Hid _:=z0
  replace g:Hid _:=g
  have y9:Hid (¬a.k=4):=h4
  clear m hB z2 y6 y5 y3 hc hR o z z6 h4 hS
  refine Lib.hid ?_
  go_wp2
  refine wp_region_held_drew (S:=fun V=>Ce V C 0 (pR e)/\Ce V A 0 (vi a.k)/\Ce V A 1 (vi a.n)/\Ce V A 2 (.string a.s)/\Ce V (A+1) 0 (vi k.k)/\Ce V (A+1) 1 (vi k.n)/\Ce V (A+1) 2 (.string k.s)) (by kernel_rfl) z5 (fun q=>?_)
  change wpAnyH _ _ _ _ _ 11 _ _ _
  iterate 5 (refine tkH 0 (by simp only[nx,gq1,gq2,gq3];rfl) (by kernel_rfl) (by rfl) q ⟨_,by intro w ⟨_,_,_,_,_,_,_⟩;go_simp;try with_reducible rfl,by exact fun _ _ _ h=>h,?_⟩;try simp only[Act.put,sq1,sq2,sq3])
  iterate 1 (refine tkH 3 (by simp only[nx,gq1,gq2,gq3];rfl) (by kernel_rfl) (by rfl) q ⟨_,by intro w ⟨_,_,_,_,_,_,_⟩;go_simp;try with_reducible rfl,by exact fun _ _ _ h=>h,?_⟩;try simp only[Act.put,sq1,sq2,sq3])
  refine wpAnyH_ready (rs:=[5]) (by kernel_rfl) (by simp) ?_
  refine AllReadyH.cons rfl (fun K hK=>?_) .nil
  go_simp
  go_at_call 78
  refine(g.out _ d).mono ?_
  rintro en w3 ⟨y8,(⟨_,rfl⟩|⟨h4,_⟩)⟩
  ·exact⟨rfl,z0.out _ (ext_trans d y8)⟩
  exact absurd h4 y9.out
end
section
variable {F:Int->Vl->Vl->Vl×Int} {e:En} {D:Nat->Prop} {C:Nat} {l:List Vl} {r:Rn Tb} {W:World}
theorem d4i(xs ys:List Vl):lenZ xs ys<=101:=by
 have key:∀f n,lenG xs f n<=n+f:=by
  intro f
  induction f with
  | zero=>intro n;simp[lenG]
  | succ f ih =>
          intro n;rw[lenG];split
          ·have:=ih (n+1);omega
          ·omega
 unfold lenZ
 split
 ·have:=key 101 0;omega
 ·omega
def lenX (F:Int->Vl->Vl->Vl×Int) (a:Vl) (l:List Vl) (r:Rn Tb):Res Vl Tb Vl:=if a.k=3 then Res.ok (intV (a.s.size:Nat)) l r else need (if a.k=4 then 0 else 3) r (Res.ok (intV ((Oz F).len (tabAt (Oz F) r a):Nat)) l r)
theorem e0a(t:ByteArray)(nn sl:Int)(ks:List Pt)(l:List Vl)(r:Rn Tb)(h:r.st<=e.lim):ZX F e 0 ⟨25,t,nn,sl,ks⟩ 0 0 l r=tick e.lim l r fun l r=>(exX (zE F e) ks[0]? l r).bind fun a l r=>lenX F a l r:=(a3r F e 0 _ 0 0 l r h).trans rfl
theorem d4j(hE:EC F e n)(hn:e.lim<(n+1)+r.st)(t:ByteArray)(nn sl:Int)(ks:List Pt)(b:Option Addr)(cap:Nat)(hw:Wf (nf e) ⟨25,t,nn,sl,ks⟩)(hk:PK tt e.w1 ks b cap)(h:St e D C l r W):Cl 49 #[pC C,ptv ⟨25,t,nn,sl,ks⟩ b cap] W (XQ (gV e) e D C W r.tb.length (ZX F e 0 ⟨25,t,nn,sl,ks⟩ 0 0 l r)):=by
 obtain⟨v5,w0,v0,x4,d⟩:=a6u (.cells #[vi 25,.string t,vi nn,vi sl,.slice b ks.length cap] 34) h (e0a t nn sl ks l r h.rq.gd.st)
 generalize ZX F e 0 ⟨25,t,nn,sl,ks⟩ 0 0 l r=R at d⊢
 generalize r.tb.length=nt at d⊢
 show Cl 49 #[pC C,.agg #[vi 25,.string t,vi nn,vi sl,.slice b ks.length cap]] W _
 clear h
 go_enter Tryz.func49,Tryz.ntmps49
 go_wp2_with (go_at_call 48;refine d.mono ?_;rintro en w1 (⟨rfl,hx⟩|⟨rfl,r1,v8,u9,x3,hR,o⟩);(exact⟨rfl,hx⟩);refine Hid.out ?_)
 try dsimp only at hR
 obtain⟨p0,p1,p2,p3,p4,_,_,_,_,_⟩:=in5 (o.at 1 rfl)
 obtain⟨d0,d1,d2,f0,f1,f2⟩:=in3 (o.at 0 rfl)
 have v7:=o.st.ptr
 clear d x4 v8
 obtain⟨u,z7,v4⟩:=a6v hw (by omega)
 obtain⟨g,z,b0,p,rfl,v6,z1⟩:=PK.kid hk z7
 have hL:0<ks.length:=(List.getElem?_eq_some_iff.1 z7).1
 have v3:=hk.1
 have v9:=(hw.kid z7).2
 obtain⟨L,x6⟩:=exq (ks.length)
 rw[x6]at hL v3 p4
 have u5:(0:Int)<(L:Int):=by omega
 have u8:(L:Int)<=(cap:Int):=by omega
 have z9:∀V,Bw w1 V->Cl 49 #[pC C,.agg #[vi u.k,.string u.t,vi u.n,vi u.sl,.slice b0 u.kids.length p]] V (XQ (gV e) e D C V r1.tb.length (ZX F e 0 u 0 0 l r1)):=fun V f=>hE u b0 p C l r1 D V (by omega) v9 v4 v6 (o.below f).st
 rw[z7]at hR
 replace hR:((ZX F e 0 u 0 0 l r1).bind fun a l r=>lenX F a l r)=R:=hR
 have z2:∀V V' pv,Bw w1 V->Bd (fun q=>q=C) e D V (ZX F e 0 u 0 0 l r1) pv V'->XQ (gV e) e D C W nt R (.panicked pv) V':=fun V V' pv f y2=>.inl ⟨pv,rfl,(((o.below f).bad y2).bind _).eq hR.symm⟩
 have z5:∀V V' a l2 j D2,Bw w1 V->ZX F e 0 u 0 0 l r1=Res.ok a l2 j->St e D2 C l2 j V'->CK (fun q=>q=C) D V D2 V'->VG j.tb.length (nf e) a->Cl 81 #[pR e,.agg #[vi a.k,vi a.n,.string a.s]] V' fun en V2=>Bw V' V2/\((en=.panicked (pan (endV 2 3))/\lenX F a l2 j=Res.stop 2 3 j)\/∃m:Nat,en=.returned (vi (m:Nat))/\m<=1000/\lenX F a l2 j=Res.ok (intV (m:Nat)) l2 j):=fun V V' a l2 j D2 f hx hS hK z6=>by
  obtain⟨T,tc,ta,u7,tv,x1⟩:=hS.rq.tv z6
  refine(c0d hS.rq z6 x1).mono fun en V2 q=>⟨q.b,?_⟩
  rcases q.w with⟨h3,rfl⟩|⟨h4,rfl⟩|⟨h3,h4,rfl⟩
  ·have hm:=z6.m
   rw[h3]at hm
   have u6:=b7v hm
   exact .inr ⟨a.s.size,rfl,by omega,by unfold lenX;rw[if_pos h3]⟩
  ·exact .inr ⟨lenZ tv.ks tv.vs,rfl,by have:=d4i tv.ks tv.vs;omega,by unfold lenX;rw[if_neg (by omega),if_pos h4,x1.eq F h4];rfl⟩
  ·exact .inl ⟨rfl,by unfold lenX;rw[if_neg h3,if_neg h4];rfl⟩
 have y4:∀V V' V2 a l2 j D2,Bw w1 V->ZX F e 0 u 0 0 l r1=Res.ok a l2 j->St e D2 C l2 j V'->CK (fun q=>q=C) D V D2 V'->Bw V' V2->lenX F a l2 j=Res.stop 2 3 j->XQ (gV e) e D C W nt R (.panicked (pan (endV 2 3))) V2:=fun V V' V2 a l2 j D2 f hx hS hK x9 h3=>.inl ⟨_,rfl,((((o.below f).step hS hK).below x9).stop 2 3).eq (by rw[<- hR,hx];exact h3)⟩
 have z3:∀V V' V2 a l2 j D2 (m:Nat),Bw w1 V->ZX F e 0 u 0 0 l r1=Res.ok a l2 j->St e D2 C l2 j V'->CK (fun q=>q=C) D V D2 V'->r1.tb.length<=j.tb.length->Bw V' V2->lenX F a l2 j=Res.ok (intV (m:Nat)) l2 j->V2.heap[W.heap.size+1]?=some (bx nilV)/\XQ (gV e) e D C W nt R (.returned (intV (m:Nat)).v) (put3 V2 (W.heap.size+1) (intV (m:Nat))):=fun V V' V2 a l2 j D2 m f hx hS hK y3 x9 h3=>by
  have y7:=((o.below f).step hS hK).below x9
  have w5:=y7.put (i:=0) (intV (m:Nat)) v5 rfl hd_e
  exact⟨y7.at 0 rfl,.inr ⟨_,l2,j,D2,_,by rw[<- hR,hx];exact h3,rfl,w5.st,w5.ck,Nat.le_trans x3 y3,rfl,VG.num _⟩⟩
 have w9:∀V,Bw w1 V->Ce V C 0 (pR e)/\Ce V W.heap.size 4 (.slice (some (Ad g z)) L cap)/\Ce V g z (vi u.k)/\Ce V g (z+1) (.string u.t)/\Ce V g (z+2) (vi u.n)/\Ce V g (z+3) (vi u.sl)/\Ce V g (z+4) (.slice b0 u.kids.length p):=fun V f=>by
  have k3:=z1 V (o.below f).st.rq.bl
  simp only[Nat.zero_mul,Nat.add_zero]at k3
  exact⟨(o.below f).st.ptr,a3s f p4,k3.c0,k3.c1,k3.c2,k3.c3,k3.c4⟩
 have x8:∀V V' l2 j D2,Bw w1 V->St e D2 C l2 j V'->CK (fun q=>q=C) D V D2 V'->(fun V=>Ce V C 0 (pR e)/\Ce V W.heap.size 4 (.slice (some (Ad g z)) L cap)/\Ce V g z (vi u.k)/\Ce V g (z+1) (.string u.t)/\Ce V g (z+2) (vi u.n)/\Ce V g (z+3) (vi u.sl)/\Ce V g (z+4) (.slice b0 u.kids.length p)) V':=fun V V' l2 j D2 f hS hK=>by
  have y7:=(o.below f).step hS hK
  have k1:=in5 (y7.at 1 rfl)
  have k3:=z1 V' hS.rq.bl
  simp only[Nat.zero_mul,Nat.add_zero]at k3
  exact⟨hS.ptr,by rw[<- x6];exact k1.c4,k3.c0,k3.c1,k3.c2,k3.c3,k3.c4⟩
 have z0:∀V V',Bw V V'->(fun V=>Ce V C 0 (pR e)/\Ce V W.heap.size 4 (.slice (some (Ad g z)) L cap)/\Ce V g z (vi u.k)/\Ce V g (z+1) (.string u.t)/\Ce V g (z+2) (vi u.n)/\Ce V g (z+3) (vi u.sl)/\Ce V g (z+4) (.slice b0 u.kids.length p)) V->(fun V=>Ce V C 0 (pR e)/\Ce V W.heap.size 4 (.slice (some (Ad g z)) L cap)/\Ce V g z (vi u.k)/\Ce V g (z+1) (.string u.t)/\Ce V g (z+2) (vi u.n)/\Ce V g (z+3) (vi u.sl)/\Ce V g (z+4) (.slice b0 u.kids.length p)) V':=fun V V' f ⟨h0,h1,h2,h3,h4,h5,h6⟩=>⟨a3s f h0,a3s f h1,a3s f h2,a3s f h3,a3s f h4,a3s f h5,a3s f h6⟩
 have v1:C≠W.heap.size+1:=fun ee=>(o.bo (W.heap.size+1,bx nilV) (by simp)).2.2.1 ee.symm
 have z4:g≠W.heap.size+1:=by have:=(z1 w1 o.st.rq.bl).lt;omega
 have x7:∀V y,(fun V=>Ce V C 0 (pR e)/\Ce V W.heap.size 4 (.slice (some (Ad g z)) L cap)/\Ce V g z (vi u.k)/\Ce V g (z+1) (.string u.t)/\Ce V g (z+2) (vi u.n)/\Ce V g (z+3) (vi u.sl)/\Ce V g (z+4) (.slice b0 u.kids.length p)) V->(fun V=>Ce V C 0 (pR e)/\Ce V W.heap.size 4 (.slice (some (Ad g z)) L cap)/\Ce V g z (vi u.k)/\Ce V g (z+1) (.string u.t)/\Ce V g (z+2) (vi u.n)/\Ce V g (z+3) (vi u.sl)/\Ce V g (z+4) (.slice b0 u.kids.length p)) (put3 V (W.heap.size+1) y):=fun V y ⟨h0,h1,h2,h3,h4,h5,h6⟩=>⟨(k3 v1).trans h0,(k3 (by omega)).trans h1,(k3 z4).trans h2,(k3 z4).trans h3,(k3 z4).trans h4,(k3 z4).trans h5,(k3 z4).trans h6⟩
 have z8:Bw w1 w1.drew:=(Below.refl _ _).drew
 have x0:=w9 _ z8
 replace z9:Hid _:=z9
 replace z2:Hid _:=z2
 replace z5:Hid _:=z5
 replace y4:Hid _:=y4
 replace z3:Hid _:=z3
 replace x8:Hid _:=x8
 replace z0:Hid _:=z0
 replace x7:Hid _:=x7
 clear o hR hE hk hw x6 w9 z1 z7
 refine Lib.hid ?_
 go_wp2
 refine wp_region_held_drew (S:=fun V=>Ce V C 0 (pR e)/\Ce V W.heap.size 4 (.slice (some (Ad g z)) L cap)/\Ce V g z (vi u.k)/\Ce V g (z+1) (.string u.t)/\Ce V g (z+2) (vi u.n)/\Ce V g (z+3) (vi u.sl)/\Ce V g (z+4) (.slice b0 u.kids.length p)) (by kernel_rfl) x0 (fun x5=>?_)
 change wpAnyH _ _ _ _ _ 13 _ _ _
 iterate 9 (refine tkH 0 (by simp only[nx,gq1,gq2,gq3];rfl) (by kernel_rfl) (by rfl) x5 ⟨_,by intro w ⟨_,_,_,_,_,_,_⟩;go_simp;try with_reducible rfl,by exact fun _ _ _ h=>h,?_⟩;try simp only[Act.put,sq1,sq2,sq3])
 refine wpAnyH_ready (rs:=[9]) (by kernel_rfl) (by simp) ?_
 refine AllReadyH.cons rfl (fun K hK=>?_) .nil
 go_simp
 go_at_call 49
 refine(z9.out _ z8).mono ?_
 intro en w2 hq
 rcases hq.par with⟨pv,rfl,y2⟩|⟨a,l2,j,D2,vv,y5,rfl,y9,y8,y3,rfl,z6⟩
 ·exact⟨rfl,z2.out _ _ _ z8 y2⟩
 have w6:=x8.out _ _ _ _ _ z8 y9 y8
 refine hK.out _ _ w6 (fun _=>?_)
 clear hK K
 try simp only[Act.put,sq1,sq2,sq3]
 refine wpAnyH_ready (rs:=[10]) (by kernel_rfl) (by simp) ?_
 refine AllReadyH.cons rfl (fun K hK=>?_) .nil
 go_simp
 go_at_call 81
 refine(z5.out _ _ _ _ _ _ z8 y5 y9 y8 z6).mono ?_
 rintro en w3 ⟨y1,(⟨rfl,y6⟩|⟨m,rfl,hm,y6⟩)⟩
 ·exact⟨rfl,y4.out _ _ _ _ _ _ _ z8 y5 y9 y8 y1 y6⟩
 have w7:=z0.out _ _ y1 w6
 refine hK.out _ _ w7 (fun _=>?_)
 clear hK K
 try simp only[Act.put,sq1,sq2,sq3]
 refine wpAnyH_ready (rs:=[11]) (by kernel_rfl) (by simp) ?_
 refine AllReadyH.cons rfl (fun K hK=>?_) .nil
 go_simp
 go_at_call 72
 refine(b6g m (WalkArith.wf_i64 (by omega)) _).mono ?_
 rintro en w4 ⟨rfl,x2⟩
 have w8:=z0.out _ _ x2 w7
 obtain⟨gR,hf⟩:=z3.out _ _ _ _ _ _ _ _ z8 y5 y9 y8 y3 (ext_trans y1 x2) y6
 obtain⟨t0,t1,t2,k0,k1,k2⟩:=in3 gR
 refine hK.out _ _ w8 (fun _=>?_)
 clear hK K
 try simp only[Act.put,sq1,sq2,sq3]
 refine wpAnyH_ready (rs:=[12]) (by kernel_rfl) (by simp) ?_
 refine AllReadyH.cons rfl (fun K hK=>?_) .nil
 go_simp
 have v2:=x7.out _ (intV m) w8
 refine hK.out _ _ v2 (fun _=>?_)
 clear hK K
 try simp only[Act.put,sq1,sq2,sq3]
 refine wpAnyH_done (by kernel_rfl) ?_ _
 go_wp2
 exact bodyPost_ret (res49 (B:=W.heap.size+1) rfl (put3_same _ gR)) rfl hf
end
section
variable {F:Int->Vl->Vl->Vl×Int} {e:En} {D:Nat->Prop} {C:Nat} {l:List Vl} {r:Rn Tb} {W:World}
def gL (e:En) (W:World) (D:Nat->Prop) (nt:Nat) (xs:List Vl) (vv:Value):Prop:=Rw W tt D vv xs/\∀v∈xs,VG nt (nf e) v
theorem Ac.keepS{S:Nat->Prop}{D0:Nat->Prop}{W0 W1:World}(h:Ac e C D0 W0 [] D l r W)(hk:a0b S W W1)(hS:∀k,S k->¬D k/\k≠C/\W0.heap.size<=k)(h0:e.w1.heap.size<=W0.heap.size):Ac e C D0 W0 [] D l r W1 :=
 ⟨h.st.keep hk (fun k z=>⟨(hS k z).1,(hS k z).2.1,Nat.le_trans h0 (hS k z).2.2⟩),h.ck.keep hk (fun k z=>(hS k z).2.2),fun p hp=>by cases hp⟩
def gM (e:En) (W0:World) (W:World) (D:Nat->Prop) (nt:Nat) (xs:List Vl) (vv:Value):Prop:=Rw W tt (fun k=>D k\/k<W0.heap.size) vv xs/\∀v∈xs,VG nt (nf e) v
def AI (F:Int->Vl->Vl->Vl×Int) (e:En) (n C:Nat) (D:Nat->Prop) (W:World) (nt:Nat) (R:Res Vl Tb (List Vl)) (ks:List Pt) (j:Nat) (sv:Value) (wr:World):Prop :=
 ∃D' l' r' xs,Ac e C D W [] D' l' r' wr/\((allX (zE F e) (ks.drop j) l' r').bind fun vs l r=>Res.ok (xs++vs) l r)=R/\e.lim<n+r'.st/\nt<=r'.tb.length/\xs.length=j/\wr.ownsRow W.heap.size 52 3 sv j (flat xs)/\(∀g,sv.ownBlock=some g->¬D' g/\g≠C)/\∀v∈xs,VG r'.tb.length (nf e) v
theorem d4k{α:Type}(x:Res Vl Tb (List α)):(x.bind fun vs l r=>Res.ok ([]++vs) l r)=x:=by
 match x with
 | .inl _=>rfl
 | .inr (.inl _)=>rfl
 | .inr (.inr (_,_,_))=>rfl
theorem c8k{g:Pt->List Vl->Rn Tb->Res Vl Tb Vl}{l l2:List Vl}{r r2:Rn Tb}{a:Vl}(xs:List Vl)(h:g y l r=Res.ok a l2 r2):((allX g (y::ys) l r).bind fun vs l r=>Res.ok (xs++vs) l r)=(allX g ys l2 r2).bind fun vs l r=>Res.ok ((xs++[a])++vs) l r:=by
 rw[allX,h,a2i]
 show((allX g ys l2 r2).bind _).bind _=_
 rw[a2i]
 congr 1
 funext vs l r
 show Res.ok (xs++(a::vs)) l r=_
 rw[List.append_assoc];rfl
theorem d4l{g:Pt->List Vl->Rn Tb->Res Vl Tb Vl}{l:List Vl}{r:Rn Tb}(xs:List Vl):((allX g (y::ys) l r).bind fun vs l r=>Res.ok (xs++vs) l r)=(g y l r).bind fun v l r=>((allX g ys l r).bind fun vs l r=>Res.ok (v::vs) l r).bind fun vs l r=>Res.ok (xs++vs) l r:=by
 rw[allX,a2i]
theorem c8l{W:World}{v:Vl}(h:W.heap[g]?=some (bx v)):∀j u,[vi v.k,vi v.n,.string v.s][j]?=some u->W.cell? ((Ad g 0).add j)=some u:=World.news_of_block (cs:=#[vi v.k,vi v.n,.string v.s]) h
theorem d4m(hE:EC F e n)(ks:List Pt)(b:Option Addr)(cap:Nat)(hn:e.lim<n+r.st)(hL0:ks.length<=1000)(hfit:∀(j:Nat) (y:Pt),ks[j]?=some y->a2s y.k/\Wf (nf e) y)(hk:PK tt e.w1 ks b cap)(h:St e D C l r W):Cl 79 #[pC C,.slice b ks.length cap] W (XQ (gM e W) e D C W r.tb.length (allX (zE F e) ks l r)):=by
 obtain⟨R,hR⟩:=exq (allX (zE F e) ks l r)
 rw[hR]
 obtain⟨nt,hnt⟩:=exq (r.tb.length)
 rw[hnt]
 have hA:=Ac.begin (os:=[]) h (Below.refl _ _) (fun p hp=>by cases hp)
 have hlo:=h.size
 have hks:=hk.1
 obtain⟨L,hL⟩:=exq (ks.length)
 have hI:AI F e n C D W nt R ks 0 (.slice none 0 0) W:=⟨D,l,r,[],hA,by rw[List.drop_zero,d4k];exact hR,hn,by omega,rfl,World.ownsRow_nil W _ 52 3,fun g hg=>by simp[Value.ownBlock]at hg,by simp⟩
 rw[hL]at hks hL0
 have hLc:(L:Int)<=(cap:Int):=by omega
 obtain⟨i0,hi0,hz0,hz1,hz2⟩:=info_parts c9u
 rw[hL]
 replace hk:Hid _:=hk
 replace hfit:Hid _:=hfit
 replace hL:Hid _:=hL
 replace hE:Hid (EC F e n):=hE
 clear hA hR h hnt hn
 go_enter Tryz.func79,Tryz.ntmps79
 go_wp2
 go_loopw [5,10] (fun sv ix wr=>∃j:Nat,j<=L/\ix=vi (j:Nat)/\(∃a c,sv=.slice a j c)/\AI F e n C D W nt R ks j sv wr) (fun _ ix _=>L-(intOf ix).toNat)
 case atStart=>exact⟨0,Nat.zero_le _,rfl,⟨none,0,rfl⟩,hI⟩
 case round =>
  obtain⟨j,hj,rfl,⟨sa,sc,rfl⟩,D1,l1,r1,xs,hA1,hgo,hst,hn1,hxl,hown,hap,hvg⟩:=hrel
  clear hI
  by_cases hlt:j<L
  ·have hlt':(j:Int)<(L:Int):=by omega
   have hge:(0:Int)<=(j:Int):=by omega
   have hjk:j<ks.length:=by have:=hL.out;omega
   obtain⟨y,hy⟩:∃y,ks[j]?=some y:=⟨_,List.getElem?_eq_getElem hjk⟩
   obtain⟨g,off,b',cap',rfl,hpy,hcy⟩:=PK.kid hk.out hy
   obtain⟨hgl,v0,v1,v2,v3,v4⟩:=hcy wr hA1.st.rq.bl
   obtain⟨hsy,hwy⟩:=hfit.out j y hy
   have hdr:ks.drop j=y::ks.drop (j+1):=by rw[List.drop_eq_getElem_cons hjk];congr 1;exact(List.getElem?_eq_some_iff.1 hy).2
   rw[hdr]at hgo
   have hb1:=ext_alloc (Below.refl wr.heap.size wr) (pbx y b' cap')
   have hA2:=hA1.below hb1
   have hcall:=hE.out y b' cap' C l1 r1 D1 _ hst hwy hsy hpy hA2.st
   replace hcall:Cl 49 #[pC C,.agg #[vi y.k,.string y.t,vi y.n,vi y.sl,.slice b' y.kids.length cap']] (wr.alloc (.cells #[vi y.k,.string y.t,vi y.n,vi y.sl,.slice b' y.kids.length cap'] 34)) (XQ (gV e) e D1 C (wr.alloc (.cells #[vi y.k,.string y.t,vi y.n,vi y.sl,.slice b' y.kids.length cap'] 34)) r1.tb.length (ZX F e 0 y 0 0 l1 r1)):=hcall
   replace hA2:Ac e C D W [] D1 l1 r1 (wr.alloc (.cells #[vi y.k,.string y.t,vi y.n,vi y.sl,.slice b' y.kids.length cap'] 34)):=hA2
   have hj1:Hid (j+1<=L):=hlt
   have hbad:∀pv w2,Bd (fun q=>q=C) e D1 (wr.alloc (.cells #[vi y.k,.string y.t,vi y.n,vi y.sl,.slice b' y.kids.length cap'] 34)) (ZX F e 0 y 0 0 l1 r1) pv w2->XQ (gM e W) e D C W nt R (.panicked pv) w2:=fun pv w2 hbd=>.inl ⟨pv,rfl,((hA2.bad hbd).bind _).eq (by rw[<- hgo];exact d4l xs)⟩
   have hok:∀a l2 r2 D2 w2,ZX F e 0 y 0 0 l1 r1=Res.ok a l2 r2->St e D2 C l2 r2 w2->CK (fun q=>q=C) D1 (wr.alloc (.cells #[vi y.k,.string y.t,vi y.n,vi y.sl,.slice b' y.kids.length cap'] 34)) D2 w2->r1.tb.length<=r2.tb.length->VG r2.tb.length (nf e) a ->
     (w2.alloc (bx a)).ownsRow W.heap.size 52 3 (.slice sa j sc) j (flat xs)/\(w2.alloc (bx a)).heap[w2.heap.size]?=some (bx a)/\W.heap.size<=(w2.alloc (bx a)).heap.size/\∀w4 g3 cap3,w4.ownsRow W.heap.size 52 3 (.slice (some (Ad g3 0)) (j+1) cap3) (j+1) (flat xs++[vi a.k,vi a.n,.string a.s])->(w2.alloc (bx a)).grownBy w4 (Value.ownBlock (.slice sa j sc))->(Value.ownBlock (.slice sa j sc)=some g3\/g3=(w2.alloc (bx a)).heap.size)->AI F e n C D W nt R ks (j+1) (.slice (some (Ad g3 0)) (j+1) cap3) w4:=fun a l2 r2 D2 w2 hx2 hS2 hK2 hn2 hva=>by
    have hb3:=ext_alloc (Below.refl w2.heap.size w2) (bx a)
    have hA3:=(hA2.step hS2 hK2).below hb3
    have hbl:∀q,Value.ownBlock (.slice sa j sc)=some q->W.heap.size<=q/\q<wr.heap.size/\¬D2 q/\q≠C:=fun q hq=>by
     obtain⟨o1,o2,_⟩:=own_ge hown hq
     obtain⟨a1,a2⟩:=hap q hq
     refine⟨o1,o2,fun hd=>?_,a2⟩
     rcases hK2.o q hd with hd|hd
     ·exact a1 hd
     ·exact absurd (Nat.lt_of_lt_of_le (Nat.lt_of_lt_of_le o2 hb1.size) hd) (Nat.lt_irrefl _)
    have hown2:(w2.alloc (bx a)).ownsRow W.heap.size 52 3 (.slice sa j sc) j (flat xs):=a2r hown fun q hq=>by
     obtain⟨o1,o2,o3,o4⟩:=hbl q hq
     have e1:=hb1.block q o2
     have e2:=hK2.k.block q (Nat.lt_of_lt_of_le o2 hb1.size) (fun ee=>ee.elim (hap q hq).1 o4)
     have e3:=hb3.block q (Nat.lt_of_lt_of_le (Nat.lt_of_lt_of_le o2 hb1.size) hK2.k.size)
     exact e3.trans (e2.trans e1)
    refine⟨hown2,new1 _ _,hA3.ck.k.size,fun w4 g3 cap3 hw4 hg hat=>?_⟩
    have hA4:=hA3.keepS (a0b.grown hg) (fun q hq=>by obtain⟨o1,o2,o3,o4⟩:=hbl q hq.symm;exact⟨o3,o4,o1⟩) hlo
    have hg2:=a5b hx2
    refine⟨D2,l2,r2,xs++[a],hA4,?_,by omega,by omega,by simp[hxl],by rw[a9z];exact hw4,fun q hq=>?_,fun v hv=>?_⟩
    ·rw[<- hgo];exact(c8k (g:=zE F e) xs hx2).symm
    ·obtain rfl:g3=q:=by simpa[Value.ownBlock]using hq
     rcases hat with hat|hat
     ·obtain⟨o1,o2,o3,o4⟩:=hbl _ hat;exact⟨o3,o4⟩
     ·exact hA3.st.new (by omega)
    ·rcases List.mem_append.1 hv with hv|hv
     ·exact(hvg v hv).mono hn2
     ·simp only[List.mem_singleton]at hv;subst hv;exact hva
   have hj1000:j<=999:=by omega
   replace hbad:Hid _:=hbad
   replace hok:Hid _:=hok
   clear hy hdr hA1 hcy hA2 hgo hown hap hvg
   go_wp2_with (go_at_call 49;refine hcall.mono ?_;intro en w2 hq;rcases hq.par with⟨pv,rfl,hbd⟩|⟨a,l2,r2,D2,vv,hx2,rfl,hS2,hK2,hn2,rfl,hva⟩;(exact⟨rfl,hbad.out _ _ hbd⟩);refine Hid.out ?_)
   obtain⟨hown,hnw,hsz,hrt⟩:=hok.out _ _ _ _ _ hx2 hS2 hK2 hn2 hva
   have hnews:=c8l hnw
   have hone:∀x∈[vi a.k,vi a.n,.string a.s],x.oneCell'=true:=fun x hx=>by simp at hx;rcases hx with rfl|rfl|rfl <;> rfl
   have hn1':j+1<=maxLen:=by unfold maxLen;omega
   have hn2':(j+1)*32<=140737488355328:=by omega
   replace hrt:Hid _:=hrt
   clear hcall hx2 hS2 hK2 hn2 hva hnw hok hbad
   refine Lib.hid ?_
   go_wp2_with (at_builtin;refine wpList_append_lies _ (by rfl) _ _ _ (by rfl) W.heap.size 52 i0 _ 3 32 Tryz.underlying61 hi0 hz0 hz1 hz2 rfl (by omega) (.slice sa j sc) j _ (by rfl) hown (Ad w2.heap.size 0) 1 1 [vi a.k,vi a.n,.string a.s] (by rfl) (by rfl) hnews hone (by omega) hn1' hn2' hsz _ rfl ?_;intro g3 cap3 w4 hown3 hgrow hat hlt3;have hAI:=hrt.out w4 g3 cap3 hown3 hgrow hat;clear hown3 hgrow hat hlt3)
   go_roundw
   case rel =>
    have hj2:=hj1.out
    exact⟨j+1,by omega,by go_num,⟨_,_,rfl⟩,hAI⟩
   case measure =>
    have hj2:=hj1.out
    simp[intOf];omega
  ·have hlt':¬(j:Int)<(L:Int):=by omega
   have hRo:R=Res.ok xs l1 r1:=by rw[<- hgo,List.drop_eq_nil_of_le (by have:=hL.out;omega),allX];show Res.ok (xs++[]) l1 r1=_;rw[List.append_nil]
   subst hRo
   have hfin:XQ (gM e W) e D C W nt (Res.ok xs l1 r1) (.returned (.slice sa j sc)) wr:=.inr ⟨xs,l1,r1,D1,_,rfl,rfl,hA1.st,hA1.ck,hn1,b4i (by rw[hxl];exact hown) (fun k hk'=>⟨trivial,fun ee=>ee.elim (hap k hk').1 (fun ee=>by have:=(own_ge hown hk').1;omega)⟩),hvg⟩
   clear hown hap hvg hA1 hgo
   go_wp2
   go_ret
   exact hfin
end
end
end Go.Proofs.YtfbpdbndejefdaaGreatDoor.V
