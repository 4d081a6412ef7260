/- A run of the model: statements (what is told). -/
import Derived.Test.YtfbpdbndejefdaaGreatDoorS48
namespace Go.Proofs.YtfbpdbndejefdaaGreatDoor.V
open Go.RowKit Go
set_option maxRecDepth 100000
set_option maxHeartbeats 8000000
set_option linter.all false
variable {t:ByteArray} {n:Nat}
section
variable [DecidableEq Vl]
section
variable {F:Int->Vl->Vl->Vl×Int} {e:En} {D:Nat->Prop} {C:Nat} {l:List Vl} {r:Rn Tb} {W:World}
theorem d8j{F:Int->Vl->Vl->Vl×Int}{e:En}{tag:Nat}{p:Pt}{i j:Int}{l:List Vl}{r:Rn Tb}{a:Vl}{l':List Vl}{r':Rn Tb}(h:ZX F e tag p i j l r=Res.ok a l' r'):r'.out.length+r.st<=r'.st+r.out.length:=by
 have:=oul (O:=Oz F) (prog:=e.u.kids) (lim:=e.lim) (2*e.lim+3) tag p i j l r
 unfold ZX at h
 rw[h]at this
 exact this
theorem c8m{W:World}{g:Nat}(h:W.heap[g]?=some (.cells #[.string t] 9)):∀j u,[Value.string t][j]?=some u->W.cell? ((Ad g 0).add j)=some u:=World.news_of_block (cs:=#[.string t]) h
structure Tell (e:En) (C:Nat) (D:Nat->Prop) (l:List Vl) (r:Rn Tb) (t:ByteArray) (w4:World) (ua:Option Addr) (n uc:Nat):Prop where
 own:w4.ownsRow e.w1.heap.size 9 1 (.slice ua n uc) n (r.out.map Value.string)
 ld:w4.cell? (Ad e.R 3)=some (.slice ua n uc)
 rt:∀(w5:World) (g cap:Nat),w5.ownsRow e.w1.heap.size 9 1 (.slice (some (Ad g 0)) (n+1) cap) (n+1) (r.out.map Value.string++[.string t])->w4.grownBy w5 (Value.ownBlock (.slice ua n uc))->(Value.ownBlock (.slice ua n uc)=some g\/g=w4.heap.size) ->
  w5.frozen? (Ad e.R 3)=false/\w5.cell? (Ad e.R 3)=some (.slice ua n uc)/\w5.cell? (Ad C 0)=some (pR e)/\(w5.setCell (Ad e.R 3) (.slice (some (Ad g 0)) (n+1) cap)).cell? (Ad C 0)=some (pR e)/\∃D',St e D' C l { r with out:=r.out++[t] } (w5.setCell (Ad e.R 3) (.slice (some (Ad g 0)) (n+1) cap))/\CK (fun q=>q=C) D w4 D' (w5.setCell (Ad e.R 3) (.slice (some (Ad g 0)) (n+1) cap))
theorem St.tell{w4:World}(h:St e D C l r w4)(h1:r.out.length<r.st)(h3:t.size<=300):∃v n y,n<=1000/\Tell e C D l r t w4 v n y:=by
 obtain⟨v,y,u⟩:=h.rq.outs
 refine⟨v,r.out.length,y,by have:=h.rq.gd.ou;have:=h.rq.gd.st;have:=h.rq.gd.l1;omega,u.own,u.ld,fun z g cap o m s=>?_⟩
 obtain⟨D',a1,a2,d,f⟩:=u.rt z t g cap o m s h1 h3
 have q:=h.re a2 a1 (Nat.le_refl _)
 have p:C≠e.R:=fun j=>h.nC (j▸h.rq.dr)
 have h5:z.heap[C]?=some (lcb e l):=(set1_other z (B:=e.R) (i:=3) (.slice (some (Ad g 0)) (r.out.length+1) cap) p).symm.trans q.lc
 exact⟨d,f,cell_block h5 rfl,q.ptr,D',q,a2.ff⟩
theorem e0b(t:ByteArray)(nn sl:Int)(ks:List Pt)(l:List Vl)(r:Rn Tb)(h:r.st<=e.lim):ZX F e 1 ⟨12,t,nn,sl,ks⟩ 0 0 l r=tick e.lim l r fun l r=>(exX (zE F e) ks[0]? l r).bind fun v l r=>Res.ok nilV l { r with out:=r.out++[tx v] }:=(a3r F e 1 _ 0 0 l r h).trans rfl
theorem d4n(hg:Pg e)(hE:EC F e n)(hn:e.lim<(n+1)+r.st)(t:ByteArray)(nn sl:Int)(ks:List Pt)(b:Option Addr)(cap:Nat)(hw:Wf (nf e) ⟨12,t,nn,sl,ks⟩)(hk:PK tt e.w1 ks b cap)(h:St e D C l r W):Cl 33 #[pC C,ptv ⟨12,t,nn,sl,ks⟩ b cap] W (XQ g0 e D C W r.tb.length (ZX F e 1 ⟨12,t,nn,sl,ks⟩ 0 0 l r)):=by
 have v9:=h.rq.gd.ou
 obtain⟨s9,w0,t5,w6,o⟩:=b4l (.cells #[vi 12,.string t,vi nn,vi sl,.slice b ks.length cap] 34) h (e0b t nn sl ks l r h.rq.gd.st)
 generalize ZX F e 1 ⟨12,t,nn,sl,ks⟩ 0 0 l r=R at o⊢
 generalize r.tb.length=nt at o⊢
 show Cl 33 #[pC C,.agg #[vi 12,.string t,vi nn,vi sl,.slice b ks.length cap]] W _
 clear h
 go_enter Tryz.func33,Tryz.ntmps33
 go_wp2_with (go_at_call 48;refine o.mono ?_;rintro en w1 (⟨rfl,hx⟩|⟨rfl,r1,x8,t4,v7,hR,j⟩);(exact⟨rfl,hx⟩);refine Hid.out ?_)
 try dsimp only at hR
 obtain⟨p0,p1,p2,p3,p4,_,_,_,_,_⟩:=in5 (j.at 0 rfl)
 have x7:=j.st.ptr
 clear o w6
 replace x8:Hid _:=x8
 obtain⟨y0,z1,u1⟩:=a6v hw (by omega)
 have t0:r1.out.length<=r.st:=by rw[<- x8.out];exact v9
 obtain⟨g,t1,b0,y3,rfl,u5,u0⟩:=PK.kid hk z1
 have hL:0<ks.length:=(List.getElem?_eq_some_iff.1 z1).1
 have t6:=hk.1
 have u6:=(hw.kid z1).2
 obtain⟨L,t7⟩:=exq (ks.length)
 rw[t7]at hL t6 p4
 have s8:(0:Int)<(L:Int):=by omega
 have t2:(L:Int)<=(cap:Int):=by omega
 have z6:∀V,Bw w1 V->Cl 49 #[pC C,.agg #[vi y0.k,.string y0.t,vi y0.n,vi y0.sl,.slice b0 y0.kids.length y3]] V (XQ (gV e) e D C V r1.tb.length (ZX F e 0 y0 0 0 l r1)):=fun V hb=>hE y0 b0 y3 C l r1 D V (by omega) u6 u1 u5 (j.below hb).st
 rw[z1]at hR
 replace hR:((ZX F e 0 y0 0 0 l r1).bind fun v l r=>Res.ok nilV l { r with out:=r.out++[tx v] })=R:=hR
 have y7:∀V,Below e.w1.heap.size e.w1 V->PTab V:=fun V hb=>hg.pt.on hb
 have hc:=z6 w1 (Below.refl _ _)
 obtain⟨_,j0,j1,j2,j3,j4⟩:=u0 w1 j.st.rq.bl
 simp only[Nat.zero_mul,Nat.add_zero]at j0 j1 j2 j3 j4
 replace j:Hid _:=j
 clear z6
 refine Lib.hid ?_
 go_wp2_with (go_at_call 49;refine hc.mono ?_;intro en w2 hq;rcases hq.par with⟨pv,rfl,t9⟩|⟨a,l2,r2,D2,vv,y2,rfl,u9,u8,v6,rfl,w8⟩;(exact⟨rfl,.inl ⟨pv,rfl,((j.out.bad t9).bind _).eq hR.symm⟩⟩);refine Hid.out ?_)
 have z3:=j.out.step u9 u8
 have hm:=w8.m
 have u:=b8c a hm w2 (y7 _ z3.st.rq.bl)
 have u2:=d8j y2
 have v2:r2.out.length<r2.st:=by omega
 have w7:=c4m hm
 obtain⟨y,x9⟩:=exq (tx a)
 rw[x9]at u w7
 replace hR:Res.ok nilV l2 { r2 with out:=r2.out++[y] }=R:=by rw[<- hR,y2,<- x9];rfl
 replace u:Cl 14 #[.agg #[vi a.k,vi a.n,.string a.s]] w2 _:=u
 replace z3:Hid _:=z3
 clear j y2 u9 u8 hc hE hk hw y7 j0 j1 j2 j3 j4 p0 p1 p2 p3 p4 x7 x9 hm u2 w8
 refine Lib.hid ?_
 go_wp2_with (go_at_call 14;refine u.mono ?_;rintro en w3 ⟨rfl,v0⟩;refine Hid.out ?_)
 have y8:=z3.out.below v0
 have z8:Bw w3 (w3.drew.alloc (.cells #[.string y] 9)):=ext_alloc (Below.refl _ _).drew _
 have gN:(w3.drew.alloc (.cells #[.string y] 9)).heap[w3.heap.size]?=some (.cells #[.string y] 9):=new1 w3.drew _
 obtain⟨w4,y1⟩:=exq (w3.drew.alloc (.cells #[.string y] 9))
 rw[y1]at z8 gN
 have z4:=y8.below z8
 obtain⟨ua,n',uc,t3,hT⟩:=z4.st.tell v2 w7
 have y6:=hT.own
 have z0:=hT.rt
 have u4:=hT.ld
 have t8:e.R<w3.heap.size:=y8.st.rq.lt
 have u3:w3.drew.cell? (Ad e.R 3)=some (.slice ua n' uc):=(z8.cell (p:=(Ad e.R 3)) t8).symm.trans u4
 have y9:w3.drew.cell? (Ad C 0)=some (pR e)/\True:=⟨(y8.below (Below.refl _ _).drew).st.ptr,trivial⟩
 have x2:Ce w4 C 0 (pR e)/\True:=⟨z4.st.ptr,trivial⟩
 have z7:=c8m gN
 have y5:∀x∈[Value.string y],x.oneCell'=true:=fun x hx=>by simp at hx;subst hx;rfl
 have v4:n'+1<=maxLen:=by unfold maxLen;omega
 have v5:(n'+1)*16<=140737488355328:=by omega
 have y4:e.w1.heap.size<=w4.heap.size:=z4.st.rq.bl.size
 obtain⟨i0,v1,w9,x0,x1⟩:=info_parts d9n
 have v8:nt<=r2.tb.length:=Nat.le_trans v7 v6
 have z9:∀V D',St e D' C l2 { r2 with out:=r2.out++[y] } V->CK (fun q=>q=C) D2 w4 D' V->XQ g0 e D C W nt R (.returned (.tuple #[])) V:=fun V D' hS z=>by
  have u7:=z4.step hS z
  exact .inr ⟨nilV,l2,_,D',_,hR.symm,rfl,u7.st,u7.ck,v8,rfl⟩
 replace z9:Hid _:=z9
 replace z0:Hid _:=z0
 clear z3 y8 z4 hT u v0 z8 hR v2 gN
 refine Lib.hid ?_
 go_wp2
 refine wp_region_held_drew (S:=fun V=>Ce V C 0 (pR e)/\True) (by kernel_rfl) y9 (fun d=>?_)
 change wpAnyH _ _ _ _ _ 19 _ _ _
 iterate 11 (refine tkH 0 (by simp only[nx,gq1,gq2,gq3];rfl) (by kernel_rfl) (by rfl) d ⟨_,by intro w ⟨_,_⟩;go_simp;try with_reducible rfl,by exact fun _ _ _ h=>h,?_⟩;try simp only[Act.put,sq1,sq2,sq3])
 iterate 1 (refine tkH 1 (by simp only[nx,gq1,gq2,gq3];rfl) (by kernel_rfl) (by rfl) d ⟨_,by intro w ⟨_,_⟩;go_simp;try with_reducible rfl,by exact fun _ _ _ h=>h,?_⟩;try simp only[Act.put,sq1,sq2,sq3])
 refine wpAnyH_ready (rs:=[11,13]) (by kernel_rfl) (by simp) ?_
 refine AllReadyH.cons rfl (fun K z=>?_) ?_
 ·go_simp
  refine z.out _ _ d (fun _=>?_)
  clear z K
  try simp only[Act.put,sq1,sq2,sq3]
  refine wpAnyH_ready (rs:=[13]) (by kernel_rfl) (by simp) ?_
  refine AllReadyH.cons rfl (fun K z=>?_) .nil
  go_simp
  try rw[y1]
  refine z.out _ _ x2 (fun _=>?_)
  clear z K
  try simp only[Act.put,sq1,sq2,sq3]
  refine wpAnyH_ready (rs:=[14]) (by kernel_rfl) (by simp) ?_
  refine AllReadyH.cons rfl (fun K z=>?_) .nil
  refine step_append_lies _ (by rfl) _ _ _ (by rfl) e.w1.heap.size 9 i0 _ 1 16 Tryz.underlying23 v1 w9 x0 x1 rfl (by omega) (.slice ua n' uc) n' _ (by rfl) y6 (Ad w3.heap.size 0) 1 1 [Value.string y] (by rfl) (by rfl) z7 y5 (by omega) v4 v5 y4 _ rfl ?_
  intro g3 z2 w5 i f x6 v3
  obtain⟨f5,k5,c5,c6,D',x5,x4⟩:=z0.out w5 g3 z2 i f x6
  have z5:=And.intro c5 trivial
  have x3:=And.intro c6 trivial
  refine z.out _ _ z5 (fun _=>?_)
  clear z K
  try simp only[Act.put,sq1,sq2,sq3]
  iterate 3 (refine tkH 0 (by simp only[nx,gq1,gq2,gq3];rfl) (by kernel_rfl) (by rfl) z5 ⟨_,by intro w ⟨_,_⟩;go_simp;try with_reducible rfl,by exact fun _ _ _ h=>h,?_⟩;try simp only[Act.put,sq1,sq2,sq3])
  refine wpAnyH_ready (rs:=[18]) (by kernel_rfl) (by simp) ?_
  refine AllReadyH.cons rfl (fun K z=>?_) .nil
  go_simp
  refine z.out _ _ x3 (fun _=>?_)
  clear z K
  try simp only[Act.put,sq1,sq2,sq3]
  refine wpAnyH_done (by kernel_rfl) ?_ _
  go_wp2
  go_end0
  exact z9.out _ _ x5 x4
 refine AllReadyH.cons rfl (fun K z=>?_) .nil
 go_simp
 try rw[y1]
 refine z.out _ _ x2 (fun _=>?_)
 clear z K
 try simp only[Act.put,sq1,sq2,sq3]
 refine wpAnyH_ready (rs:=[11]) (by kernel_rfl) (by simp) ?_
 refine AllReadyH.cons rfl (fun K z=>?_) .nil
 go_simp
 refine z.out _ _ x2 (fun _=>?_)
 clear z K
 try simp only[Act.put,sq1,sq2,sq3]
 refine wpAnyH_ready (rs:=[14]) (by kernel_rfl) (by simp) ?_
 refine AllReadyH.cons rfl (fun K z=>?_) .nil
 refine step_append_lies _ (by rfl) _ _ _ (by rfl) e.w1.heap.size 9 i0 _ 1 16 Tryz.underlying23 v1 w9 x0 x1 rfl (by omega) (.slice ua n' uc) n' _ (by rfl) y6 (Ad w3.heap.size 0) 1 1 [Value.string y] (by rfl) (by rfl) z7 y5 (by omega) v4 v5 y4 _ rfl ?_
 intro g3 z2 w5 i f x6 v3
 obtain⟨f5,k5,c5,c6,D',x5,x4⟩:=z0.out w5 g3 z2 i f x6
 have z5:=And.intro c5 trivial
 have x3:=And.intro c6 trivial
 refine z.out _ _ z5 (fun _=>?_)
 clear z K
 try simp only[Act.put,sq1,sq2,sq3]
 iterate 3 (refine tkH 0 (by simp only[nx,gq1,gq2,gq3];rfl) (by kernel_rfl) (by rfl) z5 ⟨_,by intro w ⟨_,_⟩;go_simp;try with_reducible rfl,by exact fun _ _ _ h=>h,?_⟩;try simp only[Act.put,sq1,sq2,sq3])
 refine wpAnyH_ready (rs:=[18]) (by kernel_rfl) (by simp) ?_
 refine AllReadyH.cons rfl (fun K z=>?_) .nil
 go_simp
 refine z.out _ _ x3 (fun _=>?_)
 clear z K
 try simp only[Act.put,sq1,sq2,sq3]
 refine wpAnyH_done (by kernel_rfl) ?_ _
 go_wp2
 go_end0
 exact z9.out _ _ x5 x4
end
section
variable {F:Int->Vl->Vl->Vl×Int} {e:En} {D:Nat->Prop} {C:Nat} {l:List Vl} {r:Rn Tb} {W:World}
def optB (F:Int->Vl->Vl->Vl×Int) (e:En) (q:Option Pt) (l:List Vl) (r:Rn Tb):Res Vl Tb Unit:=match q with|some q=>blkX (zS F e) q.kids l r|none=>Res.ok () l r
def b0o (F:Int->Vl->Vl->Vl×Int) (e:En) (ks:List Pt) (l:List Vl) (r:Rn Tb):Res Vl Tb Unit:=(exX (zE F e) ks[0]? l r).bind fun c l r=>optB F e (if tr c=true then ks[1]? else ks[2]?) l r
theorem c0f(q:Option Pt)(l:List Vl)(r:Rn Tb)(v:Vl):((blockX (zS F e) q l r).bind fun _ l r=>Res.ok v l r)=(optB F e q l r).bind fun _ l r=>Res.ok v l r:=by
 cases q with
 | none=>rfl
 | some q=>exact a8j (zS F e) (fun l r=>Res.ok v l r) q.kids l r
theorem c0g(hE:EC F e n)(hB:BK F e n)(hn:e.lim<n+r.st)(t:ByteArray)(nn sl:Int)(ks:List Pt)(b:Option Addr)(cap:Nat)(hw:Wf (nf e) ⟨8,t,nn,sl,ks⟩)(hk:PK tt e.w1 ks b cap)(h:St e D C l r W):Cl 51 #[pC C,ptv ⟨8,t,nn,sl,ks⟩ b cap] W (XQ g0 e D C W r.tb.length (b0o F e ks l r)):=by
 have j:ks.length=2\/ks.length=3:=by
  have z8:=hw
  rw[Wf]at z8
  have h1:=z8.1
  clear z8
  unfold a0w at h1
  omega
 obtain⟨i,z4⟩:∃i,ks[0]?=some i:=⟨_,List.getElem?_eq_getElem (by omega)⟩
 obtain⟨y1,z5⟩:∃y1,ks[1]?=some y1:=⟨_,List.getElem?_eq_getElem (by omega)⟩
 have w5:a2s i.k:=by have:=(hw.kid z4).1;simpa[a0z]using this
 have x8:y1.k=4:=by have:=(hw.kid z5).1;simpa[a0z]using this
 have x0:=(hw.kid z4).2
 have x1:=(hw.kid z5).2
 have v5:=hk.1
 obtain⟨g,y5,b0,y6,rfl,w7,x3⟩:=PK.kid hk z4
 obtain⟨g',v8,b1,y7,x5,w8,w3⟩:=PK.kid hk z5
 cases x5
 obtain⟨L,d⟩:=exq (ks.length)
 obtain⟨w0,z0⟩:=exq (W.alloc (.cells #[vi 8,.string t,vi nn,vi sl,.slice (some (Ad g y5)) L cap] 34))
 have x2:Bw W w0:=by rw[<- z0];exact ext_alloc (Below.refl _ _) _
 have hA:=Ac.begin (os:=[(W.heap.size,.cells #[vi 8,.string t,vi nn,vi sl,.slice (some (Ad g y5)) L cap] 34)]) h x2 (fun p hp=>by simp at hp;subst hp;exact⟨by rw[<- z0];exact new1 _ _,Nat.le_refl _⟩)
 have hc:=b4m hE i b0 y6 hn x0 w5 w7 hA.st
 replace hc:Cl 52 #[pC C,.agg #[vi i.k,.string i.t,vi i.n,vi i.sl,.slice b0 i.kids.length y6]] w0 _:=hc
 obtain⟨R,hR⟩:=exq (b0o F e ks l r)
 rw[hR]
 have z2:((a7v (zE F e) i l r).bind fun(c:Bool) l r=>optB F e (if c=true then ks[1]? else ks[2]?) l r)=R:=by
  rw[<- hR];unfold b0o a7v;rw[z4,a2i];rfl
 obtain⟨nt,w6⟩:=exq (r.tb.length)
 rw[w6]at hc⊢
 obtain⟨_,_,_,_,p4,_,_,_,_,_⟩:=in5 (hA.at 0 rfl)
 obtain⟨_,j0,j1,j2,j3,j4⟩:=x3 w0 hA.st.rq.bl
 simp only[Nat.zero_mul,Nat.add_zero]at j0 j1 j2 j3 j4
 have y3:∀(a:Bool) (l':List Vl) (r':Rn Tb),a7v (zE F e) i l r=Res.ok a l' r'->e.lim<n+r'.st:=fun a l' r' hz=>by
  have hG:Gr e.lim r (a7v (zE F e) i l r):=(grow (O:=Oz F) (prog:=e.u.kids) (lim:=e.lim) (2*e.lim+3) 0 i 0 0 l r).bind fun _ _ _=>Gr.ok rfl (List.prefix_refl _)
  rw[hz]at hG
  have:r.st<=r'.st:=hG.1
  omega
 have v2:(0:Int)<(L:Int):=by omega
 have v3:(1:Int)<(L:Int):=by omega
 have v7:(L:Int)<=(cap:Int):=by omega
 show Cl 51 #[pC C,.agg #[vi 8,.string t,vi nn,vi sl,.slice (some (Ad g y5)) ks.length cap]] W _
 rw[d]
 rw[d]at j
 replace hA:Hid _:=hA
 replace y3:Hid _:=y3
 replace z2:Hid _:=z2
 replace hE:Hid (EC F e n):=hE
 replace hB:Hid (BK F e n):=hB
 replace j:Hid _:=j
 replace x8:Hid _:=x8
 replace d:Hid _:=d
 clear h x2 x3 hR
 go_enter Tryz.func51,Tryz.ntmps51
 go_wp2_with (go_at_call 52;refine hc.mono ?_;intro en w1 hq;rcases hq.par with⟨pv,rfl,o⟩|⟨tb,l1,r1,D1,vv,z9,rfl,z3,z1,x9,rfl⟩;(exact⟨rfl,.inl ⟨pv,rfl,((hA.out.bad o).bind _).eq z2.out.symm⟩⟩);refine Hid.out ?_)
 have y:=hA.out.step z3 z1
 have y9:=y3.out _ _ _ z9
 have z:=z2.out
 rw[z9]at z
 replace z:optB F e (if tb=true then ks[1]? else ks[2]?) l1 r1=R:=z
 obtain⟨_,_,_,_,q4,_,_,_,_,_⟩:=in5 (y.at 0 rfl)
 clear p4 j0 j1 j2 j3 j4 hc
 cases tb with
 | true =>
  rw[if_pos rfl,z5]at z
  replace z:blkX (zS F e) y1.kids l1 r1=R:=z
  obtain⟨_,i0,i1,i2,i3,i4⟩:=w3 w1 y.st.rq.bl
  simp only[Nat.one_mul]at i0 i1 i2 i3 i4
  have hb:=hB.out y1 b1 y7 C l1 r1 D1 w1 y9 x1 x8.out w8 y.st
  rw[z]at hb
  replace hb:Cl 20 #[pC C,.agg #[vi y1.k,.string y1.t,vi y1.n,vi y1.sl,.slice b1 y1.kids.length y7]] w1 _:=hb
  have s:∀V pv,Bd (fun q=>q=C) e D1 w1 R pv V->XQ g0 e D C W nt R (.panicked pv) V:=fun V pv o=>.inl ⟨pv,rfl,y.bad o⟩
  have v:∀V a l2 f D2,R=Res.ok a l2 f->St e D2 C l2 f V->CK (fun q=>q=C) D1 w1 D2 V->r1.tb.length<=f.tb.length->XQ g0 e D C W nt R (.returned (.tuple #[])) V:=fun V a l2 f D2 hx hS hK m=>.inr ⟨a,l2,f,D2,_,hx,rfl,(y.step hS hK).st,(y.step hS hK).ck,Nat.le_trans x9 m,rfl⟩
  replace s:Hid _:=s
  replace v:Hid _:=v
  clear y hA z9 z3 z1 z
  refine Lib.hid ?_
  go_wp2_with (go_at_call 20;refine hb.mono ?_;intro en w2 hq;rcases hq.par with⟨pv,rfl,o⟩|⟨a,l2,f,D2,vv,y4,rfl,x7,x6,m,rfl⟩;(exact⟨rfl,s.out _ _ o⟩))
  go_end0
  exact v.out _ _ _ _ _ y4 x7 x6 m
 | false =>
  rw[if_neg (by decide)]at z
  rcases j.out with h2|h3
  ·have z7:ks[2]?=none:=List.getElem?_eq_none (by have:=d.out;omega)
   rw[z7]at z
   have hd:decide ((L:Int)>2)=false:=by simp;omega
   have v6:¬(L:Int)>2:=by omega
   have v:XQ g0 e D C W nt R (.returned (.tuple #[])) w1:=.inr ⟨(),l1,r1,D1,_,z.symm,rfl,y.st,y.ck,x9,rfl⟩
   clear y hA z9 z3 z1 z h2 z7
   refine Lib.hid ?_
   go_wp2
   go_end0
   exact v
  ·obtain⟨y2,z6⟩:∃y2,ks[2]?=some y2:=⟨_,List.getElem?_eq_getElem (by have:=d.out;omega)⟩
   have x4:y2.k=4:=by have:=(hw.kid z6).1;simpa[a0z]using this
   have z8:=(hw.kid z6).2
   obtain⟨g2,v9,b2,y8,x5,w9,w4⟩:=PK.kid hk z6
   cases x5
   rw[z6]at z
   replace z:blkX (zS F e) y2.kids l1 r1=R:=z
   obtain⟨_,i0,i1,i2,i3,i4⟩:=w4 w1 y.st.rq.bl
   simp only[Nat.reduceMul]at i0 i1 i2 i3 i4
   have hb:=hB.out y2 b2 y8 C l1 r1 D1 w1 y9 z8 x4 w9 y.st
   rw[z]at hb
   replace hb:Cl 20 #[pC C,.agg #[vi y2.k,.string y2.t,vi y2.n,vi y2.sl,.slice b2 y2.kids.length y8]] w1 _:=hb
   have s:∀V pv,Bd (fun q=>q=C) e D1 w1 R pv V->XQ g0 e D C W nt R (.panicked pv) V:=fun V pv o=>.inl ⟨pv,rfl,y.bad o⟩
   have v:∀V a l2 f D2,R=Res.ok a l2 f->St e D2 C l2 f V->CK (fun q=>q=C) D1 w1 D2 V->r1.tb.length<=f.tb.length->XQ g0 e D C W nt R (.returned (.tuple #[])) V:=fun V a l2 f D2 hx hS hK m=>.inr ⟨a,l2,f,D2,_,hx,rfl,(y.step hS hK).st,(y.step hS hK).ck,Nat.le_trans x9 m,rfl⟩
   have hd:decide ((L:Int)>2)=true:=by simp;omega
   have v4:(2:Int)<(L:Int):=by omega
   replace s:Hid _:=s
   replace v:Hid _:=v
   clear y hA z9 z3 z1 z h3 x4
   refine Lib.hid ?_
   go_wp2_with (go_at_call 20;refine hb.mono ?_;intro en w2 hq;rcases hq.par with⟨pv,rfl,o⟩|⟨a,l2,f,D2,vv,y4,rfl,x7,x6,m,rfl⟩;(exact⟨rfl,s.out _ _ o⟩))
   go_end0
   exact v.out _ _ _ _ _ y4 x7 x6 m
end
end
end Go.Proofs.YtfbpdbndejefdaaGreatDoor.V
