/- A state once more, in memory of its own. -/
import Derived.Test.YthljpnmhddfblaaGreatDoorS37
namespace Go.Proofs.YthljpnmhddfblaaGreatDoor
open Go.RowKit Go
set_option maxRecDepth 100000
set_option maxHeartbeats 8000000
set_option linter.all false
section
variable [DecidableEq Vl]
abbrev stv (fv tv ov:Value) (s:St):Value:=.agg #[fv,tv,ov,.int .i64 s.st,.int .i64 s.en,.int .i64 s.er,.int .i64 s.la.k,.int .i64 s.la.n,.string s.la.s]
abbrev stb (fv tv ov:Value) (s:St):Obj:=.cells #[fv,tv,ov,.int .i64 s.st,.int .i64 s.en,.int .i64 s.er,.int .i64 s.la.k,.int .i64 s.la.n,.string s.la.s] 38
abbrev zst:Obj:=.cells #[.slice none 0 0,.slice none 0 0,.slice none 0 0,.int .i64 0,.int .i64 0,.int .i64 0,.int .i64 0,.int .i64 0,.string ⟨#[]⟩] 38
structure StIn (n₀:Nat) (W:World) (fv tv ov:Value) (s:St):Prop where
 f:RowFr n₀ W fv s.fr
 t:RowTb n₀ W tv s.tb
 o:RowS n₀ W ov s.out
structure Small (s:St):Prop where
 f1:s.fr.length<=40
 f2:∀x∈s.fr,x.rs.length<=1000
 f3:∀x∈s.fr,∀v∈x.rs,v.s.size<=300
 t1:s.tb.length<=200
 t2:∀x∈s.tb,x.ks.length<=1000/\x.vs.length<=1000
 t3:∀x∈s.tb,(∀v∈x.ks,v.s.size<=300)/\∀v∈x.vs,v.s.size<=300
 o1:s.out.length<=60000
 o2:∀t∈s.out,t.size<=300
 l:s.la.s.size<=300
structure FS (l0:Nat) (W:World) (F fc T tc U uc:Nat) (fw:List Fw) (tw:List Tw) (s:St):Prop where
 fo:OwnR W F 66 4 s.fr.length fc (frCells fw)
 to:OwnR W T 79 2 s.tb.length tc (tbCells tw)
 uo:OwnR W U 9 1 s.out.length uc (s.out.map Value.string)
 hf:fw.map Fw.x=s.fr
 ht:tw.map Tw.t=s.tb
 rg:∀q∈fw,OwnR W q.g 25 3 q.x.rs.length q.c (flat q.x.rs)
 nd:(F::T::U::fw.map Fw.g).Nodup
 lo:∀k∈F::T::U::fw.map Fw.g,l0<=k
 tr:∀A:List Nat,(∀k∈A,k<l0)->∀q∈tw,Rw W ((F::T::U::fw.map Fw.g)++A) q.a q.t.ks/\Rw W ((F::T::U::fw.map Fw.g)++A) q.b q.t.vs
theorem RowFr.below{n₀:Nat}{A B:World}(h:Below n₀ A B){sv:Value}{xs:List Frm}(r:RowFr n₀ A sv xs):RowFr n₀ B sv xs:=by
 obtain⟨a,cap,e,hl,hx⟩:=r
 refine⟨a,cap,e,hl,fun hne=>?_⟩
 obtain⟨b,off,ea,hb,hc⟩:=hx hne
 exact⟨b,off,ea,hb,fun j x hj=>(hc j x hj).below h hb⟩
theorem RowFr.mono{n₀ m:Nat}(hm:n₀<=m){A:World}{sv:Value}{xs:List Frm}(r:RowFr n₀ A sv xs):RowFr m A sv xs:=by
 obtain⟨a,cap,e,hl,hx⟩:=r
 refine⟨a,cap,e,hl,fun hne=>?_⟩
 obtain⟨b,off,ea,hb,hc⟩:=hx hne
 refine⟨b,off,ea,by omega,fun j x hj=>?_⟩
 obtain⟨t0,t1,t2,rv,t3,hr⟩:=hc j x hj
 exact⟨t0,t1,t2,rv,t3,row_mono hm hr⟩
theorem RowTb.below{n₀:Nat}{A B:World}(h:Below n₀ A B){sv:Value}{xs:List Tb}(r:RowTb n₀ A sv xs):RowTb n₀ B sv xs:=by
 obtain⟨a,cap,e,hl,hx⟩:=r
 refine⟨a,cap,e,hl,fun hne=>?_⟩
 obtain⟨b,off,ea,hb,hc⟩:=hx hne
 exact⟨b,off,ea,hb,fun j x hj=>(hc j x hj).below h hb⟩
theorem RowTb.mono{n₀ m:Nat}(hm:n₀<=m){A:World}{sv:Value}{xs:List Tb}(r:RowTb n₀ A sv xs):RowTb m A sv xs:=by
 obtain⟨a,cap,e,hl,hx⟩:=r
 refine⟨a,cap,e,hl,fun hne=>?_⟩
 obtain⟨b,off,ea,hb,hc⟩:=hx hne
 refine⟨b,off,ea,by omega,fun j x hj=>?_⟩
 obtain⟨kv,vv,t0,t1,hr,hr'⟩:=hc j x hj
 exact⟨kv,vv,t0,t1,row_mono hm hr,row_mono hm hr'⟩
theorem RowS.below{n₀:Nat}{A B:World}(h:Below n₀ A B){sv:Value}{xs:List ByteArray}(r:RowS n₀ A sv xs):RowS n₀ B sv xs:=by
 obtain⟨a,cap,e,hl,hx⟩:=r
 refine⟨a,cap,e,hl,fun hne=>?_⟩
 obtain⟨b,off,ea,hb,hc⟩:=hx hne
 exact⟨b,off,ea,hb,fun j x hj=>(h.cell (p:=⟨b,off+j,none⟩) hb).trans (hc j x hj)⟩
theorem RowS.mono{n₀ m:Nat}(hm:n₀<=m){A:World}{sv:Value}{xs:List ByteArray}(r:RowS n₀ A sv xs):RowS m A sv xs:=by
 obtain⟨a,cap,e,hl,hx⟩:=r
 refine⟨a,cap,e,hl,fun hne=>?_⟩
 obtain⟨b,off,ea,hb,hc⟩:=hx hne
 exact⟨b,off,ea,by omega,hc⟩
theorem StIn.at{W V:World}{fv tv ov:Value}{s:St}(h:StIn W.heap.size W fv tv ov s)(hb:Below W.heap.size W V):StIn V.heap.size V fv tv ov s:=⟨(h.f.below hb).mono hb.size,(h.t.below hb).mono hb.size,(h.o.below hb).mono hb.size⟩
theorem res50{tm:Array Value}{W:World}{B:Nat}{a b c d e f g h i:Value}(hp:tm[2]?.getD undef=.pointer (some ⟨B,0,none⟩))(hx:W.heap[B]?=some (.cells #[a,b,c,d,e,f,g,h,i] 38)):(results Tryz.f15 tm).run Tryz.prog W=.ok (.agg #[a,b,c,d,e,f,g,h,i]) W:=by
 obtain⟨d0,d1,d2,d3,d4,d5,d6,d7,d8⟩:=nine hx
 simp[results,Tryz.results15,go_sem,hp,d0,d1,d2,d3,d4,d5,d6,d7,d8]
structure Beh (b:Nat) (A C:World):Prop where
 s:A.heap.size<=C.heap.size
 k:∀k,b<k->k<A.heap.size->C.heap[k]?=A.heap[k]?
theorem Beh.trans{b:Nat}{A C D:World}(h:Beh b A C)(h':Beh b C D):Beh b A D:=⟨Nat.le_trans h.s h'.s,fun k h1 h2=>(h'.k k h1 (Nat.lt_of_lt_of_le h2 h.s)).trans (h.k k h1 h2)⟩
theorem Beh.below{b:Nat}{A C:World}(h:Below A.heap.size A C):Beh b A C:=⟨h.size,fun k _ h2=>h.block k h2⟩
theorem Beh.set{b:Nat}{A C:World}(h:Beh b A C){p:Nat}(hp:p<=b)(i:Nat)(v:Value):Beh b A (C.setCell ⟨p,i,none⟩ v):=⟨by rw[World.size_setCell];exact h.s,fun k h1 h2=>(set1_other _ _ (by omega)).trans (h.k k h1 h2)⟩
theorem Beh.refl(b:Nat)(A:World):Beh b A A:=⟨Nat.le_refl _,fun _ _ _=>rfl⟩
theorem Beh.own{b:Nat}{A C:World}(h:Beh b A C){g:Nat}{e:TypeId}{sz n cap:Nat}{xs:List Value}(ho:OwnR A g e sz n cap xs)(hg:b<g):OwnR C g e sz n cap xs:=ho.same (h.k g hg ho.lt)
theorem Beh.rw{b lo:Nat}{A C:World}(h:Beh b A C){g:Nat}{O:List Nat}{sv:Value}{xs:List Vl}(hr:RwG lo A g sv xs)(hb:b<lo)(hO:∀k,lo<=k->k≠g->k<A.heap.size->k∉O):Rw C O sv xs:=by
 obtain⟨a,cap,e,hl,hx⟩:=hr
 refine⟨a,cap,e,hl,fun hne=>?_⟩
 obtain⟨c,off,ea,h1,h2,h3,hc⟩:=hx hne
 refine⟨c,off,ea,hO c h1 h2 h3,Nat.lt_of_lt_of_le h3 h.s,fun j x hj=>?_⟩
 have hk:=h.k c (by omega) h3
 have hcell:∀o,C.cell? ⟨c,o,none⟩=A.cell? ⟨c,o,none⟩:=fun o=>by simp only[World.cell?];rw[hk]
 obtain⟨t0,t1,t2⟩:=hc j x hj
 exact⟨(hcell _).trans t0,(hcell _).trans t1,(hcell _).trans t2⟩
theorem fresh_any(fv tv ov:Value)(s:St)(W:World)(hI:StIn W.heap.size W fv tv ov s)(hS:Small s) :
  Calls Tryz.prog 15 #[stv fv tv ov s] W fun e W'=>∃F fc T tc U uc fw tw,e=.returned (stv (.slice (some ⟨F,0,none⟩) s.fr.length fc) (.slice (some ⟨T,0,none⟩) s.tb.length tc) (.slice (some ⟨U,0,none⟩) s.out.length uc) s)/\FS W.heap.size W' F fc T tc U uc fw tw s/\Below W.heap.size W W':=by
 obtain⟨w1,hw1⟩:∃w1,(W.alloc (stb fv tv ov s)).alloc zst=w1:=⟨_,rfl⟩
 have E0:Below W.heap.size W w1:=by rw[<- hw1];exact ext_alloc (ext_alloc (Below.refl W.heap.size W) _) _
 have g0:w1.heap[W.heap.size]?=some (stb fv tv ov s):=by rw[<- hw1];exact block_alloc _ (heap_new _ _)
 have g1:w1.heap[W.heap.size+1]?=some zst:=by rw[<- hw1];exact new2' W _ _
 obtain⟨nf,hnf⟩:∃n,s.fr.length=n:=⟨_,rfl⟩
 obtain⟨nt,hnt⟩:∃n,s.tb.length=n:=⟨_,rfl⟩
 obtain⟨no,hno⟩:∃n,s.out.length=n:=⟨_,rfl⟩
 have hF:∀w2,Below W.heap.size W w2->Calls Tryz.prog 22 #[fv,.func (.func 23) #[] #[]] w2 _:=fun w2 hb=>eachF_any fv s.fr w2 ((hI.f.below hb).mono hb.size) hS.f1 hS.f2 hS.f3
 have hT:∀w2,Below W.heap.size W w2->Calls Tryz.prog 26 #[tv,.func (.func 27) #[] #[]] w2 _:=fun w2 hb=>eachT_any tv s.tb w2 ((hI.t.below hb).mono hb.size) hS.t1 hS.t2 hS.t3
 have hO:∀w2,Below W.heap.size W w2->Calls Tryz.prog 28 #[ov,.func (.func 29) #[] #[]] w2 _:=fun w2 hb=>eachS_any ov s.out w2 ((hI.o.below hb).mono hb.size) hS.o1 hS.o2
 have hL:∀w2,Calls Tryz.prog 25 #[s.la.v] w2 fun e W'=>e=.returned s.la.v/\Below w2.heap.size w2 W':=fun w2=>freshV_any s.la w2 hS.l
 rw[hnf]at hF⊢
 rw[hnt]at hT⊢
 rw[hno]at hO⊢
 obtain⟨fa,fp,hfv,_⟩:=hI.f
 obtain⟨ta,tp,htv,_⟩:=hI.t
 obtain⟨oa,op,hov,_⟩:=hI.o
 rw[hnf]at hfv
 rw[hnt]at htv
 rw[hno]at hov
 clear hI hS
 subst hfv
 subst htv
 subst hov
 replace hF:Hid _:=hF
 replace hT:Hid _:=hT
 replace hO:Hid _:=hO
 replace hL:Hid _:=hL
 have z0:W.heap.size+1<w1.heap.size:=block_lt g1
 have p0:=cell_block (i:=0) g0 rfl
 go_enter Tryz.func15,Tryz.ntmps15
 go_wp2_with (go_at_call 22;(try rw[hw1]);refine(hF.out w1 E0).mono ?_;rintro e w2 ⟨F,fc,fw,rfl,hFo,hfx,hFI,hFl,hb2⟩;refine Hid.out ?_)
 refine Lib.hid ?_
 have G0:=block_below hb2 g0
 have G1:=block_below hb2 g1
 have s0:=cell_block (i:=0) G0 rfl
 have f0:=frozen_block (i:=0) G0
 obtain⟨X1,hX1⟩:∃X,w2.setCell ⟨W.heap.size,0,none⟩ (.slice (some ⟨F,0,none⟩) nf fc)=X:=⟨_,rfl⟩
 have E1:Below W.heap.size W X1:=by rw[<- hX1];exact(ext_trans E0 hb2).setCell (p:=⟨W.heap.size,0,none⟩) (Nat.le_refl _) _
 have H0:X1.heap[W.heap.size]?=some (stb (.slice (some ⟨F,0,none⟩) nf fc) (.slice ta nt tp) (.slice oa no op) s):=by rw[<- hX1];exact set_block _ G0
 have H1:X1.heap[W.heap.size+1]?=some zst:=by rw[<- hX1];exact(set1_other _ _ (by omega)).trans G1
 have B1:Beh (W.heap.size+1) w2 X1:=by rw[<- hX1];exact(Beh.refl _ _).set (by omega) _ _
 have a1:=cell_block (i:=1) H0 rfl
 go_wp2_with (go_at_call 26;(try rw[hX1]);refine(hT.out X1 E1).mono ?_;rintro e w3 ⟨T,tc,tw,rfl,hTo,htx,hTI,hTl,hb3⟩;refine Hid.out ?_)
 refine Lib.hid ?_
 have I0:=block_below hb3 H0
 have I1:=block_below hb3 H1
 have s1:=cell_block (i:=1) I0 rfl
 have f1:=frozen_block (i:=1) I0
 obtain⟨X2,hX2⟩:∃X,w3.setCell ⟨W.heap.size,1,none⟩ (.slice (some ⟨T,0,none⟩) nt tc)=X:=⟨_,rfl⟩
 have E2:Below W.heap.size W X2:=by rw[<- hX2];exact(ext_trans E1 hb3).setCell (p:=⟨W.heap.size,1,none⟩) (Nat.le_refl _) _
 have J0:X2.heap[W.heap.size]?=some (stb (.slice (some ⟨F,0,none⟩) nf fc) (.slice (some ⟨T,0,none⟩) nt tc) (.slice oa no op) s):=by rw[<- hX2];exact set_block _ I0
 have J1:X2.heap[W.heap.size+1]?=some zst:=by rw[<- hX2];exact(set1_other _ _ (by omega)).trans I1
 have B2:Beh (W.heap.size+1) w3 X2:=by rw[<- hX2];exact(Beh.refl _ _).set (by omega) _ _
 have b2:=cell_block (i:=2) J0 rfl
 go_wp2_with (go_at_call 28;(try rw[hX2]);refine(hO.out X2 E2).mono ?_;rintro e w4 ⟨U,uc,rfl,hUo,hUl,hb4⟩;refine Hid.out ?_)
 refine Lib.hid ?_
 have K0:=block_below hb4 J0
 have K1:=block_below hb4 J1
 have s2:=cell_block (i:=2) K0 rfl
 have f2:=frozen_block (i:=2) K0
 obtain⟨X3,hX3⟩:∃X,w4.setCell ⟨W.heap.size,2,none⟩ (.slice (some ⟨U,0,none⟩) no uc)=X:=⟨_,rfl⟩
 have E3:Below W.heap.size W X3:=by rw[<- hX3];exact(ext_trans E2 hb4).setCell (p:=⟨W.heap.size,2,none⟩) (Nat.le_refl _) _
 have L0:X3.heap[W.heap.size]?=some (.cells #[(.slice (some ⟨F,0,none⟩) nf fc),(.slice (some ⟨T,0,none⟩) nt tc),(.slice (some ⟨U,0,none⟩) no uc),.int .i64 s.st,.int .i64 s.en,.int .i64 s.er,.int .i64 s.la.k,.int .i64 s.la.n,.string s.la.s] 38):=by rw[<- hX3];exact set_block _ K0
 have L1:X3.heap[W.heap.size+1]?=some zst:=by rw[<- hX3];exact(set1_other _ _ (by omega)).trans K1
 have B3:Beh (W.heap.size+1) w4 X3:=by rw[<- hX3];exact(Beh.refl _ _).set (by omega) _ _
 have c6:=cell_block (i:=6) L0 rfl
 have c7:=cell_block (i:=7) L0 rfl
 have c8:=cell_block (i:=8) L0 rfl
 go_wp2_with (go_at_call 25;(try rw[hX3]);refine(hL.out X3).mono ?_;rintro e w5 ⟨rfl,hb5⟩;refine Hid.out ?_)
 refine Lib.hid ?_
 have M0:=block_below hb5 L0
 have M1:=block_below hb5 L1
 have s6:=cell_block (i:=6) M0 rfl
 have s7:=cell_block (i:=7) M0 rfl
 have s8:=cell_block (i:=8) M0 rfl
 have f6:=frozen_block (i:=6) M0
 have f7:=frozen_block (i:=7) M0
 have f8:=frozen_block (i:=8) M0
 obtain⟨X4,hX4⟩:∃X,(((w5.setCell ⟨W.heap.size,6,none⟩ (.int .i64 s.la.k)).setCell ⟨W.heap.size,7,none⟩ (.int .i64 s.la.n)).setCell ⟨W.heap.size,8,none⟩ (.string s.la.s))=X:=⟨_,rfl⟩
 have E4:Below W.heap.size W X4:=by rw[<- hX4];exact(((ext_trans E3 hb5).setCell (p:=⟨W.heap.size,6,none⟩) (Nat.le_refl _) _).setCell (p:=⟨W.heap.size,7,none⟩) (Nat.le_refl _) _).setCell (p:=⟨W.heap.size,8,none⟩) (Nat.le_refl _) _
 have N0:X4.heap[W.heap.size]?=some (stb (.slice (some ⟨F,0,none⟩) nf fc) (.slice (some ⟨T,0,none⟩) nt tc) (.slice (some ⟨U,0,none⟩) no uc) s):=by rw[<- hX4];exact(set_block _ (set_block _ (set_block _ M0)))
 have N1:X4.heap[W.heap.size+1]?=some zst:=by rw[<- hX4];exact((set1_other _ _ (by omega)).trans ((set1_other _ _ (by omega)).trans ((set1_other _ _ (by omega)).trans M1)))
 have B4:Beh (W.heap.size+1) w5 X4:=by rw[<- hX4];exact(((Beh.refl _ _).set (by omega) _ _).set (by omega) _ _).set (by omega) _ _
 have d0:=cell_block (i:=0) N0 rfl
 have d1:=cell_block (i:=1) N0 rfl
 have d2:=cell_block (i:=2) N0 rfl
 have d3:=cell_block (i:=3) N0 rfl
 have d4:=cell_block (i:=4) N0 rfl
 have d5:=cell_block (i:=5) N0 rfl
 have d6:=cell_block (i:=6) N0 rfl
 have d7:=cell_block (i:=7) N0 rfl
 have d8:=cell_block (i:=8) N0 rfl
 have m0:=cell_block (i:=0) N1 rfl
 have z00:=frozen_block (i:=0) N1
 have m1:=cell_block (i:=1) N1 rfl
 have z1:=frozen_block (i:=1) N1
 have m2:=cell_block (i:=2) N1 rfl
 have z2:=frozen_block (i:=2) N1
 have m3:=cell_block (i:=3) N1 rfl
 have z3:=frozen_block (i:=3) N1
 have m4:=cell_block (i:=4) N1 rfl
 have z4:=frozen_block (i:=4) N1
 have m5:=cell_block (i:=5) N1 rfl
 have z5:=frozen_block (i:=5) N1
 have m6:=cell_block (i:=6) N1 rfl
 have z6:=frozen_block (i:=6) N1
 have m7:=cell_block (i:=7) N1 rfl
 have z7:=frozen_block (i:=7) N1
 have m8:=cell_block (i:=8) N1 rfl
 have z8:=frozen_block (i:=8) N1
 obtain⟨Y,hY⟩:∃X,(((((((((X4.setCell ⟨W.heap.size+1,0,none⟩ (.slice (some ⟨F,0,none⟩) nf fc)).setCell ⟨W.heap.size+1,1,none⟩ (.slice (some ⟨T,0,none⟩) nt tc)).setCell ⟨W.heap.size+1,2,none⟩ (.slice (some ⟨U,0,none⟩) no uc)).setCell ⟨W.heap.size+1,3,none⟩ (.int .i64 s.st)).setCell ⟨W.heap.size+1,4,none⟩ (.int .i64 s.en)).setCell ⟨W.heap.size+1,5,none⟩ (.int .i64 s.er)).setCell ⟨W.heap.size+1,6,none⟩ (.int .i64 s.la.k)).setCell ⟨W.heap.size+1,7,none⟩ (.int .i64 s.la.n)).setCell ⟨W.heap.size+1,8,none⟩ (.string s.la.s))=X:=⟨_,rfl⟩
 have E5:Below W.heap.size W Y:=by
  rw[<- hY]
  exact(((((((((E4.setCell (p:=⟨W.heap.size+1,0,none⟩) (Nat.le_succ _) _).setCell (p:=⟨W.heap.size+1,1,none⟩) (Nat.le_succ _) _).setCell (p:=⟨W.heap.size+1,2,none⟩) (Nat.le_succ _) _).setCell (p:=⟨W.heap.size+1,3,none⟩) (Nat.le_succ _) _).setCell (p:=⟨W.heap.size+1,4,none⟩) (Nat.le_succ _) _).setCell (p:=⟨W.heap.size+1,5,none⟩) (Nat.le_succ _) _).setCell (p:=⟨W.heap.size+1,6,none⟩) (Nat.le_succ _) _).setCell (p:=⟨W.heap.size+1,7,none⟩) (Nat.le_succ _) _).setCell (p:=⟨W.heap.size+1,8,none⟩) (Nat.le_succ _) _)
 have P1:Y.heap[W.heap.size+1]?=some (stb (.slice (some ⟨F,0,none⟩) nf fc) (.slice (some ⟨T,0,none⟩) nt tc) (.slice (some ⟨U,0,none⟩) no uc) s):=by rw[<- hY];exact(set_block _ (set_block _ (set_block _ (set_block _ (set_block _ (set_block _ (set_block _ (set_block _ (set_block _ N1)))))))))
 have B5:Beh (W.heap.size+1) X4 Y:=by rw[<- hY];exact((((((((((Beh.refl _ _).set (Nat.le_refl _) _ _).set (Nat.le_refl _) _ _).set (Nat.le_refl _) _ _).set (Nat.le_refl _) _ _).set (Nat.le_refl _) _ _).set (Nat.le_refl _) _ _).set (Nat.le_refl _) _ _).set (Nat.le_refl _) _ _).set (Nat.le_refl _) _ _)
 go_wp2
 refine bodyPost_ret (res50 (B:=W.heap.size+1) rfl P1) rfl ⟨F,fc,T,tc,U,uc,fw,tw,rfl,?_,E5⟩
 have C5:=(Beh.below (b:=W.heap.size+1) hb5).trans (B4.trans B5)
 have C4:=B3.trans C5
 have C3:=B2.trans ((Beh.below (b:=W.heap.size+1) hb4).trans C4)
 have C2:=B1.trans ((Beh.below (b:=W.heap.size+1) hb3).trans C3)
 have q1:w1.heap.size<=F:=hFl
 have q2:X1.heap.size<=T:=hTl
 have q3:X2.heap.size<=U:=hUl
 have q4:=hFo.lt
 have q5:=hTo.lt
 have q6:=B1.s
 have q7:=B2.s
 have q8:=hb3.size
 have hgs:∀k∈fw.map Fw.g,w1.heap.size<=k/\k≠F/\k<w2.heap.size:=fun k hk=>by
  obtain⟨q,hq,rfl⟩:=List.mem_map.1 hk
  exact⟨(hFI.lo q hq).1,(hFI.lo q hq).2,(hFI.rg q hq).lt⟩
 have q9:=E1.size
 have hnn:∀A:List Nat,(∀k∈A,k<W.heap.size)->∀k,X1.heap.size<=k->k≠T->k<w3.heap.size->k∉(F::T::U::fw.map Fw.g)++A:=fun A hA k h1 h2 h3 h4=>by
  rcases List.mem_append.1 h4 with h4|h4
  rotate_left
  ·have:=hA k h4
   omega
  rcases List.mem_cons.1 h4 with rfl|h4
  ·omega
  rcases List.mem_cons.1 h4 with rfl|h4
  ·omega
  rcases List.mem_cons.1 h4 with rfl|h4
  ·omega
  have:=(hgs k h4).2.2
  omega
 refine⟨by rw[hnf];exact C2.own hFo (by omega),by rw[hnt];exact C3.own hTo (by omega),by rw[hno];exact C4.own hUo (by omega),hfx,htx,fun q hq=>C2.own (hFI.rg q hq) (by have:=(hFI.lo q hq).1;omega),?_,?_,fun A hA q hq=>⟨C3.rw (hTI q hq).1 (by omega) (hnn A hA),C3.rw (hTI q hq).2 (by omega) (hnn A hA)⟩⟩
 ·refine List.nodup_cons.2 ⟨fun h=>?_,List.nodup_cons.2 ⟨fun h=>?_,List.nodup_cons.2 ⟨fun h=>?_,hFI.nd⟩⟩⟩
  ·rcases List.mem_cons.1 h with rfl|h
   ·omega
   rcases List.mem_cons.1 h with rfl|h
   ·omega
   exact(hgs _ h).2.1 rfl
  ·rcases List.mem_cons.1 h with rfl|h
   ·omega
   have:=(hgs _ h).2.2
   omega
  ·have:=(hgs _ h).2.2
   omega
 ·have h0:=E0.size
  intro k hk
  rcases List.mem_cons.1 hk with rfl|hk
  ·omega
  rcases List.mem_cons.1 hk with rfl|hk
  ·omega
  rcases List.mem_cons.1 hk with rfl|hk
  ·omega
  have:=(hgs k hk).1
  omega
end
end Go.Proofs.YthljpnmhddfblaaGreatDoor
